/- BetweenCells, for every field and every two singles: what Bilinear answers is what the reference answers, bit by bit; at the first cell it is the cell's value. No condition. -/
import Derived.Test.YtihjemookgnafaaBtwJC
import Derived.ProofKit
import Derived.OpenShut
import Derived.Lib.SmallJoins
import Derived.Laws.Cover2
import Derived.Deep.Slices

/- What the two sides answer, told alike: so the law's walk has one way. -/
namespace Go.Proofs.Ytihjemookgnafaa
open Go.RowKit Fl
set_option linter.unusedVariables false

/-- A result (the field x y u h s, the error k) of a function that makes f over a region, behind the error er. -/
def Res (lo : Nat) (w : World) (X Y W H : Int) (n : Nat) (f : Nat → Nat) (er : Int) (x y u h : Int) (s : Value) (k : Int) : Prop :=
  (er ≠ 0 ∧ x = 0 ∧ y = 0 ∧ u = 0 ∧ h = 0 ∧ s = .slice none 0 0 ∧ k = er) ∨
  (er = 0 ∧ allB n (fun i => hgtB (f i)) = true ∧ x = X ∧ y = Y ∧ u = W ∧ h = H ∧ (∃ b cap, s = .slice (some ⟨b, 0, none⟩) n cap ∧ lo ≤ b ∧ b < w.heap.size ∧ FlAt w b 0 n f) ∧ k = 0) ∨
  (er = 0 ∧ allB n (fun i => hgtB (f i)) = false ∧ x = 0 ∧ y = 0 ∧ u = 0 ∧ h = 0 ∧ s = .slice none 0 0 ∧ k = 3)
theorem Res.stay {lo : Nat} {w w' : World} {X Y W H : Int} {n : Nat} {f : Nat → Nat} {er x y u h : Int} {s : Value} {k : Int} (r : Res lo w X Y W H n f er x y u h s k) (hb : Below w.heap.size w w') : Res lo w' X Y W H n f er x y u h s k := by
  rcases r with r | ⟨r1, r2, r3, r4, r5, r6, ⟨b, cap, r7, r0, r8, r9⟩, r10⟩ | r
  · exact .inl r
  · exact .inr (.inl ⟨r1, r2, r3, r4, r5, r6, ⟨b, cap, r7, r0, Nat.lt_of_lt_of_le r8 hb.size, flAt_congr r9 (hb.block _ r8)⟩, r10⟩)
  · exact .inr (.inr r)
theorem Res.heap {lo : Nat} {w w' : World} {X Y W H : Int} {n : Nat} {f : Nat → Nat} {er x y u h : Int} {s : Value} {k : Int} (r : Res lo w X Y W H n f er x y u h s k) {p : Nat} (hz : w.heap.size ≤ w'.heap.size) (hne : p < lo) (hb : ∀ b, b ≠ p → b < w.heap.size → w'.heap[b]? = w.heap[b]?) : Res lo w' X Y W H n f er x y u h s k := by
  rcases r with r | ⟨r1, r2, r3, r4, r5, r6, ⟨b, cap, r7, r0, r8, r9⟩, r10⟩ | r
  · exact .inl r
  · exact .inr (.inl ⟨r1, r2, r3, r4, r5, r6, ⟨b, cap, r7, r0, Nat.lt_of_lt_of_le r8 hz, flAt_congr r9 (hb _ (by omega) r8)⟩, r10⟩)
  · exact .inr (.inr r)

theorem made_res {w w' : World} {X Y W H : Int} {n : Nat} {f : Nat → Nat} {er : Int} {e : Ending} (h : ScPost w X Y W H n f er e w') :
    ∃ x y u hh : Int, ∃ a : Option Addr, ∃ l cp : Nat, ∃ k : Int, e = .returned (.tuple #[fldV x y u hh (.slice a l cp), .int .i64 k]) ∧ Res w.heap.size w' X Y W H n f er x y u hh (.slice a l cp) k ∧ Below w.heap.size w w' := by
  rcases h with ⟨h1, h2, h3⟩ | ⟨h1, ⟨h2, b, cap, h3, h4, h5, h6, h7⟩ | ⟨h2, h3, h4⟩⟩
  · exact ⟨_, _, _, _, _, _, _, _, h2, .inl ⟨h1, rfl, rfl, rfl, rfl, rfl, rfl⟩, h3⟩
  · exact ⟨_, _, _, _, _, _, _, _, h3, .inr (.inl ⟨h1, h2, rfl, rfl, rfl, rfl, ⟨b, cap, rfl, h4, h5, h6⟩, rfl⟩), h7⟩
  · exact ⟨_, _, _, _, _, _, _, _, h3, .inr (.inr ⟨h1, h2, rfl, rfl, rfl, rfl, rfl, rfl⟩), h4⟩

/-- Two results of one thing are the same to the law. -/
theorem same_res {W0 : World} {X Y W H : Int} {n : Nat} {f : Nat → Nat} {er x y u h x' y' u' h' : Int} {s s' : Value} {k k' : Int} (hn : 1 ≤ n) (hl : n ≤ 9223372036854775807)
    {lo lo' : Nat} (r : Res lo W0 X Y W H n f er x y u h s k) (r' : Res lo' W0 X Y W H n f er x' y' u' h' s' k') :
    Calls Try.prog 38 #[fldV x y u h s, .int .i64 k, fldV x' y' u' h' s', .int .i64 k'] W0 fun e w' => e = .returned (.bool true) ∧ Below W0.heap.size W0 w' := by
  rcases r with ⟨a1, rfl, rfl, rfl, rfl, rfl, rfl⟩ | ⟨a1, a2, rfl, rfl, rfl, rfl, ⟨b, cap, rfl, _, _, c⟩, rfl⟩ | ⟨a1, a2, rfl, rfl, rfl, rfl, rfl, rfl⟩ <;>
  rcases r' with ⟨b1, rfl, rfl, rfl, rfl, rfl, rfl⟩ | ⟨b1, b2, rfl, rfl, rfl, rfl, ⟨b', cap', rfl, _, _, c'⟩, rfl⟩ | ⟨b1, b2, rfl, rfl, rfl, rfl, rfl, rfl⟩
  · exact law_same_err _ a1 W0
  · exact absurd b1 a1
  · exact absurd b1 a1
  · exact absurd a1 b1
  · exact law_same_ok _ _ _ _ b b' cap cap' n f hl hn W0 c c'
  · rw [a2] at b2; cases b2
  · exact absurd a1 b1
  · rw [a2] at b2; cases b2
  · exact law_same_err 3 (by decide) W0

theorem set5_self {wr : World} {b : Nat} {a1 a2 a3 a4 a5 : Value} {t : TypeId} (u1 u2 u3 u4 u5 : Value) (h : wr.heap[b]? = some (.cells #[a1, a2, a3, a4, a5] t (0, 0))) :
    (set5 wr b u1 u2 u3 u4 u5).heap[b]? = some (.cells #[u1, u2, u3, u4, u5] t (0, 0)) := by
  have h1 := heap_setCell_same wr b 0 _ _ u1 h
  have h2 := heap_setCell_same _ b 1 _ _ u2 h1
  have h3 := heap_setCell_same _ b 2 _ _ u3 h2
  have h4 := heap_setCell_same _ b 3 _ _ u4 h3
  have h5 := heap_setCell_same _ b 4 _ _ u5 h4
  exact h5
/-- A field stored into a block of its own: what stands elsewhere stays. -/
theorem box_old (wr : World) (o : Obj) (u1 u2 u3 u4 u5 : Value) {k : Nat} (h : k < wr.heap.size) : (set5 (wr.alloc o) wr.heap.size u1 u2 u3 u4 u5).heap[k]? = wr.heap[k]? := by
  rw [set5_heap _ _ _ _ _ _ _ _ (by omega), heap_alloc_old _ _ h]
theorem box_below (wr : World) (o : Obj) (u1 u2 u3 u4 u5 : Value) : Below wr.heap.size wr (set5 (wr.alloc o) wr.heap.size u1 u2 u3 u4 u5) :=
  set5_below ((Below.refl _ _).alloc (Nat.le_refl _) o) _ _ _ _ _ _ (Nat.le_refl _)

/-- What a fit field is, its singles by a function. -/
theorem fit_fn {w : World} {b n : Nat} (h : FitRow w b n n) : ∃ v : Nat → Nat, FlAt w b 0 n v ∧ wf32 n v ∧ allB n (fun i => hgtB (v i)) = true ∧ b < w.heap.size := by
  obtain ⟨cs, h1, h2, h3⟩ := h
  refine ⟨fun j => if hj : j < n then (h3 j hj).choose else 0, fun i hi => ?_, fun i hi => ?_, allB_iff.2 fun i hi => ?_, (blkC h1).2.2⟩
  · rw [Nat.zero_add, (blkC h1).1 i]; simp only [dif_pos hi]; exact (h3 i hi).choose_spec.1
  · simp only [dif_pos hi]; exact (h3 i hi).choose_spec.2.1
  · simp only [dif_pos hi]; exact (h3 i hi).choose_spec.2.2 hi
theorem fit_check {X Y : Int} {W H n : Nat} (x1 : -5000 ≤ X) (x2 : X ≤ 5000) (y1 : -5000 ≤ Y) (y2 : Y ≤ 5000) (w1 : (1 : Int) ≤ W) (w2 : (W : Int) ≤ 16) (h1 : (1 : Int) ≤ H) (h2 : (H : Int) ≤ 16) (hn : (n : Int) = W * H) (hn2 : n ≤ 256) : checkR X Y W H = 0 := by
  unfold checkR
  rw [if_neg (by omega), if_neg (by rw [← hn]; omega), if_neg (by omega)]

end Go.Proofs.Ytihjemookgnafaa

/- BetweenCells: Bilinear answers as the reference does, and at a cell the cell's value. -/
namespace Go.Proofs.Ytihjemookgnafaa
open Go.RowKit Fl
set_option linter.unusedVariables false

theorem there_far {X Y : Int} {W H : Nat} {x y : Nat} {a c : Int} {cs ct : Bool} (h0 : checkR X Y W H = 0) (ha : vS x = some a) (hc : vS y = some c) (hf : nearB x = false ∨ nearB y = false) : thereB X Y W H (a / (one : Int)) (c / (one : Int)) cs ct = false := by
  obtain ⟨b1, b2, b3, b4, b5, b6, b7, b8, b9⟩ := checkR_zero h0
  rw [near_val ha, near_val hc] at hf
  have hp : (0 : Int) < (one : Int) := Int.natCast_pos.2 one_pos
  have key : ∀ {a : Int}, ¬ (-(4194304 * (one : Int)) ≤ a ∧ a ≤ 4194304 * (one : Int)) → a / (one : Int) < -4194304 ∨ 4194304 ≤ a / (one : Int) := by
    intro a h
    rcases Int.lt_or_le a (-(4194304 * (one : Int))) with q | q
    · left
      rw [Int.ediv_lt_iff_lt_mul hp]; generalize one = O at *; omega
    · right
      rw [Int.le_ediv_iff_mul_le hp]; generalize one = O at *; omega
  rw [← Bool.not_eq_true]
  intro hth
  obtain ⟨t1, t2, t3, t4⟩ := insideB_iff.1 hth
  have t5 : a / (one : Int) + 1 ≤ X + W := by cases cs <;> simp at t3 <;> omega
  have t6 : c / (one : Int) + 1 ≤ Y + H := by cases ct <;> simp at t4 <;> omega
  rcases hf with hf | hf
  · have := key (by simpa using hf); generalize a / (one : Int) = A at *; omega
  · have := key (by simpa using hf); generalize c / (one : Int) = C at *; omega

theorem near_whole {x : Nat} {g : Int} (h : vS x = some (g * (one : Int))) (g1 : -8388608 ≤ g) (g2 : g ≤ 8388608) : ∃ s, NearAt x g s true := by
  have hp : (0 : Int) < (one : Int) := Int.natCast_pos.2 one_pos
  have hd : g * (one : Int) / (one : Int) = g := Int.mul_ediv_cancel _ (Int.ne_of_gt hp)
  obtain ⟨s, cs, A⟩ := near_parts h (by
    rw [Int.natAbs_mul, Int.natAbs_natCast]; exact Nat.mul_le_mul_right _ (by omega))
  rw [hd] at A
  have hv : vS (flW x) = some (g * (one : Int)) := by
    obtain ⟨J, hJ⟩ : ∃ J : Nat, J = 1074 := ⟨_, rfl⟩
    have e23 : 2 ^ (23 + J) = 8388608 * one := by rw [one_pow hJ, Nat.pow_add]
    have bx : Bd 23 x := bd_val' (j := 23 + J) h (by omega) (by rw [e23, Int.natAbs_mul, Int.natAbs_natCast]; exact Nat.mul_le_mul_right _ (by omega))
    obtain ⟨_, _, _, _, _, _, _, _, _, hv⟩ := floor_parts h bx (by omega)
    rw [hv]; unfold flV; rw [hd]
  have z : vS s = some (rdS (g * (one : Int) - g * (one : Int))) := by
    obtain ⟨B, hB⟩ : ∃ B : Nat, B = 1100 := ⟨_, rfl⟩
    exact vS_sub (B := B) A.sub h hv (by rw [Int.sub_self]; exact Nat.two_pow_pos _) (by omega)
  rw [Int.sub_self, rdS_zero] at z
  have c1 := A.cs1
  rw [f32f, eql_val z vS_zero] at c1
  have : cs = true := by rw [← c1]; rfl
  subst this
  exact ⟨s, A⟩

/-- Both sides, of one field and one place. -/
theorem both_bil (X Y : Int) (W H n b cap : Nat) (v : Nat → Nat) (x y : Nat) (lx : x < 4294967296) (ly : y < 4294967296) (h0 : checkR X Y W H = 0) (hn : n = W * H) (hcap : n ≤ cap) (hh : allB n (fun i => hgtB (v i)) = true) (hvw : wf32 n v) :
    ∃ (V : Nat) (E : Int), (E = 0 ∨ (V = 0 ∧ (E = 2 ∨ E = 3 ∨ E = 4 ∨ E = 5))) ∧
      (∀ w, FlAt w b 0 n v → Calls Try.prog 44 #[fldV X Y W H (.slice (some ⟨b, 0, none⟩) n cap), .float .f32 x, .float .f32 y] w fun e w' => e = .returned (.tuple #[.float .f32 V, .int .i64 E]) ∧ Below w.heap.size w w') ∧
      (∀ w, FlAt w b 0 n v → Calls Try.prog 45 #[fldV X Y W H (.slice (some ⟨b, 0, none⟩) n cap), .float .f32 x, .float .f32 y] w fun e w' => e = .returned (.tuple #[.float .f32 V, .int .i64 E]) ∧ Below w.heap.size w w') := by
  by_cases hf : finB x = false ∨ finB y = false
  · exact ⟨0, 2, .inr ⟨rfl, .inl rfl⟩, fun w hc => bil_form X Y W H n b cap v x y w h0 hn hc hh hf, fun w hc => rbil_form X Y W H n b cap x y w lx ly hf⟩
  · have fx : finB x = true := by cases h : finB x; exact absurd (.inl h) hf; rfl
    have fy : finB y = true := by cases h : finB y; exact absurd (.inr h) hf; rfl
    clear hf
    obtain ⟨a, ha⟩ := Option.isSome_iff_exists.1 (show (vS x).isSome = true from fx)
    obtain ⟨c, hc'⟩ := Option.isSome_iff_exists.1 (show (vS y).isSome = true from fy)
    have gx := abs_gt ha
    have gy := abs_gt hc'
    by_cases hnr : nearB x = false ∨ nearB y = false
    · have P := fun w (hc : FlAt w b 0 n v) => bil_far X Y W H n b cap v x y w h0 hn hc hh fx fy hnr
      cases c1 : (FloatKind.f32.format.order (x % 2147483648) 1258291200 == some .gt) with
      | true => exact ⟨0, 5, .inr ⟨rfl, .inr (.inr (.inr rfl))⟩, P, fun w hc => rbil_far X Y W H n b cap x y w lx ly fx fy (.inl c1)⟩
      | false =>
        cases c2 : (FloatKind.f32.format.order (y % 2147483648) 1258291200 == some .gt) with
        | true => exact ⟨0, 5, .inr ⟨rfl, .inr (.inr (.inr rfl))⟩, P, fun w hc => rbil_far X Y W H n b cap x y w lx ly fx fy (.inr ⟨c1, c2⟩)⟩
        | false =>
          rw [c1] at gx
          rw [c2] at gy
          obtain ⟨s, cs, A⟩ := near_parts ha (by have := gx.symm; simp at this; generalize one = O at *; omega)
          obtain ⟨t, ct, B⟩ := near_parts hc' (by have := gy.symm; simp at this; generalize one = O at *; omega)
          have hth := there_far (cs := cs) (ct := ct) h0 ha hc' hnr
          refine ⟨0, 5, .inr ⟨rfl, .inr (.inr (.inr rfl))⟩, P, fun w hc => ?_⟩
          have R := rbil_near X Y W H n b cap v x y w lx ly h0 hn hc hh hvw A B c1 c2
          unfold bilV bilE at R
          rw [hth] at R
          exact R
    · have nx : nearB x = true := by cases h : nearB x; exact absurd (.inl h) hnr; rfl
      have ny : nearB y = true := by cases h : nearB y; exact absurd (.inr h) hnr; rfl
      have ex := near_val ha
      have ey := near_val hc'
      rw [nx] at ex
      rw [ny] at ey
      have ex' := of_decide_eq_true ex.symm
      have ey' := of_decide_eq_true ey.symm
      have hp := one_pos
      obtain ⟨s, cs, A⟩ := near_parts ha (by generalize one = O at *; omega)
      obtain ⟨t, ct, B⟩ := near_parts hc' (by generalize one = O at *; omega)
      have c1 : (FloatKind.f32.format.order (x % 2147483648) 1258291200 == some .gt) = false := by rw [gx]; simp; generalize one = O at *; omega
      have c2 : (FloatKind.f32.format.order (y % 2147483648) 1258291200 == some .gt) = false := by rw [gy]; simp; generalize one = O at *; omega
      refine ⟨_, _, ?_, fun w hc => bil_near X Y W H n b cap v x y w h0 hn hcap hc hh A B nx ny, fun w hc => rbil_near X Y W H n b cap v x y w lx ly h0 hn hc hh hvw A B c1 c2⟩
      unfold bilV bilE
      cases thereB X Y W H (a / (one : Int)) (c / (one : Int)) cs ct with
      | false => exact .inr ⟨rfl, .inr (.inr (.inr rfl))⟩
      | true =>
        cases hgtB (btwW v W (numC X Y W (a / (one : Int)) (c / (one : Int))) cs ct s t) with
        | false => exact .inr ⟨rfl, .inr (.inl rfl)⟩
        | true => exact .inl rfl

/-- At a cell: its value. -/
theorem at_cell (X Y : Int) (W H n b cap : Nat) (v : Nat → Nat) (h0 : checkR X Y W H = 0) (hn : n = W * H) (hcap : n ≤ cap) (hh : allB n (fun i => hgtB (v i)) = true) (x1 : -5000 ≤ X) (x2 : X ≤ 5000) (y1 : -5000 ≤ Y) (y2 : Y ≤ 5000) :
    ∀ w, FlAt w b 0 n v → Calls Try.prog 44 #[fldV X Y W H (.slice (some ⟨b, 0, none⟩) n cap), .float .f32 (floatOfInt .f32 X), .float .f32 (floatOfInt .f32 Y)] w fun e w' => e = .returned (.tuple #[.float .f32 (v 0), .int .i64 0]) ∧ Below w.heap.size w w' := by
  intro w hc
  obtain ⟨b1, b2, b3, b4, b5, _⟩ := checkR_zero h0
  have n1 : 1 ≤ n := by rw [hn]; exact Nat.mul_pos (by omega) (by omega)
  obtain ⟨vx, _⟩ := int_val (n := X) (by omega)
  obtain ⟨vy, _⟩ := int_val (n := Y) (by omega)
  obtain ⟨s, A⟩ := near_whole vx (by omega) (by omega)
  obtain ⟨t, B⟩ := near_whole vy (by omega) (by omega)
  have hp := one_pos
  have key : ∀ {g : Int}, -5000 ≤ g → g ≤ 5000 → (-(4194304 * (one : Int)) ≤ g * (one : Int) ∧ g * (one : Int) ≤ 4194304 * (one : Int)) := fun {g} u1 u2 => by
    have e1 : (-5000 : Int) * (one : Int) ≤ g * (one : Int) := Int.mul_le_mul_of_nonneg_right u1 (by omega)
    have e2 : g * (one : Int) ≤ 5000 * (one : Int) := Int.mul_le_mul_of_nonneg_right u2 (by omega)
    generalize g * (one : Int) = G at *
    generalize one = O at *
    omega
  have nx : nearB (floatOfInt .f32 X) = true := by rw [near_val vx]; exact decide_eq_true (key x1 x2)
  have ny : nearB (floatOfInt .f32 Y) = true := by rw [near_val vy]; exact decide_eq_true (key y1 y2)
  have hth : thereB X Y W H X Y true true = true := insideB_iff.2 ⟨Int.le_refl _, Int.le_refl _, by simp; omega, by simp; omega⟩
  have R := bil_near X Y W H n b cap v _ _ w h0 hn hcap hc hh A B nx ny
  have hz : numC X Y W X Y = 0 := by unfold numC; simp
  unfold bilV bilE at R
  rw [hth, hz] at R
  have hb : btwW v W 0 true true s t = v 0 := rfl
  rw [hb, allB_iff.1 hh 0 n1] at R
  exact R

set_option maxHeartbeats 4000000 in
theorem betweenCells_any (X0 Y0 W0 H0 : Int) (sl : Value) (x y : Nat) (w : World) (lx : x < 4294967296) (ly : y < 4294967296)
    (hfit : ∀ W', Below w.heap.size w W' → Calls Try.prog 24 #[fldV X0 Y0 W0 H0 sl] W' (FitPost W')) :
    Calls Try.prog 7 #[fldV X0 Y0 W0 H0 sl, .float .f32 x, .float .f32 y] w fun e w' => e = .returned (.bool true) ∧ Below w.heap.size w w' := by
  have HF := Lib.hid hfit
  clear hfit
  go_enter Try.func7, Try.ntmps7
  go_wp2_with (first | (go_at_call 14; refine (landed_any _).mono ?_; rintro e w1 ⟨rfl, hb1⟩; have HA1 := Lib.hid (blkStay (b := w.heap.size) (o := fldO X0 Y0 W0 H0 sl) (heap_alloc_new w _) hb1); have hB1 : Below w.heap.size w w1 := Below.trans (by repeat (first | exact Below.refl _ _ | refine Below.alloc ?_ (by first | omega | (simp; done) | (simp; omega)) _ | refine Below.setCell ?_ (by first | omega | (simp; done) | (simp; omega)) _ | refine Below.drew ?_)) (Below.mono hb1 (by first | omega | (simp; done) | (simp; omega))); obtain ⟨cA, fA, zA⟩ := blkC HA1.out; clear hb1))
  refine (HF.out w1 hB1).mono ?_
  rintro e w2 ⟨X, Y, W', H', b, n, rfl, x1, x2, y1, y2, u1, u2, h1, h2, hn, hn1, hn2, hlo, hrow, hb2⟩
  obtain ⟨W, rfl⟩ : ∃ W : Nat, W' = W := ⟨W'.toNat, by omega⟩
  obtain ⟨H, rfl⟩ : ∃ H : Nat, H' = H := ⟨H'.toNat, by omega⟩
  obtain ⟨v, fv, wv, hv, bv⟩ := fit_fn hrow
  have h0 := fit_check x1 x2 y1 y2 u1 u2 h1 h2 hn hn2
  have hnn : n = W * H := by
    have : (n : Int) = ((W * H : Nat) : Int) := by rw [hn]; simp
    omega
  have HA2 := Lib.hid (blkStay HA1.out hb2)
  have hB2 : Below w.heap.size w w2 := hB1.trans (hb2.mono hB1.size)
  obtain ⟨cA, fA, zA⟩ := blkC HA2.out
  obtain ⟨V, E, hVE, hp, hr⟩ := both_bil X Y W H n b n v x y lx ly h0 hnn (Nat.le_refl _) hv wv
  have S1 := Lib.hid hp
  have S2 := Lib.hid hr
  have S3 := Lib.hid (at_cell X Y W H n b n v h0 hnn (Nat.le_refl _) hv x1 x2 y1 y2)
  have ON := Lib.hid (show ∀ w, Calls Try.prog 46 #[.float .f32 V, .int .i64 E, .float .f32 V, .int .i64 E] w fun e w' => e = .returned (.bool true) ∧ w = w' from fun w => by
    rcases hVE with rfl | ⟨rfl, hE⟩
    · exact one_ok V w
    · exact one_err 0 E (by omega) w)
  clear x1 x2 y1 y2 u1 u2 h1 h2 hn h0 hnn hrow hv wv hp hr hVE lx ly
  have hbp : b ≠ w.heap.size := by have := hB1.size; omega
  have HA3 := Lib.hid (set5_self (.int .i64 X) (.int .i64 Y) (.int .i64 W) (.int .i64 H) (.slice (some ⟨b, 0, none⟩) n n) HA2.out)
  have F3 := Lib.hid (flAt_congr fv (set5_heap w2 w.heap.size b (.int .i64 X) (.int .i64 Y) (.int .i64 W) (.int .i64 H) (.slice (some ⟨b, 0, none⟩) n n) hbp))
  have hB3 := set5_below hB2 w.heap.size (.int .i64 X) (.int .i64 Y) (.int .i64 W) (.int .i64 H) (.slice (some ⟨b, 0, none⟩) n n) (Nat.le_refl _)
  have hx := set5_size w2 w.heap.size (.int .i64 X) (.int .i64 Y) (.int .i64 W) (.int .i64 H) (.slice (some ⟨b, 0, none⟩) n n)
  clear hb2
  go_wp2_with fail
  refine (S1.out _ F3.out).mono ?_
  rintro e w4 ⟨rfl, hb4⟩
  have bv4 : b < w4.heap.size := by have := hb4.size; rw [hx] at this; omega
  have F4 := Lib.hid (flAt_congr F3.out (hb4.block b (by rw [hx]; exact bv)))
  have HA4 := Lib.hid (blkStay HA3.out hb4)
  have HB4 := Lib.hid (hB3.trans (hb4.mono hB3.size))
  clear hb4 HA3 F3 hB3 hx cA fA zA HA2 hB2 hlo fv bv
  obtain ⟨cA, fA, zA⟩ := blkC HA4.out
  go_wp2_with fail
  refine (S2.out _ F4.out).mono ?_
  rintro e w5 ⟨rfl, hb5⟩
  have bv5 : b < w5.heap.size := by have := hb5.size; omega
  have F5 := Lib.hid (flAt_congr F4.out (hb5.block b bv4))
  have HA5 := Lib.hid (blkStay HA4.out hb5)
  have HB5 := Lib.hid (HB4.out.trans (hb5.mono HB4.out.size))
  clear hb5 cA fA HA4 F4
  obtain ⟨cA, fA, zA5⟩ := blkC HA5.out
  go_wp2_with (first | (go_at_call 46; refine (ON.out _).mono ?_; rintro e w' ⟨rfl, rfl⟩))
  refine (S3.out _ F5.out).mono ?_
  rintro e w6 ⟨rfl, hb6⟩
  have bv6 : b < w6.heap.size := by have := hb6.size; omega
  have hcell : w6.cell? ⟨b, 0, none⟩ = some (.float .f32 (v 0)) := (flAt_congr F5.out (hb6.block b bv5)) 0 (by omega)
  have HA6 := Lib.hid (blkStay HA5.out hb6)
  have HB6 := Lib.hid (HB5.out.trans (hb6.mono HB5.out.size))
  clear hb6 cA fA HA5 F5
  obtain ⟨cA, fA, zA6⟩ := blkC HA6.out
  have n0 : (0 : Int) < (n : Int) := by omega
  go_wp2_with (first | (go_at_call 46; refine (one_ok _ _).mono ?_; rintro e w' ⟨rfl, rfl⟩))
  go_ret
  exact ⟨rfl, HB6.out⟩
end Go.Proofs.Ytihjemookgnafaa

/- A field that came in, opened: four integers, and a slice of singles that is empty or known cell by cell. -/
namespace Go.Proofs.Ytihjemookgnafaa
open Go.ChangeShapes Go.WideShapes Go.ChangeAt Go.RowKit Go.Joins Fl

section
variable {H : Type} {enc : TypeId × Value → H} {w : World} {base : Nat} {spare : Nat → Bool} {held : Bool}

theorem trod_f32 {P : Program} {t : TypeId} {fuel : Nat} {v : Value} {y : DataW H × List MemPlace} (ht : P.underlying t = some (.float .f32)) (h : DataW.trod enc P w base spare held fuel t [v] = some y) : ∃ b, v = .float .f32 b ∧ b < 4294967296 := by
  cases fuel with
  | zero => simp [DataW.trod] at h
  | succ n =>
    unfold DataW.trod at h
    rw [ht] at h
    cases v <;> simp at h
    rename_i k b
    obtain ⟨⟨rfl, hw⟩, _⟩ := h
    exact ⟨b, rfl, by simpa [Lit.wf] using hw⟩

theorem array5 {α : Type} {cs : Array α} (h : cs.size = 5) : ∃ c0 c1 c2 c3 c4, cs = #[c0, c1, c2, c3, c4] := by
  obtain ⟨l⟩ := cs
  match l, h with
  | [c0, c1, c2, c3, c4], _ => exact ⟨c0, c1, c2, c3, c4, rfl⟩

theorem flAt_congr' {w w' : World} {b off n : Nat} {f : Nat → Nat} (h : FlAt w b off n f) (e : w'.heap[b]? = w.heap[b]?) : FlAt w' b off n f := fun i hi => by
  rw [← h i hi]; exact World.cell?_of_block (w := w) (a := ⟨b, off + i, none⟩) e

/-- What a slice of singles is: empty, or known cell by cell. -/
def SlF (w : World) (s : Value) : Prop :=
  (∃ a cap, s = .slice a 0 cap) ∨ ∃ b off len cap x, s = .slice (some ⟨b, off, none⟩) len cap ∧ 0 < len ∧ len ≤ 9223372036854775807 ∧ FlAt w b off len x ∧ wf32 len x

theorem open_singles {t e : TypeId} {fuel : Nat} {cs : List Value} {y : DataW H × List MemPlace} (ht : Try.prog.underlying t = some (.slice e)) (he : Try.prog.underlying e = some (.float .f32)) (hc : Try.prog.cellsOf e = 1)
    (h : DataW.trod enc Try.prog w base spare held fuel t cs = some y) : ∃ s, cs = [s] ∧ SlF w s := by
  rcases Go.Deep.open_slice1 ht hc h with ⟨rfl, _⟩ | ⟨a, len, cap, m, n, V, D, Pl, rfl, hb, hl, hm, hmm, _, hx⟩
  · exact ⟨_, rfl, .inl ⟨none, 0, rfl⟩⟩
  · refine ⟨_, rfl, ?_⟩
    rcases Nat.eq_zero_or_pos len with z | z
    · subst z; exact .inl ⟨_, _, rfl⟩
    · have hlm : len ≤ m := by rw [hmm]; split <;> omega
      have h0 := (hx 0 (by omega)).1
      obtain ⟨b, off, spot⟩ := a
      have hspot : spot = none := by simpa [Addr.add] using World.cell?_spot h0
      subst hspot
      have hv : ∀ i, i < len → ∃ x, V i = .float .f32 x ∧ x < 4294967296 := fun i hi => trod_f32 he (hx i (by omega)).2
      refine .inr ⟨b, off, len, cap, fun i => match V i with | .float _ x => x | _ => 0, rfl, z, ?_, fun i hi => ?_, fun i hi => ?_⟩
      · exact Nat.le_trans hl (Nat.le_trans hm (by decide))
      · have h1 := (hx i (by omega)).1
        obtain ⟨x, e1, _⟩ := hv i hi
        rw [← Go.WideShapes.add_plain, h1]
        simp only [e1]
      · obtain ⟨x, e1, e2⟩ := hv i hi
        simp only [e1]; exact e2

theorem cellsF : Try.prog.cellsOf 36 = 5 := by kernel_rfl
theorem cellsR : Try.prog.cellsOf 23 = 4 := by kernel_rfl
theorem cellsS : Try.prog.cellsOf 34 = 1 := by kernel_rfl
theorem cells1 : Try.prog.cellsOf 37 = 1 := by kernel_rfl
theorem cellsI : Try.prog.cellsOf 3 = 1 := by kernel_rfl

set_option maxRecDepth 100000 in
theorem open_field {r : Reach} {b0 : Nat} {v : Value} {d : DataW H} {p : List MemPlace} (hv : Value.okWide Try.prog w r b0 36 v) (h : DataW.Trod enc Try.prog w base spare held 36 v d p) :
    ∃ X Y W' H' : Int, ∃ s, v = fldV X Y W' H' s ∧ SlF w s := by
  obtain ⟨cs, rfl, hsz⟩ := okWide_struct Try.underlying36 hv
  obtain ⟨c0, c1, c2, c3, c4, rfl⟩ := array5 (hsz.trans cellsF)
  obtain ⟨fuel, hf⟩ := h
  obtain ⟨y0, y1, n, _, _, h0, h1⟩ := trod_struct2 Try.underlying36 hf
  rw [cellsR] at h0
  rw [cellsS] at h1
  obtain ⟨s, e4, hs⟩ := open_singles Try.underlying34 Try.underlying37 cells1 h1
  obtain ⟨z0, z1, z2, z3, n2, _, _, g0, g1, g2, g3⟩ := trod_struct4 Try.underlying23 h0
  rw [cellsI] at g0 g1 g2 g3
  obtain ⟨x0, e0, _, _⟩ := DataW.trod_int Try.underlying3 g0
  obtain ⟨x1, e1, _, _⟩ := DataW.trod_int Try.underlying3 g1
  obtain ⟨x2, e2, _, _⟩ := DataW.trod_int Try.underlying3 g2
  obtain ⟨x3, e3, _, _⟩ := DataW.trod_int Try.underlying3 g3
  simp [Value.cells] at e0 e1 e2 e3 e4
  subst e0 e1 e2 e3 e4
  exact ⟨x0, x1, x2, x3, _, rfl, hs⟩
end

theorem SlF.stay {w w' : World} {s : Value} (h : SlF w s) (hb : Below w.heap.size w w') : SlF w' s := by
  rcases h with h | ⟨b, off, len, cap, x, rfl, h1, h2, h3, h4⟩
  · exact .inl h
  · exact .inr ⟨b, off, len, cap, x, rfl, h1, h2, flAt_congr' h3 (hb.block _ (World.block_lt_of_cell? w _ (h3 0 h1))), h4⟩

/-- fit, of whatever slice. -/
theorem fit_any {X Y W H : Int} {s : Value} {w : World} (h : SlF w s) : Calls Try.prog 24 #[fldV X Y W H s] w (FitPost w) := by
  rcases h with ⟨a, cap, rfl⟩ | ⟨b, off, len, cap, x, rfl, h1, h2, h3, h4⟩
  · exact fit_none X Y W H a cap w
  · exact fit_some X Y W H b off len cap x w h1 h2 h3 h4

theorem laidOut : laidOutB Try.prog = true := by kernel_rfl
end Go.Proofs.Ytihjemookgnafaa

/- BetweenCells, for every field and every two singles: what Bilinear answers is what the reference answers, bit by bit; at the first cell it is the cell's value. No condition. -/
namespace Go.Proofs.Ytihjemookgnafaa.betweenCells
open Go.ChangeShapes Go.WideShapes Go.ChangeAt Go.RowKit Go.Joins
set_option linter.unusedVariables false

theorem own : ownKnob Try.prog.godebug = none := by kernel_rfl

set_option maxRecDepth 100000 in
theorem lifted (os : Os) (started : os.Started) (H : Type) (enc : TypeId × Value → H) :
    ReturnsInHanded {} Try.checked os 7 .any (Rows.betweenCellsSpec.pre6 enc Try.prog Try.f7 Rows.betweenCellsRow.domain false) (Rows.betweenCellsSpec.post enc Try.prog Try.f7 false true false false) := by
  refine returnsInHanded_of_change (C := Try.checked) own started (by kernel_rfl) Try.func7
    (ChangeSpec.witness6 (enc := enc) (C := Try.checked) false ⟨#[], #[fldV 0 0 0 0 (.slice none 0 0), .float .f32 0, .float .f32 0], []⟩ 8 (by kernel_rfl) (by kernel_rfl) (by kernel_rfl) (by kernel_rfl)) ?_
  intro W base args ds gs before hval0 hW hcnd _
  have hval : ∀ (j : Nat) t v, Try.f7.params[j]? = some t → args[j]? = some v → Value.okWide Try.prog W .any base t v := hval0
  have hW' := hW
  have hplt : ∀ x ∈ before, x.block < W.heap.size := fun x hx => by simpa using hW'.lt x hx
  obtain ⟨p, q, hA0, hV, rfl, hfz, hnd⟩ := hW
  have hA : DataW.TrodAll enc Try.prog W 0 (fun _ => true) true Try.f7.params.toList args.toList ds p := hA0
  rw [Try.params7] at hA hval
  obtain ⟨v0, vs0, d0, ds0, p0, q0, hargs, rfl, rfl, h0, r0⟩ := trodAll_cons hA
  obtain ⟨v1, vs1, d1, ds1, p1, q1, rfl, rfl, rfl, h1, r1⟩ := trodAll_cons r0
  obtain ⟨v2, vs2, d2, ds2, p2, q2, rfl, rfl, rfl, h2, r2⟩ := trodAll_cons r1
  obtain ⟨rfl, rfl, rfl⟩ := trodAll_nil r2
  obtain rfl : args = #[v0, v1, v2] := by cases args; simp_all
  obtain ⟨rfl, rfl⟩ := trodVars_none hV
  obtain ⟨X, Y, W0, H0, s, rfl, hs⟩ := open_field (hval 0 36 v0 rfl rfl) h0
  obtain ⟨m, rfl, rfl, rfl, wm⟩ := open_float Try.underlying37 (hval 1 37 v1 rfl rfl) h1
  obtain ⟨c, rfl, rfl, rfl, wc⟩ := open_float Try.underlying37 (hval 2 37 v2 rfl rfl) h2
  have lm : m < 4294967296 := by simpa [Lit.wf] using wm
  have lc : c < 4294967296 := by simpa [Lit.wf] using wc
  have hlt : ∀ x ∈ p0, x.block < W.heap.size := fun x hx => hplt x (by simp [hx])
  clear hA0 hval0 hplt
  simp only [List.append_nil] at hW'
  refine (betweenCells_any X Y W0 H0 s m c W lm lc (fun W' hb => fit_any (hs.stay hb))).mono fun e W' ⟨he, hb⟩ => ?_
  subst he
  exact ⟨_, rfl, _, _, _, [], _, [], hW', trodAll_cons_mk (shut_bool Try.underlying4 _) trodAll_mk0, trodAll_cons_mk (Below.trod laidOut (by kernel_rfl) (of_decide_eq_true (by kernel_rfl)) h0 hb hlt) (trodAll_cons_mk (shut_float Try.underlying37 wm) (trodAll_cons_mk (shut_float Try.underlying37 wc) trodAll_mk0)), rfl, hb.frame _, fun h => by cases h⟩

theorem over : Rows.betweenCellsRow.holds Try.pinned (OpenSpec.ofChange Rows.betweenCellsSpec) :=
  OpenClaim.holds_of_wide 7 Try.f7 rfl rfl rfl rfl rfl rfl rfl ⟨rfl, rfl, rfl, rfl, rfl⟩ rfl rfl rfl rfl rfl (by kernel_rfl) Try.func7 (by kernel_rfl)
    (of_decide_eq_true (by kernel_rfl)) (by unfold Func.isWrapper; rw [if_neg (of_decide_eq_false (by kernel_rfl))]; exact ⟨rfl, rfl⟩)
    (fun os started H enc _ => lifted os started H enc)

theorem proved : Rows.BetweenCellsSaid :=
  over
#print axioms proved
end Go.Proofs.Ytihjemookgnafaa.betweenCells
