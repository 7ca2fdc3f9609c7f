/- BetweenCells: Bilinear answers as the reference does, and at a cell the cell's value. -/
import Derived.Test.YtaieokamfhpfbaaBtw5
import Derived.Test.YtaieokamfhpfbaaRes
import Derived.Test.YtaieokamfhpfbaaEasLaw
namespace Go.Proofs.Ytaieokamfhpfbaa
open Go.RowKit Fl
set_option linter.unusedVariables false

theorem there_far {X Y : Int} {W H : Nat} {x y : Nat} {a c : Int} {cs ct : Bool} (h0 : checkR X Y W H = 0) (ha : vS x = some a) (hc : vS y = some c) (hf : nearB x = false ∨ nearB y = false) : thereB X Y W H (a / (one : Int)) (c / (one : Int)) cs ct = false := by
  obtain ⟨b1, b2, b3, b4, b5, b6, b7, b8, b9⟩ := checkR_zero h0
  rw [near_val ha, near_val hc] at hf
  have hp : (0 : Int) < (one : Int) := Int.natCast_pos.2 one_pos
  have key : ∀ {a : Int}, ¬ (-(4194304 * (one : Int)) ≤ a ∧ a ≤ 4194304 * (one : Int)) → a / (one : Int) < -4194304 ∨ 4194304 ≤ a / (one : Int) := by
    intro a h
    rcases Int.lt_or_le a (-(4194304 * (one : Int))) with q | q
    · left
      rw [Int.ediv_lt_iff_lt_mul hp]; generalize one = O at *; omega
    · right
      rw [Int.le_ediv_iff_mul_le hp]; generalize one = O at *; omega
  rw [← Bool.not_eq_true]
  intro hth
  obtain ⟨t1, t2, t3, t4⟩ := insideB_iff.1 hth
  have t5 : a / (one : Int) + 1 ≤ X + W := by cases cs <;> simp at t3 <;> omega
  have t6 : c / (one : Int) + 1 ≤ Y + H := by cases ct <;> simp at t4 <;> omega
  rcases hf with hf | hf
  · have := key (by simpa using hf); generalize a / (one : Int) = A at *; omega
  · have := key (by simpa using hf); generalize c / (one : Int) = C at *; omega

theorem near_whole {x : Nat} {g : Int} (h : vS x = some (g * (one : Int))) (g1 : -8388608 ≤ g) (g2 : g ≤ 8388608) : ∃ s, NearAt x g s true := by
  have hp : (0 : Int) < (one : Int) := Int.natCast_pos.2 one_pos
  have hd : g * (one : Int) / (one : Int) = g := Int.mul_ediv_cancel _ (Int.ne_of_gt hp)
  obtain ⟨s, cs, A⟩ := near_parts h (by
    rw [Int.natAbs_mul, Int.natAbs_natCast]; exact Nat.mul_le_mul_right _ (by omega))
  rw [hd] at A
  have hv : vS (flW x) = some (g * (one : Int)) := by
    obtain ⟨J, hJ⟩ : ∃ J : Nat, J = 1074 := ⟨_, rfl⟩
    have e23 : 2 ^ (23 + J) = 8388608 * one := by rw [one_pow hJ, Nat.pow_add]
    have bx : Bd 23 x := bd_val' (j := 23 + J) h (by omega) (by rw [e23, Int.natAbs_mul, Int.natAbs_natCast]; exact Nat.mul_le_mul_right _ (by omega))
    obtain ⟨_, _, _, _, _, _, _, _, _, hv⟩ := floor_parts h bx (by omega)
    rw [hv]; unfold flV; rw [hd]
  have z : vS s = some (rdS (g * (one : Int) - g * (one : Int))) := by
    obtain ⟨B, hB⟩ : ∃ B : Nat, B = 1100 := ⟨_, rfl⟩
    exact vS_sub (B := B) A.sub h hv (by rw [Int.sub_self]; exact Nat.two_pow_pos _) (by omega)
  rw [Int.sub_self, rdS_zero] at z
  have c1 := A.cs1
  rw [f32f, eql_val z vS_zero] at c1
  have : cs = true := by rw [← c1]; rfl
  subst this
  exact ⟨s, A⟩

/-- Both sides, of one field and one place. -/
theorem both_bil (X Y : Int) (W H n b cap : Nat) (v : Nat → Nat) (x y : Nat) (lx : x < 4294967296) (ly : y < 4294967296) (h0 : checkR X Y W H = 0) (hn : n = W * H) (hcap : n ≤ cap) (hh : allB n (fun i => hgtB (v i)) = true) (hvw : wf32 n v) :
    ∃ (V : Nat) (E : Int), (E = 0 ∨ (V = 0 ∧ (E = 2 ∨ E = 3 ∨ E = 4 ∨ E = 5))) ∧
      (∀ w, FlAt w b 0 n v → Calls Try.prog 52 #[fldV X Y W H (.slice (some ⟨b, 0, none⟩) n cap), .float .f32 x, .float .f32 y] w fun e w' => e = .returned (.tuple #[.float .f32 V, .int .i64 E]) ∧ Below w.heap.size w w') ∧
      (∀ w, FlAt w b 0 n v → Calls Try.prog 53 #[fldV X Y W H (.slice (some ⟨b, 0, none⟩) n cap), .float .f32 x, .float .f32 y] w fun e w' => e = .returned (.tuple #[.float .f32 V, .int .i64 E]) ∧ Below w.heap.size w w') := by
  by_cases hf : finB x = false ∨ finB y = false
  · exact ⟨0, 2, .inr ⟨rfl, .inl rfl⟩, fun w hc => bil_form X Y W H n b cap v x y w h0 hn hc hh hf, fun w hc => rbil_form X Y W H n b cap x y w lx ly hf⟩
  · have fx : finB x = true := by cases h : finB x; exact absurd (.inl h) hf; rfl
    have fy : finB y = true := by cases h : finB y; exact absurd (.inr h) hf; rfl
    clear hf
    obtain ⟨a, ha⟩ := Option.isSome_iff_exists.1 (show (vS x).isSome = true from fx)
    obtain ⟨c, hc'⟩ := Option.isSome_iff_exists.1 (show (vS y).isSome = true from fy)
    have gx := abs_gt ha
    have gy := abs_gt hc'
    by_cases hnr : nearB x = false ∨ nearB y = false
    · have P := fun w (hc : FlAt w b 0 n v) => bil_far X Y W H n b cap v x y w h0 hn hc hh fx fy hnr
      cases c1 : (FloatKind.f32.format.order (x % 2147483648) 1258291200 == some .gt) with
      | true => exact ⟨0, 5, .inr ⟨rfl, .inr (.inr (.inr rfl))⟩, P, fun w hc => rbil_far X Y W H n b cap x y w lx ly fx fy (.inl c1)⟩
      | false =>
        cases c2 : (FloatKind.f32.format.order (y % 2147483648) 1258291200 == some .gt) with
        | true => exact ⟨0, 5, .inr ⟨rfl, .inr (.inr (.inr rfl))⟩, P, fun w hc => rbil_far X Y W H n b cap x y w lx ly fx fy (.inr ⟨c1, c2⟩)⟩
        | false =>
          rw [c1] at gx
          rw [c2] at gy
          obtain ⟨s, cs, A⟩ := near_parts ha (by have := gx.symm; simp at this; generalize one = O at *; omega)
          obtain ⟨t, ct, B⟩ := near_parts hc' (by have := gy.symm; simp at this; generalize one = O at *; omega)
          have hth := there_far (cs := cs) (ct := ct) h0 ha hc' hnr
          refine ⟨0, 5, .inr ⟨rfl, .inr (.inr (.inr rfl))⟩, P, fun w hc => ?_⟩
          have R := rbil_near X Y W H n b cap v x y w lx ly h0 hn hc hh hvw A B c1 c2
          unfold bilV bilE at R
          rw [hth] at R
          exact R
    · have nx : nearB x = true := by cases h : nearB x; exact absurd (.inl h) hnr; rfl
      have ny : nearB y = true := by cases h : nearB y; exact absurd (.inr h) hnr; rfl
      have ex := near_val ha
      have ey := near_val hc'
      rw [nx] at ex
      rw [ny] at ey
      have ex' := of_decide_eq_true ex.symm
      have ey' := of_decide_eq_true ey.symm
      have hp := one_pos
      obtain ⟨s, cs, A⟩ := near_parts ha (by generalize one = O at *; omega)
      obtain ⟨t, ct, B⟩ := near_parts hc' (by generalize one = O at *; omega)
      have c1 : (FloatKind.f32.format.order (x % 2147483648) 1258291200 == some .gt) = false := by rw [gx]; simp; generalize one = O at *; omega
      have c2 : (FloatKind.f32.format.order (y % 2147483648) 1258291200 == some .gt) = false := by rw [gy]; simp; generalize one = O at *; omega
      refine ⟨_, _, ?_, fun w hc => bil_near X Y W H n b cap v x y w h0 hn hcap hc hh A B nx ny, fun w hc => rbil_near X Y W H n b cap v x y w lx ly h0 hn hc hh hvw A B c1 c2⟩
      unfold bilV bilE
      cases thereB X Y W H (a / (one : Int)) (c / (one : Int)) cs ct with
      | false => exact .inr ⟨rfl, .inr (.inr (.inr rfl))⟩
      | true =>
        cases hgtB (btwW v W (numC X Y W (a / (one : Int)) (c / (one : Int))) cs ct s t) with
        | false => exact .inr ⟨rfl, .inr (.inl rfl)⟩
        | true => exact .inl rfl

/-- At a cell: its value. -/
theorem at_cell (X Y : Int) (W H n b cap : Nat) (v : Nat → Nat) (h0 : checkR X Y W H = 0) (hn : n = W * H) (hcap : n ≤ cap) (hh : allB n (fun i => hgtB (v i)) = true) (x1 : -5000 ≤ X) (x2 : X ≤ 5000) (y1 : -5000 ≤ Y) (y2 : Y ≤ 5000) :
    ∀ w, FlAt w b 0 n v → Calls Try.prog 52 #[fldV X Y W H (.slice (some ⟨b, 0, none⟩) n cap), .float .f32 (floatOfInt .f32 X), .float .f32 (floatOfInt .f32 Y)] w fun e w' => e = .returned (.tuple #[.float .f32 (v 0), .int .i64 0]) ∧ Below w.heap.size w w' := by
  intro w hc
  obtain ⟨b1, b2, b3, b4, b5, _⟩ := checkR_zero h0
  have n1 : 1 ≤ n := by rw [hn]; exact Nat.mul_pos (by omega) (by omega)
  obtain ⟨vx, _⟩ := int_val (n := X) (by omega)
  obtain ⟨vy, _⟩ := int_val (n := Y) (by omega)
  obtain ⟨s, A⟩ := near_whole vx (by omega) (by omega)
  obtain ⟨t, B⟩ := near_whole vy (by omega) (by omega)
  have hp := one_pos
  have key : ∀ {g : Int}, -5000 ≤ g → g ≤ 5000 → (-(4194304 * (one : Int)) ≤ g * (one : Int) ∧ g * (one : Int) ≤ 4194304 * (one : Int)) := fun {g} u1 u2 => by
    have e1 : (-5000 : Int) * (one : Int) ≤ g * (one : Int) := Int.mul_le_mul_of_nonneg_right u1 (by omega)
    have e2 : g * (one : Int) ≤ 5000 * (one : Int) := Int.mul_le_mul_of_nonneg_right u2 (by omega)
    generalize g * (one : Int) = G at *
    generalize one = O at *
    omega
  have nx : nearB (floatOfInt .f32 X) = true := by rw [near_val vx]; exact decide_eq_true (key x1 x2)
  have ny : nearB (floatOfInt .f32 Y) = true := by rw [near_val vy]; exact decide_eq_true (key y1 y2)
  have hth : thereB X Y W H X Y true true = true := insideB_iff.2 ⟨Int.le_refl _, Int.le_refl _, by simp; omega, by simp; omega⟩
  have R := bil_near X Y W H n b cap v _ _ w h0 hn hcap hc hh A B nx ny
  have hz : numC X Y W X Y = 0 := by unfold numC; simp
  unfold bilV bilE at R
  rw [hth, hz] at R
  have hb : btwW v W 0 true true s t = v 0 := rfl
  rw [hb, allB_iff.1 hh 0 n1] at R
  exact R

set_option maxHeartbeats 4000000 in
theorem betweenCells_any (X0 Y0 W0 H0 : Int) (sl : Value) (x y : Nat) (w : World) (lx : x < 4294967296) (ly : y < 4294967296)
    (hfit : ∀ W', Below w.heap.size w W' → Calls Try.prog 25 #[fldV X0 Y0 W0 H0 sl] W' (FitPost W')) :
    Calls Try.prog 8 #[fldV X0 Y0 W0 H0 sl, .float .f32 x, .float .f32 y] w fun e w' => e = .returned (.bool true) ∧ Below w.heap.size w w' := by
  have HF := Lib.hid hfit
  clear hfit
  go_enter Try.func8, Try.ntmps8
  go_wp2_with (first | (go_at_call 15; refine (landed_any _).mono ?_; rintro e w1 ⟨rfl, hb1⟩; have HA1 := Lib.hid (blkStay (b := w.heap.size) (o := fldO X0 Y0 W0 H0 sl) (heap_alloc_new w _) hb1); have hB1 : Below w.heap.size w w1 := Below.trans (by repeat (first | exact Below.refl _ _ | refine Below.alloc ?_ (by first | omega | (simp; done) | (simp; omega)) _ | refine Below.setCell ?_ (by first | omega | (simp; done) | (simp; omega)) _ | refine Below.drew ?_)) (Below.mono hb1 (by first | omega | (simp; done) | (simp; omega))); obtain ⟨cA, fA, zA⟩ := blkC HA1.out; clear hb1))
  refine (HF.out w1 hB1).mono ?_
  rintro e w2 ⟨X, Y, W', H', b, n, rfl, x1, x2, y1, y2, u1, u2, h1, h2, hn, hn1, hn2, hlo, hrow, hb2⟩
  obtain ⟨W, rfl⟩ : ∃ W : Nat, W' = W := ⟨W'.toNat, by omega⟩
  obtain ⟨H, rfl⟩ : ∃ H : Nat, H' = H := ⟨H'.toNat, by omega⟩
  obtain ⟨v, fv, wv, hv, bv⟩ := fit_fn hrow
  have h0 := fit_check x1 x2 y1 y2 u1 u2 h1 h2 hn hn2
  have hnn : n = W * H := by
    have : (n : Int) = ((W * H : Nat) : Int) := by rw [hn]; simp
    omega
  have HA2 := Lib.hid (blkStay HA1.out hb2)
  have hB2 : Below w.heap.size w w2 := hB1.trans (hb2.mono hB1.size)
  obtain ⟨cA, fA, zA⟩ := blkC HA2.out
  obtain ⟨V, E, hVE, hp, hr⟩ := both_bil X Y W H n b n v x y lx ly h0 hnn (Nat.le_refl _) hv wv
  have S1 := Lib.hid hp
  have S2 := Lib.hid hr
  have S3 := Lib.hid (at_cell X Y W H n b n v h0 hnn (Nat.le_refl _) hv x1 x2 y1 y2)
  have ON := Lib.hid (show ∀ w, Calls Try.prog 47 #[.float .f32 V, .int .i64 E, .float .f32 V, .int .i64 E] w fun e w' => e = .returned (.bool true) ∧ w = w' from fun w => by
    rcases hVE with rfl | ⟨rfl, hE⟩
    · exact one_ok V w
    · exact one_err 0 E (by omega) w)
  clear x1 x2 y1 y2 u1 u2 h1 h2 hn h0 hnn hrow hv wv hp hr hVE lx ly
  have hbp : b ≠ w.heap.size := by have := hB1.size; omega
  have HA3 := Lib.hid (set5_self (.int .i64 X) (.int .i64 Y) (.int .i64 W) (.int .i64 H) (.slice (some ⟨b, 0, none⟩) n n) HA2.out)
  have F3 := Lib.hid (flAt_congr fv (set5_heap w2 w.heap.size b (.int .i64 X) (.int .i64 Y) (.int .i64 W) (.int .i64 H) (.slice (some ⟨b, 0, none⟩) n n) hbp))
  have hB3 := set5_below hB2 w.heap.size (.int .i64 X) (.int .i64 Y) (.int .i64 W) (.int .i64 H) (.slice (some ⟨b, 0, none⟩) n n) (Nat.le_refl _)
  have hx := set5_size w2 w.heap.size (.int .i64 X) (.int .i64 Y) (.int .i64 W) (.int .i64 H) (.slice (some ⟨b, 0, none⟩) n n)
  clear hb2
  go_wp2_with fail
  refine (S1.out _ F3.out).mono ?_
  rintro e w4 ⟨rfl, hb4⟩
  have bv4 : b < w4.heap.size := by have := hb4.size; rw [hx] at this; omega
  have F4 := Lib.hid (flAt_congr F3.out (hb4.block b (by rw [hx]; exact bv)))
  have HA4 := Lib.hid (blkStay HA3.out hb4)
  have HB4 := Lib.hid (hB3.trans (hb4.mono hB3.size))
  clear hb4 HA3 F3 hB3 hx cA fA zA HA2 hB2 hlo fv bv
  obtain ⟨cA, fA, zA⟩ := blkC HA4.out
  go_wp2_with fail
  refine (S2.out _ F4.out).mono ?_
  rintro e w5 ⟨rfl, hb5⟩
  have bv5 : b < w5.heap.size := by have := hb5.size; omega
  have F5 := Lib.hid (flAt_congr F4.out (hb5.block b bv4))
  have HA5 := Lib.hid (blkStay HA4.out hb5)
  have HB5 := Lib.hid (HB4.out.trans (hb5.mono HB4.out.size))
  clear hb5 cA fA HA4 F4
  obtain ⟨cA, fA, zA5⟩ := blkC HA5.out
  go_wp2_with (first | (go_at_call 47; refine (ON.out _).mono ?_; rintro e w' ⟨rfl, rfl⟩))
  refine (S3.out _ F5.out).mono ?_
  rintro e w6 ⟨rfl, hb6⟩
  have bv6 : b < w6.heap.size := by have := hb6.size; omega
  have hcell : w6.cell? ⟨b, 0, none⟩ = some (.float .f32 (v 0)) := (flAt_congr F5.out (hb6.block b bv5)) 0 (by omega)
  have HA6 := Lib.hid (blkStay HA5.out hb6)
  have HB6 := Lib.hid (HB5.out.trans (hb6.mono HB5.out.size))
  clear hb6 cA fA HA5 F5
  obtain ⟨cA, fA, zA6⟩ := blkC HA6.out
  have n0 : (0 : Int) < (n : Int) := by omega
  go_wp2_with (first | (go_at_call 47; refine (one_ok _ _).mono ?_; rintro e w' ⟨rfl, rfl⟩))
  go_ret
  exact ⟨rfl, HB6.out⟩
end Go.Proofs.Ytaieokamfhpfbaa
