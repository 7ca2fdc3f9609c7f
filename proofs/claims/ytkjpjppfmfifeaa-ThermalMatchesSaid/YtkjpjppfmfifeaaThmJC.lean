/- Lemmas and contracts for the proof that the last text of this claim holds. -/
import Derived.Test.YtkjpjppfmfifeaaThmJB
import Derived.RegionTactic
import Derived.ChangeAlike
import Derived.StillTailTactics
import Derived.Deep.AppendLies
import Derived.Deep.RegionLaw
import Derived.Laws.OwnMore
import Derived.Deep.CutRange

/- What the two sides answer, told alike: so the law's walk has one way. -/
namespace Go.Proofs.Ytkjpjppfmfifeaa
open Go.RowKit Fl
set_option linter.unusedVariables false

/-- A result (the field x y u h s, the error k) of a function that makes f over a region, behind the error er. -/
def Res (lo : Nat) (w : World) (X Y W H : Int) (n : Nat) (f : Nat → Nat) (er : Int) (x y u h : Int) (s : Value) (k : Int) : Prop :=
  (er ≠ 0 ∧ x = 0 ∧ y = 0 ∧ u = 0 ∧ h = 0 ∧ s = .slice none 0 0 ∧ k = er) ∨
  (er = 0 ∧ allB n (fun i => hgtB (f i)) = true ∧ x = X ∧ y = Y ∧ u = W ∧ h = H ∧ (∃ b cap, s = .slice (some ⟨b, 0, none⟩) n cap ∧ lo ≤ b ∧ b < w.heap.size ∧ FlAt w b 0 n f) ∧ k = 0) ∨
  (er = 0 ∧ allB n (fun i => hgtB (f i)) = false ∧ x = 0 ∧ y = 0 ∧ u = 0 ∧ h = 0 ∧ s = .slice none 0 0 ∧ k = 3)
theorem Res.stay {lo : Nat} {w w' : World} {X Y W H : Int} {n : Nat} {f : Nat → Nat} {er x y u h : Int} {s : Value} {k : Int} (r : Res lo w X Y W H n f er x y u h s k) (hb : Below w.heap.size w w') : Res lo w' X Y W H n f er x y u h s k := by
  rcases r with r | ⟨r1, r2, r3, r4, r5, r6, ⟨b, cap, r7, r0, r8, r9⟩, r10⟩ | r
  · exact .inl r
  · exact .inr (.inl ⟨r1, r2, r3, r4, r5, r6, ⟨b, cap, r7, r0, Nat.lt_of_lt_of_le r8 hb.size, flAt_congr r9 (hb.block _ r8)⟩, r10⟩)
  · exact .inr (.inr r)
theorem Res.heap {lo : Nat} {w w' : World} {X Y W H : Int} {n : Nat} {f : Nat → Nat} {er x y u h : Int} {s : Value} {k : Int} (r : Res lo w X Y W H n f er x y u h s k) {p : Nat} (hz : w.heap.size ≤ w'.heap.size) (hne : p < lo) (hb : ∀ b, b ≠ p → b < w.heap.size → w'.heap[b]? = w.heap[b]?) : Res lo w' X Y W H n f er x y u h s k := by
  rcases r with r | ⟨r1, r2, r3, r4, r5, r6, ⟨b, cap, r7, r0, r8, r9⟩, r10⟩ | r
  · exact .inl r
  · exact .inr (.inl ⟨r1, r2, r3, r4, r5, r6, ⟨b, cap, r7, r0, Nat.lt_of_lt_of_le r8 hz, flAt_congr r9 (hb _ (by omega) r8)⟩, r10⟩)
  · exact .inr (.inr r)

theorem made_res {w w' : World} {X Y W H : Int} {n : Nat} {f : Nat → Nat} {er : Int} {e : Ending} (h : ScPost w X Y W H n f er e w') :
    ∃ x y u hh : Int, ∃ a : Option Addr, ∃ l cp : Nat, ∃ k : Int, e = .returned (.tuple #[fldV x y u hh (.slice a l cp), .int .i64 k]) ∧ Res w.heap.size w' X Y W H n f er x y u hh (.slice a l cp) k ∧ Below w.heap.size w w' := by
  rcases h with ⟨h1, h2, h3⟩ | ⟨h1, ⟨h2, b, cap, h3, h4, h5, h6, h7⟩ | ⟨h2, h3, h4⟩⟩
  · exact ⟨_, _, _, _, _, _, _, _, h2, .inl ⟨h1, rfl, rfl, rfl, rfl, rfl, rfl⟩, h3⟩
  · exact ⟨_, _, _, _, _, _, _, _, h3, .inr (.inl ⟨h1, h2, rfl, rfl, rfl, rfl, ⟨b, cap, rfl, h4, h5, h6⟩, rfl⟩), h7⟩
  · exact ⟨_, _, _, _, _, _, _, _, h3, .inr (.inr ⟨h1, h2, rfl, rfl, rfl, rfl, rfl, rfl⟩), h4⟩

/-- Two results of one thing are the same to the law. -/
theorem same_res {W0 : World} {X Y W H : Int} {n : Nat} {f : Nat → Nat} {er x y u h x' y' u' h' : Int} {s s' : Value} {k k' : Int} (hn : 1 ≤ n) (hl : n ≤ 9223372036854775807)
    {lo lo' : Nat} (r : Res lo W0 X Y W H n f er x y u h s k) (r' : Res lo' W0 X Y W H n f er x' y' u' h' s' k') :
    Calls Try.prog 14 #[fldV x y u h s, .int .i64 k, fldV x' y' u' h' s', .int .i64 k'] W0 fun e w' => e = .returned (.bool true) ∧ Below W0.heap.size W0 w' := by
  rcases r with ⟨a1, rfl, rfl, rfl, rfl, rfl, rfl⟩ | ⟨a1, a2, rfl, rfl, rfl, rfl, ⟨b, cap, rfl, _, _, c⟩, rfl⟩ | ⟨a1, a2, rfl, rfl, rfl, rfl, rfl, rfl⟩ <;>
  rcases r' with ⟨b1, rfl, rfl, rfl, rfl, rfl, rfl⟩ | ⟨b1, b2, rfl, rfl, rfl, rfl, ⟨b', cap', rfl, _, _, c'⟩, rfl⟩ | ⟨b1, b2, rfl, rfl, rfl, rfl, rfl, rfl⟩
  · exact law_same_err _ a1 W0
  · exact absurd b1 a1
  · exact absurd b1 a1
  · exact absurd a1 b1
  · exact law_same_ok _ _ _ _ b b' cap cap' n f hl hn W0 c c'
  · rw [a2] at b2; cases b2
  · exact absurd a1 b1
  · rw [a2] at b2; cases b2
  · exact law_same_err 3 (by decide) W0

theorem set5_self {wr : World} {b : Nat} {a1 a2 a3 a4 a5 : Value} {t : TypeId} (u1 u2 u3 u4 u5 : Value) (h : wr.heap[b]? = some (.cells #[a1, a2, a3, a4, a5] t (0, 0))) :
    (set5 wr b u1 u2 u3 u4 u5).heap[b]? = some (.cells #[u1, u2, u3, u4, u5] t (0, 0)) := by
  have h1 := heap_setCell_same wr b 0 _ _ u1 h
  have h2 := heap_setCell_same _ b 1 _ _ u2 h1
  have h3 := heap_setCell_same _ b 2 _ _ u3 h2
  have h4 := heap_setCell_same _ b 3 _ _ u4 h3
  have h5 := heap_setCell_same _ b 4 _ _ u5 h4
  exact h5
/-- A field stored into a block of its own: what stands elsewhere stays. -/
theorem box_old (wr : World) (o : Obj) (u1 u2 u3 u4 u5 : Value) {k : Nat} (h : k < wr.heap.size) : (set5 (wr.alloc o) wr.heap.size u1 u2 u3 u4 u5).heap[k]? = wr.heap[k]? := by
  rw [set5_heap _ _ _ _ _ _ _ _ (by omega), heap_alloc_old _ _ h]
theorem box_below (wr : World) (o : Obj) (u1 u2 u3 u4 u5 : Value) : Below wr.heap.size wr (set5 (wr.alloc o) wr.heap.size u1 u2 u3 u4 u5) :=
  set5_below ((Below.refl _ _).alloc (Nat.le_refl _) o) _ _ _ _ _ _ (Nat.le_refl _)

/-- What a fit field is, its singles by a function. -/
theorem fit_fn {w : World} {b n : Nat} (h : FitRow w b n n) : ∃ v : Nat → Nat, FlAt w b 0 n v ∧ wf32 n v ∧ allB n (fun i => hgtB (v i)) = true ∧ b < w.heap.size := by
  obtain ⟨cs, h1, h2, h3⟩ := h
  refine ⟨fun j => if hj : j < n then (h3 j hj).choose else 0, fun i hi => ?_, fun i hi => ?_, allB_iff.2 fun i hi => ?_, (blkC h1).2.2⟩
  · rw [Nat.zero_add, (blkC h1).1 i]; simp only [dif_pos hi]; exact (h3 i hi).choose_spec.1
  · simp only [dif_pos hi]; exact (h3 i hi).choose_spec.2.1
  · simp only [dif_pos hi]; exact (h3 i hi).choose_spec.2.2 hi
theorem fit_check {X Y : Int} {W H n : Nat} (x1 : -5000 ≤ X) (x2 : X ≤ 5000) (y1 : -5000 ≤ Y) (y2 : Y ≤ 5000) (w1 : (1 : Int) ≤ W) (w2 : (W : Int) ≤ 16) (h1 : (1 : Int) ≤ H) (h2 : (H : Int) ≤ 16) (hn : (n : Int) = W * H) (hn2 : n ≤ 256) : checkR X Y W H = 0 := by
  unfold checkR
  rw [if_neg (by omega), if_neg (by rw [← hn]; omega), if_neg (by omega)]

end Go.Proofs.Ytkjpjppfmfifeaa

/- Contracts: shrink, crossAt, rise, square, normal of the program. -/
namespace Go.Proofs.Ytkjpjppfmfifeaa
open Go.RowKit Fl
set_option linter.unusedVariables false

set_option maxHeartbeats 1000000 in
theorem shrink_any (X Y W H : Int) (w : World) (x1 : -4194304 ≤ X) (x2 : X ≤ 4194304) (y1 : -4194304 ≤ Y) (y2 : Y ≤ 4194304) (w1 : 1 ≤ W) (w2 : W ≤ 512) (h1 : 1 ≤ H) (h2 : H ≤ 512) :
    Calls Try.prog 120 #[reg X Y W H, .int .i64 1] w fun e w' => e = .returned (.tuple #[reg (X + 1) (Y + 1) (W - 2) (H - 2), .bool (decide (3 ≤ W ∧ 3 ≤ H))]) ∧ Below w.heap.size w w' := by
  cases c1 : decide (2 < W) with
  | false =>
    have e : decide (3 ≤ W ∧ 3 ≤ H) = false := by simp at c1 ⊢; omega
    rw [e]
    clear e
    go_enter Try.func120, Try.ntmps120
    go_wp2
    go_region
    all_goals go_wp2
    all_goals refine bodyPost_ret (v := .tuple #[reg (X + 1) (Y + 1) (W - 2) (H - 2), .bool false]) (by simp [results, Try.results120, go_sem]) rfl ?_
    all_goals exact ⟨rfl, by repeat (first | exact Below.refl _ _ | refine Below.drew ?_ | refine Below.alloc ?_ (by simp; try omega) _ | refine Below.setCell ?_ (by simp; try omega) _)⟩
  | true =>
    cases c2 : decide (2 < H) with
    | false =>
      have e : decide (3 ≤ W ∧ 3 ≤ H) = false := by simp at c1 c2 ⊢; omega
      rw [e]
      clear e
      go_enter Try.func120, Try.ntmps120
      go_wp2
      go_region
      all_goals go_wp2
      all_goals refine bodyPost_ret (v := .tuple #[reg (X + 1) (Y + 1) (W - 2) (H - 2), .bool false]) (by simp [results, Try.results120, go_sem]) rfl ?_
      all_goals exact ⟨rfl, by repeat (first | exact Below.refl _ _ | refine Below.drew ?_ | refine Below.alloc ?_ (by simp; try omega) _ | refine Below.setCell ?_ (by simp; try omega) _)⟩
    | true =>
      have e : decide (3 ≤ W ∧ 3 ≤ H) = true := by simp at c1 c2 ⊢; omega
      rw [e]
      clear e
      go_enter Try.func120, Try.ntmps120
      go_wp2
      go_region
      all_goals go_wp2
      all_goals refine bodyPost_ret (v := .tuple #[reg (X + 1) (Y + 1) (W - 2) (H - 2), .bool true]) (by simp [results, Try.results120, go_sem]) rfl ?_
      all_goals exact ⟨rfl, by repeat (first | exact Below.refl _ _ | refine Below.drew ?_ | refine Below.alloc ?_ (by simp; try omega) _ | refine Below.setCell ?_ (by simp; try omega) _)⟩

theorem blkDrew {w : World} {b : Nat} {o : Obj} (h : w.heap[b]? = some o) : w.drew.heap[b]? = some o := h
theorem store_fl {w : World} {p o x : Nat} {cs : Array Value} {t : TypeId} {m : Mode} (h : w.heap[p]? = some (.cells cs t (0, 0))) (ho : o < cs.size) :
    (store ⟨p, o, none⟩ (.float .f32 x) m).run Try.prog w = .ok () (w.setCell ⟨p, o, none⟩ (.float .f32 x)) := by
  obtain ⟨c, f, z⟩ := blkC h
  have c0 := c o
  have f0 := f o
  rw [run_store_float]
  have : cs[o]? = some cs[o] := Array.getElem?_eq_getElem ho
  rw [this] at c0
  simp [stored, c0, f0]

theorem store_fld {w : World} {p o x : Nat} {cs : Array Value} {t : TypeId} {m : Mode} (h : w.heap[p]? = some (.cells cs t (0, 0))) (ho : o < cs.size) :
    (store ⟨p, o, none⟩ (.float .f32 x) m).run Try.prog w.drew = .ok () (w.setCell ⟨p, o, none⟩ (.float .f32 x)).drew := store_fl (blkDrew h) ho
theorem store5_fl {w : World} {p : Nat} {z0 z1 z2 z3 z4 : Value} {t : TypeId} (h : w.heap[p]? = some (.cells #[z0, z1, z2, z3, z4] t (0, 0))) (a b c d e : Nat) :
    (store ⟨p, 0, none⟩ (.float .f32 a) .plain).run Try.prog w.drew = .ok () (w.setCell ⟨p, 0, none⟩ (.float .f32 a)).drew ∧
    (store ⟨p, 1, none⟩ (.float .f32 b) .plain).run Try.prog (w.setCell ⟨p, 0, none⟩ (.float .f32 a)).drew = .ok () ((w.setCell ⟨p, 0, none⟩ (.float .f32 a)).setCell ⟨p, 1, none⟩ (.float .f32 b)).drew ∧
    (store ⟨p, 2, none⟩ (.float .f32 c) .plain).run Try.prog ((w.setCell ⟨p, 0, none⟩ (.float .f32 a)).setCell ⟨p, 1, none⟩ (.float .f32 b)).drew = .ok () (((w.setCell ⟨p, 0, none⟩ (.float .f32 a)).setCell ⟨p, 1, none⟩ (.float .f32 b)).setCell ⟨p, 2, none⟩ (.float .f32 c)).drew ∧
    (store ⟨p, 3, none⟩ (.float .f32 d) .plain).run Try.prog (((w.setCell ⟨p, 0, none⟩ (.float .f32 a)).setCell ⟨p, 1, none⟩ (.float .f32 b)).setCell ⟨p, 2, none⟩ (.float .f32 c)).drew = .ok () ((((w.setCell ⟨p, 0, none⟩ (.float .f32 a)).setCell ⟨p, 1, none⟩ (.float .f32 b)).setCell ⟨p, 2, none⟩ (.float .f32 c)).setCell ⟨p, 3, none⟩ (.float .f32 d)).drew ∧
    (store ⟨p, 4, none⟩ (.float .f32 e) .plain).run Try.prog ((((w.setCell ⟨p, 0, none⟩ (.float .f32 a)).setCell ⟨p, 1, none⟩ (.float .f32 b)).setCell ⟨p, 2, none⟩ (.float .f32 c)).setCell ⟨p, 3, none⟩ (.float .f32 d)).drew = .ok () (((((w.setCell ⟨p, 0, none⟩ (.float .f32 a)).setCell ⟨p, 1, none⟩ (.float .f32 b)).setCell ⟨p, 2, none⟩ (.float .f32 c)).setCell ⟨p, 3, none⟩ (.float .f32 d)).setCell ⟨p, 4, none⟩ (.float .f32 e)).drew := by
  have h1 := heap_setCell_same w p 0 _ _ (.float .f32 a) h
  have h2 := heap_setCell_same _ p 1 _ _ (.float .f32 b) h1
  have h3 := heap_setCell_same _ p 2 _ _ (.float .f32 c) h2
  have h4 := heap_setCell_same _ p 3 _ _ (.float .f32 d) h3
  exact ⟨store_fld h (by simp), store_fld h1 (by simp), store_fld h2 (by simp), store_fld h3 (by simp), store_fld h4 (by simp)⟩

/-- A cell with its neighbours, as a value. -/
abbrev crossO : Obj := .cells #[.float .f32 0, .float .f32 0, .float .f32 0, .float .f32 0, .float .f32 0] 118
abbrev crossV (c n w e s : Nat) : Value := .agg #[.float .f32 c, .float .f32 n, .float .f32 w, .float .f32 e, .float .f32 s]

set_option maxHeartbeats 4000000 in
set_option maxRecDepth 100000 in
theorem crossAt_any (X Y : Int) (W H n b cap i : Nat) (v : Nat → Nat) (x y : Int) (w : World) (h0 : checkR X Y W H = 0) (hn : n = H * W) (hcap : n ≤ cap) (hcp : cap ≤ 9223372036854775807) (hc : FlAt w b 0 n v)
    (h1 : X + 1 ≤ x) (h2 : x + 1 < X + W) (h3 : Y + 1 ≤ y) (h4 : y + 1 < Y + H) (hi : (i : Int) = (y - Y) * W + (x - X)) :
    Calls Try.prog 137 #[fldV X Y W H (.slice (some ⟨b, 0, none⟩) n cap), .int .i64 x, .int .i64 y] w fun e w' => e = .returned (crossV (v i) (v (i - W)) (v (i - 1)) (v (i + 1)) (v (i + W))) ∧ Below w.heap.size w w' := by
  obtain ⟨b1, b2, b3, b4, b5, b6, b7, b8, b9⟩ := checkR_zero h0
  have hn2 : n ≤ 65536 := by
    have : ((W : Int) * (H : Int)) = (n : Int) := by rw [hn, Nat.mul_comm]; simp
    omega
  have q0 : (W : Int) ≤ (y - Y) * W := by
    have := Int.mul_le_mul_of_nonneg_right (show (1 : Int) ≤ y - Y by omega) (show (0 : Int) ≤ W by omega); omega
  have q1 : (y - Y) * W ≤ (n : Int) - 2 * W := by
    have a : (y - Y) * W ≤ ((H : Int) - 2) * W := Int.mul_le_mul_of_nonneg_right (by omega) (by omega)
    have b : ((H : Int) - 2) * W = (n : Int) - 2 * W := by rw [hn, Int.sub_mul]; simp
    omega
  have IX := Lib.hid (fun w => index_any X Y W H i x y w (by omega) (by omega) (by omega) (by omega) (by omega) (by omega) (by omega) (by omega) (by omega) (by omega) (by omega) hi (by omega))
  obtain ⟨iN, eN⟩ : ∃ k, k = i - W := ⟨_, rfl⟩
  obtain ⟨iW, eW⟩ : ∃ k, k = i - 1 := ⟨_, rfl⟩
  obtain ⟨iE, eE⟩ : ∃ k, k = i + 1 := ⟨_, rfl⟩
  obtain ⟨iS, eS⟩ : ∃ k, k = i + W := ⟨_, rfl⟩
  rw [← eN, ← eW, ← eE, ← eS]
  have cell : ∀ k, k < n → w.cell? ⟨b, k, none⟩ = some (.float .f32 (v k)) := fun k hk => by have := hc k hk; rwa [Nat.zero_add] at this
  have k0 := cell i (by omega)
  have k1 := cell iN (by omega)
  have k2 := cell iW (by omega)
  have k3 := cell iE (by omega)
  have k4 := cell iS (by omega)
  have zb : b < w.heap.size := World.block_lt_of_cell? w _ k0
  have f1 : (i : Int) - (W : Int) = (iN : Int) := by omega
  have f2 : (i : Int) - 1 = (iW : Int) := by omega
  have f3 : (i : Int) + 1 = (iE : Int) := by omega
  have f4 : (i : Int) + (W : Int) = (iS : Int) := by omega
  have u1 : IntKind.i64.wrap (iN : Int) = iN := IntWalk.i64_in _ (by omega)
  have u2 : IntKind.i64.wrap (iW : Int) = iW := IntWalk.i64_in _ (by omega)
  have u3 : IntKind.i64.wrap (iE : Int) = iE := IntWalk.i64_in _ (by omega)
  have u4 : IntKind.i64.wrap (iS : Int) = iS := IntWalk.i64_in _ (by omega)
  have g0 : (i : Int) < (n : Int) := by omega
  have g1 : (iN : Int) < (n : Int) := by omega
  have g2 : (iW : Int) < (n : Int) := by omega
  have g3 : (iE : Int) < (n : Int) := by omega
  have g4 : (iS : Int) < (n : Int) := by omega
  have p0 : (0 : Int) ≤ (i : Int) := by omega
  have p1 : (0 : Int) ≤ (iN : Int) := by omega
  have p2 : (0 : Int) ≤ (iW : Int) := by omega
  have p3 : (0 : Int) ≤ (iE : Int) := by omega
  have p4 : (0 : Int) ≤ (iS : Int) := by omega
  clear hc h0 hi q0 q1 b1 b2 b3 b4 b5 b6 b7 b8 b9 h1 h2 h3 h4 hn hn2 eN eW eE eS cell
  go_enter Try.func137, Try.ntmps137
  go_wp2_with (first | (go_at_call 75; refine (IX.out _).mono ?_; rintro e w3 ⟨rfl, hw3⟩; have hB3 : Below w.heap.size w w3 := (by rw [← hw3]; exact (by repeat (first | exact Below.refl _ _ | refine Below.alloc ?_ (by first | omega | (simp; done) | (simp; omega)) _ | refine Below.setCell ?_ (by first | omega | (simp; done) | (simp; omega)) _ | refine Below.drew ?_))); have HF3 := Lib.hid (show w3.heap[w.heap.size]? = some (fldO X Y W H (.slice (some ⟨b, 0, none⟩) n cap)) by rw [← hw3]; ((simp only [heap_alloc_get, heap_size_alloc, if_true]) <;> ((repeat' split) <;> first | rfl | omega))); have HR3 := Lib.hid (show w3.heap[w.heap.size + 1]? = some crossO by rw [← hw3]; ((simp only [heap_alloc_get, heap_size_alloc, if_true]) <;> ((repeat' split) <;> first | rfl | omega))); clear hw3; obtain ⟨cF, fF, zF⟩ := blkC HF3.out; obtain ⟨cR, fR, zR⟩ := blkC HR3.out; have j0 := (Below.cell (p := ⟨b, i, none⟩) hB3 zb).trans k0; have j1 := (Below.cell (p := ⟨b, iN, none⟩) hB3 zb).trans k1; have j2 := (Below.cell (p := ⟨b, iW, none⟩) hB3 zb).trans k2; have j3 := (Below.cell (p := ⟨b, iE, none⟩) hB3 zb).trans k3; have j4 := (Below.cell (p := ⟨b, iS, none⟩) hB3 zb).trans k4; clear k0 k1 k2 k3 k4))
  obtain ⟨s0, s1, s2, s3, s4⟩ := store5_fl HR3.out (v i) (v iN) (v iW) (v iE) (v iS)
  clear IX hcap hcp
  have HRES := (blkC (blkDrew (set5_self (.float .f32 (v i)) (.float .f32 (v iN)) (.float .f32 (v iW)) (.float .f32 (v iE)) (.float .f32 (v iS)) HR3.out))).1
  simp only [set5] at HRES
  have HBEL := Lib.hid (set5_below hB3 (w.heap.size + 1) (.float .f32 (v i)) (.float .f32 (v iN)) (.float .f32 (v iW)) (.float .f32 (v iE)) (.float .f32 (v iS)) (by omega)).drew
  simp only [set5] at HBEL
  go_still_tail 36, (by kernel_rfl)
  change wpList _ _ _ _ _ w3.drew
  go_wp2
  refine bodyPost_ret (v := crossV (v i) (v iN) (v iW) (v iE) (v iS)) (by simp [results, Try.results137, go_sem, HRES]) rfl ?_
  exact ⟨rfl, HBEL.out⟩
end Go.Proofs.Ytkjpjppfmfifeaa

/- Contracts: rise, square, normal, inner of the program. -/
namespace Go.Proofs.Ytkjpjppfmfifeaa
open Go.RowKit Fl
set_option linter.unusedVariables false

theorem dwBox (w : World) (o : Obj) (k : Nat) {w' : World} (h : w' = (w.alloc o).drewN k) : Below w.heap.size w w' := by
  rw [h]
  exact ((Below.refl _ _).alloc (Nat.le_refl _) _).trans ((below_drewN _ _).mono (by simp))

theorem run_neg_f32 (w : World) (b : Nat) : (Op.unary .neg (.float .f32 b)).run Try.prog w = .ok (.float .f32 (negW b)) w := rfl

/-- A region's four cells stored into block b. -/
abbrev set4 (wr : World) (b : Nat) (u1 u2 u3 u4 : Value) : World := (((wr.setCell ⟨b, 0, none⟩ u1).setCell ⟨b, 1, none⟩ u2).setCell ⟨b, 2, none⟩ u3).setCell ⟨b, 3, none⟩ u4
theorem set4_size (wr : World) (b : Nat) (u1 u2 u3 u4 : Value) : (set4 wr b u1 u2 u3 u4).heap.size = wr.heap.size := by simp [set4]
theorem set4_self {wr : World} {b : Nat} {a1 a2 a3 a4 : Value} {t : TypeId} (u1 u2 u3 u4 : Value) (h : wr.heap[b]? = some (.cells #[a1, a2, a3, a4] t (0, 0))) :
    (set4 wr b u1 u2 u3 u4).heap[b]? = some (.cells #[u1, u2, u3, u4] t (0, 0)) := by
  have h1 := heap_setCell_same wr b 0 _ _ u1 h
  have h2 := heap_setCell_same _ b 1 _ _ u2 h1
  have h3 := heap_setCell_same _ b 2 _ _ u3 h2
  exact heap_setCell_same _ b 3 _ _ u4 h3

/-- The region without its rim, and the error where nothing is left. -/
def innB (W H : Int) : Bool := decide (3 ≤ W ∧ 3 ≤ H)

end Go.Proofs.Ytkjpjppfmfifeaa

/- Contracts: inner, around, inclines, normal, greater of the reference. -/
namespace Go.Proofs.Ytkjpjppfmfifeaa
open Go.RowKit Fl
set_option linter.unusedVariables false

set_option maxHeartbeats 1000000 in
theorem rinner_any (X Y : Int) (W H n b cap : Nat) (w : World) (h0 : checkR X Y W H = 0) :
    Calls Try.prog 123 #[fldV X Y W H (.slice (some ⟨b, 0, none⟩) n cap), .int .i64 1] w fun e w' => e = .returned (.tuple #[if innB W H then reg (X + 1) (Y + 1) (W - 2) (H - 2) else reg 0 0 0 0, .int .i64 (if innB W H then 0 else 10)]) ∧ Below w.heap.size w w' := by
  obtain ⟨b1, b2, b3, b4, b5, b6, b7, b8, b9⟩ := checkR_zero h0
  have GR := Lib.hid (fun w => show Calls Try.prog 124 #[reg X Y W H, .int .i64 (-1)] w fun e w' => e = .returned (reg (X + 1) (Y + 1) (W - 2) (H - 2)) ∧ Below w.heap.size w w' by
    have := refGrown_any X Y W H (-1) w (by omega) (by omega) (by omega) (by omega) (by omega) (by omega) (by omega) (by omega) (by omega) (by omega)
    simpa [Int.sub_eq_add_neg] using this)
  unfold innB
  by_cases c1 : (W : Int) < 3
  · have e : decide (3 ≤ (W : Int) ∧ 3 ≤ (H : Int)) = false := by simp; omega
    rw [e]
    clear e
    go_enter Try.func123, Try.ntmps123
    go_wp2_with (first | (go_at_call 124; refine (GR.out _).mono ?_; rintro e w3 ⟨rfl, hb3⟩; have HS3 := Lib.hid (blkStay (b := w.heap.size + 1) (o := regObj 0 0 0 0) (by ((simp only [heap_alloc_get, heap_size_alloc, if_true]) <;> ((repeat' split) <;> first | rfl | omega))) hb3); have hB3 : Below w.heap.size w w3 := Below.trans (by repeat (first | exact Below.refl _ _ | refine Below.alloc ?_ (by first | omega | (simp; done) | (simp; omega)) _ | refine Below.setCell ?_ (by first | omega | (simp; done) | (simp; omega)) _ | refine Below.drew ?_)) (Below.mono hb3 (by first | omega | (simp; done) | (simp; omega))); clear hb3; obtain ⟨cS, fS, zS⟩ := blkC HS3.out))
    all_goals
      have HRES := fun (u1 u2 u3 u4 : Value) (o : Obj) => (blkC ((heap_alloc_old (set4 w3 (w.heap.size + 1) u1 u2 u3 u4) o (by rw [set4_size]; exact zS)).trans (set4_self u1 u2 u3 u4 HS3.out))).1
      simp only [set4] at HRES
      refine bodyPost_ret (v := .tuple #[reg 0 0 0 0, .int .i64 10]) (by simp [results, Try.results123, go_sem, HRES]) rfl ?_
      exact ⟨rfl, by repeat (first | exact hB3 | refine Below.alloc ?_ (by first | omega | (simp; done) | (simp; omega)) _ | refine Below.setCell ?_ (by first | omega | (simp; done) | (simp; omega)) _)⟩
  · by_cases c2 : (H : Int) < 3
    · have e : decide (3 ≤ (W : Int) ∧ 3 ≤ (H : Int)) = false := by simp; omega
      rw [e]
      clear e
      go_enter Try.func123, Try.ntmps123
      go_wp2_with (first | (go_at_call 124; refine (GR.out _).mono ?_; rintro e w3 ⟨rfl, hb3⟩; have HS3 := Lib.hid (blkStay (b := w.heap.size + 1) (o := regObj 0 0 0 0) (by ((simp only [heap_alloc_get, heap_size_alloc, if_true]) <;> ((repeat' split) <;> first | rfl | omega))) hb3); have hB3 : Below w.heap.size w w3 := Below.trans (by repeat (first | exact Below.refl _ _ | refine Below.alloc ?_ (by first | omega | (simp; done) | (simp; omega)) _ | refine Below.setCell ?_ (by first | omega | (simp; done) | (simp; omega)) _ | refine Below.drew ?_)) (Below.mono hb3 (by first | omega | (simp; done) | (simp; omega))); clear hb3; obtain ⟨cS, fS, zS⟩ := blkC HS3.out))
      all_goals
        have HRES := fun (u1 u2 u3 u4 : Value) (o : Obj) => (blkC ((heap_alloc_old (set4 w3 (w.heap.size + 1) u1 u2 u3 u4) o (by rw [set4_size]; exact zS)).trans (set4_self u1 u2 u3 u4 HS3.out))).1
        simp only [set4] at HRES
        refine bodyPost_ret (v := .tuple #[reg 0 0 0 0, .int .i64 10]) (by simp [results, Try.results123, go_sem, HRES]) rfl ?_
        exact ⟨rfl, by repeat (first | exact hB3 | refine Below.alloc ?_ (by first | omega | (simp; done) | (simp; omega)) _ | refine Below.setCell ?_ (by first | omega | (simp; done) | (simp; omega)) _)⟩
    · have e : decide (3 ≤ (W : Int) ∧ 3 ≤ (H : Int)) = true := by simp; omega
      rw [e]
      clear e
      go_enter Try.func123, Try.ntmps123
      go_wp2_with (first | (go_at_call 124; refine (GR.out _).mono ?_; rintro e w3 ⟨rfl, hb3⟩; have HS3 := Lib.hid (blkStay (b := w.heap.size + 1) (o := regObj 0 0 0 0) (by ((simp only [heap_alloc_get, heap_size_alloc, if_true]) <;> ((repeat' split) <;> first | rfl | omega))) hb3); have hB3 : Below w.heap.size w w3 := Below.trans (by repeat (first | exact Below.refl _ _ | refine Below.alloc ?_ (by first | omega | (simp; done) | (simp; omega)) _ | refine Below.setCell ?_ (by first | omega | (simp; done) | (simp; omega)) _ | refine Below.drew ?_)) (Below.mono hb3 (by first | omega | (simp; done) | (simp; omega))); clear hb3; obtain ⟨cS, fS, zS⟩ := blkC HS3.out))
      all_goals
        have HRES := fun (u1 u2 u3 u4 : Value) (o : Obj) => (blkC ((heap_alloc_old (set4 w3 (w.heap.size + 1) u1 u2 u3 u4) o (by rw [set4_size]; exact zS)).trans (set4_self u1 u2 u3 u4 HS3.out))).1
        simp only [set4] at HRES
        refine bodyPost_ret (v := .tuple #[reg (X + 1) (Y + 1) (W - 2) (H - 2), .int .i64 0]) (by simp [results, Try.results123, go_sem, HRES]) rfl ?_
        exact ⟨rfl, by repeat (first | exact hB3 | refine Below.alloc ?_ (by first | omega | (simp; done) | (simp; omega)) _ | refine Below.setCell ?_ (by first | omega | (simp; done) | (simp; omega)) _)⟩

set_option maxHeartbeats 4000000 in
set_option maxRecDepth 100000 in
theorem around_any (X Y : Int) (W H n b cap i : Nat) (v : Nat → Nat) (x y : Int) (w : World) (h0 : checkR X Y W H = 0) (hn : n = H * W) (hc : FlAt w b 0 n v)
    (h1 : X + 1 ≤ x) (h2 : x + 1 < X + W) (h3 : Y + 1 ≤ y) (h4 : y + 1 < Y + H) (hi : (i : Int) = (y - Y) * W + (x - X)) :
    Calls Try.prog 94 #[fldV X Y W H (.slice (some ⟨b, 0, none⟩) n cap), .int .i64 x, .int .i64 y] w fun e w' => e = .returned (.tuple #[.float .f32 (v i), .float .f32 (v (i - W)), .float .f32 (v (i + W)), .float .f32 (v (i + 1)), .float .f32 (v (i - 1))]) ∧ Below w.heap.size w w' := by
  obtain ⟨b1, b2, b3, b4, b5, b6, b7, b8, b9⟩ := checkR_zero h0
  have hn2 : n ≤ 65536 := by
    have : ((W : Int) * (H : Int)) = (n : Int) := by rw [hn, Nat.mul_comm]; simp
    omega
  have q0 : (W : Int) ≤ (y - Y) * W := by
    have := Int.mul_le_mul_of_nonneg_right (show (1 : Int) ≤ y - Y by omega) (show (0 : Int) ≤ W by omega); omega
  have q1 : (y - Y) * W ≤ (n : Int) - 2 * W := by
    have a : (y - Y) * W ≤ ((H : Int) - 2) * W := Int.mul_le_mul_of_nonneg_right (by omega) (by omega)
    have b : ((H : Int) - 2) * W = (n : Int) - 2 * W := by rw [hn, Int.sub_mul]; simp
    omega
  have zb : b < w.heap.size := World.block_lt_of_cell? w _ (hc i (by omega))
  have A0 := Lib.hid (fun W' (hb : Below w.heap.size w W') => refAt_any X Y W H n b cap i v x y W' (by omega) (by omega) (by omega) (by omega) (by omega) (by omega) (by omega) (by omega) (by omega) (by omega) (by omega) hi (by omega) hn2 (flAt_congr hc (hb.block _ zb)))
  have A1 := Lib.hid (fun W' (hb : Below w.heap.size w W') => refAt_any X Y W H n b cap (i - W) v x (y - 1) W' (by omega) (by omega) (by omega) (by omega) (by omega) (by omega) (by omega) (by omega) (by omega) (by omega) (by omega) (by rw [show y - 1 - Y = (y - Y) - 1 by omega, Int.sub_mul]; omega) (by omega) hn2 (flAt_congr hc (hb.block _ zb)))
  have A2 := Lib.hid (fun W' (hb : Below w.heap.size w W') => refAt_any X Y W H n b cap (i + W) v x (y + 1) W' (by omega) (by omega) (by omega) (by omega) (by omega) (by omega) (by omega) (by omega) (by omega) (by omega) (by omega) (by rw [show y + 1 - Y = (y - Y) + 1 by omega, Int.add_mul]; omega) (by omega) hn2 (flAt_congr hc (hb.block _ zb)))
  have A3 := Lib.hid (fun W' (hb : Below w.heap.size w W') => refAt_any X Y W H n b cap (i + 1) v (x + 1) y W' (by omega) (by omega) (by omega) (by omega) (by omega) (by omega) (by omega) (by omega) (by omega) (by omega) (by omega) (by omega) (by omega) hn2 (flAt_congr hc (hb.block _ zb)))
  have A4 := Lib.hid (fun W' (hb : Below w.heap.size w W') => refAt_any X Y W H n b cap (i - 1) v (x - 1) y W' (by omega) (by omega) (by omega) (by omega) (by omega) (by omega) (by omega) (by omega) (by omega) (by omega) (by omega) (by omega) (by omega) hn2 (flAt_congr hc (hb.block _ zb)))
  have u1 : IntKind.i64.wrap (y - 1) = y - 1 := IntWalk.i64_in _ (by omega)
  have u2 : IntKind.i64.wrap (y + 1) = y + 1 := IntWalk.i64_in _ (by omega)
  have u3 : IntKind.i64.wrap (x + 1) = x + 1 := IntWalk.i64_in _ (by omega)
  have u4 : IntKind.i64.wrap (x - 1) = x - 1 := IntWalk.i64_in _ (by omega)
  have GF := Lib.hid (show (w.alloc (fldO X Y W H (.slice (some ⟨b, 0, none⟩) n cap))).heap[w.heap.size]? = some (fldO X Y W H (.slice (some ⟨b, 0, none⟩) n cap)) from heap_alloc_new _ _)
  have zF : w.heap.size < (w.alloc (fldO X Y W H (.slice (some ⟨b, 0, none⟩) n cap))).heap.size := by simp
  clear hc h0 hi q0 q1 b1 b2 b3 b4 b5 b6 b7 b8 b9 h1 h2 h3 h4 hn hn2
  generalize v i = v0 at *
  generalize v (i - W) = v1 at *
  generalize v (i + W) = v2 at *
  generalize v (i + 1) = v3 at *
  generalize v (i - 1) = v4 at *
  go_enter Try.func94, Try.ntmps94
  go_wp2
  go_region_held3 (fun w' => (∀ o, w'.cell? ⟨w.heap.size, o, none⟩ = #[.int .i64 X, .int .i64 Y, .int .i64 W, .int .i64 H, .slice (some ⟨b, 0, none⟩) n cap][o]?) ∧ Below (w.alloc (fldO X Y W H (.slice (some ⟨b, 0, none⟩) n cap))).heap.size (w.alloc (fldO X Y W H (.slice (some ⟨b, 0, none⟩) n cap))) w') (first | exact ⟨(blkC (blkStay GF.out (by repeat (first | exact Below.refl _ _ | refine Below.alloc ?_ (by first | omega | (simp; done) | (simp; omega)) _ | refine Below.setCell ?_ (by first | omega | (simp; done) | (simp; omega)) _ | refine Below.drew ?_)))).1, (by repeat (first | exact Below.refl _ _ | refine Below.alloc ?_ (by first | omega | (simp; done) | (simp; omega)) _ | refine Below.setCell ?_ (by first | omega | (simp; done) | (simp; omega)) _ | refine Below.drew ?_))⟩) (first
    | (go_at_call 64; (with_reducible refine Calls.mono (A0.out _ ?_) ?_); exact (by repeat (first | exact Below.refl _ _ | refine Below.alloc ?_ (by first | omega | (simp; done) | (simp; omega)) _ | refine Below.setCell ?_ (by first | omega | (simp; done) | (simp; omega)) _ | refine Below.drew ?_)); rintro e w' ⟨rfl, rfl⟩)
    | (go_at_call 64; (with_reducible refine Calls.mono (A1.out _ ?_) ?_); exact (by repeat (first | exact Below.refl _ _ | refine Below.alloc ?_ (by first | omega | (simp; done) | (simp; omega)) _ | refine Below.setCell ?_ (by first | omega | (simp; done) | (simp; omega)) _ | refine Below.drew ?_)); rintro e w' ⟨rfl, rfl⟩)
    | (go_at_call 64; (with_reducible refine Calls.mono (A2.out _ ?_) ?_); exact (by repeat (first | exact Below.refl _ _ | refine Below.alloc ?_ (by first | omega | (simp; done) | (simp; omega)) _ | refine Below.setCell ?_ (by first | omega | (simp; done) | (simp; omega)) _ | refine Below.drew ?_)); rintro e w' ⟨rfl, rfl⟩)
    | (go_at_call 64; (with_reducible refine Calls.mono (A3.out _ ?_) ?_); exact (by repeat (first | exact Below.refl _ _ | refine Below.alloc ?_ (by first | omega | (simp; done) | (simp; omega)) _ | refine Below.setCell ?_ (by first | omega | (simp; done) | (simp; omega)) _ | refine Below.drew ?_)); rintro e w' ⟨rfl, rfl⟩)
    | (go_at_call 64; (with_reducible refine Calls.mono (A4.out _ ?_) ?_); exact (by repeat (first | exact Below.refl _ _ | refine Below.alloc ?_ (by first | omega | (simp; done) | (simp; omega)) _ | refine Below.setCell ?_ (by first | omega | (simp; done) | (simp; omega)) _ | refine Below.drew ?_)); rintro e w' ⟨rfl, rfl⟩))
  rename_i wh hHeld
  go_wp2
  refine bodyPost_ret (v := .tuple #[.float .f32 v0, .float .f32 v1, .float .f32 v2, .float .f32 v3, .float .f32 v4]) (by simp [results, Try.results94, go_sem]) rfl ?_
  exact ⟨rfl, Below.trans ((Below.refl _ _).alloc (Nat.le_refl _) _) (hHeld.2.mono (by simp))⟩
end Go.Proofs.Ytkjpjppfmfifeaa

/- Contracts: inclines, normal, greater of the reference; the closures of Shade on both sides. -/
namespace Go.Proofs.Ytkjpjppfmfifeaa
open Go.RowKit Fl
set_option linter.unusedVariables false

/-- A cell that has all four neighbours: its place and its number. -/
structure InCell (X Y : Int) (W H n i : Nat) (x y : Int) : Prop where
  h1 : X + 1 ≤ x
  h2 : x + 1 < X + W
  h3 : Y + 1 ≤ y
  h4 : y + 1 < Y + H
  hi : (i : Int) = (y - Y) * W + (x - X)
  a0 : i < n
  a1 : i - W < n
  a2 : i + W < n
  a3 : i + 1 < n
  a4 : i - 1 < n

theorem in_cell {X Y : Int} {W H n i : Nat} {x y : Int} (hn : n = H * W) (h1 : X + 1 ≤ x) (h2 : x + 1 < X + W) (h3 : Y + 1 ≤ y) (h4 : y + 1 < Y + H) (hi : (i : Int) = (y - Y) * W + (x - X)) : InCell X Y W H n i x y := by
  have q0 : (W : Int) ≤ (y - Y) * W := by
    have := Int.mul_le_mul_of_nonneg_right (show (1 : Int) ≤ y - Y by omega) (show (0 : Int) ≤ W by omega); omega
  have q1 : (y - Y) * W ≤ (n : Int) - 2 * W := by
    have a : (y - Y) * W ≤ ((H : Int) - 2) * W := Int.mul_le_mul_of_nonneg_right (by omega) (by omega)
    have b : ((H : Int) - 2) * W = (n : Int) - 2 * W := by rw [hn, Int.sub_mul]; simp
    omega
  exact ⟨h1, h2, h3, h4, hi, by omega, by omega, by omega, by omega, by omega⟩

/-- The builtin max of 0 and a single. -/
theorem run_max_zero (ts : Array TypeId) (t : TypeId) (x : Nat) {a : Int} (hv : vS x = some a) (w : World) :
    (Builtin.max_ ts t #[.float .f32 0, .float .f32 x]).run Try.prog w = .ok (.float .f32 (shdW x)) w := by
  have o := order_val vS_zero hv
  have o' : FloatKind.f32.format.order 0 x = some (compare 0 a) := o
  unfold shdW
  rw [o']
  show (([Value.float .f32 x]).foldlM Builtin.max2 (Value.float .f32 0)).run Try.prog w = _
  simp only [List.foldlM]
  have m : Builtin.max2 (.float .f32 0) (.float .f32 x) = pure (.float .f32 (if (some (compare 0 a) == some Ordering.lt) = true then x else 0)) := by
    unfold Builtin.max2
    dsimp only
    rw [o']
    rcases h : compare 0 a with _ | _ | _
    · rfl
    · rfl
    · rfl
  rw [m]
  rfl
end Go.Proofs.Ytkjpjppfmfifeaa

/- Slope, curve and aspect of a cell: words and bounds. -/
namespace Go.Proofs.Ytkjpjppfmfifeaa
open Go.RowKit Fl
set_option linter.unusedVariables false

/-- The slope. -/
def slpW (dx dy : Nat) : Nat := rootW (sqrW dx dy)
structure SlpAt (dx dy p q s u : Nat) (a : Int) (X Z : Nat) (c : Int) (a2 : Int) (X2 Z2 : Nat) (c2 : Int) : Prop where
  nm : NrmAt dx dy p q s u a X Z c
  rt : RootAt s a2 X2 Z2 c2
  w : slpW dx dy = rootW s
  lt : rootW s < 4294967296

theorem root_lt {x : Nat} {a c : Int} {X Z : Nat} (R : RootAt x a X Z c) : rootW x < 4294967296 := by
  have h := R.dn
  unfold floatToFloatBits at h
  rw [if_neg (by decide)] at h
  split at h
  · cases h
  · rw [← Option.some.inj h]; exact Ieee.Format.write_lt Ieee.single _
  · split at h
    · cases h
    · rw [← Option.some.inj h]; exact Ieee.Format.write_lt Ieee.single _

theorem slp_parts {dx dy : Nat} (hx : Bd 21 dx) (hy : Bd 21 dy) : ∃ p q s u a X Z c a2 X2 Z2 c2, SlpAt dx dy p q s u a X Z c a2 X2 Z2 c2 := by
  obtain ⟨p, q, s, u, a, X, Z, c, N⟩ := nrm_parts hx hy
  obtain ⟨B, hB⟩ : ∃ B : Nat, B = 1150 := ⟨_, rfl⟩
  obtain ⟨ap, vp, p0⟩ := square_nn (B := B) hx N.p1 (by omega) (by omega)
  obtain ⟨aq, vq, q0⟩ := square_nn (B := B) hy N.q1 (by omega) (by omega)
  obtain ⟨_, e1, bp⟩ := same_ex N.p2
  rw [N.p1] at e1; have e1 := Option.some.inj e1; rw [← e1] at bp
  obtain ⟨_, e2, bq⟩ := same_ex N.q2
  rw [N.q1] at e2; have e2 := Option.some.inj e2; rw [← e2] at bq
  obtain ⟨_, e3, bs⟩ := same_ex N.s2
  rw [N.s1] at e3; have e3 := Option.some.inj e3; rw [← e3] at bs
  obtain ⟨J, hJ⟩ : ∃ J : Nat, J = 1074 := ⟨_, rfl⟩
  have up : ∀ {x k : Nat} {a : Int}, Bd k x → vS x = some a → k ≤ 60 → a.natAbs < 2 ^ (J + 61) := by
    intro x k a hb hv hk
    obtain ⟨a', h', l'⟩ := val_bd hb
    rw [hv] at h'
    have := Option.some.inj h'
    subst this
    rw [← hJ] at l'
    exact Nat.lt_of_le_of_lt l' (Nat.pow_lt_pow_right (by omega) (by omega))
  have l1 := up bp vp (by omega)
  have l2 := up bq vq (by omega)
  have vs : vS s = some (rdS (ap + aq)) := vS_add (B := J + 62) N.s1 vp vq (by rw [show J + 62 = J + 61 + 1 by omega, Nat.pow_succ]; generalize 2 ^ (J + 61) = T at *; omega) (by omega)
  obtain ⟨X2, Z2, c2, RT⟩ := root_parts vs (rdS_nonneg (by omega)) bs (by omega)
  exact ⟨p, q, s, u, a, X, Z, c, _, X2, Z2, c2, N, RT, by unfold slpW; rw [N.ws], root_lt RT⟩

/-- The curve. -/
def crvW (c n w e s : Nat) : Nat := subW (mulW (addW (addW (addW n s) e) w) 1048576000) c
structure CrvAt (c n w e s t1 t2 t3 m r : Nat) : Prop where
  a1 : floatBits .add .f32 n s = some t1
  a1' : Same2 .add 21 n s
  a2 : floatBits .add .f32 t1 e = some t2
  a2' : Same2 .add 22 t1 e
  a3 : floatBits .add .f32 t2 w = some t3
  a3' : Same2 .add 23 t2 w
  m1 : floatBits .mul .f32 t3 1048576000 = some m
  m1' : Same2 .mul 23 t3 1048576000
  d1 : floatBits .sub .f32 m c = some r
  d1' : Same2 .sub 24 m c
  w : crvW c n w e s = r
  lt : r < 4294967296
theorem vS_quart {j : Nat} (hj : j = 1072) : vS 1048576000 = some ((2 ^ j : Nat) : Int) := by
  have r : Ieee.single.read 1048576000 = .number false 8388608 (-25) := by decide
  have := vS_lit (t := 1) (k := 23) (j := j) r (by decide) (by omega)
  simpa using this
theorem bd_quart : Bd 0 1048576000 := by
  obtain ⟨J, hJ⟩ : ∃ J : Nat, J = 1074 := ⟨_, rfl⟩
  exact bd_val' (j := J) (vS_quart (j := J - 2) (by omega)) (by omega) (by rw [Int.natAbs_natCast]; exact Nat.pow_le_pow_right (by omega) (by omega))
theorem crv_parts {c n w e s : Nat} (hc : hgtB c = true) (hn : hgtB n = true) (hw : hgtB w = true) (he : hgtB e = true) (hs : hgtB s = true) : ∃ t1 t2 t3 m r, CrvAt c n w e s t1 t2 t3 m r := by
  have a1 : Same2 .add 21 n s := add_same (k := 20) (by omega) (hgt_bd hn) (hgt_bd hs)
  obtain ⟨t1, e1, b1⟩ := same_ex a1
  have a2 : Same2 .add 22 t1 e := add_same (k := 21) (by omega) b1 (bd_up (hgt_bd he) (by omega))
  obtain ⟨t2, e2, b2⟩ := same_ex a2
  have a3 : Same2 .add 23 t2 w := add_same (k := 22) (by omega) b2 (bd_up (hgt_bd hw) (by omega))
  obtain ⟨t3, e3, b3⟩ := same_ex a3
  have m1 : Same2 .mul (23 + 0) t3 1048576000 := mul_same (by omega) b3 bd_quart
  obtain ⟨m, e4, b4⟩ := same_ex m1
  have d1 : Same2 .sub 24 m c := sub_same (k := 23) (by omega) b4 (bd_up (hgt_bd hc) (by omega))
  obtain ⟨r, e5, _⟩ := same_ex d1
  refine ⟨t1, t2, t3, m, r, e1, a1, e2, a2, e3, a3, e4, m1, e5, d1, ?_, sub_lt e5⟩
  unfold crvW addW
  rw [e1]
  show subW (mulW ((floatBits .add .f32 ((floatBits .add .f32 t1 e).getD 0) w).getD 0) 1048576000) c = r
  rw [e2]
  show subW (mulW ((floatBits .add .f32 t2 w).getD 0) 1048576000) c = r
  rw [e3]
  unfold mulW
  show subW ((floatBits .mul .f32 t3 1048576000).getD 0) c = r
  rw [e4]
  unfold subW
  show (floatBits .sub .f32 m c).getD 0 = r
  rw [e5]; rfl

/-- A single without its sign. -/
def absW (v : Nat) : Nat := v % 2147483648
theorem sign_low {v : Nat} {a : Int} (h : v < 2147483648) (hv : vS v = some a) : 0 ≤ a := by
  obtain ⟨s, m, p, e, rfl⟩ := vS_some hv
  have hs : s = false := by
    unfold Ieee.Format.read at e
    simp only [swS, show v / 2147483648 = 0 by omega] at e
    split at e
    · cases e; rfl
    · split at e
      · cases e; rfl
      · split at e <;> cases e
  subst hs
  rw [vOf_mag, if_neg (by simp)]
  have : (0 : Int) ≤ ((m * 2 ^ (p + 1074).toNat : Nat) : Int) := Int.natCast_nonneg _
  omega
theorem neg_low {v : Nat} (h : 2147483648 ≤ v) (h2 : v < 4294967296) : negW v = absW v := by
  unfold negW absW
  rw [xor31 h2, if_neg (by omega)]; omega
theorem sign_high {v : Nat} {a : Int} (h : 2147483648 ≤ v) (h2 : v < 4294967296) (hv : vS v = some a) : a ≤ 0 := by
  have e := neg_low h h2
  have n := neg_val h2 hv
  rw [e] at n
  have := sign_low (by unfold absW; omega) n
  omega
theorem abs_bd {v k : Nat} (h2 : v < 4294967296) (hb : Bd k v) : Bd k (absW v) := by
  rcases Nat.lt_or_ge v 2147483648 with c | c
  · rw [show absW v = v by unfold absW; omega]; exact hb
  · rw [← neg_low c h2]; exact neg_bd h2 hb

theorem read_sign (v : Nat) : (Ieee.single.read v).neg = (v / 2147483648 % 2 == 1) := by
  unfold Ieee.Format.read
  simp only [swS]
  repeat' split
  all_goals rfl

/-- The builtin max of a single and of its opposite. -/
theorem run_max_neg (ts : Array TypeId) (t : TypeId) (x : Nat) {a : Int} (hx : x < 4294967296) (hv : vS x = some a) (w : World) :
    (Builtin.max_ ts t #[.float .f32 x, .float .f32 (negW x)]).run Try.prog w = .ok (.float .f32 (absW x)) w := by
  have o := order_val hv (neg_val hx hv)
  have o' : FloatKind.f32.format.order x (negW x) = some (compare a (-a)) := o
  show (([Value.float .f32 (negW x)]).foldlM Builtin.max2 (Value.float .f32 x)).run Try.prog w = _
  simp only [List.foldlM]
  have m : Builtin.max2 (.float .f32 x) (.float .f32 (negW x)) = pure (.float .f32 (absW x)) := by
    unfold Builtin.max2
    dsimp only
    rw [o']
    rcases Nat.lt_or_ge x 2147483648 with c | c
    · have a0 := sign_low c hv
      have ex : absW x = x := by unfold absW; omega
      rcases h : compare a (-a) with _ | _ | _
      · have : a < -a := Int.compare_eq_lt.1 h
        omega
      · have hd : (FloatKind.f32.decode x).neg = false := by
          show (Ieee.single.read x).neg = false
          rw [read_sign, show x / 2147483648 = 0 by omega]; rfl
        dsimp only
        rw [hd, ex]; rfl
      · dsimp only
        rw [ex]
    · have a0 := sign_high c hx hv
      have ex := neg_low c hx
      rcases h : compare a (-a) with _ | _ | _
      · dsimp only
        rw [ex]
      · have hd : (FloatKind.f32.decode x).neg = true := by
          show (Ieee.single.read x).neg = true
          rw [read_sign, show x / 2147483648 = 1 by omega]; rfl
        dsimp only
        rw [hd, ← ex]; rfl
      · have : -a < a := Int.compare_eq_gt.1 h
        omega
  rw [m]
  rfl
end Go.Proofs.Ytkjpjppfmfifeaa

/- The closures of Shade on both sides. -/
namespace Go.Proofs.Ytkjpjppfmfifeaa
open Go.RowKit Fl
set_option linter.unusedVariables false

/-- An integer in a box. -/
abbrev inObj (z : Int) : Obj := .cells #[.int .i64 z] 3
/-- What Shade makes of the cell number j of the region without the rim; i is the cell's number in the field. -/
def shaW (M : Nat) (lx ly lz : Int) (v : Nat → Nat) (W i : Nat) : Nat := shdW (litW M lx ly lz (riseW (v (i + 1)) (v (i - 1))) (riseW (v (i + W)) (v (i - W))))
def rimI (W : Nat) (j : Nat) : Nat := (j / (W - 2) + 1) * W + (j % (W - 2) + 1)
def shaF (M : Nat) (lx ly lz : Int) (v : Nat → Nat) (W : Nat) (j : Nat) : Nat := shaW M lx ly lz v W (rimI W j)

structure ShaAt (M : Nat) (lx ly lz : Int) (v : Nat → Nat) (W i p q u m : Nat) (a : Int) (X Z : Nat) (c : Int) (nx ny nz e f s d t r : Nat) : Prop where
  nm : NrmAt (riseW (v (i + 1)) (v (i - 1))) (riseW (v (i + W)) (v (i - W))) p q u m a X Z c
  lt : LitAt M lx ly lz (riseW (v (i + 1)) (v (i - 1))) (riseW (v (i + W)) (v (i - W))) (rootW m) nx ny nz e f s d t r
  w : shaW M lx ly lz v W i = shdW r

theorem sha_parts {M : Nat} {lx ly lz : Int} {v : Nat → Nat} {X Y : Int} {W H n i : Nat} {x y : Int} (hh : allB n (fun i => hgtB (v i)) = true) (I : InCell X Y W H n i x y) (hM : LenOk M) (l1 : lx.natAbs ≤ 1000) (l2 : ly.natAbs ≤ 1000) (l3 : lz.natAbs ≤ 1000) :
    ∃ p q u m a X' Z c nx ny nz e f s d t r, ShaAt M lx ly lz v W i p q u m a X' Z c nx ny nz e f s d t r := by
  obtain ⟨_, r1, A⟩ := rise_parts (allB_iff.1 hh _ I.a3) (allB_iff.1 hh _ I.a4)
  obtain ⟨_, r2, B⟩ := rise_parts (allB_iff.1 hh _ I.a2) (allB_iff.1 hh _ I.a1)
  have bx : Bd 21 (riseW (v (i + 1)) (v (i - 1))) := by rw [A.w]; exact A.bd
  have by' : Bd 21 (riseW (v (i + W)) (v (i - W))) := by rw [B.w]; exact B.bd
  have lx' : riseW (v (i + 1)) (v (i - 1)) < 4294967296 := by rw [A.w]; exact A.lt
  have ly' : riseW (v (i + W)) (v (i - W)) < 4294967296 := by rw [B.w]; exact B.lt
  obtain ⟨p, q, u, m, a, X', Z, c, N⟩ := nrm_parts bx by'
  obtain ⟨nx, ny, nz, e, f, s, d, t, r, L⟩ := lit_parts bx by' lx' ly' N.w N.rt.val N.c1 hM l1 l2 l3
  exact ⟨p, q, u, m, a, X', Z, c, nx, ny, nz, e, f, s, d, t, r, N, L, by unfold shaW; rw [L.w]⟩

/-- What Shade's closures hold: the field, the direction, its length. -/
structure ShCaps (w : World) (X Y : Int) (W H n b cap : Nat) (v : Nat → Nat) (p pm : Nat) (lx ly lz : Int) (M : Nat) : Prop where
  fld : w.heap[p]? = some (fldO X Y W H (.slice (some ⟨b, 0, none⟩) n cap))
  k1 : w.heap[p + 1]? = some (inObj lx)
  k2 : w.heap[p + 1 + 1]? = some (inObj ly)
  k3 : w.heap[p + 1 + 1 + 1]? = some (inObj lz)
  km : w.heap[pm]? = some (flObj M)
  row : FlAt w b 0 n v
theorem ShCaps.stay {w w' : World} {X Y : Int} {W H n b cap : Nat} {v : Nat → Nat} {p pm : Nat} {lx ly lz : Int} {M : Nat} (h : ShCaps w X Y W H n b cap v p pm lx ly lz M) (hn : 1 ≤ n) (hb : Below w.heap.size w w') : ShCaps w' X Y W H n b cap v p pm lx ly lz M :=
  ⟨blkStay h.fld hb, blkStay h.k1 hb, blkStay h.k2 hb, blkStay h.k3 hb, blkStay h.km hb, flAt_congr h.row (hb.block _ (World.block_lt_of_cell? w _ (h.row 0 hn)))⟩

theorem rim_num {X Y x y : Int} {W j : Nat} (hW : 3 ≤ W) (h1 : X + 1 ≤ x) (h2 : x < X + 1 + ((W : Int) - 2)) (h3 : Y + 1 ≤ y) (hj : (j : Int) = (y - (Y + 1)) * ((W : Int) - 2) + (x - (X + 1))) : ((rimI W j : Nat) : Int) = (y - Y) * W + (x - X) := by
  obtain ⟨W2, e2⟩ : ∃ W2 : Nat, W2 = W - 2 := ⟨_, rfl⟩
  have e3 : ((W : Int) - 2) = (W2 : Int) := by omega
  rw [e3] at hj h2
  obtain ⟨ex, ey⟩ := place_of (X := X + 1) (Y := Y + 1) (x := x) (y := y) (W := W2) (i := j) (by omega) h1 h2 h3 hj
  unfold rimI
  rw [← e2]
  have : (((j / W2 + 1) * W + (j % W2 + 1) : Nat) : Int) = (((j / W2 : Nat) : Int) + 1) * W + (((j % W2 : Nat) : Int) + 1) := by simp
  rw [this, show ((j / W2 : Nat) : Int) + 1 = y - Y by omega, show ((j % W2 : Nat) : Int) + 1 = x - X by omega]

end Go.Proofs.Ytkjpjppfmfifeaa

/- The reference's closure of Shade; directions and their lengths. -/
namespace Go.Proofs.Ytkjpjppfmfifeaa
open Go.RowKit Fl
set_option linter.unusedVariables false

/-- Three integers, as a list. -/
def zI (a b c : Int) (m : Nat) : Int := if m = 0 then a else if m = 1 then b else c
abbrev dirObj (a b c : Int) : Obj := .cells #[.int .i64 a, .int .i64 b, .int .i64 c] 3
theorem zI_cell {w : World} {k : Nat} {a b c : Int} (h : w.heap[k]? = some (dirObj a b c)) (j : Nat) (hj : j < 3) : w.cell? ⟨k, j, none⟩ = some (.int .i64 (zI a b c j)) := by
  rw [(blkC h).1 j]
  have : j = 0 ∨ j = 1 ∨ j = 2 := by omega
  rcases this with rfl | rfl | rfl <;> rfl
/-- The error of a direction. -/
def dirE (a b c : Int) : Int := if withinB a (-1000) 1000 = true ∧ withinB b (-1000) 1000 = true ∧ withinB c (-1000) 1000 = true then (if a = 0 ∧ b = 0 ∧ c = 0 then 12 else 0) else 3

end Go.Proofs.Ytkjpjppfmfifeaa

/- The length of a direction; the reference's error of a direction. -/
namespace Go.Proofs.Ytkjpjppfmfifeaa
open Go.RowKit Fl
set_option linter.unusedVariables false

def sq3 (a b c : Int) : Int := a * a + b * b + c * c
def lenW (a b c : Int) : Nat := rootW (floatOfInt .f32 (sq3 a b c))
theorem sq_small {d : Int} (h : d.natAbs ≤ 1000) : 0 ≤ d * d ∧ d * d ≤ 1000000 := by
  rw [← Int.natAbs_mul_self' d]
  have l : d.natAbs * d.natAbs ≤ 1000 * 1000 := Nat.mul_le_mul h h
  have e : ((d.natAbs : Int) * (d.natAbs : Int)) = ((d.natAbs * d.natAbs : Nat) : Int) := by simp
  rw [e]; omega
theorem sq_pos {d : Int} (h : d ≠ 0) : 1 ≤ d * d := by
  rw [← Int.natAbs_mul_self' d]
  have : 0 < d.natAbs * d.natAbs := Nat.mul_pos (by omega) (by omega)
  have e : ((d.natAbs : Int) * (d.natAbs : Int)) = ((d.natAbs * d.natAbs : Nat) : Int) := by simp
  rw [e]; omega

theorem dir_ok {a b c : Int} (h : dirE a b c = 0) : a.natAbs ≤ 1000 ∧ b.natAbs ≤ 1000 ∧ c.natAbs ≤ 1000 ∧ 1 ≤ sq3 a b c := by
  unfold dirE at h
  split at h
  · rename_i q
    obtain ⟨q1, q2, q3⟩ := q
    have w1 := withinB_iff.1 q1
    have w2 := withinB_iff.1 q2
    have w3 := withinB_iff.1 q3
    have l1 : a.natAbs ≤ 1000 := by omega
    have l2 : b.natAbs ≤ 1000 := by omega
    have l3 : c.natAbs ≤ 1000 := by omega
    have s1 := sq_small l1
    have s2 := sq_small l2
    have s3 := sq_small l3
    refine ⟨l1, l2, l3, ?_⟩
    unfold sq3
    split at h
    · cases h
    · rename_i nz
      by_cases za : a = 0
      · by_cases zb : b = 0
        · have := sq_pos (show c ≠ 0 from fun z => nz ⟨za, zb, z⟩); omega
        · have := sq_pos zb; omega
      · have := sq_pos za; omega
  · cases h

theorem dir_len {a b c : Int} (l1 : a.natAbs ≤ 1000) (l2 : b.natAbs ≤ 1000) (l3 : c.natAbs ≤ 1000) (p : 1 ≤ sq3 a b c) : (∃ X Z cc, RootAt (floatOfInt .f32 (sq3 a b c)) (sq3 a b c * (one : Int)) X Z cc) ∧ LenOk (lenW a b c) := by
  have s1 := sq_small l1
  have s2 := sq_small l2
  have s3 := sq_small l3
  have hs : sq3 a b c ≤ 3000000 := by unfold sq3; omega
  have hp : (0 : Int) < (one : Int) := Int.natCast_pos.2 one_pos
  obtain ⟨vn, bn⟩ := int_val (n := sq3 a b c) (by omega)
  obtain ⟨X, Z, cc, RT⟩ := root_parts vn (Int.mul_nonneg (by omega) (by omega)) bn (by omega)
  refine ⟨⟨X, Z, cc, RT⟩, cc, RT.val, ?_⟩
  have := RT.lo 1 (by omega) (by
    have := Int.mul_le_mul_of_nonneg_right p (show (0 : Int) ≤ (one : Int) by omega)
    simpa using this)
  simpa using this

end Go.Proofs.Ytkjpjppfmfifeaa

/- Shade of the program, of a right field. -/
namespace Go.Proofs.Ytkjpjppfmfifeaa
open Go.RowKit Fl
set_option linter.unusedVariables false

end Go.Proofs.Ytkjpjppfmfifeaa

/- Shade of the program, of a right field that has a rim, and a right direction. -/
namespace Go.Proofs.Ytkjpjppfmfifeaa
open Go.RowKit Fl
set_option linter.unusedVariables false

theorem rim_check {X Y : Int} {W H W2 H2 : Nat} (h0 : checkR X Y W H = 0) (eW : W = W2 + 2) (eH : H = H2 + 2) (w1 : 1 ≤ W2) (h1 : 1 ≤ H2) : checkR (X + 1) (Y + 1) W2 H2 = 0 := by
  obtain ⟨b1, b2, b3, b4, b5, b6, b7, b8, b9⟩ := checkR_zero h0
  have m : W2 * H2 ≤ W * H := Nat.mul_le_mul (by omega) (by omega)
  have m' : ((W2 : Int) * (H2 : Int)) ≤ (W : Int) * (H : Int) := by
    have : ((W2 * H2 : Nat) : Int) ≤ ((W * H : Nat) : Int) := Int.ofNat_le.2 m
    simpa using this
  unfold checkR
  rw [if_neg (by omega), if_neg (by omega), if_neg (by omega)]

end Go.Proofs.Ytkjpjppfmfifeaa

/- Contracts: slope and curve of a cell, and look, of the program. -/
namespace Go.Proofs.Ytkjpjppfmfifeaa
open Go.RowKit Fl
set_option linter.unusedVariables false

/-- A function of a cell with its four neighbours. -/
def At5 (g : Nat) (F : Nat → Nat → Nat → Nat → Nat → Nat) : Prop :=
  ∀ (c n ww e s : Nat) (w : World), hgtB c = true → hgtB n = true → hgtB ww = true → hgtB e = true → hgtB s = true →
    Calls Try.prog g #[crossV c n ww e s] w fun e' w' => e' = .returned (.float .f32 (F c n ww e s)) ∧ Below w.heap.size w w'
/-- .. on the rim's inside. -/
def rimF (F : Nat → Nat → Nat → Nat → Nat → Nat) (v : Nat → Nat) (W j : Nat) : Nat := F (v (rimI W j)) (v (rimI W j - W)) (v (rimI W j - 1)) (v (rimI W j + 1)) (v (rimI W j + W))

abbrev atObj (g : Nat) : Obj := .cells #[.func (.func g) #[] #[]] 120

def slpF (c n ww e s : Nat) : Nat := slpW (riseW e ww) (riseW s n)
end Go.Proofs.Ytkjpjppfmfifeaa

/- Shade of the reference, of a right field that has a rim, and a right direction. -/
namespace Go.Proofs.Ytkjpjppfmfifeaa
open Go.RowKit Fl
set_option linter.unusedVariables false

/-- Every value of a shade is told by its lit word. -/
theorem sha_all {X Y : Int} {W H n W2 H2 : Nat} {v : Nat → Nat} {M : Nat} {lx ly lz : Int} (hn : n = H * W) (hh : allB n (fun i => hgtB (v i)) = true) (eW : W = W2 + 2) (eH : H = H2 + 2) (w1 : 1 ≤ W2) (hM : LenOk M) (l1 : lx.natAbs ≤ 1000) (l2 : ly.natAbs ≤ 1000) (l3 : lz.natAbs ≤ 1000) (j : Nat) (hj : j < H2 * W2) :
    ∃ r a, shaF M lx ly lz v W j = shdW r ∧ vS r = some a ∧ r < 4294967296 := by
  have q1 : j % W2 < W2 := Nat.mod_lt _ (by omega)
  have q2 : j / W2 < H2 := Nat.div_lt_of_lt_mul (by rw [Nat.mul_comm]; exact hj)
  have e1 : (W - 2 : Nat) = W2 := by omega
  obtain ⟨p1, hp1⟩ : ∃ p, j % W2 = p := ⟨_, rfl⟩
  obtain ⟨p2, hp2⟩ : ∃ p, j / W2 = p := ⟨_, rfl⟩
  rw [hp1] at q1
  rw [hp2] at q2
  have hi : ((rimI W j : Nat) : Int) = ((Y + 1 + ((p2 : Nat) : Int)) - Y) * W + ((X + 1 + ((p1 : Nat) : Int)) - X) := by
    unfold rimI
    rw [e1, hp1, hp2]
    have : (((p2 + 1) * W + (p1 + 1) : Nat) : Int) = (((p2 : Nat) : Int) + 1) * W + (((p1 : Nat) : Int) + 1) := by simp
    rw [this, show (Y + 1 + ((p2 : Nat) : Int)) - Y = ((p2 : Nat) : Int) + 1 by omega, show (X + 1 + ((p1 : Nat) : Int)) - X = ((p1 : Nat) : Int) + 1 by omega]
  have I := in_cell hn (by omega) (show X + 1 + ((p1 : Nat) : Int) + 1 < X + W by omega) (by omega) (show Y + 1 + ((p2 : Nat) : Int) + 1 < Y + H by omega) hi
  obtain ⟨pp, q, u, m, a, X', Z, c, nx, ny, nz, e, f, s, d, t, r, S⟩ := sha_parts hh I hM l1 l2 l3
  obtain ⟨a', ha⟩ := S.lt.v
  exact ⟨r, a', S.w, ha, S.lt.lt⟩

end Go.Proofs.Ytkjpjppfmfifeaa

/- Slope and Curve of the reference. -/
namespace Go.Proofs.Ytkjpjppfmfifeaa
open Go.RowKit Fl
set_option linter.unusedVariables false

/-- A cell of the rim's inside, by its number there. -/
theorem rim_cell {X Y : Int} {W H n W2 H2 : Nat} (hn : n = H * W) (eW : W = W2 + 2) (eH : H = H2 + 2) (w1 : 1 ≤ W2) (j : Nat) (hj : j < H2 * W2) : ∃ x y, InCell X Y W H n (rimI W j) x y := by
  have q1 : j % W2 < W2 := Nat.mod_lt _ (by omega)
  have q2 : j / W2 < H2 := Nat.div_lt_of_lt_mul (by rw [Nat.mul_comm]; exact hj)
  have e1 : (W - 2 : Nat) = W2 := by omega
  obtain ⟨p1, hp1⟩ : ∃ p, j % W2 = p := ⟨_, rfl⟩
  obtain ⟨p2, hp2⟩ : ∃ p, j / W2 = p := ⟨_, rfl⟩
  rw [hp1] at q1
  rw [hp2] at q2
  have hi : ((rimI W j : Nat) : Int) = ((Y + 1 + ((p2 : Nat) : Int)) - Y) * W + ((X + 1 + ((p1 : Nat) : Int)) - X) := by
    unfold rimI
    rw [e1, hp1, hp2]
    have : (((p2 + 1) * W + (p1 + 1) : Nat) : Int) = (((p2 : Nat) : Int) + 1) * W + (((p1 : Nat) : Int) + 1) := by simp
    rw [this, show (Y + 1 + ((p2 : Nat) : Int)) - Y = ((p2 : Nat) : Int) + 1 by omega, show (X + 1 + ((p1 : Nat) : Int)) - X = ((p1 : Nat) : Int) + 1 by omega]
  exact ⟨_, _, in_cell hn (by omega) (show X + 1 + ((p1 : Nat) : Int) + 1 < X + W by omega) (by omega) (show Y + 1 + ((p2 : Nat) : Int) + 1 < Y + H by omega) hi⟩

theorem slp_lt {c n ww e s : Nat} (hn : hgtB n = true) (hw : hgtB ww = true) (he : hgtB e = true) (hs : hgtB s = true) : slpF c n ww e s < 4294967296 := by
  obtain ⟨d, r, A⟩ := rise_parts he hw
  obtain ⟨d', r', B⟩ := rise_parts hs hn
  obtain ⟨p, q, t, u, a, X, Z, cc, a2, X2, Z2, c2, S⟩ := slp_parts (dx := riseW e ww) (dy := riseW s n) (by rw [A.w]; exact A.bd) (by rw [B.w]; exact B.bd)
  unfold slpF; rw [S.w]; exact S.lt
theorem crv_lt {c n ww e s : Nat} (hc : hgtB c = true) (hn : hgtB n = true) (hw : hgtB ww = true) (he : hgtB e = true) (hs : hgtB s = true) : crvW c n ww e s < 4294967296 := by
  obtain ⟨t1, t2, t3, m, r, C⟩ := crv_parts hc hn hw he hs
  rw [C.w]; exact C.lt

end Go.Proofs.Ytkjpjppfmfifeaa

/- A step of smoothing of a cell: words and bounds; the program's and the reference's cell. -/
namespace Go.Proofs.Ytkjpjppfmfifeaa
open Go.RowKit Fl
set_option linter.unusedVariables false

/-- A cell behind a step of smoothing. -/
def smoW (c n w e s : Nat) : Nat := subW (addW c (mulW (addW (addW n w) (addW e s)) 1040187392)) (mulW c 1056964608)
structure SmoAt (k : Nat) (c n w e s t1 t2 t3 m t4 h r : Nat) : Prop where
  a1 : floatBits .add .f32 n w = some t1
  a1' : Same2 .add (k + 1) n w
  a2 : floatBits .add .f32 e s = some t2
  a2' : Same2 .add (k + 1) e s
  a3 : floatBits .add .f32 t1 t2 = some t3
  a3' : Same2 .add (k + 2) t1 t2
  m1 : floatBits .mul .f32 t3 1040187392 = some m
  m1' : Same2 .mul (k + 2) t3 1040187392
  a4 : floatBits .add .f32 c m = some t4
  a4' : Same2 .add (k + 3) c m
  h1 : floatBits .mul .f32 c 1056964608 = some h
  h1' : Same2 .mul k c 1056964608
  d1 : floatBits .sub .f32 t4 h = some r
  d1' : Same2 .sub (k + 4) t4 h
  w : smoW c n w e s = r
  bd : Bd (k + 4) r
  lt : r < 4294967296
theorem vS_eighth {j : Nat} (hj : j = 1071) : vS 1040187392 = some ((2 ^ j : Nat) : Int) := by
  have r : Ieee.single.read 1040187392 = .number false 8388608 (-26) := by decide
  have := vS_lit (t := 1) (k := 23) (j := j) r (by decide) (by omega)
  simpa using this
theorem bd_eighth : Bd 0 1040187392 := by
  obtain ⟨J, hJ⟩ : ∃ J : Nat, J = 1074 := ⟨_, rfl⟩
  exact bd_val' (j := J) (vS_eighth (j := J - 3) (by omega)) (by omega) (by rw [Int.natAbs_natCast]; exact Nat.pow_le_pow_right (by omega) (by omega))
theorem smo_parts {k c n w e s : Nat} (hk : k ≤ 110) (hc : Bd k c) (hn : Bd k n) (hw : Bd k w) (he : Bd k e) (hs : Bd k s) : ∃ t1 t2 t3 m t4 h r, SmoAt k c n w e s t1 t2 t3 m t4 h r := by
  have a1 : Same2 .add (k + 1) n w := add_same (k := k) (by omega) hn hw
  obtain ⟨t1, e1, b1⟩ := same_ex a1
  have a2 : Same2 .add (k + 1) e s := add_same (k := k) (by omega) he hs
  obtain ⟨t2, e2, b2⟩ := same_ex a2
  have a3 : Same2 .add (k + 2) t1 t2 := add_same (k := k + 1) (by omega) b1 b2
  obtain ⟨t3, e3, b3⟩ := same_ex a3
  have m1 : Same2 .mul (k + 2 + 0) t3 1040187392 := mul_same (by omega) b3 bd_eighth
  obtain ⟨m, e4, b4⟩ := same_ex m1
  have a4 : Same2 .add (k + 3) c m := add_same (k := k + 2) (by omega) (bd_up hc (by omega)) b4
  obtain ⟨t4, e5, b5⟩ := same_ex a4
  have h1 : Same2 .mul (k + 0) c 1056964608 := mul_same (by omega) hc bd_half
  obtain ⟨h, e6, b6⟩ := same_ex h1
  have d1 : Same2 .sub (k + 4) t4 h := sub_same (k := k + 3) (by omega) b5 (bd_up b6 (by omega))
  obtain ⟨r, e7, b7⟩ := same_ex d1
  refine ⟨t1, t2, t3, m, t4, h, r, e1, a1, e2, a2, e3, a3, e4, m1, e5, a4, e6, h1, e7, d1, ?_, b7, sub_lt e7⟩
  have w1 : addW n w = t1 := by unfold addW; rw [e1]; rfl
  have w2 : addW e s = t2 := by unfold addW; rw [e2]; rfl
  have w3 : addW t1 t2 = t3 := by unfold addW; rw [e3]; rfl
  have w4 : mulW t3 1040187392 = m := by unfold mulW; rw [e4]; rfl
  have w5 : addW c m = t4 := by unfold addW; rw [e5]; rfl
  have w6 : mulW c 1056964608 = h := by unfold mulW; rw [e6]; rfl
  unfold smoW
  rw [w1, w2, w3, w4, w5, w6]
  unfold subW; rw [e7]; rfl

/-- A function of a cell with its four neighbours, in worlds behind w0; it makes values d bits greater at most. -/
structure AtK (g : Nat) (caps : Array Value) (F : Nat → Nat → Nat → Nat → Nat → Nat) (d : Nat) (w0 : World) : Prop where
  run : ∀ (k c n ww e s : Nat) (w : World), 20 ≤ k ∧ k ≤ 100 → Bd k c → Bd k n → Bd k ww → Bd k e → Bd k s → Below w0.heap.size w0 w →
    Calls Try.prog g (#[crossV c n ww e s] ++ caps) w fun e' w' => e' = .returned (.float .f32 (F c n ww e s)) ∧ Below w.heap.size w w'
  bd : ∀ (k c n ww e s : Nat), 20 ≤ k ∧ k ≤ 100 → Bd k c → Bd k n → Bd k ww → Bd k e → Bd k s → Bd (k + d) (F c n ww e s) ∧ F c n ww e s < 4294967296
theorem AtK.stay {g : Nat} {caps : Array Value} {F : Nat → Nat → Nat → Nat → Nat → Nat} {d : Nat} {w0 w1 : World} (h : AtK g caps F d w0) (hb : Below w0.heap.size w0 w1) : AtK g caps F d w1 :=
  ⟨fun k c n ww e s w hk h1 h2 h3 h4 h5 h6 => h.run k c n ww e s w hk h1 h2 h3 h4 h5 (hb.trans (h6.mono hb.size)), h.bd⟩
/-- A row of values of at most k bits. -/
def Row (k n : Nat) (v : Nat → Nat) : Prop := ∀ i, i < n → Bd k (v i) ∧ v i < 4294967296
theorem row_of_heights {n : Nat} {v : Nat → Nat} (hh : allB n (fun i => hgtB (v i)) = true) (wv : wf32 n v) : Row 20 n v := fun i hi => ⟨hgt_bd (allB_iff.1 hh i hi), wv i hi⟩
/-- .. behind a step. -/
theorem row_step {k d : Nat} {X Y : Int} {W H n W2 H2 : Nat} {v : Nat → Nat} {F : Nat → Nat → Nat → Nat → Nat → Nat} (hF : ∀ (k c n ww e s : Nat), 20 ≤ k ∧ k ≤ 100 → Bd k c → Bd k n → Bd k ww → Bd k e → Bd k s → Bd (k + d) (F c n ww e s) ∧ F c n ww e s < 4294967296)
    (hk : 20 ≤ k ∧ k ≤ 100) (hn : n = H * W) (eW : W = W2 + 2) (eH : H = H2 + 2) (w1 : 1 ≤ W2) (hv : Row k n v) : Row (k + d) (H2 * W2) (rimF F v W) := fun j hj => by
  obtain ⟨x, y, I⟩ := rim_cell (X := X) (Y := Y) hn eW eH w1 j hj
  exact hF k _ _ _ _ _ hk (hv _ I.a0).1 (hv _ I.a1).1 (hv _ I.a4).1 (hv _ I.a3).1 (hv _ I.a2).1

theorem enters_step1 : Enters 136 := by intro args W; simp [callFunc, Try.func136, Try.f136]
abbrev nxtObj (g : Nat) (caps : Array Value) : Obj := .cells #[.func (.func g) #[] caps] 120

set_option maxHeartbeats 4000000 in
set_option maxRecDepth 100000 in
theorem step1_any (X Y : Int) (W H n b cap k d : Nat) (v : Nat → Nat) (p q g : Nat) (caps : Array Value) (F : Nat → Nat → Nat → Nat → Nat → Nat) (w : World) (hg : AtK g caps F d w) (hcall : Enters g) (hp : w.heap[p]? = some (fldO X Y W H (.slice (some ⟨b, 0, none⟩) n cap))) (hq : w.heap[q]? = some (nxtObj g caps)) (hr : FlAt w b 0 n v)
    (h0 : checkR X Y W H = 0) (hn : n = H * W) (hcap : n ≤ cap) (hcp : cap ≤ 9223372036854775807) (hk : 20 ≤ k ∧ k ≤ 100) (hv : Row k n v) (hW : 3 ≤ W) (hH : 3 ≤ H) (x y : Int) (j : Nat) (w2 : World)
    (h1 : X + 1 ≤ x) (h2 : x < X + 1 + ((W : Int) - 2)) (h3 : Y + 1 ≤ y) (h4 : y < Y + 1 + ((H : Int) - 2)) (hj : (j : Int) = (y - (Y + 1)) * ((W : Int) - 2) + (x - (X + 1))) (hb : Below w.heap.size w w2) :
    Calls Try.prog 136 #[.int .i64 x, .int .i64 y, .pointer (some ⟨q, 0, none⟩), .pointer (some ⟨p, 0, none⟩)] w2 fun e w' => e = .returned (.float .f32 (rimF F v W j)) ∧ Below w2.heap.size w2 w' := by
  have n1 : 1 ≤ n := by rw [hn]; exact Nat.mul_pos (by omega) (by omega)
  have hr2 := flAt_congr hr (hb.block _ (World.block_lt_of_cell? w _ (hr 0 n1)))
  have hi := rim_num hW h1 h2 h3 hj
  unfold rimF
  obtain ⟨i, hi'⟩ : ∃ i, rimI W j = i := ⟨_, rfl⟩
  rw [hi'] at hi ⊢
  have I := in_cell hn h1 (show x + 1 < X + W by omega) h3 (show y + 1 < Y + H by omega) hi
  have zb : b < w2.heap.size := World.block_lt_of_cell? w2 _ (hr2 i I.a0)
  have CA := Lib.hid (fun W' (hb : Below w2.heap.size w2 W') => crossAt_any X Y W H n b cap i v x y W' h0 hn hcap hcp (flAt_congr hr2 (hb.block _ zb)) I.h1 I.h2 I.h3 I.h4 I.hi)
  have NO := Lib.hid (fun w (hB : Below w2.heap.size w2 w) => (hg.stay hb).run k (v i) (v (i - W)) (v (i - 1)) (v (i + 1)) (v (i + W)) w hk (hv _ I.a0).1 (hv _ I.a1).1 (hv _ I.a4).1 (hv _ I.a3).1 (hv _ I.a2).1 hB)
  have GF := Lib.hid (blkStay hp hb)
  have GQ := Lib.hid (blkStay hq hb)
  obtain ⟨cF, fF, zF⟩ := blkC GF.out
  obtain ⟨cQ, fQ, zQ⟩ := blkC GQ.out
  unfold Enters at hcall
  clear hp hq hr h0 hn hcap hcp hv hW hH hb hi hi' I h1 h2 h3 h4 hj n1 hr2 hg zb
  generalize F (v i) (v (i - W)) (v (i - 1)) (v (i + 1)) (v (i + W)) = res at *
  generalize v i = v0 at *
  generalize v (i - W) = v1 at *
  generalize v (i + W) = v2 at *
  generalize v (i + 1) = v3 at *
  generalize v (i - 1) = v4 at *
  go_enter Try.func136, Try.ntmps136
  go_wp2
  go_region_held3 (fun w' => (∀ o, w'.cell? ⟨p, o, none⟩ = #[.int .i64 X, .int .i64 Y, .int .i64 W, .int .i64 H, .slice (some ⟨b, 0, none⟩) n cap][o]?) ∧ (∀ o, w'.cell? ⟨q, o, none⟩ = #[.func (.func g) #[] caps][o]?) ∧ Below w2.heap.size w2 w') (first | exact ⟨(blkC (blkStay GF.out hb9)).1, (blkC (blkStay GQ.out hb9)).1, hb9⟩ | exact ⟨(blkC (blkStay GF.out (by repeat (first | exact Below.refl _ _ | refine Below.alloc ?_ (by first | omega | (simp; done) | (simp; omega)) _ | refine Below.setCell ?_ (by first | omega | (simp; done) | (simp; omega)) _ | refine Below.drew ?_)))).1, (blkC (blkStay GQ.out (by repeat (first | exact Below.refl _ _ | refine Below.alloc ?_ (by first | omega | (simp; done) | (simp; omega)) _ | refine Below.setCell ?_ (by first | omega | (simp; done) | (simp; omega)) _ | refine Below.drew ?_)))).1, (by repeat (first | exact Below.refl _ _ | refine Below.alloc ?_ (by first | omega | (simp; done) | (simp; omega)) _ | refine Below.setCell ?_ (by first | omega | (simp; done) | (simp; omega)) _ | refine Below.drew ?_))⟩) (first | (go_at_call 137; (with_reducible refine Calls.mono (CA.out _ ?_) ?_); exact (by repeat (first | exact Below.refl _ _ | refine Below.alloc ?_ (by first | omega | (simp; done) | (simp; omega)) _ | refine Below.setCell ?_ (by first | omega | (simp; done) | (simp; omega)) _ | refine Below.drew ?_)); rintro e w' ⟨rfl, hb8⟩; have hb9 : Below w2.heap.size w2 w' := Below.trans (by first | exact hb9 | exact hb9.drew | exact (by repeat (first | exact Below.refl _ _ | refine Below.alloc ?_ (by first | omega | (simp; done) | (simp; omega)) _ | refine Below.setCell ?_ (by first | omega | (simp; done) | (simp; omega)) _ | refine Below.drew ?_))) (Below.mono hb8 (by first | exact hb9.size | exact Nat.le_refl _ | (simp; done) | (simp; omega))); clear hb8) | (go_simp; (with_reducible refine Calls.mono (NO.out _ ?_) ?_); (first | exact hb9 | exact hb9.drew | exact (by repeat (first | exact Below.refl _ _ | refine Below.alloc ?_ (by first | omega | (simp; done) | (simp; omega)) _ | refine Below.setCell ?_ (by first | omega | (simp; done) | (simp; omega)) _ | refine Below.drew ?_))); rintro e w' ⟨rfl, hb8⟩; have hb9 : Below w2.heap.size w2 w' := Below.trans (by first | exact hb9 | exact hb9.drew | exact (by repeat (first | exact Below.refl _ _ | refine Below.alloc ?_ (by first | omega | (simp; done) | (simp; omega)) _ | refine Below.setCell ?_ (by first | omega | (simp; done) | (simp; omega)) _ | refine Below.drew ?_))) (Below.mono hb8 (by first | exact hb9.size | exact Nat.le_refl _ | (simp; done) | (simp; omega))); clear hb8))
  rename_i wh hHeld
  go_wp2
  go_ret
  exact ⟨rfl, hHeld.2.2⟩
end Go.Proofs.Ytkjpjppfmfifeaa

/- A step of talus at a cell: words and bounds (pure). -/
namespace Go.Proofs.Ytkjpjppfmfifeaa
open Go.RowKit Fl
set_option linter.unusedVariables false

/-- What goes from a cell of height a to one of height b. -/
def movW (T R a b : Nat) : Nat := if (FloatKind.f32.format.order (subW a b) T == some .gt) = true then mulW (subW (subW a b) T) R else 0
structure MovAt (k T R a b d q r : Nat) : Prop where
  d1 : floatBits .sub .f32 a b = some d
  d1' : Same2 .sub (k + 1) a b
  q1 : floatBits .sub .f32 d T = some q
  q1' : Same2 .sub (k + 2) d T
  m1 : floatBits .mul .f32 q R = some r
  m1' : Same2 .mul (k + 2) q R
  w : movW T R a b = if (FloatKind.f32.format.order d T == some .gt) = true then r else 0
  bd : Bd (k + 2) (movW T R a b)
  lt : movW T R a b < 4294967296
theorem mov_parts {k T R a b : Nat} (hk : 20 ≤ k ∧ k ≤ 110) (hT : Bd 20 T) (hR : Bd 0 R) (ha : Bd k a) (hb : Bd k b) : ∃ d q r, MovAt k T R a b d q r := by
  have d1 : Same2 .sub (k + 1) a b := sub_same (by omega) ha hb
  obtain ⟨d, e1, b1⟩ := same_ex d1
  have q1 : Same2 .sub (k + 2) d T := sub_same (k := k + 1) (by omega) b1 (bd_up hT (by omega))
  obtain ⟨q, e2, b2⟩ := same_ex q1
  have m1 : Same2 .mul (k + 2 + 0) q R := mul_same (by omega) b2 hR
  obtain ⟨r, e3, b3⟩ := same_ex m1
  have w1 : subW a b = d := by unfold subW; rw [e1]; rfl
  have w2 : subW d T = q := by unfold subW; rw [e2]; rfl
  have w3 : mulW q R = r := by unfold mulW; rw [e3]; rfl
  have w : movW T R a b = if (FloatKind.f32.format.order d T == some .gt) = true then r else 0 := by unfold movW; rw [w1, w2, w3]
  have z : Bd (k + 2) 0 := bd_val vS_zero (by simp)
  refine ⟨d, q, r, e1, d1, e2, q1, e3, m1, w, ?_, ?_⟩ <;> rw [w] <;> split
  · exact b3
  · exact z
  · exact mul_lt e3
  · omega

/-- A cell behind a step of talus. -/
def thmW (T R c n w e s : Nat) : Nat := addW (addW (addW (addW (subW (subW (subW (subW c (movW T R c n)) (movW T R c w)) (movW T R c e)) (movW T R c s)) (movW T R n c)) (movW T R w c)) (movW T R e c)) (movW T R s c)
structure ThmAt (k T R c n w e s l1 l2 l3 l4 l5 l6 l7 l8 : Nat) : Prop where
  a1 : floatBits .sub .f32 c (movW T R c n) = some l1
  a1' : Same2 .sub (k + 3) c (movW T R c n)
  a2 : floatBits .sub .f32 l1 (movW T R c w) = some l2
  a2' : Same2 .sub (k + 4) l1 (movW T R c w)
  a3 : floatBits .sub .f32 l2 (movW T R c e) = some l3
  a3' : Same2 .sub (k + 5) l2 (movW T R c e)
  a4 : floatBits .sub .f32 l3 (movW T R c s) = some l4
  a4' : Same2 .sub (k + 6) l3 (movW T R c s)
  a5 : floatBits .add .f32 l4 (movW T R n c) = some l5
  a5' : Same2 .add (k + 7) l4 (movW T R n c)
  a6 : floatBits .add .f32 l5 (movW T R w c) = some l6
  a6' : Same2 .add (k + 8) l5 (movW T R w c)
  a7 : floatBits .add .f32 l6 (movW T R e c) = some l7
  a7' : Same2 .add (k + 9) l6 (movW T R e c)
  a8 : floatBits .add .f32 l7 (movW T R s c) = some l8
  a8' : Same2 .add (k + 10) l7 (movW T R s c)
  w : thmW T R c n w e s = l8
  bd : Bd (k + 10) l8
  lt : l8 < 4294967296
theorem thm_parts {k T R c n w e s : Nat} (hk : 20 ≤ k ∧ k ≤ 100) (hT : Bd 20 T) (hR : Bd 0 R) (hc : Bd k c) (hn : Bd k n) (hw : Bd k w) (he : Bd k e) (hs : Bd k s) : ∃ l1 l2 l3 l4 l5 l6 l7 l8, ThmAt k T R c n w e s l1 l2 l3 l4 l5 l6 l7 l8 := by
  have M : ∀ a b, Bd k a → Bd k b → Bd (k + 2) (movW T R a b) := fun a b ha hb => by
    obtain ⟨_, _, _, m⟩ := mov_parts ⟨hk.1, by omega⟩ hT hR ha hb
    exact m.bd
  have s1 : Same2 .sub (k + 3) c (movW T R c n) := sub_same (k := k + 2) (by omega) (bd_up hc (by omega)) (M _ _ hc hn)
  obtain ⟨l1, e1, b1⟩ := same_ex s1
  have s2 : Same2 .sub (k + 4) l1 (movW T R c w) := sub_same (k := k + 3) (by omega) b1 (bd_up (M _ _ hc hw) (by omega))
  obtain ⟨l2, e2, b2⟩ := same_ex s2
  have s3 : Same2 .sub (k + 5) l2 (movW T R c e) := sub_same (k := k + 4) (by omega) b2 (bd_up (M _ _ hc he) (by omega))
  obtain ⟨l3, e3, b3⟩ := same_ex s3
  have s4 : Same2 .sub (k + 6) l3 (movW T R c s) := sub_same (k := k + 5) (by omega) b3 (bd_up (M _ _ hc hs) (by omega))
  obtain ⟨l4, e4, b4⟩ := same_ex s4
  have s5 : Same2 .add (k + 7) l4 (movW T R n c) := add_same (k := k + 6) (by omega) b4 (bd_up (M _ _ hn hc) (by omega))
  obtain ⟨l5, e5, b5⟩ := same_ex s5
  have s6 : Same2 .add (k + 8) l5 (movW T R w c) := add_same (k := k + 7) (by omega) b5 (bd_up (M _ _ hw hc) (by omega))
  obtain ⟨l6, e6, b6⟩ := same_ex s6
  have s7 : Same2 .add (k + 9) l6 (movW T R e c) := add_same (k := k + 8) (by omega) b6 (bd_up (M _ _ he hc) (by omega))
  obtain ⟨l7, e7, b7⟩ := same_ex s7
  have s8 : Same2 .add (k + 10) l7 (movW T R s c) := add_same (k := k + 9) (by omega) b7 (bd_up (M _ _ hs hc) (by omega))
  obtain ⟨l8, e8, b8⟩ := same_ex s8
  refine ⟨l1, l2, l3, l4, l5, l6, l7, l8, e1, s1, e2, s2, e3, s3, e4, s4, e5, s5, e6, s6, e7, s7, e8, s8, ?_, b8, add_lt e8⟩
  have w1 : subW c (movW T R c n) = l1 := by unfold subW; rw [e1]; rfl
  have w2 : subW l1 (movW T R c w) = l2 := by unfold subW; rw [e2]; rfl
  have w3 : subW l2 (movW T R c e) = l3 := by unfold subW; rw [e3]; rfl
  have w4 : subW l3 (movW T R c s) = l4 := by unfold subW; rw [e4]; rfl
  have w5 : addW l4 (movW T R n c) = l5 := by unfold addW; rw [e5]; rfl
  have w6 : addW l5 (movW T R w c) = l6 := by unfold addW; rw [e6]; rfl
  have w7 : addW l6 (movW T R e c) = l7 := by unfold addW; rw [e7]; rfl
  have w8 : addW l7 (movW T R s c) = l8 := by unfold addW; rw [e8]; rfl
  unfold thmW
  rw [w1, w2, w3, w4, w5, w6, w7, w8]
end Go.Proofs.Ytkjpjppfmfifeaa

/- Contract: each of singles, of the program. -/
namespace Go.Proofs.Ytkjpjppfmfifeaa
open Go.RowKit Fl
set_option linter.unusedVariables false

/-- At the head of a loop that makes a list, when k of f are there; the region lies in the block bb. -/
structure EfAt (w0 : World) (X Y W H : Int) (bb base : Nat) (f : Nat → Nat) (k : Nat) (ov : Value) (wr : World) : Prop where
  own : wr.ownsRow base 30 1 ov k (rowL f k)
  reg : wr.heap[bb]? = some (regObj X Y W H)
  bel : Below w0.heap.size w0 wr
  size : base ≤ wr.heap.size

theorem EfAt.push {w0 wr w5 w6 : World} {X Y W H : Int} {bb base k g' cap' : Nat} {f : Nat → Nat} {ov : Value} {o : Obj} (h : EfAt w0 X Y W H bb base f k ov wr) (h5 : Below wr.heap.size wr w5) (hb : bb < base) (h0 : w0.heap.size ≤ base)
    (hgrow : (w5.alloc o).grownBy w6 ov.ownBlock) (hown : w6.ownsRow base 30 1 (.slice (some ⟨g', 0, none⟩) (k + 1) cap') (k + 1) (rowL f k ++ [.float .f32 (f k)])) :
    EfAt w0 X Y W H bb base f (k + 1) (.slice (some ⟨g', 0, none⟩) (k + 1) cap') w6 := by
  have z5 : base ≤ w5.heap.size := Nat.le_trans h.size h5.size
  have own5 := ownsRow_below h.own h5
  have B5 : Below w0.heap.size w0 w5 := h.bel.trans (h5.mono h.bel.size)
  have e4 : ∀ j, j < base → w6.heap[j]? = w5.heap[j]? := fun j hj => (hgrow.block j (by show j < (w5.alloc o).heap.size; rw [heap_size_alloc]; omega) (ownsRow_far own5 hj)).trans (heap_alloc_old _ _ (by omega))
  have B4 : Below w0.heap.size w0 (w5.alloc o) := B5.alloc B5.size o
  have z6 := hgrow.size
  rw [heap_size_alloc] at z6
  exact ⟨by rw [rowL_succ]; exact hown, (e4 _ hb).trans (blkStay h.reg h5), ⟨hgrow.os.trans B4.os, hgrow.tape.trans B4.tape, hgrow.output.trans B4.output, Nat.le_trans B4.size hgrow.size, fun j hj => (e4 j (by omega)).trans (B5.block j hj)⟩, by omega⟩

theorem EfAt.cells {w0 wr : World} {X Y W H : Int} {bb base g cap k : Nat} {f : Nat → Nat} (h : EfAt w0 X Y W H bb base f k (.slice (some ⟨g, 0, none⟩) k cap) wr) (hk : 0 < k) : FlAt wr g 0 k f ∧ base ≤ g ∧ g < wr.heap.size ∧ k ≤ cap ∧ cap ≤ 9223372036854775807 := by
  obtain ⟨h1, h2, h3⟩ := ownsRow_flAt h.own hk
  rcases h.own.2 with ⟨h0, _⟩ | ⟨g', cap', cur, hv, hg, hh, q1, q2, _, _⟩
  · cases h0
  · cases hv
    exact ⟨h1, h3, h2, q1, Nat.le_trans q2 (by decide)⟩

theorem make0_f32 (n : Nat) (hn : n ≤ 262144) (w : World) :
    (Instr.makeSlice 24 (.int .i64 0) (.int .i64 (n : Int))).run Try.prog w = .ok (.slice (some ⟨w.heap.size, 0, none⟩) 0 n) (w.alloc (.cells (madeCells #[Value.float .f32 0] n) 30)) := by
  have h : (Try.prog.info? 30).map (fun i => (i.zero, i.size, i.bytes)) = some (some (.float .f32 0), 1, 4) := by kernel_rfl
  obtain ⟨i0, hi, hz0, hz1, hz2⟩ := info_parts h
  have hr := run_make (P := Try.prog) w 24 30 i0 (.float .f32 0) Try.underlying24 hi hz0 .i64 .i64 0 n (by omega) (by omega) (by rw [hz2]; omega) (by omega)
  rw [hz1, Nat.mul_one, Int.toNat_natCast] at hr
  exact hr

set_option maxRecDepth 100000 in
set_option maxHeartbeats 4000000 in
theorem eachF_any (X Y : Int) (W H n : Nat) (p q : Nat) (f : Nat → Nat) (w : World)
    (hcl : ∀ (x y : Int) (j : Nat) (w2 : World), X ≤ x → x < X + W → Y ≤ y → y < Y + H → (j : Int) = (y - Y) * W + (x - X) → Below w.heap.size w w2 → Calls Try.prog 136 #[.int .i64 x, .int .i64 y, .pointer (some ⟨q, 0, none⟩), .pointer (some ⟨p, 0, none⟩)] w2 fun e w' => e = .returned (.float .f32 (f j)) ∧ Below w2.heap.size w2 w')
    (hX1 : -16777216 ≤ X) (hX2 : X ≤ 16777216) (hY1 : -16777216 ≤ Y) (hY2 : Y ≤ 16777216) (hW1 : 1 ≤ W) (hW2 : W ≤ 512) (hH1 : 1 ≤ H) (hH2 : H ≤ 512) (hn : n = H * W) :
    Calls Try.prog 135 #[reg X Y W H, .func (.func 136) #[] #[.pointer (some ⟨q, 0, none⟩), .pointer (some ⟨p, 0, none⟩)]] w fun e w' => ∃ g cap, e = .returned (.slice (some ⟨g, 0, none⟩) n cap) ∧ FlAt w' g 0 n f ∧ w.heap.size ≤ g ∧ g < w'.heap.size ∧ n ≤ cap ∧ cap ≤ 9223372036854775807 ∧ Below w.heap.size w w' := by
  have HCL := Lib.hid hcl
  have HN := Lib.hid hn
  have hn1 : 1 ≤ n := by rw [hn]; exact Nat.mul_pos hH1 hW1
  have hn2 : n ≤ 262144 := by rw [hn]; exact Nat.le_trans (Nat.mul_le_mul hH2 hW2) (by omega)
  have e1 : (W : Int) * (H : Int) = (n : Int) := by rw [hn, Nat.mul_comm]; simp
  have e2 : wrap64 ((W : Int) * (H : Int)) = (n : Int) := by rw [e1]; exact IntWalk.wrap64_in _ ⟨by omega, by omega⟩
  have hinfo : (Try.prog.info? 30).map (fun i => (i.zero, i.size, i.bytes)) = some (some (.float .f32 0), 1, 4) := by kernel_rfl
  obtain ⟨i0, hi, hz0, hz1, hz2⟩ := info_parts hinfo
  have MK := make0_f32 n hn2
  clear hcl hn hinfo e1
  go_enter Try.func135, Try.ntmps135
  go_wp2
  have HS := Lib.hid (show EfAt w X Y W H w.heap.size (w.heap.size + 1) f 0 (.slice (some ⟨w.heap.size + 1, 0, none⟩) 0 n) ((w.alloc (regObj X Y W H)).alloc (.cells (madeCells #[Value.float .f32 0] n) 30)) from
    ⟨⟨by simp [rowL], .inr ⟨_, n, _, rfl, Nat.le_refl _, by (first | (rw [heap_alloc_get, if_pos rfl]; done) | ((simp only [heap_alloc_get, heap_size_alloc, if_true]) <;> ((repeat' split) <;> first | rfl | omega))), by omega, by unfold maxLen; omega, by simp [madeCells], by simp [rowL]⟩⟩, by (first | (rw [heap_alloc_get, if_pos rfl]; done) | ((simp only [heap_alloc_get, heap_size_alloc, if_true]) <;> ((repeat' split) <;> first | rfl | omega))), (by repeat (first | exact Below.refl _ _ | refine Below.alloc ?_ (by first | omega | (simp; done) | (simp; omega)) _ | refine Below.setCell ?_ (by first | omega | (simp; done) | (simp; omega)) _ | refine Below.drew ?_)), by simp⟩)
  have HI := Lib.hid hi
  clear e2 MK
  generalize (w.alloc (regObj X Y W H)).alloc (.cells (madeCells #[Value.float .f32 0] n) 30) = w1 at *
  go_loopw [5, 6, 7] (fun l y x wr => ∃ (j : Nat) (ov : Value), j ≤ H ∧ y = .int .i64 (Y + j) ∧ ov = l ∧ EfAt w X Y W H w.heap.size (w.heap.size + 1) f (j * W) ov wr) (fun _ y _ _ => (Y + H - intOf y).toNat)
  case atStart => exact ⟨0, _, by omega, by simp, rfl, by rw [Nat.zero_mul]; exact HS.out⟩
  case round =>
    obtain ⟨j, ov, hj, rfl, rfl, hm⟩ := hrel
    have HM := Lib.hid hm
    obtain ⟨cB, fB, zB⟩ := blkC hm.reg
    clear hm
    by_cases hlt : j < H
    · go_wp2
      clear cB fB zB
      obtain ⟨w2, rfl⟩ : ∃ w2, w2 = wr := ⟨_, rfl⟩
      go_loopw [5, 7] (fun l x wr => ∃ (i : Nat) (ov : Value), i ≤ W ∧ x = .int .i64 (X + i) ∧ ov = l ∧ EfAt w X Y W H w.heap.size (w.heap.size + 1) f (j * W + i) ov wr) (fun _ x _ => (X + W - intOf x).toNat)
      case atStart => exact ⟨0, _, by omega, by simp, rfl, HM.out⟩
      case round =>
        obtain ⟨i, ov, hi1, rfl, rfl, hmi⟩ := hrel
        have HMi := Lib.hid hmi
        obtain ⟨cB, fB, zB⟩ := blkC hmi.reg
        have HB := Lib.hid hmi.bel
        clear hmi
        by_cases hlt2 : i < W
        · have hk : j * W + i < 262144 := by
            have : j * W ≤ 511 * 512 := Nat.mul_le_mul (by omega) hW2
            omega
          have CC := Lib.hid (fun W' hb => HCL.out (X + i) (Y + j) (j * W + i) W' (by omega) (by omega) (by omega) (by omega) (by rw [show (Y + (j : Int) - Y) = j by omega, show (X + (i : Int) - X) = i by omega]; simp) hb)
          obtain ⟨k, hke⟩ : ∃ k, j * W + i = k := ⟨_, rfl⟩
          rw [hke] at CC hk HMi
          have KE := Lib.hid (show j * W + (i + 1) = k + 1 by omega)
          have HZ := Lib.hid HMi.out.size
          have hi := HI.out
          clear hke
          go_wp2_with (first | (go_at_call 136; refine (CC.out _ HB.out).mono ?_; rintro e w5 ⟨rfl, hb5⟩; have HB5 := Lib.hid hb5; clear hb5 cB fB zB; have OW5 := Lib.hid (ownsRow_below HMi.out.own HB5.out)) | (at_builtin; go_loud (refine wpList_append_lies _ rfl _ _ _ rfl (w.heap.size + 1) 30 i0 _ 1 4 Try.underlying24 hi hz0 hz1 hz2 rfl (by omega) ov k (rowL f k) (by rfl) (OW5.out.alloc _) ⟨w5.heap.size, 0, none⟩ 1 1 [.float .f32 (f k)] (by rfl) (by rfl) (World.news_of_block (cs := #[.float .f32 (f k)]) (t := 30) (fr := (0, 0)) (heap_alloc_new w5 _)) (by simp [Value.oneCell']) (by omega) (by unfold maxLen; omega) (by omega) (by have := HB5.out.size; have := HZ.out; simp; omega) (w5.heap.size + 1) (by simp) ?_; intro g' cap' w6 hown6 hgrow hat hlt6; have HN6 := Lib.hid (EfAt.push HMi.out HB5.out (by omega) (by omega) hgrow hown6); clear hown6 hgrow hat hlt6)))
          go_roundw
          case rel => exact ⟨i + 1, _, by omega, by go_num, rfl, by rw [KE.out]; exact HN6.out⟩
          case measure => simp [intOf]; omega
        · have hiW : i = W := by omega
          have HM3 : Hid (EfAt w X Y W H w.heap.size (w.heap.size + 1) f ((j + 1) * W) ov wr) := by
            have h := HMi.out
            rw [hiW, ← Nat.succ_mul] at h
            exact h
          have hge : ¬ X + (i : Int) < X + W := by omega
          clear hiW
          go_wp2
          go_roundw
          case rel => exact ⟨j + 1, _, by omega, by go_num, rfl, HM3.out⟩
          case measure => simp [intOf]; omega
    · have hjH : j = H := by omega
      have hm := HM.out
      rw [hjH, ← HN.out] at hm
      have hge : ¬ Y + (j : Int) < Y + H := by omega
      obtain ⟨g, cap, rfl, _⟩ := hm.own.form (by omega)
      obtain ⟨hcell, hg, hgl, hcn, hcm⟩ := hm.cells (by omega)
      have HCN := Lib.hid hcn
      have HCM := Lib.hid hcm
      clear hcn hcm
      have HQ := Lib.hid hcell
      have HR := Lib.hid hm.bel
      clear hm hcell HM
      go_wp2
      go_ret
      exact ⟨g, cap, rfl, HQ.out, by omega, hgl, HCN.out, HCM.out, HR.out⟩
end Go.Proofs.Ytkjpjppfmfifeaa

/- Contracts: slices.Clone of singles, Check of a row of finite singles, and step, of the program. -/
namespace Go.Proofs.Ytkjpjppfmfifeaa
open Go.RowKit Fl
set_option linter.unusedVariables false

/-- What Clone answers: a new row of the same singles. -/
def ClnPost (n : Nat) (v : Nat → Nat) (w : World) (e : Ending) (w' : World) : Prop :=
  ∃ g cap, e = .returned (.slice (some ⟨g, 0, none⟩) n cap) ∧ w.heap.size ≤ g ∧ w'.ownsRow w.heap.size 30 1 (.slice (some ⟨g, 0, none⟩) n cap) n (rowL v n) ∧ Below w.heap.size w w'

set_option maxHeartbeats 1000000 in
theorem clone2_any (b off n cap : Nat) (v : Nat → Nat) (w : World) (h1 : 1 ≤ n) (hn : n ≤ 65536) (hc : FlAt w b off n v) :
    Calls Try.prog 121 #[.slice (some ⟨b, off, none⟩) n cap] w (ClnPost n v w) := by
  have zb : b < w.heap.size := World.block_lt_of_cell? w _ (hc 0 h1)
  have hnews := Lib.hid (show ∀ j u, (rowL v n)[j]? = some u → (w.alloc (.cells #[] 30)).cell? ((⟨b, off, none⟩ : Addr).add j) = some u from fun j u hu => by
    have hj : j < n := by
      rcases Nat.lt_or_ge j n with h | h
      · exact h
      · rw [List.getElem?_eq_none (by simpa [rowL] using h)] at hu; cases hu
    have : u = .float .f32 (v j) := by simpa [rowL, hj] using hu.symm
    rw [this]
    have e := hc j hj
    have : (⟨b, off, none⟩ : Addr).add j = ⟨b, off + j, none⟩ := by simp [Addr.add]
    rw [this]
    exact (World.cell?_of_block (w := w) (a := ⟨b, off + j, none⟩) (heap_alloc_old w _ zb)).trans e)
  have hinfo : (Try.prog.info? 30).map (fun i => (i.zero, i.size, i.bytes)) = some (some (.float .f32 0), 1, 4) := by kernel_rfl
  obtain ⟨i0, hi, hz0, hz1, hz2⟩ := info_parts hinfo
  have qT : ∀ (w : World) (a : Option Addr) (n c n' c' : Nat), (binOp .eql 24 (.slice a n c) (.slice none n' c')).run Try.prog w = .ok (.bool a.isNone) w := fun w a n c n' c' => Lib.run_eql_slice_nil w _ _ a n c n' c' Try.underlying24
  have H1 := Lib.hid h1
  have HN := Lib.hid hn
  clear hc hinfo h1 hn
  go_enter Try.func121, Try.ntmps121
  go_wp2_with (at_builtin; refine wpList_append_own _ rfl _ _ _ rfl w.heap.size 30 i0 (.float .f32 0) 1 4 Try.underlying24 hi hz0 hz1 hz2 rfl (by decide) (.slice (some ⟨w.heap.size, 0, none⟩) 0 0) 0 [] rfl (World.ownsRow_lit w #[] 0 (Nat.le_refl _) (by unfold maxLen; omega) rfl) ⟨b, off, none⟩ n cap (rowL v n) rfl (by simp [rowL]) hnews.out (by simp [rowL, Value.oneCell']) (by have := HN.out; unfold maxLen; omega) (by have := HN.out; omega) (by simp) ?_; intro v' w1 hown' hgrow hnil)
  rw [Nat.zero_add, List.nil_append] at hown'
  obtain ⟨g, cap', rfl, hg, _⟩ := hown'.form H1.out
  have HO := Lib.hid hown'
  have HG := Lib.hid hgrow
  clear hown' hgrow hnil
  go_ret
  exact ⟨g, cap', rfl, hg, HO.out, Below.grown (by repeat (first | exact Below.refl _ _ | refine Below.alloc ?_ (by first | omega | (simp; done) | (simp; omega)) _ | refine Below.setCell ?_ (by first | omega | (simp; done) | (simp; omega)) _ | refine Below.drew ?_)) HG.out (by simp) (fun k e => by simp [Value.ownBlock] at e; omega)⟩


theorem row_fin {k n : Nat} {v : Nat → Nat} (h : Row k n v) : allB n (fun i => finB (v i)) = true := allB_iff.2 fun i hi => by
  obtain ⟨a, ha, _⟩ := val_bd (h i hi).1
  unfold finB; rw [ha]; rfl
theorem row_err {k n : Nat} {v : Nat → Nat} (h : Row k n v) : fldE n v = if allB n (fun i => hgtB (v i)) = true then 0 else 3 := by
  unfold fldE hgtE
  rw [row_fin h]
  cases allB n (fun i => hgtB (v i)) <;> rfl

set_option maxHeartbeats 1000000 in
theorem check_row (X Y : Int) (W H n b cap k : Nat) (v : Nat → Nat) (w : World) (h0 : checkR X Y W H = 0) (hn : n = W * H) (hc : FlAt w b 0 n v) (hv : Row k n v) :
    Calls Try.prog 71 #[fldV X Y W H (.slice (some ⟨b, 0, none⟩) n cap)] w fun e w' => e = .returned (.int .i64 (if allB n (fun i => hgtB (v i)) = true then 0 else 3)) ∧ Below w.heap.size w w' := by
  obtain ⟨b1, b2, b3, b4, b5, b6, b7, b8, b9⟩ := checkR_zero h0
  have hm : (W : Int) * (H : Int) = (n : Int) := by rw [hn]; simp
  have h1 : 1 ≤ n := by rw [hn]; exact Nat.mul_pos (by omega) (by omega)
  have hlt : b < w.heap.size := World.block_lt_of_cell? w _ (hc 0 h1)
  have CH := Lib.hid (fun W' (hb : Below w.heap.size w W') => CheckHeights_row b 0 cap n v (by omega) W' (flAt_congr hc (hb.block _ hlt)))
  rw [row_err hv] at CH
  have RC := Lib.hid (fun w => checkRegion_any X Y W H w)
  rw [h0] at RC
  have en : wrap64 ((W : Int) * (H : Int)) = (n : Int) := by rw [hm]; exact IntWalk.wrap64_in _ ⟨by omega, by omega⟩
  generalize (if allB n (fun i => hgtB (v i)) = true then (0 : Int) else 3) = er at *
  clear h0 hn hc hv b1 b2 b3 b4 b5 b6 b7 b8 b9 hm h1
  go_enter Try.func71, Try.ntmps71
  go_wp2_with (first | (go_at_call 54; refine (RC.out _).mono ?_; rintro e w' ⟨rfl, rfl⟩) | (go_at_call 65; refine (CH.out _ (by repeat (first | exact Below.refl _ _ | refine Below.alloc ?_ (by first | omega | (simp; done) | (simp; omega)) _ | refine Below.setCell ?_ (by first | omega | (simp; done) | (simp; omega)) _ | refine Below.drew ?_))).mono ?_; rintro e w' ⟨rfl, rfl⟩))
  go_ret
  exact ⟨rfl, (by repeat (first | exact Below.refl _ _ | refine Below.alloc ?_ (by first | omega | (simp; done) | (simp; omega)) _ | refine Below.setCell ?_ (by first | omega | (simp; done) | (simp; omega)) _ | refine Below.drew ?_))⟩

/-- A field in the block c, its row in b: n values v. -/
structure FldAt (w : World) (c : Nat) (X Y : Int) (W H b n cap : Nat) (v : Nat → Nat) : Prop where
  fld : w.heap[c]? = some (fldO X Y W H (.slice (some ⟨b, 0, none⟩) n cap))
  row : FlAt w b 0 n v
  lt : b < w.heap.size
  nc : n ≤ cap
  cm : cap ≤ 9223372036854775807

/-- What step answers. -/
def StepPost (w : World) (X Y : Int) (W2 H2 n2 : Nat) (f : Nat → Nat) (e : Ending) (w' : World) : Prop :=
  ∃ b cap, e = .returned (fldV X Y W2 H2 (.slice (some ⟨b, 0, none⟩) n2 cap)) ∧ FlAt w' b 0 n2 f ∧ w.heap.size ≤ b ∧ b < w'.heap.size ∧ n2 ≤ cap ∧ cap ≤ 9223372036854775807 ∧ Below w.heap.size w w'

set_option maxHeartbeats 4000000 in
set_option maxRecDepth 100000 in
theorem step_any (X Y : Int) (W H n b cap W2 H2 k d : Nat) (v : Nat → Nat) (g : Nat) (caps : Array Value) (F : Nat → Nat → Nat → Nat → Nat → Nat) (w : World) (hg : AtK g caps F d w) (hcall : Enters g) (h0 : checkR X Y W H = 0) (hn : n = W * H) (hcap : n ≤ cap) (hcp : cap ≤ 9223372036854775807) (hc : FlAt w b 0 n v) (hk : 20 ≤ k ∧ k ≤ 100) (hv : Row k n v)
    (eW : W = W2 + 2) (eH : H = H2 + 2) (w1 : 1 ≤ W2) (g1 : 1 ≤ H2) :
    Calls Try.prog 122 #[fldV X Y W H (.slice (some ⟨b, 0, none⟩) n cap), .func (.func g) #[] caps] w (StepPost w (X + 1) (Y + 1) W2 H2 (H2 * W2) (rimF F v W)) := by
  obtain ⟨b1, b2, b3, b4, b5, b6, b7, b8, b9⟩ := checkR_zero h0
  have h1 : 1 ≤ n := by rw [hn]; exact Nat.mul_pos (by omega) (by omega)
  have hnn : n = H * W := by rw [hn]; exact Nat.mul_comm _ _
  have hlt : b < w.heap.size := World.block_lt_of_cell? w _ (hc 0 h1)
  have iW : (W : Int) - 2 = (W2 : Int) := by omega
  have iH : (H : Int) - 2 = (H2 : Int) := by omega
  have SH := Lib.hid (fun w => shrink_any X Y W H w (by omega) (by omega) (by omega) (by omega) (by omega) (by omega) (by omega) (by omega))
  rw [iW, iH] at SH
  have EA := Lib.hid (fun W' p (k1 : W'.heap[p]? = some (fldO X Y W H (.slice (some ⟨b, 0, none⟩) n cap))) (k2 : W'.heap[p + 1]? = some (nxtObj g caps)) (hb : Below w.heap.size w W') => eachF_any (X + 1) (Y + 1) W2 H2 (H2 * W2) p (p + 1) (rimF F v W) W'
    (fun x y j w2 q1 q2 q3 q4 q5 q6 => step1_any X Y W H n b cap k d v p (p + 1) g caps F W' (hg.stay hb) hcall k1 k2 (flAt_congr hc (hb.block _ hlt)) h0 hnn hcap hcp hk hv (by omega) (by omega) x y j w2 q1 (by rw [iW]; exact q2) q3 (by rw [iH]; exact q4) (by rw [iW]; exact q5) q6)
    (by omega) (by omega) (by omega) (by omega) (by omega) (by omega) (by omega) (by omega) rfl)
  generalize rimF F v W = f at *
  generalize H2 * W2 = n2 at *
  clear h0 hn hnn hcap hcp hc hv hk eW eH w1 g1 b1 b2 b3 b4 b5 b6 b7 b8 b9 iW iH h1 hg hcall hlt
  go_enter Try.func122, Try.ntmps122
  go_wp2_with (first | (go_at_call 120; refine (SH.out _).mono ?_; rintro e w2 ⟨rfl, hb2⟩; have HF2 := Lib.hid (blkStay (b := w.heap.size) (o := fldO X Y W H (.slice (some ⟨b, 0, none⟩) n cap)) (by (first | (rw [heap_alloc_get, if_pos rfl]; done) | ((simp only [heap_alloc_get, heap_size_alloc, if_true]) <;> ((repeat' split) <;> first | rfl | omega)))) hb2); have HN2 := Lib.hid (blkStay (b := w.heap.size + 1) (o := nxtObj g caps) (by (first | (rw [heap_alloc_get, if_pos rfl]; done) | ((simp only [heap_alloc_get, heap_size_alloc, if_true]) <;> ((repeat' split) <;> first | rfl | omega)))) hb2); have HS2 := Lib.hid (blkStay (b := w.heap.size + 1 + 1) (o := fldO 0 0 0 0 (.slice none 0 0)) (by (first | (rw [heap_alloc_get, if_pos rfl]; done) | ((simp only [heap_alloc_get, heap_size_alloc, if_true]) <;> ((repeat' split) <;> first | rfl | omega)))) hb2); have hB2 : Below w.heap.size w w2 := Below.trans (by repeat (first | exact Below.refl _ _ | refine Below.alloc ?_ (by first | omega | (simp; done) | (simp; omega)) _ | refine Below.setCell ?_ (by first | omega | (simp; done) | (simp; omega)) _ | refine Below.drew ?_)) (Below.mono hb2 (by first | omega | (simp; done) | (simp; omega))); clear hb2; obtain ⟨cS, fS, zS⟩ := blkC HS2.out))
  have z02 := hB2.size
  have hA := (show Below w2.heap.size w2 (w2.alloc (regObj (X + 1) (Y + 1) W2 H2)) from (Below.refl _ _).alloc (Nat.le_refl _) _)
  have HF3 := Lib.hid (blkStay HF2.out hA)
  have HN3 := Lib.hid (blkStay HN2.out hA)
  have HS3 := Lib.hid (blkStay HS2.out hA)
  have HB3 := Lib.hid (hB2.trans (hA.mono z02))
  have HR3 := Lib.hid (heap_alloc_new w2 (regObj (X + 1) (Y + 1) W2 H2))
  have zw : w2.heap.size < (w2.alloc (regObj (X + 1) (Y + 1) W2 H2)).heap.size := by simp
  have zs : w.heap.size + 1 + 1 < w2.heap.size := zS
  clear hA HF2 HN2 HS2 hB2 SH cS fS zS
  generalize w2.alloc (regObj (X + 1) (Y + 1) W2 H2) = w3 at *
  obtain ⟨cR, fR, zR⟩ := blkC HR3.out
  obtain ⟨cS, fS, zS⟩ := blkC HS3.out
  go_region_law (first
    | (go_simp; (with_reducible refine (EA.out _ w.heap.size (by first | exact HF3.out | exact blkDrew HF3.out | exact blkDrew (blkDrew HF3.out) | exact blkDrew (blkDrew (blkDrew HF3.out))) (by first | exact HN3.out | exact blkDrew HN3.out | exact blkDrew (blkDrew HN3.out) | exact blkDrew (blkDrew (blkDrew HN3.out))) (by first | exact HB3.out | exact HB3.out.drew | exact HB3.out.drew.drew | exact HB3.out.drew.drew.drew)).mono ?_); rintro e w4 ⟨gb, cap', rfl, hcl, hg, hgl, hnc, hcm, hb4⟩; have hb3 : Below w3.heap.size w3 w4 := ⟨hb4.os, hb4.tape, hb4.output, hb4.size, hb4.block⟩; have SS := Lib.hid (blkStay HS3.out hb3); have RR := Lib.hid (blkStay HR3.out hb3); have HB4 := Lib.hid (HB3.out.trans (hb3.mono HB3.out.size)); have HCL := Lib.hid hcl; obtain ⟨cR4, fR4, zR4⟩ := blkC RR.out; obtain ⟨cS4, fS4, zS4⟩ := blkC SS.out; clear hcl hb4 hb3))
  all_goals
    have HRES := fun (u1 u2 u3 u4 u5 : Value) => (blkC (set5_self u1 u2 u3 u4 u5 SS.out)).1
    simp only [set5] at HRES
    go_wp2
    refine bodyPost_ret (v := fldV (X + 1) (Y + 1) W2 H2 (.slice (some ⟨gb, 0, none⟩) n2 cap')) (by simp [results, Try.results122, go_sem, HRES]) rfl ?_
    have hg' : w3.heap.size ≤ gb := hg
    have z3 := HB3.out.size
    refine ⟨gb, cap', rfl, flAt_congr HCL.out (set5_heap w4 (w.heap.size + 1 + 1) gb (.int .i64 (X + 1)) (.int .i64 (Y + 1)) (.int .i64 W2) (.int .i64 H2) (.slice (some ⟨gb, 0, none⟩) n2 cap') (by omega)), by omega, ?_, hnc, hcm, ?_⟩
    · exact Nat.lt_of_lt_of_le hgl (Nat.le_of_eq (set5_size w4 (w.heap.size + 1 + 1) (.int .i64 (X + 1)) (.int .i64 (Y + 1)) (.int .i64 W2) (.int .i64 H2) (.slice (some ⟨gb, 0, none⟩) n2 cap')).symm)
    · exact set5_below HB4.out (w.heap.size + 1 + 1) (.int .i64 (X + 1)) (.int .i64 (Y + 1)) (.int .i64 W2) (.int .i64 H2) (.slice (some ⟨gb, 0, none⟩) n2 cap') (by omega)
end Go.Proofs.Ytkjpjppfmfifeaa

/- Contracts: shrink by several cells, and worn, of the program. -/
namespace Go.Proofs.Ytkjpjppfmfifeaa
open Go.RowKit Fl
set_option linter.unusedVariables false

set_option maxHeartbeats 1000000 in
theorem shrinkN_any (X Y W H : Int) (m : Nat) (w : World) (x1 : -4194304 ≤ X) (x2 : X ≤ 4194304) (y1 : -4194304 ≤ Y) (y2 : Y ≤ 4194304) (w1 : 1 ≤ W) (w2 : W ≤ 512) (h1 : 1 ≤ H) (h2 : H ≤ 512) (hm : m ≤ 64) :
    Calls Try.prog 120 #[reg X Y W H, .int .i64 m] w fun e w' => e = .returned (.tuple #[reg (X + m) (Y + m) (W - 2 * m) (H - 2 * m), .bool (decide (0 < W - 2 * (m : Int) ∧ 0 < H - 2 * (m : Int)))]) ∧ Below w.heap.size w w' := by
  cases c1 : decide (2 * (m : Int) < W) with
  | false =>
    have e : decide (0 < W - 2 * (m : Int) ∧ 0 < H - 2 * (m : Int)) = false := by simp at c1 ⊢; omega
    rw [e]
    clear e
    go_enter Try.func120, Try.ntmps120
    go_wp2
    go_region
    all_goals go_wp2
    all_goals refine bodyPost_ret (v := .tuple #[reg (X + m) (Y + m) (W - 2 * m) (H - 2 * m), .bool false]) (by simp [results, Try.results120, go_sem]) rfl ?_
    all_goals exact ⟨rfl, by repeat (first | exact Below.refl _ _ | refine Below.drew ?_ | refine Below.alloc ?_ (by simp; try omega) _ | refine Below.setCell ?_ (by simp; try omega) _)⟩
  | true =>
    cases c2 : decide (2 * (m : Int) < H) with
    | false =>
      have e : decide (0 < W - 2 * (m : Int) ∧ 0 < H - 2 * (m : Int)) = false := by simp at c1 c2 ⊢; omega
      rw [e]
      clear e
      go_enter Try.func120, Try.ntmps120
      go_wp2
      go_region
      all_goals go_wp2
      all_goals refine bodyPost_ret (v := .tuple #[reg (X + m) (Y + m) (W - 2 * m) (H - 2 * m), .bool false]) (by simp [results, Try.results120, go_sem]) rfl ?_
      all_goals exact ⟨rfl, by repeat (first | exact Below.refl _ _ | refine Below.drew ?_ | refine Below.alloc ?_ (by simp; try omega) _ | refine Below.setCell ?_ (by simp; try omega) _)⟩
    | true =>
      have e : decide (0 < W - 2 * (m : Int) ∧ 0 < H - 2 * (m : Int)) = true := by simp at c1 c2 ⊢; omega
      rw [e]
      clear e
      go_enter Try.func120, Try.ntmps120
      go_wp2
      go_region
      all_goals go_wp2
      all_goals refine bodyPost_ret (v := .tuple #[reg (X + m) (Y + m) (W - 2 * m) (H - 2 * m), .bool true]) (by simp [results, Try.results120, go_sem]) rfl ?_
      all_goals exact ⟨rfl, by repeat (first | exact Below.refl _ _ | refine Below.drew ?_ | refine Below.alloc ?_ (by simp; try omega) _ | refine Below.setCell ?_ (by simp; try omega) _)⟩

/-- A field behind t steps, its width W at first. -/
def smF (F : Nat → Nat → Nat → Nat → Nat → Nat) (v : Nat → Nat) (W : Nat) : Nat → Nat → Nat
  | 0 => v
  | t + 1 => rimF F (smF F v W t) (W - 2 * t)

theorem steps_check {X Y : Int} {W H : Nat} (h0 : checkR X Y W H = 0) : ∀ t : Nat, 2 * t < W → 2 * t < H → checkR (X + t) (Y + t) ((W - 2 * t : Nat) : Int) ((H - 2 * t : Nat) : Int) = 0
  | 0, _, _ => by simpa using h0
  | t + 1, h1, h2 => by
    have ih := steps_check h0 t (by omega) (by omega)
    have := rim_check (W2 := W - 2 * (t + 1)) (H2 := H - 2 * (t + 1)) ih (by omega) (by omega) (by omega) (by omega)
    rw [show X + ((t + 1 : Nat) : Int) = X + t + 1 by omega, show Y + ((t + 1 : Nat) : Int) = Y + t + 1 by omega]
    exact this
theorem steps_row {d : Nat} {W H n : Nat} {v : Nat → Nat} {F : Nat → Nat → Nat → Nat → Nat → Nat} (hF : ∀ (k c n ww e s : Nat), 20 ≤ k ∧ k ≤ 100 → Bd k c → Bd k n → Bd k ww → Bd k e → Bd k s → Bd (k + d) (F c n ww e s) ∧ F c n ww e s < 4294967296)
    (hn : n = H * W) (hv : Row 20 n v) : ∀ t : Nat, 2 * t < W → 2 * t < H → 20 + d * t ≤ 100 → Row (20 + d * t) ((H - 2 * t) * (W - 2 * t)) (smF F v W t)
  | 0, _, _, _ => by simpa [← hn, smF] using hv
  | t + 1, h1, h2, h3 => by
    have hd : d * (t + 1) = d * t + d := Nat.mul_succ d t
    have ih := steps_row hF hn hv t (by omega) (by omega) (by omega)
    have := row_step (X := 0) (Y := 0) (W2 := W - 2 * (t + 1)) (H2 := H - 2 * (t + 1)) hF (by omega) rfl (show W - 2 * t = W - 2 * (t + 1) + 2 by omega) (show H - 2 * t = H - 2 * (t + 1) + 2 by omega) (by omega) ih
    rw [hd, ← Nat.add_assoc]
    exact this

/-- At the head of a loop of steps, behind t of them: the field lies in the block c, its row at lo or above. -/
structure RepAt (w : World) (c lo : Nat) (X Y : Int) (W H : Nat) (F : Nat → Nat → Nat → Nat → Nat → Nat) (v : Nat → Nat) (t : Nat) (wr : World) : Prop where
  fld : ∃ b cap, FldAt wr c (X + t) (Y + t) (W - 2 * t) (H - 2 * t) b ((H - 2 * t) * (W - 2 * t)) cap (smF F v W t) ∧ lo ≤ b
  res : wr.heap[w.heap.size + 1]? = some (fldO 0 0 0 0 (.slice none 0 0))
  bel : Below w.heap.size w wr
  c1 : w.heap.size ≤ c
  c2 : c ≠ w.heap.size + 1
  c3 : lo ≤ c

theorem rep_next {w wr w5 : World} {X Y : Int} {c lo W H : Nat} {F : Nat → Nat → Nat → Nat → Nat → Nat} {v : Nat → Nat} {t W2 H2 b cap : Nat} {f : Nat → Nat} (hR : RepAt w c lo X Y W H F v t wr) (hb : Below wr.heap.size wr w5) (eW : W - 2 * (t + 1) = W2) (eH : H - 2 * (t + 1) = H2) (ef : smF F v W (t + 1) = f)
    (hrow : FlAt w5 b 0 (H2 * W2) f) (hbase : wr.heap.size ≤ b) (hlt : b < w5.heap.size) (hnc : H2 * W2 ≤ cap) (hcm : cap ≤ 9223372036854775807) :
    RepAt w c lo X Y W H F v (t + 1) (set5 w5 c (.int .i64 (X + t + 1)) (.int .i64 (Y + t + 1)) (.int .i64 W2) (.int .i64 H2) (.slice (some ⟨b, 0, none⟩) (H2 * W2) cap)) := by
  obtain ⟨b0, c0, hF, _⟩ := hR.fld
  have z := hR.bel.size
  have zc := (blkC hF.fld).2.2
  have d1 := hR.c1
  have d2 := hR.c2
  have d3 := hR.c3
  have e1 : X + ((t + 1 : Nat) : Int) = X + t + 1 := by omega
  have e2 : Y + ((t + 1 : Nat) : Int) = Y + t + 1 := by omega
  refine ⟨⟨b, cap, ⟨?_, ?_, ?_, ?_, hcm⟩, by omega⟩, ?_, ?_, d1, d2, d3⟩
  · rw [e1, e2, eW, eH]; exact set5_self _ _ _ _ _ (blkStay hF.fld hb)
  · rw [eW, eH, ef]; exact flAt_congr hrow (set5_heap w5 c b _ _ _ _ _ (by omega))
  · rw [set5_size]; exact hlt
  · rw [eW, eH]; exact hnc
  · exact (set5_heap w5 c (w.heap.size + 1) _ _ _ _ _ (by omega)).trans (blkStay hR.res hb)
  · exact set5_below (hR.bel.trans (hb.mono hR.bel.size)) c _ _ _ _ _ d1

theorem rep_start {w wr : World} {X Y : Int} {c lo W H n b cap : Nat} {F : Nat → Nat → Nat → Nat → Nat → Nat} {v : Nat → Nat} (hF : FldAt wr c X Y W H b n cap v) (hl : lo ≤ b) (hn : n = H * W) (hS : wr.heap[w.heap.size + 1]? = some (fldO 0 0 0 0 (.slice none 0 0))) (hB : Below w.heap.size w wr) (c1 : w.heap.size ≤ c) (c2 : c ≠ w.heap.size + 1) (c3 : lo ≤ c) : RepAt w c lo X Y W H F v 0 wr :=
  ⟨⟨b, cap, by simpa [smF, ← hn] using hF, hl⟩, hS, hB, c1, c2, c3⟩

theorem rg_cells {wr : World} {base g cap k : Nat} {f : Nat → Nat} (h : wr.ownsRow base 30 1 (.slice (some ⟨g, 0, none⟩) k cap) k (rowL f k)) (hk : 0 < k) : FlAt wr g 0 k f ∧ base ≤ g ∧ g < wr.heap.size ∧ k ≤ cap ∧ cap ≤ 9223372036854775807 := by
  obtain ⟨h1, h2, h3⟩ := ownsRow_flAt h hk
  rcases h.2 with ⟨h0, _⟩ | ⟨g', cap', cur, hv, hg, hh, q1, q2, _, _⟩
  · cases h0
  · cases hv
    exact ⟨h1, h3, h2, q1, Nat.le_trans q2 (by decide)⟩

set_option maxHeartbeats 2000000 in
theorem worn_no (X Y : Int) (W H n b cap m : Nat) (g : Nat) (caps : Array Value) (w : World) (h0 : checkR X Y W H = 0) (hm : m ≤ 64) (hs : W ≤ 2 * m ∨ H ≤ 2 * m) :
    Calls Try.prog 89 #[fldV X Y W H (.slice (some ⟨b, 0, none⟩) n cap), .int .i64 m, .func (.func g) #[] caps] w fun e w' => e = .returned (.tuple #[fldV 0 0 0 0 (.slice none 0 0), .int .i64 10]) ∧ Below w.heap.size w w' := by
  obtain ⟨b1, b2, b3, b4, b5, b6, b7, b8, b9⟩ := checkR_zero h0
  have SH := Lib.hid (fun w => shrinkN_any X Y W H m w (by omega) (by omega) (by omega) (by omega) (by omega) (by omega) (by omega) (by omega) hm)
  have e : decide (0 < (W : Int) - 2 * (m : Int) ∧ 0 < (H : Int) - 2 * (m : Int)) = false := by simp; omega
  rw [e] at SH
  clear h0 b1 b2 b3 b4 b5 b6 b7 b8 b9 e hs
  go_enter Try.func89, Try.ntmps89
  go_wp2_with (first | (go_at_call 120; refine (SH.out _).mono ?_; rintro e w2 ⟨rfl, hb2⟩; have HS2 := Lib.hid (blkStay (b := w.heap.size + 1) (o := fldO 0 0 0 0 (.slice none 0 0)) (by (first | (rw [heap_alloc_get, if_pos rfl]; done) | ((simp only [heap_alloc_get, heap_size_alloc, if_true]) <;> ((repeat' split) <;> first | rfl | omega)))) hb2); have hB2 : Below w.heap.size w w2 := Below.trans (by repeat (first | exact Below.refl _ _ | refine Below.alloc ?_ (by first | omega | (simp; done) | (simp; omega)) _ | refine Below.setCell ?_ (by first | omega | (simp; done) | (simp; omega)) _ | refine Below.drew ?_)) (Below.mono hb2 (by first | omega | (simp; done) | (simp; omega))); have z2 := hB2.size; clear hb2; obtain ⟨cS, fS, zS⟩ := blkC HS2.out))
  have HRES := fun (u1 u2 u3 u4 u5 : Value) (o : Obj) => (blkC ((heap_alloc_old (set5 w2 (w.heap.size + 1) u1 u2 u3 u4 u5) o (by rw [set5_size]; exact zS)).trans (set5_self u1 u2 u3 u4 u5 HS2.out))).1
  simp only [set5] at HRES
  refine bodyPost_ret (v := .tuple #[fldV 0 0 0 0 (.slice none 0 0), .int .i64 10]) (by simp [results, Try.results89, go_sem, HRES]) rfl ?_
  exact ⟨rfl, by repeat (first | exact hB2 | refine Below.alloc ?_ (by first | omega | (simp; done) | (simp; omega)) _ | refine Below.setCell ?_ (by first | omega | (simp; done) | (simp; omega)) _)⟩

set_option maxHeartbeats 4000000 in
set_option maxRecDepth 100000 in
theorem worn_ok (X Y : Int) (W H n b cap m d : Nat) (v : Nat → Nat) (g : Nat) (caps : Array Value) (F : Nat → Nat → Nat → Nat → Nat → Nat) (w : World) (hg : AtK g caps F d w) (hcall : Enters g) (h0 : checkR X Y W H = 0) (hn : n = W * H) (hcap : n ≤ cap) (hcp : cap ≤ 9223372036854775807) (hc : FlAt w b 0 n v) (hv : Row 20 n v)
    (hm : m ≤ 64) (mW : 2 * m < W) (mH : 2 * m < H) (hd : 20 + d * m ≤ 100) :
    Calls Try.prog 89 #[fldV X Y W H (.slice (some ⟨b, 0, none⟩) n cap), .int .i64 m, .func (.func g) #[] caps] w (ScPost w (X + m) (Y + m) ((W - 2 * m : Nat) : Int) ((H - 2 * m : Nat) : Int) ((H - 2 * m) * (W - 2 * m)) (smF F v W m) 0) := by
  obtain ⟨b1, b2, b3, b4, b5, b6, b7, b8, b9⟩ := checkR_zero h0
  have h1 : 1 ≤ n := by rw [hn]; exact Nat.mul_pos (by omega) (by omega)
  have hnn : n = H * W := by rw [hn]; exact Nat.mul_comm _ _
  have hlt : b < w.heap.size := World.block_lt_of_cell? w _ (hc 0 h1)
  have n2 : n ≤ 65536 := by
    have : (W : Int) * (H : Int) = (n : Int) := by rw [hn]; simp
    omega
  have SH := Lib.hid (fun w => shrinkN_any X Y W H m w (by omega) (by omega) (by omega) (by omega) (by omega) (by omega) (by omega) (by omega) hm)
  have e : decide (0 < (W : Int) - 2 * (m : Int) ∧ 0 < (H : Int) - 2 * (m : Int)) = true := by simp; omega
  rw [e] at SH
  have CL := Lib.hid (fun W' (hb : Below w.heap.size w W') => clone2_any b 0 n cap v W' h1 n2 (flAt_congr hc (hb.block _ hlt)))
  have DT : ∀ t, t < m → 20 ≤ 20 + d * t ∧ 20 + d * t ≤ 100 := fun t ht => by
    have := Nat.mul_le_mul_left d (show t ≤ m by omega)
    omega
  have ST := Lib.hid (fun (t : Nat) (ht : t < m) (bt ct : Nat) W' (hb : Below w.heap.size w W') (hnc : (H - 2 * t) * (W - 2 * t) ≤ ct) (hcm : ct ≤ 9223372036854775807) (hr : FlAt W' bt 0 ((H - 2 * t) * (W - 2 * t)) (smF F v W t)) =>
    step_any (X + t) (Y + t) (W - 2 * t) (H - 2 * t) ((H - 2 * t) * (W - 2 * t)) bt ct (W - 2 * (t + 1)) (H - 2 * (t + 1)) (20 + d * t) d (smF F v W t) g caps F W' (hg.stay hb) hcall (steps_check h0 t (by omega) (by omega)) (Nat.mul_comm _ _) hnc hcm hr
      (DT t ht) (steps_row hg.bd hnn hv t (by omega) (by omega) (DT t ht).2)
      (by omega) (by omega) (by omega) (by omega))
  have CK := Lib.hid (fun (bt ct : Nat) W' (hr : FlAt W' bt 0 ((H - 2 * m) * (W - 2 * m)) (smF F v W m)) => check_row (X + m) (Y + m) (W - 2 * m) (H - 2 * m) ((H - 2 * m) * (W - 2 * m)) bt ct (20 + d * m) (smF F v W m) W' (steps_check h0 m mW mH) (Nat.mul_comm _ _) hr (steps_row hg.bd hnn hv m mW mH hd))
  have HN := Lib.hid hnn
  have H1 := Lib.hid h1
  clear h0 hn hnn hcap hcp hc hv b1 b2 b3 b4 b5 b6 b7 b8 b9 e h1 n2 hlt hg hcall hd DT
  go_enter Try.func89, Try.ntmps89
  go_wp2_with (first | (go_at_call 120; refine (SH.out _).mono ?_; rintro e w2 ⟨rfl, hb2⟩; have HF2 := Lib.hid (blkStay (b := w.heap.size) (o := fldO X Y W H (.slice (some ⟨b, 0, none⟩) n cap)) (by (first | (rw [heap_alloc_get, if_pos rfl]; done) | ((simp only [heap_alloc_get, heap_size_alloc, if_true]) <;> ((repeat' split) <;> first | rfl | omega)))) hb2); have HS2 := Lib.hid (blkStay (b := w.heap.size + 1) (o := fldO 0 0 0 0 (.slice none 0 0)) (by (first | (rw [heap_alloc_get, if_pos rfl]; done) | ((simp only [heap_alloc_get, heap_size_alloc, if_true]) <;> ((repeat' split) <;> first | rfl | omega)))) hb2); have hB2 : Below w.heap.size w w2 := Below.trans (by repeat (first | exact Below.refl _ _ | refine Below.alloc ?_ (by first | omega | (simp; done) | (simp; omega)) _ | refine Below.setCell ?_ (by first | omega | (simp; done) | (simp; omega)) _ | refine Below.drew ?_)) (Below.mono hb2 (by first | omega | (simp; done) | (simp; omega))); have z2 := hB2.size; clear hb2; obtain ⟨cS, fS, zS⟩ := blkC HS2.out))
  have hA : Below w2.heap.size w2 (w2.alloc (regObj (X + m) (Y + m) ((W : Int) - 2 * m) ((H : Int) - 2 * m))) := (Below.refl _ _).alloc (Nat.le_refl _) _
  have HF3 := Lib.hid (blkStay HF2.out hA)
  have HS3 := Lib.hid (blkStay HS2.out hA)
  have HB3 := Lib.hid (hB2.trans (hA.mono z2))
  have zw : w2.heap.size < (w2.alloc (regObj (X + m) (Y + m) ((W : Int) - 2 * m) ((H : Int) - 2 * m))).heap.size := by simp
  clear hA HF2 HS2 hB2 SH cS fS zS
  generalize w2.alloc (regObj (X + m) (Y + m) ((W : Int) - 2 * m) ((H : Int) - 2 * m)) = w3 at *
  obtain ⟨cF, fF, zF⟩ := blkC HF3.out
  obtain ⟨cS, fS, zS⟩ := blkC HS3.out
  have HZ3 := Lib.hid (heap_alloc_new w3 (fldO 0 0 0 0 (.slice none 0 0)))
  have HA3 := Lib.hid (show Below w3.heap.size w3 (w3.alloc (fldO 0 0 0 0 (.slice none 0 0))) from (Below.refl _ _).alloc (Nat.le_refl _) _)
  have HBA := Lib.hid (HB3.out.trans (HA3.out.mono HB3.out.size))
  have zA := heap_size_alloc w3 (fldO 0 0 0 0 (.slice none 0 0))
  have zS3 := (blkC HS3.out).2.2
  have z03 := HB3.out.size
  go_upto_region 4 with fail
  go_cut [10] from 22 to 27 (fun s10 wx => ∃ cc, s10 = .pointer (some ⟨cc, 0, none⟩) ∧ RepAt w cc (w.heap.size + 1 + 1) X Y W H F v 0 wx)
  case first =>
    go_region_law (first
      | (go_simp; (with_reducible refine Calls.mono (CL.out _ ?_) ?_); (first | exact HBA.out | exact HBA.out.drew | exact HBA.out.drew.drew | exact HBA.out.drew.drew.drew); rintro e w4 ⟨g1, cap1, rfl, hg1, hown, hb4⟩; have hb3 : Below (w3.alloc (fldO 0 0 0 0 (.slice none 0 0))).heap.size (w3.alloc (fldO 0 0 0 0 (.slice none 0 0))) w4 := ⟨hb4.os, hb4.tape, hb4.output, hb4.size, hb4.block⟩; have ZZ := Lib.hid (blkStay HZ3.out hb3); have SS := Lib.hid (blkStay HS3.out (HA3.out.trans (hb3.mono HA3.out.size))); have FF := Lib.hid (blkStay HF3.out (HA3.out.trans (hb3.mono HA3.out.size))); have HB4 := Lib.hid (HBA.out.trans (hb3.mono HBA.out.size)); have HO := Lib.hid hown; have z34 := hb3.size; have hg1' : (w3.alloc (fldO 0 0 0 0 (.slice none 0 0))).heap.size ≤ g1 := hg1; obtain ⟨cF4, fF4, zF4⟩ := blkC FF.out; obtain ⟨cZ4, fZ4, zZ4⟩ := blkC ZZ.out; clear hown hb4 hb3 hg1)
      | (go_simp; (with_reducible refine Calls.mono (CL.out _ ?_) ?_); (first | exact HB3.out | exact HB3.out.drew | exact HB3.out.drew.drew | exact HB3.out.drew.drew.drew); rintro e w4 ⟨g1, cap1, rfl, hg1, hown, hb4⟩; have hb3 : Below w3.heap.size w3 w4 := ⟨hb4.os, hb4.tape, hb4.output, hb4.size, hb4.block⟩; have SS := Lib.hid (blkStay HS3.out hb3); have FF := Lib.hid (blkStay HF3.out hb3); have HB4 := Lib.hid (HB3.out.trans (hb3.mono HB3.out.size)); have HO := Lib.hid hown; have z34 := hb3.size; have hg1' : w3.heap.size ≤ g1 := hg1; obtain ⟨cF4, fF4, zF4⟩ := blkC FF.out; clear hown hb4 hb3 hg1))
    all_goals
      obtain ⟨hrow1, hbase1, hlt1, hnc1, hcm1⟩ := rg_cells HO.out H1.out
      have zS4 := (blkC SS.out).2.2
      have z04 := HB4.out.size
      go_wp2_with fail
      go_meet
      case rel =>
        first
          | exact ⟨_, rfl, rep_start (w := w) (c := w3.heap.size) (lo := w.heap.size + 1 + 1) (F := F) (wr := set5 w4 w3.heap.size (.int .i64 X) (.int .i64 Y) (.int .i64 W) (.int .i64 H) (.slice (some ⟨g1, 0, none⟩) n cap1)) ⟨set5_self _ _ _ _ _ ZZ.out, flAt_congr hrow1 (set5_heap w4 w3.heap.size g1 _ _ _ _ _ (by omega)), by rw [set5_size]; exact hlt1, hnc1, hcm1⟩ (by omega) HN.out ((set5_heap w4 w3.heap.size (w.heap.size + 1) _ _ _ _ _ (by omega)).trans SS.out) (set5_below HB4.out w3.heap.size _ _ _ _ _ z03) z03 (by omega) (by omega)⟩
          | exact ⟨_, rfl, rep_start (w := w) (c := w4.heap.size) (lo := w.heap.size + 1 + 1) (F := F) (wr := w4.alloc (fldO X Y W H (.slice (some ⟨g1, 0, none⟩) n cap1))) ⟨heap_alloc_new _ _, flAt_congr hrow1 (heap_alloc_old _ _ hlt1), by simp; omega, hnc1, hcm1⟩ (by omega) HN.out ((heap_alloc_old _ _ zS4).trans SS.out) (HB4.out.alloc z04 _) z04 (by omega) (by omega)⟩
  case rest =>
    obtain ⟨cc, rfl, RA0⟩ := hcut
    have RA := Lib.hid RA0
    clear RA0 cF fF zF cS fS zS HZ3 HA3 HBA zA zS3 z03 HF3 HS3 HB3 CL
    go_wp2
    go_loopw [29] (fun i wr => ∃ t : Nat, t ≤ m ∧ i = .int .i64 t ∧ RepAt w cc (w.heap.size + 1 + 1) X Y W H F v t wr) (fun i _ => m - (intOf i).toNat)
    case atStart => exact ⟨0, Nat.zero_le _, rfl, RA.out⟩
    case round =>
      obtain ⟨t, ht, rfl, hR⟩ := hrel
      obtain ⟨bt, ct, hF, hlo⟩ := hR.fld
      have HFF := Lib.hid hF.fld
      by_cases htm : t < m
      · have STI := Lib.hid (ST.out t htm bt ct wr hR.bel hF.nc hF.cm hF.row)
        have NX := Lib.hid (fun w5 b cap hb hrow h1 h2 h3 h4 => rep_next (b := b) (cap := cap) (w5 := w5) hR hb rfl rfl (show smF F v W (t + 1) = rimF F (smF F v W t) (W - 2 * t) from rfl) hrow h1 h2 h3 h4)
        obtain ⟨cF, fF, zF⟩ := blkC hF.fld
        clear hF hR hlo CK ST RA
        generalize rimF F (smF F v W t) (W - 2 * t) = f at *
        generalize (H - 2 * (t + 1)) * (W - 2 * (t + 1)) = n2 at *
        generalize W - 2 * (t + 1) = W2 at *
        generalize H - 2 * (t + 1) = H2 at *
        generalize (H - 2 * t) * (W - 2 * t) = n1 at *
        generalize ((W - 2 * t : Nat) : Int) = W1 at *
        generalize ((H - 2 * t : Nat) : Int) = H1 at *
        generalize X + (t : Int) = X1 at *
        generalize Y + (t : Int) = Y1 at *
        go_wp2_with (go_at_call 122; refine STI.out.mono ?_; rintro e w5 ⟨b5, cap5, rfl, hrow, hg, hgl, hnc, hcm, hb5⟩; have NXT := Lib.hid (NX.out w5 b5 cap5 hb5 hrow hg hgl hnc hcm); clear cF fF zF; obtain ⟨cF, fF, zF⟩ := blkC (blkStay HFF.out hb5); clear hrow hg hgl hnc hcm hb5)
        go_roundw
        case rel => exact ⟨t + 1, by omega, by go_num, NXT.out⟩
        case measure => simp [intOf]; omega
      · obtain rfl : t = m := by omega
        have CKI := Lib.hid (CK.out bt ct wr hF.row)
        have HS := Lib.hid hR.res
        have HB := Lib.hid hR.bel
        have ROW := Lib.hid hF.row
        have HLT := Lib.hid hF.lt
        have zS0 := (blkC hR.res).2.2
        have HLO := Lib.hid hlo
        obtain ⟨cF, fF, zF⟩ := blkC hF.fld
        clear hF hR CK ST RA mW mH hlo
        generalize smF F v W t = f at *
        generalize (H - 2 * t) * (W - 2 * t) = n2 at *
        generalize ((W - 2 * t : Nat) : Int) = W' at *
        generalize ((H - 2 * t : Nat) : Int) = H' at *
        generalize X + (t : Int) = X' at *
        generalize Y + (t : Int) = Y' at *
        cases hall : allB n2 (fun i => hgtB (f i)) with
        | true =>
          rw [hall] at CKI
          simp only [if_true] at CKI
          have HA := Lib.hid hall
          clear hall
          go_wp2_with (go_at_call 71; refine CKI.out.mono ?_; rintro e w6 ⟨rfl, hb6⟩; have HB6 := Lib.hid hb6; clear hb6 cF fF zF; obtain ⟨cF, fF, zF⟩ := blkC (blkStay HFF.out HB6.out); obtain ⟨cS, fS, zS⟩ := blkC (blkStay HS.out HB6.out))
          refine bodyPost_ret (v := .tuple #[fldV X' Y' W' H' (.slice (some ⟨bt, 0, none⟩) n2 ct), .int .i64 0]) (by simp [results, Try.results89, go_sem, cS]) rfl ?_
          exact .inr ⟨rfl, .inl ⟨HA.out, bt, ct, rfl, by have := HLO.out; omega, by rw [set5_size]; exact Nat.lt_of_lt_of_le HLT.out HB6.out.size, flAt_congr ROW.out ((set5_heap w6 _ _ _ _ _ _ _ (by have := HLO.out; omega)).trans (HB6.out.block _ HLT.out)), set5_below (HB.out.trans (HB6.out.mono HB.out.size)) _ _ _ _ _ _ (by omega)⟩⟩
        | false =>
          rw [hall] at CKI
          simp only [Bool.false_eq_true, if_false] at CKI
          have HA := Lib.hid hall
          clear hall
          go_wp2_with (go_at_call 71; refine CKI.out.mono ?_; rintro e w6 ⟨rfl, hb6⟩; have HB6 := Lib.hid hb6; clear hb6 cF fF zF; obtain ⟨cF, fF, zF⟩ := blkC (blkStay HFF.out HB6.out); obtain ⟨cS, fS, zS⟩ := blkC (blkStay HS.out HB6.out))
          refine bodyPost_ret (v := .tuple #[fldV 0 0 0 0 (.slice none 0 0), .int .i64 3]) (by simp [results, Try.results89, go_sem, cS]) rfl ?_
          exact .inr ⟨rfl, .inr ⟨HA.out, rfl, set5_below (HB.out.trans (HB6.out.mono HB.out.size)) _ _ _ _ _ _ (by omega)⟩⟩
end Go.Proofs.Ytkjpjppfmfifeaa

/- The reference's cell of smoothing; inner by several cells; the state of repeated. -/
namespace Go.Proofs.Ytkjpjppfmfifeaa
open Go.RowKit Fl
set_option linter.unusedVariables false

/-- A function of a field and a place that answers F of the cell there and its four neighbours. -/
structure AtF (g : Nat) (caps : Array Value) (F : Nat → Nat → Nat → Nat → Nat → Nat) (w0 : World) : Prop where
  run : ∀ (k : Nat) (X Y : Int) (W H n b cap : Nat) (v : Nat → Nat) (x y : Int) (i : Nat) (w : World), 20 ≤ k ∧ k ≤ 100 → checkR X Y W H = 0 → n = H * W → FlAt w b 0 n v → Row k n v →
    X + 1 ≤ x → x + 1 < X + W → Y + 1 ≤ y → y + 1 < Y + H → (i : Int) = (y - Y) * W + (x - X) → Below w0.heap.size w0 w →
    Calls Try.prog g (#[fldV X Y W H (.slice (some ⟨b, 0, none⟩) n cap), .int .i64 x, .int .i64 y] ++ caps) w fun e w' => e = .returned (.float .f32 (F (v i) (v (i - W)) (v (i - 1)) (v (i + 1)) (v (i + W)))) ∧ Below w.heap.size w w'
theorem AtF.stay {g : Nat} {caps : Array Value} {F : Nat → Nat → Nat → Nat → Nat → Nat} {w0 w1 : World} (h : AtF g caps F w0) (hb : Below w0.heap.size w0 w1) : AtF g caps F w1 :=
  ⟨fun k X Y W H n b cap v x y i w h1 h2 h3 h4 h5 h6 h7 h8 h9 h10 h11 => h.run k X Y W H n b cap v x y i w h1 h2 h3 h4 h5 h6 h7 h8 h9 h10 (hb.trans (h11.mono hb.size))⟩

/-- A region has cells left behind m steps. -/
def leftB (m W H : Nat) : Bool := decide (2 * m < W ∧ 2 * m < H)

set_option maxHeartbeats 1000000 in
theorem rinnerN_any (X Y : Int) (W H n b cap m : Nat) (w : World) (h0 : checkR X Y W H = 0) (hm : m ≤ 64) :
    Calls Try.prog 123 #[fldV X Y W H (.slice (some ⟨b, 0, none⟩) n cap), .int .i64 m] w fun e w' => e = .returned (.tuple #[if leftB m W H then reg (X + m) (Y + m) ((W : Int) - 2 * m) ((H : Int) - 2 * m) else reg 0 0 0 0, .int .i64 (if leftB m W H then 0 else 10)]) ∧ Below w.heap.size w w' := by
  obtain ⟨b1, b2, b3, b4, b5, b6, b7, b8, b9⟩ := checkR_zero h0
  have GR := Lib.hid (fun w => show Calls Try.prog 124 #[reg X Y W H, .int .i64 (-(m : Int))] w fun e w' => e = .returned (reg (X + m) (Y + m) ((W : Int) - 2 * m) ((H : Int) - 2 * m)) ∧ Below w.heap.size w w' by
    have := refGrown_any X Y W H (-(m : Int)) w (by omega) (by omega) (by omega) (by omega) (by omega) (by omega) (by omega) (by omega) (by omega) (by omega)
    rw [show X - -(m : Int) = X + m by omega, show Y - -(m : Int) = Y + m by omega, show (W : Int) + 2 * -(m : Int) = (W : Int) - 2 * m by omega, show (H : Int) + 2 * -(m : Int) = (H : Int) - 2 * m by omega] at this
    exact this)
  unfold leftB
  clear h0
  by_cases c1 : (W : Int) - 2 * m < 1
  · have e : decide (2 * m < W ∧ 2 * m < H) = false := by simp; omega
    rw [e]
    clear e
    go_enter Try.func123, Try.ntmps123
    go_wp2_with (first | (go_at_call 124; refine (GR.out _).mono ?_; rintro e w3 ⟨rfl, hb3⟩; have HS3 := Lib.hid (blkStay (b := w.heap.size + 1) (o := regObj 0 0 0 0) (by ((simp only [heap_alloc_get, heap_size_alloc, if_true]) <;> ((repeat' split) <;> first | rfl | omega))) hb3); have hB3 : Below w.heap.size w w3 := Below.trans (by repeat (first | exact Below.refl _ _ | refine Below.alloc ?_ (by first | omega | (simp; done) | (simp; omega)) _ | refine Below.setCell ?_ (by first | omega | (simp; done) | (simp; omega)) _ | refine Below.drew ?_)) (Below.mono hb3 (by first | omega | (simp; done) | (simp; omega))); clear hb3; obtain ⟨cS, fS, zS⟩ := blkC HS3.out))
    all_goals
      have HRES := fun (u1 u2 u3 u4 : Value) (o : Obj) => (blkC ((heap_alloc_old (set4 w3 (w.heap.size + 1) u1 u2 u3 u4) o (by rw [set4_size]; exact zS)).trans (set4_self u1 u2 u3 u4 HS3.out))).1
      simp only [set4] at HRES
      refine bodyPost_ret (v := .tuple #[reg 0 0 0 0, .int .i64 10]) (by simp [results, Try.results123, go_sem, HRES]) rfl ?_
      exact ⟨rfl, by repeat (first | exact hB3 | refine Below.alloc ?_ (by first | omega | (simp; done) | (simp; omega)) _ | refine Below.setCell ?_ (by first | omega | (simp; done) | (simp; omega)) _)⟩
  · by_cases c2 : (H : Int) - 2 * m < 1
    · have e : decide (2 * m < W ∧ 2 * m < H) = false := by simp; omega
      rw [e]
      clear e
      go_enter Try.func123, Try.ntmps123
      go_wp2_with (first | (go_at_call 124; refine (GR.out _).mono ?_; rintro e w3 ⟨rfl, hb3⟩; have HS3 := Lib.hid (blkStay (b := w.heap.size + 1) (o := regObj 0 0 0 0) (by ((simp only [heap_alloc_get, heap_size_alloc, if_true]) <;> ((repeat' split) <;> first | rfl | omega))) hb3); have hB3 : Below w.heap.size w w3 := Below.trans (by repeat (first | exact Below.refl _ _ | refine Below.alloc ?_ (by first | omega | (simp; done) | (simp; omega)) _ | refine Below.setCell ?_ (by first | omega | (simp; done) | (simp; omega)) _ | refine Below.drew ?_)) (Below.mono hb3 (by first | omega | (simp; done) | (simp; omega))); clear hb3; obtain ⟨cS, fS, zS⟩ := blkC HS3.out))
      all_goals
        have HRES := fun (u1 u2 u3 u4 : Value) (o : Obj) => (blkC ((heap_alloc_old (set4 w3 (w.heap.size + 1) u1 u2 u3 u4) o (by rw [set4_size]; exact zS)).trans (set4_self u1 u2 u3 u4 HS3.out))).1
        simp only [set4] at HRES
        refine bodyPost_ret (v := .tuple #[reg 0 0 0 0, .int .i64 10]) (by simp [results, Try.results123, go_sem, HRES]) rfl ?_
        exact ⟨rfl, by repeat (first | exact hB3 | refine Below.alloc ?_ (by first | omega | (simp; done) | (simp; omega)) _ | refine Below.setCell ?_ (by first | omega | (simp; done) | (simp; omega)) _)⟩
    · have e : decide (2 * m < W ∧ 2 * m < H) = true := by simp; omega
      rw [e]
      clear e
      go_enter Try.func123, Try.ntmps123
      go_wp2_with (first | (go_at_call 124; refine (GR.out _).mono ?_; rintro e w3 ⟨rfl, hb3⟩; have HS3 := Lib.hid (blkStay (b := w.heap.size + 1) (o := regObj 0 0 0 0) (by ((simp only [heap_alloc_get, heap_size_alloc, if_true]) <;> ((repeat' split) <;> first | rfl | omega))) hb3); have hB3 : Below w.heap.size w w3 := Below.trans (by repeat (first | exact Below.refl _ _ | refine Below.alloc ?_ (by first | omega | (simp; done) | (simp; omega)) _ | refine Below.setCell ?_ (by first | omega | (simp; done) | (simp; omega)) _ | refine Below.drew ?_)) (Below.mono hb3 (by first | omega | (simp; done) | (simp; omega))); clear hb3; obtain ⟨cS, fS, zS⟩ := blkC HS3.out))
      all_goals
        have HRES := fun (u1 u2 u3 u4 : Value) (o : Obj) => (blkC ((heap_alloc_old (set4 w3 (w.heap.size + 1) u1 u2 u3 u4) o (by rw [set4_size]; exact zS)).trans (set4_self u1 u2 u3 u4 HS3.out))).1
        simp only [set4] at HRES
        refine bodyPost_ret (v := .tuple #[reg (X + m) (Y + m) ((W : Int) - 2 * m) ((H : Int) - 2 * m), .int .i64 0]) (by simp [results, Try.results123, go_sem, HRES]) rfl ?_
        exact ⟨rfl, by repeat (first | exact hB3 | refine Below.alloc ?_ (by first | omega | (simp; done) | (simp; omega)) _ | refine Below.setCell ?_ (by first | omega | (simp; done) | (simp; omega)) _)⟩

set_option maxHeartbeats 1000000 in
theorem repeated_no (X Y : Int) (W H n b cap m g : Nat) (caps : Array Value) (w : World) (h0 : checkR X Y W H = 0) (hm : m ≤ 64) (hs : leftB m W H = false) :
    Calls Try.prog 92 #[fldV X Y W H (.slice (some ⟨b, 0, none⟩) n cap), .int .i64 m, .func (.func g) #[] caps] w fun e w' => e = .returned (.tuple #[fldV 0 0 0 0 (.slice none 0 0), .int .i64 10]) ∧ Below w.heap.size w w' := by
  have IN := Lib.hid (fun w => rinnerN_any X Y W H n b cap m w h0 hm)
  rw [hs] at IN
  simp only [Bool.false_eq_true, if_false] at IN
  clear h0 hm hs
  go_enter Try.func92, Try.ntmps92
  go_wp2_with (first | (go_at_call 123; refine (IN.out _).mono ?_; rintro e w2 ⟨rfl, hb2⟩; have HS2 := Lib.hid (blkStay (b := w.heap.size + 1) (o := fldO 0 0 0 0 (.slice none 0 0)) (by ((simp only [heap_alloc_get, heap_size_alloc, if_true]) <;> ((repeat' split) <;> first | rfl | omega))) hb2); have hB2 : Below w.heap.size w w2 := Below.trans (by repeat (first | exact Below.refl _ _ | refine Below.alloc ?_ (by first | omega | (simp; done) | (simp; omega)) _ | refine Below.setCell ?_ (by first | omega | (simp; done) | (simp; omega)) _ | refine Below.drew ?_)) (Below.mono hb2 (by first | omega | (simp; done) | (simp; omega))); have z2 := hB2.size; clear hb2; obtain ⟨cS, fS, zS⟩ := blkC HS2.out))
  have HRES := fun (u1 u2 u3 u4 u5 : Value) (o : Obj) => (blkC ((heap_alloc_old (set5 w2 (w.heap.size + 1) u1 u2 u3 u4 u5) o (by rw [set5_size]; exact zS)).trans (set5_self u1 u2 u3 u4 u5 HS2.out))).1
  simp only [set5] at HRES
  refine bodyPost_ret (v := .tuple #[fldV 0 0 0 0 (.slice none 0 0), .int .i64 10]) (by simp [results, Try.results92, go_sem, HRES]) rfl ?_
  exact ⟨rfl, by repeat (first | exact hB2 | refine Below.alloc ?_ (by first | omega | (simp; done) | (simp; omega)) _ | refine Below.setCell ?_ (by first | omega | (simp; done) | (simp; omega)) _)⟩

/-- At the head of the loops that make a step's list, when k of f are there: the new field lies in the block gb. -/
structure RgAt (w0 : World) (X Y W H : Int) (gb base : Nat) (f : Nat → Nat) (k : Nat) (wr : World) : Prop where
  ex : ∃ ov, wr.ownsRow base 30 1 ov k (rowL f k) ∧ wr.heap[gb]? = some (fldO X Y W H ov)
  bel : Below w0.heap.size w0 wr
  size : base ≤ wr.heap.size

theorem rg_push {w0 wr w2 w3 : World} {X Y W H : Int} {gb base k gg cap : Nat} {f : Nat → Nat} {ov : Value} {o : Obj} (HO : wr.ownsRow base 30 1 ov k (rowL f k)) (HV : wr.heap[gb]? = some (fldO X Y W H ov)) (hbel : Below w0.heap.size w0 wr) (hs : base ≤ wr.heap.size)
    (hb2 : Below wr.heap.size wr w2) (hg : gb < base) (h0 : w0.heap.size ≤ gb) (hgrow : (w2.alloc o).grownBy w3 ov.ownBlock)
    (hown3 : w3.ownsRow base 30 1 (.slice (some ⟨gg, 0, none⟩) (k + 1) cap) (k + 1) (rowL f k ++ [.float .f32 (f k)])) :
    RgAt w0 X Y W H gb base f (k + 1) (w3.setCell ⟨gb, 4, none⟩ (.slice (some ⟨gg, 0, none⟩) (k + 1) cap)) := by
  have own2 := ownsRow_below HO hb2
  have z2 := hb2.size
  have e3 : w3.heap[gb]? = some (fldO X Y W H ov) := by
    rw [hgrow.block gb (by rw [heap_size_alloc]; omega) (ownsRow_far own2 hg), heap_alloc_old _ _ (by omega)]
    exact blkStay HV hb2
  have B2 : Below w0.heap.size w0 w2 := hbel.trans (hb2.mono hbel.size)
  have B3 := (B2.alloc B2.size o).grown hgrow (by rw [heap_size_alloc]; have := B2.size; omega) (fun b hb => by
    rcases HO.2 with ⟨rfl, _⟩ | ⟨g, _, _, rfl, hg', _⟩
    · cases hb
    · have : b = g := by simpa [Value.ownBlock] using hb.symm
      omega)
  have z3 := hgrow.size
  rw [heap_size_alloc] at z3
  refine ⟨⟨.slice (some ⟨gg, 0, none⟩) (k + 1) cap, ?_, ?_⟩, B3.setCell (p := ⟨gb, 4, none⟩) h0 _, ?_⟩
  · rw [rowL_succ]; exact ownsRow_setCell_below hown3 hg _
  · rw [heap_setCell_same w3 gb 4 _ _ _ e3]; rfl
  · show base ≤ (World.setCell w3 _ _).heap.size
    simp; omega

end Go.Proofs.Ytkjpjppfmfifeaa

/- A step of talus at a cell, of the program and of the reference. -/
namespace Go.Proofs.Ytkjpjppfmfifeaa
open Go.RowKit Fl
set_option linter.unusedVariables false

abbrev weaV (T R : Nat) (st : Int) : Value := .agg #[.float .f32 T, .float .f32 R, .int .i64 st]
abbrev weaO (T R : Nat) (st : Int) : Obj := .cells #[.float .f32 T, .float .f32 R, .int .i64 st] 52

set_option maxHeartbeats 1000000 in
theorem moved_any (k T R a b : Nat) (st : Int) (w : World) (hk : 20 ≤ k ∧ k ≤ 110) (hT : Bd 20 T) (hR : Bd 0 R) (ha : Bd k a) (hb : Bd k b) :
    Calls Try.prog 84 #[weaV T R st, .float .f32 a, .float .f32 b] w fun e w' => e = .returned (.float .f32 (movW T R a b)) ∧ Below w.heap.size w w' := by
  obtain ⟨d, q, r, M⟩ := mov_parts hk hT hR ha hb
  rw [M.w]
  have a1 := fun (W : World) => run_float_arith (P := Try.prog) W .sub 30 .f32 a b d M.d1
  have a2 := fun (W : World) => run_float_arith (P := Try.prog) W .sub 30 .f32 d T q M.q1
  have a3 := fun (W : World) => run_float_arith (P := Try.prog) W .mul 30 .f32 q R r M.m1
  clear M hk hT hR ha hb
  cases c : (FloatKind.f32.format.order d T == some .gt)
  all_goals
    go_enter Try.func84, Try.ntmps84
    go_wp2
    go_ret
    exact ⟨rfl, (by repeat (first | exact Below.refl _ _ | refine Below.alloc ?_ (by first | omega | (simp; done) | (simp; omega)) _ | refine Below.setCell ?_ (by first | omega | (simp; done) | (simp; omega)) _ | refine Below.drew ?_))⟩

set_option maxHeartbeats 1000000 in
theorem rmoved_any (k T R a b : Nat) (st : Int) (w : World) (hk : 20 ≤ k ∧ k ≤ 110) (hT : Bd 20 T) (hR : Bd 0 R) (ha : Bd k a) (hb : Bd k b) :
    Calls Try.prog 85 #[weaV T R st, .float .f32 a, .float .f32 b] w fun e w' => e = .returned (.float .f32 (movW T R a b)) ∧ Below w.heap.size w w' := by
  obtain ⟨d, q, r, M⟩ := mov_parts hk hT hR ha hb
  rw [M.w]
  have D1 := Lib.hid (fun w => refSub_any _ _ _ d M.d1' M.d1 w)
  have D2 := Lib.hid (fun w => refSub_any _ _ _ q M.q1' M.q1 w)
  have M1 := Lib.hid (fun w => refMul_any _ _ _ r M.m1' M.m1 w)
  clear M hk hT hR ha hb
  cases c : (FloatKind.f32.format.order d T == some .gt)
  · go_enter Try.func85, Try.ntmps85
    go_wp2_with (first
      | (go_at_call 95; (with_reducible refine Calls.mono (D1.out _) ?_); rintro e' w' ⟨rfl, rfl⟩))
    go_ret
    exact ⟨rfl, (by repeat (first | exact Below.refl _ _ | refine Below.alloc ?_ (by first | omega | (simp; done) | (simp; omega)) _ | refine Below.setCell ?_ (by first | omega | (simp; done) | (simp; omega)) _ | refine Below.drew ?_))⟩
  · go_enter Try.func85, Try.ntmps85
    go_wp2_with (first
      | (go_at_call 95; (with_reducible refine Calls.mono (D1.out _) ?_); rintro e' w' ⟨rfl, rfl⟩))
    go_quiet ((first
      | (go_at_call 95; exact Calls.quiet_of_same ((D2.out _).mono fun _ _ h => ⟨h.1, h.2.symm⟩))
      | (go_at_call 115; exact Calls.quiet_of_same ((M1.out _).mono fun _ _ h => ⟨h.1, h.2.symm⟩))))
    go_wp2
    go_ret
    exact ⟨rfl, (((Below.refl _ _).alloc (Nat.le_refl _) _).trans ((below_drewN _ _).mono (by simp)))⟩

/-- A value by its number, of five. -/
def stp (x0 x1 x2 x3 x4 : Nat) (j : Nat) : Nat := match j with | 0 => x0 | 1 => x1 | 2 => x2 | 3 => x3 | _ => x4
abbrev arO (a b c d : Nat) : Obj := .cells #[.float .f32 a, .float .f32 b, .float .f32 c, .float .f32 d] 150
abbrev lsO (a b c d : Nat) : Obj := .cells #[.float .f32 a, .float .f32 b, .float .f32 c, .float .f32 d] 30
abbrev crsO (c n w e s : Nat) : Obj := .cells #[.float .f32 c, .float .f32 n, .float .f32 w, .float .f32 e, .float .f32 s] 118

set_option maxHeartbeats 4000000 in
set_option maxRecDepth 100000 in
theorem crumble_any (k T R c n ww e s : Nat) (st : Int) (w : World) (hk : 20 ≤ k ∧ k ≤ 100) (hT : Bd 20 T) (hR : Bd 0 R) (hc : Bd k c) (hn : Bd k n) (hw : Bd k ww) (he : Bd k e) (hs : Bd k s) :
    Calls Try.prog 91 #[crossV c n ww e s, weaV T R st] w fun e' w' => e' = .returned (.float .f32 (thmW T R c n ww e s)) ∧ Below w.heap.size w w' := by
  obtain ⟨l1, l2, l3, l4, l5, l6, l7, l8, A⟩ := thm_parts hk hT hR hc hn hw he hs
  have hk' : 20 ≤ k ∧ k ≤ 110 := ⟨hk.1, by omega⟩
  rw [A.w]
  have P1 := Lib.hid (fun w => moved_any k T R c n st w hk' hT hR hc hn)
  have P2 := Lib.hid (fun w => moved_any k T R c ww st w hk' hT hR hc hw)
  have P3 := Lib.hid (fun w => moved_any k T R c e st w hk' hT hR hc he)
  have P4 := Lib.hid (fun w => moved_any k T R c s st w hk' hT hR hc hs)
  have P5 := Lib.hid (fun w => moved_any k T R n c st w hk' hT hR hn hc)
  have P6 := Lib.hid (fun w => moved_any k T R ww c st w hk' hT hR hw hc)
  have P7 := Lib.hid (fun w => moved_any k T R e c st w hk' hT hR he hc)
  have P8 := Lib.hid (fun w => moved_any k T R s c st w hk' hT hR hs hc)
  have a1 := fun (W : World) => run_float_arith (P := Try.prog) W .sub 30 .f32 _ _ l1 A.a1
  have a2 := fun (W : World) => run_float_arith (P := Try.prog) W .sub 30 .f32 _ _ l2 A.a2
  have a3 := fun (W : World) => run_float_arith (P := Try.prog) W .sub 30 .f32 _ _ l3 A.a3
  have a4 := fun (W : World) => run_float_arith (P := Try.prog) W .sub 30 .f32 _ _ l4 A.a4
  have a5 := fun (W : World) => run_float_arith (P := Try.prog) W .add 30 .f32 _ _ l5 A.a5
  have a6 := fun (W : World) => run_float_arith (P := Try.prog) W .add 30 .f32 _ _ l6 A.a6
  have a7 := fun (W : World) => run_float_arith (P := Try.prog) W .add 30 .f32 _ _ l7 A.a7
  have a8 := fun (W : World) => run_float_arith (P := Try.prog) W .add 30 .f32 _ _ l8 A.a8
  clear A hk hk' hT hR hc hn hw he hs
  have hsf := fun (w : World) (a : Addr) (m : Mode) (k : FloatKind) (b : Nat) => run_store_float (P := Try.prog) (w := w) (a := a) (m := m) k b
  have i0 : ∀ w : World, (Instr.index 150 (.agg #[.float .f32 n, .float .f32 ww, .float .f32 e, .float .f32 s]) (.int .i64 0)).run Try.prog w = .ok (.float .f32 n) w := fun _ => by kernel_rfl
  have i1 : ∀ w : World, (Instr.index 150 (.agg #[.float .f32 n, .float .f32 ww, .float .f32 e, .float .f32 s]) (.int .i64 1)).run Try.prog w = .ok (.float .f32 ww) w := fun _ => by kernel_rfl
  have i2 : ∀ w : World, (Instr.index 150 (.agg #[.float .f32 n, .float .f32 ww, .float .f32 e, .float .f32 s]) (.int .i64 2)).run Try.prog w = .ok (.float .f32 e) w := fun _ => by kernel_rfl
  have i3 : ∀ w : World, (Instr.index 150 (.agg #[.float .f32 n, .float .f32 ww, .float .f32 e, .float .f32 s]) (.int .i64 3)).run Try.prog w = .ok (.float .f32 s) w := fun _ => by kernel_rfl
  generalize movW T R c n = m1 at *
  generalize movW T R c ww = m2 at *
  generalize movW T R c e = m3 at *
  generalize movW T R c s = m4 at *
  generalize movW T R n c = m5 at *
  generalize movW T R ww c = m6 at *
  generalize movW T R e c = m7 at *
  generalize movW T R s c = m8 at *
  go_enter Try.func91, Try.ntmps91
  go_wp2
  go_loopw [6, 23] (fun v i wr => ∃ j : Nat, j ≤ 4 ∧ i = .int .i64 j ∧ v = .float .f32 (stp c l1 l2 l3 l4 j) ∧ wr.heap[w.heap.size]? = some (crsO c n ww e s) ∧ wr.heap[w.heap.size + 1]? = some (weaO T R st) ∧ wr.heap[w.heap.size + 1 + 1]? = some (arO n ww e s) ∧ Below w.heap.size w wr) (fun _ i _ => 4 - (intOf i).toNat)
  case atStart => exact ⟨0, by omega, rfl, rfl, by (first | (rw [heap_alloc_get, if_pos rfl]; done) | ((simp only [heap_alloc_get, heap_size_alloc, if_true]) <;> ((repeat' split) <;> first | rfl | omega))), by (first | (rw [heap_alloc_get, if_pos rfl]; done) | ((simp only [heap_alloc_get, heap_size_alloc, if_true]) <;> ((repeat' split) <;> first | rfl | omega))), by (first | (rw [heap_alloc_get, if_pos rfl]; done) | ((simp only [heap_alloc_get, heap_size_alloc, if_true]) <;> ((repeat' split) <;> first | rfl | omega))), (by repeat (first | exact Below.refl _ _ | refine Below.alloc ?_ (by first | omega | (simp; done) | (simp; omega)) _ | refine Below.setCell ?_ (by first | omega | (simp; done) | (simp; omega)) _ | refine Below.drew ?_))⟩
  case round =>
    obtain ⟨j, hj, rfl, rfl, hA, hB, hC, hb⟩ := hrel
    have HA := Lib.hid hA
    have HB := Lib.hid hB
    have HC := Lib.hid hC
    have HD := Lib.hid hb
    obtain ⟨cA, fA, zA⟩ := blkC hA
    obtain ⟨cB, fB, zB⟩ := blkC hB
    obtain ⟨cC, fC, zC⟩ := blkC hC
    clear hA hB hC hb
    have hj4 : j = 0 ∨ j = 1 ∨ j = 2 ∨ j = 3 ∨ j = 4 := by omega
    rcases hj4 with rfl | rfl | rfl | rfl | rfl
    iterate 4
      · simp only [stp]
        go_wp2_with (go_at_call 84; (first | (with_reducible refine Calls.mono (P1.out _) ?_) | (with_reducible refine Calls.mono (P2.out _) ?_) | (with_reducible refine Calls.mono (P3.out _) ?_) | (with_reducible refine Calls.mono (P4.out _) ?_)); rintro e' w4 ⟨rfl, hb4⟩; have HA4 := Lib.hid (blkStay HA.out hb4); have HB4 := Lib.hid (blkStay HB.out hb4); have HC4 := Lib.hid (blkStay HC.out hb4); have HD4 := Lib.hid (HD.out.trans (hb4.mono HD.out.size)); clear hb4)
        go_roundw
        case rel => exact ⟨_, by decide, rfl, rfl, HA4.out, HB4.out, HC4.out, HD4.out⟩
        case measure => simp [intOf]
    · simp only [stp, Int.cast_ofNat_Int]
      go_wp2
      clear cA fA zA cB fB zB cC fC zC
      go_loopw [6, 35] (fun v i ws => ∃ j : Nat, j ≤ 4 ∧ i = .int .i64 j ∧ v = .float .f32 (stp l4 l5 l6 l7 l8 j) ∧ ws.heap[w.heap.size]? = some (crsO c n ww e s) ∧ ws.heap[w.heap.size + 1]? = some (weaO T R st) ∧ Below w.heap.size w ws) (fun _ i _ => 4 - (intOf i).toNat)
      case atStart => exact ⟨0, by omega, rfl, rfl, HA.out, HB.out, HD.out⟩
      case round =>
        obtain ⟨j, hj, rfl, rfl, hA, hB, hb⟩ := hrel
        have HE := Lib.hid hA
        have HF := Lib.hid hB
        have HG := Lib.hid hb
        obtain ⟨cA, fA, zA⟩ := blkC hA
        obtain ⟨cB, fB, zB⟩ := blkC hB
        clear hA hB hb
        have hj4 : j = 0 ∨ j = 1 ∨ j = 2 ∨ j = 3 ∨ j = 4 := by omega
        rcases hj4 with rfl | rfl | rfl | rfl | rfl
        iterate 4
          · simp only [stp]
            go_wp2_with (go_at_call 84; (first | (with_reducible refine Calls.mono (P5.out _) ?_) | (with_reducible refine Calls.mono (P6.out _) ?_) | (with_reducible refine Calls.mono (P7.out _) ?_) | (with_reducible refine Calls.mono (P8.out _) ?_)); rintro e' w4 ⟨rfl, hb4⟩; have HA4 := Lib.hid (blkStay HE.out hb4); have HB4 := Lib.hid (blkStay HF.out hb4); have HD4 := Lib.hid (HG.out.trans (hb4.mono HG.out.size)); clear hb4)
            go_roundw
            case rel => exact ⟨_, by decide, rfl, rfl, HA4.out, HB4.out, HD4.out⟩
            case measure => simp [intOf]
        · simp only [stp]
          go_wp2
          go_ret
          exact ⟨rfl, HG.out⟩
end Go.Proofs.Ytkjpjppfmfifeaa
