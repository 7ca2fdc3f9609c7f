/- Lemmas and contracts for the proof that the last text of this claim holds. -/
import Derived.Test.YtacbemilicdklaaDoorDjB
import Derived.Deep.AppendLies
import Derived.Deep.RegionLaw
import Derived.BigRegion
import Derived.RegionTactic
import Derived.ChangeAlike
import Derived.RangeFuncNested
import Derived.RangeFuncBound
import Derived.RangeFuncCalls
import Derived.RangeFuncLeaves
import Derived.Shelf.Abstract
import Derived.Shelf.RegionOpen
import Derived.OwnWalkIn
import Derived.TacticsInMore
import Derived.LoopNIn
import Derived.LoopIn
import Derived.OrdersIn
import Derived.StillTail
import Derived.TacticsIn
import Derived.Laws.OwnMore

/- Contracts: CheckCarving, CarvingError; deep, Depth, DepthOf; the first error of three. -/
namespace Go.Proofs.YtacbemilicdklaaDoor
open Go.RowKit Fl
set_option linter.unusedVariables false

/-- How deep a cell is cut, as a word. -/
def depW (rate least most : Nat) (amount : Int) (drop : Nat) : Nat :=
  if amount < 1 ∨ (FloatKind.f32.format.order drop 0 == some .gt) = false then 0
  else if (FloatKind.f32.format.order (cutD rate amount drop) least == some .lt) = true then 0 else lesW (lesW (cutD rate amount drop) most) (halfW drop)

/-- A carving. -/
abbrev carV (rate least most : Nat) (steps : Int) : Value := .agg #[.float .f32 rate, .float .f32 least, .float .f32 most, .int .i64 steps]

abbrev carO (rate least most : Nat) (steps : Int) : Obj := .cells #[.float .f32 rate, .float .f32 least, .float .f32 most, .int .i64 steps] 68

set_option maxHeartbeats 400000 in
theorem qRoot_any {x : Nat} {a c : Int} {X Z : Nat} (R : RootAt x a X Z c) (w : World) :
    Calls Tryd.prog 55 #[.float .f32 x] w fun e w' => e = .returned (.float .f32 (rootW x)) ∧ w = w' := by
  have d1 := fun (W : World) => run_convert_float_float (P := Tryd.prog) W 27 91 .f32 .f64 x X (by kernel_rfl) Tryd.underlying91 R.up
  have d2 := fun (W : World) => run_convert_float_float (P := Tryd.prog) W 91 27 .f64 .f32 Z (rootW x) (by kernel_rfl) Tryd.underlying27 R.dn
  have MS := Lib.hid (fun w => mathSqrt_num X Z R.sq w)
  generalize rootW x = r at *
  clear R
  go_enter Tryd.func55, Tryd.ntmps55
  go_wp2_with (go_at_call 105; refine (MS.out _).mono ?_; rintro e w' ⟨rfl, rfl⟩)
  go_ret
  exact ⟨rfl, rfl⟩

/-- How deep, without errors: both sides. -/
def DepPost (w : World) (rate least most : Nat) (amount : Int) (drop : Nat) (e : Ending) (w' : World) : Prop :=
  e = .returned (.float .f32 (depW rate least most amount drop)) ∧ Below w.heap.size w w'

set_option maxHeartbeats 1000000 in
theorem deep_any (rate least most : Nat) (steps amount : Int) (drop : Nat) (d : Int) (w : World) (hr : Bd 20 rate) (hb : Bd 21 drop) (hd : vS drop = some d) (h0 : 0 ≤ amount) (h1 : amount ≤ 1099511627776) :
    Calls Tryd.prog 95 #[carV rate least most steps, .int .i64 amount, .float .f32 drop] w (DepPost w rate least most amount drop) := by
  obtain ⟨m1, m2, m3⟩ := cut_parts hr hb h0 h1
  obtain ⟨a, X, Z, c, R, _⟩ := amt_root h0 h1
  have RO := Lib.hid (fun w => root_any R w)
  have a1 := fun (W : World) => run_float_arith (P := Tryd.prog) W .mul 27 .f32 _ _ _ m1
  have a2 := fun (W : World) => run_float_arith (P := Tryd.prog) W .mul 27 .f32 _ _ _ m2
  have a3 := fun (W : World) => run_float_arith (P := Tryd.prog) W .mul 27 .f32 _ _ _ m3
  have t1 := leq_val hd vS_zero
  have t2 := gtr_val hd vS_zero
  rw [← f32f] at t1 t2
  unfold DepPost depW
  have LS := Lib.hid (fun x y w => lesser_any x y w)
  generalize cutA rate amount = A at *
  generalize cutD rate amount drop = D at *
  generalize halfW drop = F at *
  generalize rootW (floatOfInt .f32 amount) = r at *
  clear R m1 m2 m3 hr hb hd
  by_cases c1 : amount < 1
  · rw [if_pos (.inl c1)]
    clear a1 a2 a3 t1 t2 RO LS h0 h1
    go_enter Tryd.func95, Tryd.ntmps95
    go_wp2
    go_ret
    exact ⟨rfl, (by repeat (first | exact Below.refl _ _ | refine Below.alloc ?_ (by first | omega | (simp; done) | (simp; omega)) _ | refine Below.setCell ?_ (by first | omega | (simp; done) | (simp; omega)) _ | refine Below.drew ?_))⟩
  · by_cases c2 : d ≤ 0
    · rw [if_pos (.inr (by rw [t2]; simpa using c2))]
      rw [decide_eq_true c2] at t1
      clear a1 a2 a3 t2 RO LS h0 h1 c2
      go_enter Tryd.func95, Tryd.ntmps95
      go_wp2
      go_ret
      exact ⟨rfl, (by repeat (first | exact Below.refl _ _ | refine Below.alloc ?_ (by first | omega | (simp; done) | (simp; omega)) _ | refine Below.setCell ?_ (by first | omega | (simp; done) | (simp; omega)) _ | refine Below.drew ?_))⟩
    · rw [if_neg (by rw [t2]; simp; omega)]
      rw [decide_eq_false c2] at t1
      clear t2 h0 h1 c2
      cases c3 : (FloatKind.f32.format.order D least == some .lt) with
      | true =>
        rw [if_pos rfl]
        clear LS
        go_enter Tryd.func95, Tryd.ntmps95
        go_wp2
        go_quiet ((go_at_call 104; exact Calls.quiet_of_same ((RO.out _).mono fun _ _ h => ⟨h.1, h.2.symm⟩)))
        go_wp2
        go_ret
        exact ⟨rfl, (((Below.refl _ _).alloc (Nat.le_refl _) _).trans ((below_drewN _ _).mono (by simp)))⟩
      | false =>
        rw [if_neg (by simp)]
        go_enter Tryd.func95, Tryd.ntmps95
        go_wp2
        go_quiet ((go_at_call 104; exact Calls.quiet_of_same ((RO.out _).mono fun _ _ h => ⟨h.1, h.2.symm⟩)))
        go_wp2_with (go_at_call 134; refine (LS.out _ _ _).mono ?_; rintro e w' ⟨rfl, rfl⟩)
        go_ret
        exact ⟨rfl, (((Below.refl _ _).alloc (Nat.le_refl _) _).trans ((below_drewN _ _).mono (by simp)))⟩

set_option maxHeartbeats 1000000 in
theorem depthOf_any (rate least most : Nat) (steps amount : Int) (drop : Nat) (d : Int) (w : World) (hr : Bd 20 rate) (hb : Bd 21 drop) (hd : vS drop = some d) (h0 : 0 ≤ amount) (h1 : amount ≤ 1099511627776) :
    Calls Tryd.prog 47 #[carV rate least most steps, .int .i64 amount, .float .f32 drop] w (DepPost w rate least most amount drop) := by
  obtain ⟨m1, m2, m3⟩ := cut_parts hr hb h0 h1
  obtain ⟨a, X, Z, c, R, _⟩ := amt_root h0 h1
  have RO := Lib.hid (fun w => qRoot_any R w)
  have a1 := fun (W : World) => run_float_arith (P := Tryd.prog) W .mul 27 .f32 _ _ _ m1
  have a2 := fun (W : World) => run_float_arith (P := Tryd.prog) W .mul 27 .f32 _ _ _ m2
  have a3 := fun (W : World) => run_float_arith (P := Tryd.prog) W .mul 27 .f32 _ _ _ m3
  have t2 := gtr_val hd vS_zero
  rw [← f32f] at t2
  unfold DepPost depW
  generalize cutA rate amount = A at *
  generalize cutD rate amount drop = D at *
  generalize halfW drop = F at *
  generalize rootW (floatOfInt .f32 amount) = r at *
  clear R m1 m2 m3 hr hb hd
  by_cases c1 : amount < 1
  · rw [if_pos (.inl c1)]
    clear a1 a2 a3 t2 RO h0 h1
    go_enter Tryd.func47, Tryd.ntmps47
    go_wp2
    go_ret
    exact ⟨rfl, (by repeat (first | exact Below.refl _ _ | refine Below.alloc ?_ (by first | omega | (simp; done) | (simp; omega)) _ | refine Below.setCell ?_ (by first | omega | (simp; done) | (simp; omega)) _ | refine Below.drew ?_))⟩
  · by_cases c2 : d ≤ 0
    · rw [if_pos (.inr (by rw [t2]; simpa using c2))]
      rw [decide_eq_false (by omega)] at t2
      clear a1 a2 a3 RO h0 h1 c2
      go_enter Tryd.func47, Tryd.ntmps47
      go_wp2
      go_ret
      exact ⟨rfl, (by repeat (first | exact Below.refl _ _ | refine Below.alloc ?_ (by first | omega | (simp; done) | (simp; omega)) _ | refine Below.setCell ?_ (by first | omega | (simp; done) | (simp; omega)) _ | refine Below.drew ?_))⟩
    · rw [if_neg (by rw [t2]; simp; omega)]
      rw [decide_eq_true (by omega)] at t2
      clear h0 h1 c2
      unfold lesW
      cases c3 : (FloatKind.f32.format.order D least == some .lt) with
      | true =>
        rw [if_pos rfl]
        go_enter Tryd.func47, Tryd.ntmps47
        go_wp2
        go_quiet ((go_at_call 55; exact Calls.quiet_of_same ((RO.out _).mono fun _ _ h => ⟨h.1, h.2.symm⟩)))
        go_wp2
        go_ret
        exact ⟨rfl, (((Below.refl _ _).alloc (Nat.le_refl _) _).trans ((below_drewN _ _).mono (by simp)))⟩
      | false =>
        rw [if_neg (by simp)]
        cases c4 : (FloatKind.f32.format.order most D == some .lt) with
        | true =>
          simp only [if_true]
          cases c5 : (FloatKind.f32.format.order F most == some .lt) with
          | true =>
            rw [if_pos rfl]
            go_enter Tryd.func47, Tryd.ntmps47
            go_wp2
            go_quiet ((go_at_call 55; exact Calls.quiet_of_same ((RO.out _).mono fun _ _ h => ⟨h.1, h.2.symm⟩)))
            go_wp2
            go_ret
            exact ⟨rfl, (((Below.refl _ _).alloc (Nat.le_refl _) _).trans ((below_drewN _ _).mono (by simp)))⟩
          | false =>
            rw [if_neg (by simp)]
            go_enter Tryd.func47, Tryd.ntmps47
            go_wp2
            go_quiet ((go_at_call 55; exact Calls.quiet_of_same ((RO.out _).mono fun _ _ h => ⟨h.1, h.2.symm⟩)))
            go_wp2
            go_ret
            exact ⟨rfl, (((Below.refl _ _).alloc (Nat.le_refl _) _).trans ((below_drewN _ _).mono (by simp)))⟩
        | false =>
          simp only [Bool.false_eq_true, if_false]
          cases c5 : (FloatKind.f32.format.order F D == some .lt) with
          | true =>
            rw [if_pos rfl]
            go_enter Tryd.func47, Tryd.ntmps47
            go_wp2
            go_quiet ((go_at_call 55; exact Calls.quiet_of_same ((RO.out _).mono fun _ _ h => ⟨h.1, h.2.symm⟩)))
            go_wp2
            go_ret
            exact ⟨rfl, (((Below.refl _ _).alloc (Nat.le_refl _) _).trans ((below_drewN _ _).mono (by simp)))⟩
          | false =>
            rw [if_neg (by simp)]
            go_enter Tryd.func47, Tryd.ntmps47
            go_wp2
            go_quiet ((go_at_call 55; exact Calls.quiet_of_same ((RO.out _).mono fun _ _ h => ⟨h.1, h.2.symm⟩)))
            go_wp2
            go_ret
            exact ⟨rfl, (((Below.refl _ _).alloc (Nat.le_refl _) _).trans ((below_drewN _ _).mono (by simp)))⟩

/-- Three singles, as a list. -/
def three (a b c : Nat) (i : Nat) : Nat := if i = 0 then a else if i = 1 then b else c
theorem flAt_three {w : World} {p a b c : Nat} (h : w.heap[p]? = some (.cells #[.float .f32 a, .float .f32 b, .float .f32 c] 27)) : FlAt w p 0 3 (three a b c) := by
  intro i hi
  rw [Nat.zero_add, (blkC h).1 i]
  have : i = 0 ∨ i = 1 ∨ i = 2 := by omega
  rcases this with rfl | rfl | rfl <;> rfl
theorem three_hgt {a b c : Nat} (h : fldE 3 (three a b c) = 0) : hgtB a = true ∧ hgtB b = true ∧ hgtB c = true := by
  have := allB_iff.1 (fldE_zero.1 h)
  exact ⟨this 0 (by omega), this 1 (by omega), this 2 (by omega)⟩
/-- A carving's error behind its singles. -/
def carE2 (rate least most : Nat) (steps : Int) : Int :=
  if (FloatKind.f32.format.order rate 0 == some .lt) = true ∨ (FloatKind.f32.format.order rate 1065353216 == some .gt) = true ∨ (FloatKind.f32.format.order least 0 == some .lt) = true then 3
  else if (FloatKind.f32.format.order most least == some .lt) = true then 8 else if withinB steps 0 50 = true then 0 else 3
/-- A carving's error. -/
def carE (rate least most : Nat) (steps : Int) : Int := if fldE 3 (three rate least most) = 0 then carE2 rate least most steps else fldE 3 (three rate least most)

set_option maxHeartbeats 1000000 in
theorem checkCarving_any (rate least most : Nat) (steps : Int) (w : World) :
    Calls Tryd.prog 45 #[carV rate least most steps] w fun e w' => e = .returned (.int .i64 (carE rate least most steps)) ∧ Below w.heap.size w w' := by
  have CH := Lib.hid (fun p w (h : w.heap[p]? = some (.cells #[.float .f32 rate, .float .f32 least, .float .f32 most] 27)) => CheckHeights_row p 0 3 3 (three rate least most) (by omega) w (flAt_three h))
  have WI := Lib.hid (fun w => within_any steps 0 50 w)
  unfold carE
  generalize fldE 3 (three rate least most) = er at *
  by_cases h0 : er = 0
  · subst h0
    rw [if_pos rfl]
    unfold carE2
    generalize withinB steps 0 50 = wb at *
    cases c1 : (FloatKind.f32.format.order rate 0 == some .lt) <;> cases c2 : (FloatKind.f32.format.order rate 1065353216 == some .gt) <;> cases c3 : (FloatKind.f32.format.order least 0 == some .lt) <;>
      cases c4 : (FloatKind.f32.format.order most least == some .lt) <;> cases wb
    all_goals
      go_enter Tryd.func45, Tryd.ntmps45
      go_wp2_with (first | (go_at_call 93; refine (CH.out _ _ (by ((simp only [heap_alloc_get, heap_size_alloc, if_true]) <;> ((repeat' split) <;> first | rfl | omega)))).mono ?_; rintro e w' ⟨rfl, rfl⟩) | (go_at_call 94; refine (WI.out _).mono ?_; rintro e w' ⟨rfl, rfl⟩))
      go_ret
      exact ⟨ret_int (by simp), (by repeat (first | exact Below.refl _ _ | refine Below.alloc ?_ (by first | omega | (simp; done) | (simp; omega)) _ | refine Below.setCell ?_ (by first | omega | (simp; done) | (simp; omega)) _ | refine Below.drew ?_))⟩
  · rw [if_neg h0]
    have h1 : (er != 0) = true := by simpa using h0
    clear WI h0
    go_enter Tryd.func45, Tryd.ntmps45
    go_wp2_with (go_at_call 93; refine (CH.out _ _ (by ((simp only [heap_alloc_get, heap_size_alloc, if_true]) <;> ((repeat' split) <;> first | rfl | omega)))).mono ?_; rintro e w' ⟨rfl, rfl⟩)
    go_ret
    exact ⟨rfl, (by repeat (first | exact Below.refl _ _ | refine Below.alloc ?_ (by first | omega | (simp; done) | (simp; omega)) _ | refine Below.setCell ?_ (by first | omega | (simp; done) | (simp; omega)) _ | refine Below.drew ?_))⟩

set_option maxHeartbeats 1000000 in
theorem carvingError_any (rate least most : Nat) (steps : Int) (w : World) :
    Calls Tryd.prog 44 #[carV rate least most steps] w fun e w' => e = .returned (.int .i64 (carE rate least most steps)) ∧ Below w.heap.size w w' := by
  have CH := Lib.hid (fun p w (h : w.heap[p]? = some (.cells #[.float .f32 rate, .float .f32 least, .float .f32 most] 27)) => qNumberError_row p 0 3 3 (three rate least most) (by omega) w (flAt_three h))
  have WI := Lib.hid (show withinB steps 0 50 = decide (0 ≤ steps ∧ steps ≤ 50) by rw [Bool.eq_iff_iff, withinB_iff]; simp)
  unfold carE
  generalize fldE 3 (three rate least most) = er at *
  by_cases h0 : er = 0
  · subst h0
    rw [if_pos rfl]
    unfold carE2
    rw [WI.out]
    cases c1 : (FloatKind.f32.format.order rate 0 == some .lt) <;> cases c2 : (FloatKind.f32.format.order rate 1065353216 == some .gt) <;> cases c3 : (FloatKind.f32.format.order least 0 == some .lt) <;>
      cases c4 : (FloatKind.f32.format.order most least == some .lt)
    all_goals
      go_enter Tryd.func44, Tryd.ntmps44
      go_wp2_with (first | (go_at_call 18; refine (CH.out _ _ (by ((simp only [heap_alloc_get, heap_size_alloc, if_true]) <;> ((repeat' split) <;> first | rfl | omega)))).mono ?_; rintro e w' ⟨rfl, rfl⟩))
      all_goals go_ret
      all_goals exact ⟨ret_int (by simp <;> omega), (by repeat (first | exact Below.refl _ _ | refine Below.alloc ?_ (by first | omega | (simp; done) | (simp; omega)) _ | refine Below.setCell ?_ (by first | omega | (simp; done) | (simp; omega)) _ | refine Below.drew ?_))⟩
  · rw [if_neg h0]
    have h1 : (er != 0) = true := by simpa using h0
    clear WI h0
    go_enter Tryd.func44, Tryd.ntmps44
    go_wp2_with (go_at_call 18; refine (CH.out _ _ (by ((simp only [heap_alloc_get, heap_size_alloc, if_true]) <;> ((repeat' split) <;> first | rfl | omega)))).mono ?_; rintro e w' ⟨rfl, rfl⟩)
    go_ret
    exact ⟨rfl, (by repeat (first | exact Below.refl _ _ | refine Below.alloc ?_ (by first | omega | (simp; done) | (simp; omega)) _ | refine Below.setCell ?_ (by first | omega | (simp; done) | (simp; omega)) _ | refine Below.drew ?_))⟩
end Go.Proofs.YtacbemilicdklaaDoor

/- Plain mathematics of filling: spills are the least ones of all ways; so two fillings agree by value. -/
namespace Go.Proofs.YtacbemilicdklaaDoor
open Go.RowKit Fl
set_option linter.unusedVariables false

/-- x is the spill of a way to the cell k. -/
inductive Way (g : Gnd) : Nat → Nat → Prop where
  | bor : ∀ k, k < g.n → g.bd k = true → Way g k (g.h k)
  | go : ∀ p k a, p < g.n → k < g.n → gnb g p k → g.bd k = false → Way g p a → OkW 1048576 a → Way g k (stepW g.sl a (g.h k))

/-- No way is cheaper than stable spills. -/
theorem way_least {g : Gnd} (G : GndOk g) {s : Nat → Nat} (hb : ∀ k, k < g.n → g.bd k = true → s k = g.h k) (hf : ∀ k, k < g.n → OkW 1048576 (s k))
    (hl : ∀ x, x < g.n → ∀ k, k < g.n → gnb g x k → g.bd k = false → vI (s k) ≤ vI (stepW g.sl (s x) (g.h k))) {k x : Nat} (w : Way g k x) : vI (s k) ≤ vI x := by
  induction w with
  | bor k h1 h2 => rw [hb k h1 h2]; exact Int.le_refl _
  | go p k a h1 h2 h3 h4 w ok ih =>
    exact Int.le_trans (hl p h1 k h2 h3 h4) (step_mono (hf p h1) ok G.slo (G.hgt k h2) (Nat.le_refl _) ih)

theorem Spills.way {g : Gnd} (G : GndOk g) {s : Nat → Nat} (S : Spills g s) : ∀ k, k < g.n → Way g k (s k) := by
  obtain ⟨rk, hr⟩ := S.par
  intro k
  generalize hm : rk k = m
  induction m using Nat.strongRecOn generalizing k with
  | ind m ih =>
    intro hk
    cases e : g.bd k with
    | true => rw [S.bor k hk e]; exact .bor k hk e
    | false =>
      obtain ⟨p, p1, p2, p3, p4⟩ := hr k hk e
      rw [p4]
      exact .go p k _ p1 hk p2 e (ih (rk p) (by omega) p rfl p1) ((S.fin p p1).mono (by omega))

/-- Two fillings of one ground agree by value. -/
theorem spills_eq {g : Gnd} (G : GndOk g) {s r : Nat → Nat} (S : Spills g s) (hb : ∀ k, k < g.n → g.bd k = true → r k = g.h k) (hf : ∀ k, k < g.n → OkW 1048576 (r k))
    (hl : ∀ x, x < g.n → ∀ k, k < g.n → gnb g x k → g.bd k = false → vI (r k) ≤ vI (stepW g.sl (r x) (g.h k))) (hw : ∀ k, k < g.n → Way g k (r k)) : ∀ k, k < g.n → vI (s k) = vI (r k) := fun k hk => by
  have a := way_least G S.bor (fun k h => (S.fin k h).mono (by omega)) (fun x h1 k h2 h3 h4 => S.least x h1 k h3 h4) (hw k hk)
  have b := way_least G hb hf hl (S.way G k hk)
  omega
end Go.Proofs.YtacbemilicdklaaDoor

/- Contracts: the methods of the heap of cells: Len, Less, Swap, Push, Pop. -/
namespace Go.Proofs.YtacbemilicdklaaDoor
open Go.RowKit Fl
set_option linter.unusedVariables false

def cellsL (c : Nat → Nat) (m : Nat) : List Value := (List.range m).map fun i => Value.int .i64 ((c i : Nat) : Int)
theorem cellsL_len (c : Nat → Nat) (m : Nat) : (cellsL c m).length = m := by simp [cellsL]
theorem cellsL_get {c : Nat → Nat} {m i : Nat} (h : i < m) : (cellsL c m)[i]? = some (.int .i64 ((c i : Nat) : Int)) := by simp [cellsL, h]
theorem cellsL_swap {c : Nat → Nat} {m i j : Nat} (hi : i < m) (hj : j < m) : ((cellsL c m).set i (.int .i64 ((c j : Nat) : Int))).set j (.int .i64 ((c i : Nat) : Int)) = cellsL (swp c i j) m := by
  apply List.ext_getElem?
  intro k
  rw [List.getElem?_set, List.getElem?_set]
  by_cases e : k < m
  · rw [cellsL_get e]
    by_cases e1 : j = k
    · subst e1
      rw [if_pos rfl, if_pos (by simpa [cellsL] using e), cellsL_get e, swp_j]
    · rw [if_neg e1]
      by_cases e2 : i = k
      · subst e2
        rw [if_pos rfl, if_pos (by simpa [cellsL] using e), cellsL_get e, swp_i]
      · rw [if_neg e2, cellsL_get e, swp_o c (by omega) (by omega)]
  · have n0 : (cellsL (swp c i j) m)[k]? = none := List.getElem?_eq_none (by simp [cellsL]; omega)
    have n1 : (cellsL c m)[k]? = none := List.getElem?_eq_none (by simp [cellsL]; omega)
    rw [n0, if_neg (by omega), if_neg (by omega), n1]
theorem cellsL_swap' {c : Nat → Nat} {m i j : Nat} (hi : i < m) (hj : j < m) : ((cellsL c m).set j (.int .i64 ((c i : Nat) : Int))).set i (.int .i64 ((c j : Nat) : Int)) = cellsL (swp c i j) m := by
  rw [cellsL_swap hj hi]
  unfold cellsL
  apply List.map_congr_left
  intro k _
  unfold swp
  by_cases e1 : k = i
  · subst e1
    by_cases e2 : k = j
    · subst e2; rfl
    · rw [if_neg e2, if_pos rfl, if_pos rfl]
  · rw [if_neg e1, if_neg e1]
theorem cellsL_succ (c : Nat → Nat) (m k : Nat) : cellsL c m ++ [.int .i64 ((k : Nat) : Int)] = cellsL (updW c m k) (m + 1) := by
  unfold cellsL
  rw [List.range_succ, List.map_append]
  congr 1
  · apply List.map_congr_left
    intro i hi
    rw [updW_other c (by have := List.mem_range.1 hi; omega)]
  · simp [updW_same]
theorem cellsL_take (c : Nat → Nat) (m : Nat) : (cellsL c (m + 1)).take m = cellsL c m := by
  unfold cellsL
  rw [← List.map_take, List.take_range]
  simp

abbrev headsO (g m cap sb n scap : Nat) : Obj := .cells #[.slice (some ⟨g, 0, none⟩) m cap, .slice (some ⟨sb, 0, none⟩) n scap] 135
/-- The heap in the block hb: m cells in the block g, and the spills of all n cells in the block sb. -/
structure HeadsAt (w : World) (hb sb n scap g cap m : Nat) (c s : Nat → Nat) : Prop where
  obj : w.heap[hb]? = some (headsO g m cap sb n scap)
  own : w.ownsRow 0 3 1 (.slice (some ⟨g, 0, none⟩) m cap) m (cellsL c m)
  sp : FlAt w sb 0 n s
  gh : g ≠ hb
  gs : g ≠ sb
  hs : hb ≠ sb
  nc : n ≤ scap
  n1 : 1 ≤ n
  n2 : n ≤ 65536
  m2 : m ≤ 131072
theorem HeadsAt.cap1 {w : World} {hb sb n scap g cap m : Nat} {c s : Nat → Nat} (h : HeadsAt w hb sb n scap g cap m c s) : m ≤ cap ∧ cap ≤ maxLen ∧ g < w.heap.size := by
  rcases h.own.2 with ⟨h', _⟩ | ⟨g', cap', cur, h', _, hg, a, b, _⟩
  · cases h'
  · cases h'
    exact ⟨a, b, (blkC hg).2.2⟩
theorem HeadsAt.cell {w : World} {hb sb n scap g cap m : Nat} {c s : Nat → Nat} (h : HeadsAt w hb sb n scap g cap m c s) {i : Nat} (hi : i < m) : w.cell? ⟨g, i, none⟩ = some (.int .i64 ((c i : Nat) : Int)) := by
  rw [h.own.cellAt i (by omega), cellsL_get hi]

set_option maxHeartbeats 400000 in
theorem len_any (w : World) (hb sb n scap g cap m : Nat) (c s : Nat → Nat) (h : HeadsAt w hb sb n scap g cap m c s) :
    Calls Tryd.prog 120 #[.pointer (some ⟨hb, 0, none⟩)] w fun e w' => e = .returned (.int .i64 m) ∧ w = w' := by
  obtain ⟨cH, fH, zH⟩ := blkC h.obj
  clear h
  go_enter Tryd.func120, Tryd.ntmps120
  go_wp2
  go_ret
  exact ⟨rfl, rfl⟩

set_option maxHeartbeats 2000000 in
theorem less_any (w : World) (hb sb n scap g cap m : Nat) (c s : Nat → Nat) (h : HeadsAt w hb sb n scap g cap m c s) (i j : Nat) (hi : i < m) (hj : j < m) (ci : c i < n) (cj : c j < n) :
    Calls Tryd.prog 184 #[.pointer (some ⟨hb, 0, none⟩), .int .i64 i, .int .i64 j] w fun e w' => e = .returned (.bool (ltB (s (c i)) (s (c j)))) ∧ ∃ q, w' = w.drewN q := by
  obtain ⟨cH, fH, zH⟩ := blkC h.obj
  have k1 := h.cell hi
  have k2 := h.cell hj
  have k3 := h.sp (c i) ci
  have k4 := h.sp (c j) cj
  rw [Nat.zero_add] at k3 k4
  have i1 : (i : Int) < (m : Int) := by omega
  have j1 : (j : Int) < (m : Int) := by omega
  have a1 : ((c i : Nat) : Int) < (n : Int) := by omega
  have a2 : ((c j : Nat) : Int) < (n : Int) := by omega
  clear h ci cj hi hj
  unfold ltB
  generalize s (c i) = x at *
  generalize s (c j) = y at *
  generalize c i = p at *
  generalize c j = q at *
  go_enter Tryd.func184, Tryd.ntmps184
  go_wp2
  go_quiet (fail)
  go_wp2
  go_ret
  exact ⟨rfl, _, rfl⟩

/-- What the heap's methods keep: every block that was there, but for the heap's own and the one of its cells. -/
structure Kept (hb g : Nat) (w w' : World) : Prop where
  os : w'.os = w.os
  tape : w'.tape = w.tape
  output : w'.output = w.output
  size : w.heap.size ≤ w'.heap.size
  block : ∀ k, k < w.heap.size → k ≠ hb → k ≠ g → w'.heap[k]? = w.heap[k]?
theorem Kept.refl (hb g : Nat) (w : World) : Kept hb g w w := ⟨rfl, rfl, rfl, Nat.le_refl _, fun _ _ _ _ => rfl⟩
theorem Kept.drewN (hb g : Nat) (w : World) (q : Nat) : Kept hb g w (w.drewN q) := ⟨rfl, rfl, rfl, Nat.le_refl _, fun _ _ _ _ => rfl⟩
theorem Kept.trans {hb g g' : Nat} {a b c : World} (h : Kept hb g a b) (k : Kept hb g' b c) (hg : g' = g ∨ a.heap.size ≤ g') : Kept hb g a c :=
  ⟨k.os.trans h.os, k.tape.trans h.tape, k.output.trans h.output, Nat.le_trans h.size k.size, fun i hi h1 h2 => (k.block i (Nat.lt_of_lt_of_le hi h.size) h1 (by rcases hg with rfl | hg <;> omega)).trans (h.block i hi h1 h2)⟩
theorem Kept.setCell {hb g : Nat} {a b : World} (h : Kept hb g a b) {p : Addr} (hp : p.block = hb ∨ p.block = g) (u : Value) : Kept hb g a (b.setCell p u) :=
  ⟨h.os, h.tape, h.output, by simpa using h.size, fun i hi h1 h2 => (heap_setCell_other b p i u (by rcases hp with e | e <;> rw [e] <;> omega)).trans (h.block i hi h1 h2)⟩
theorem HeadsAt.kept {w w' : World} {hb sb n scap g cap m : Nat} {c s : Nat → Nat} (h : HeadsAt w hb sb n scap g cap m c s) (e : ∀ k, k = hb ∨ k = sb ∨ k = g → w'.heap[k]? = w.heap[k]?) : HeadsAt w' hb sb n scap g cap m c s := by
  refine ⟨(e hb (.inl rfl)).trans h.obj, ?_, flAt_congr h.sp (e sb (.inr (.inl rfl))), h.gh, h.gs, h.hs, h.nc, h.n1, h.n2, h.m2⟩
  obtain ⟨h1, h2⟩ := h.own
  refine ⟨h1, ?_⟩
  rcases h2 with h2 | ⟨g', cap', cur, hv, hg, hh, r⟩
  · exact .inl h2
  · cases hv
    exact .inr ⟨g, cap, cur, rfl, hg, (e g (.inr (.inr rfl))).trans hh, r⟩
theorem HeadsAt.drewN {w : World} {hb sb n scap g cap m : Nat} {c s : Nat → Nat} (h : HeadsAt w hb sb n scap g cap m c s) (q : Nat) : HeadsAt (w.drewN q) hb sb n scap g cap m c s := h.kept fun _ _ => rfl

theorem heads_swap {w : World} {hb sb n scap g cap m : Nat} {c s : Nat → Nat} (h : HeadsAt w hb sb n scap g cap m c s) {i j : Nat} (hi : i < m) (hj : j < m) :
    HeadsAt ((w.setCell ⟨g, i, none⟩ (.int .i64 ((c j : Nat) : Int))).setCell ⟨g, j, none⟩ (.int .i64 ((c i : Nat) : Int))) hb sb n scap g cap m (swp c i j) s := by
  have o := ((h.own.stored i (.int .i64 ((c j : Nat) : Int))).1.stored j (.int .i64 ((c i : Nat) : Int))).1
  rw [cellsL_swap hi hj] at o
  have e : ∀ k, k ≠ g → ((w.setCell ⟨g, i, none⟩ (.int .i64 ((c j : Nat) : Int))).setCell ⟨g, j, none⟩ (.int .i64 ((c i : Nat) : Int))).heap[k]? = w.heap[k]? := fun k hk =>
    (heap_setCell_other _ _ k _ hk).trans (heap_setCell_other _ _ k _ hk)
  exact ⟨(e hb (Ne.symm h.gh)).trans h.obj, o, flAt_congr h.sp (e sb (Ne.symm h.gs)), h.gh, h.gs, h.hs, h.nc, h.n1, h.n2, h.m2⟩
theorem heads_swap' {w : World} {hb sb n scap g cap m : Nat} {c s : Nat → Nat} (h : HeadsAt w hb sb n scap g cap m c s) {i j : Nat} (hi : i < m) (hj : j < m) :
    HeadsAt ((w.setCell ⟨g, j, none⟩ (.int .i64 ((c i : Nat) : Int))).setCell ⟨g, i, none⟩ (.int .i64 ((c j : Nat) : Int))) hb sb n scap g cap m (swp c i j) s := by
  have o := ((h.own.stored j (.int .i64 ((c i : Nat) : Int))).1.stored i (.int .i64 ((c j : Nat) : Int))).1
  rw [cellsL_swap' hi hj] at o
  have e : ∀ k, k ≠ g → ((w.setCell ⟨g, j, none⟩ (.int .i64 ((c i : Nat) : Int))).setCell ⟨g, i, none⟩ (.int .i64 ((c j : Nat) : Int))).heap[k]? = w.heap[k]? := fun k hk =>
    (heap_setCell_other _ _ k _ hk).trans (heap_setCell_other _ _ k _ hk)
  exact ⟨(e hb (Ne.symm h.gh)).trans h.obj, o, flAt_congr h.sp (e sb (Ne.symm h.gs)), h.gh, h.gs, h.hs, h.nc, h.n1, h.n2, h.m2⟩

set_option maxHeartbeats 4000000 in
theorem swap_any (w : World) (hb sb n scap g cap m : Nat) (c s : Nat → Nat) (h : HeadsAt w hb sb n scap g cap m c s) (i j : Nat) (hi : i < m) (hj : j < m) :
    Calls Tryd.prog 187 #[.pointer (some ⟨hb, 0, none⟩), .int .i64 i, .int .i64 j] w fun e w' => e = .returned (.tuple #[]) ∧ HeadsAt w' hb sb n scap g cap m (swp c i j) s ∧ Kept hb g w w' := by
  have H := Lib.hid h
  obtain ⟨cH, fH, zH⟩ := blkC h.obj
  have c0 : w.cell? ⟨hb, 0, none⟩ = some (.slice (some ⟨g, 0, none⟩) m cap) := cH 0
  clear cH
  have gne := h.gh
  have k1 := h.cell hi
  have k2 := h.cell hj
  have f1 := h.own.frozenAt i
  have f2 := h.own.frozenAt j
  have i1 : (i : Int) < (m : Int) := by omega
  have j1 : (j : Int) < (m : Int) := by omega
  obtain ⟨v1, y1⟩ := cell?_setCell_some (w := w) (p := ⟨g, i, none⟩) (x := .int .i64 ((c j : Nat) : Int)) (q := ⟨g, j, none⟩) (v := .int .i64 ((c j : Nat) : Int)) k2
  obtain ⟨v2, y2⟩ := cell?_setCell_some (w := w) (p := ⟨g, j, none⟩) (x := .int .i64 ((c i : Nat) : Int)) (q := ⟨g, i, none⟩) (v := .int .i64 ((c i : Nat) : Int)) k1
  have I := Lib.hid hi
  have J := Lib.hid hj
  clear h hi hj
  go_enter Tryd.func187, Tryd.ntmps187
  go_wp2
  go_region
  all_goals go_end0
  all_goals first
    | exact ⟨rfl, (heads_swap H.out I.out J.out).kept (fun _ _ => rfl), ((Kept.refl hb g w).setCell (.inr rfl) _).setCell (.inr rfl) _⟩
    | exact ⟨rfl, (heads_swap' H.out I.out J.out).kept (fun _ _ => rfl), ((Kept.refl hb g w).setCell (.inr rfl) _).setCell (.inr rfl) _⟩
    | exact ⟨rfl, (heads_swap H.out I.out J.out).kept (fun _ _ => rfl), (((Kept.refl hb g w).setCell (.inr rfl) _).setCell (.inr rfl) _).trans (Kept.drewN hb g _ 1) (.inl rfl)⟩
    | exact ⟨rfl, (heads_swap' H.out I.out J.out).kept (fun _ _ => rfl), (((Kept.refl hb g w).setCell (.inr rfl) _).setCell (.inr rfl) _).trans (Kept.drewN hb g _ 1) (.inl rfl)⟩

/-- An int in an interface value. -/
abbrev anyI (k : Nat) : Value := .iface 3 (.int .i64 (k : Int))

theorem heads_reslice {w : World} {hb sb n scap g cap m : Nat} {c s : Nat → Nat} (h : HeadsAt w hb sb n scap g cap (m + 1) c s) :
    HeadsAt (w.setCell ⟨hb, 0, none⟩ (.slice (some ⟨g, 0, none⟩) m cap)) hb sb n scap g cap m c s := by
  have e : ∀ k, k ≠ hb → (w.setCell ⟨hb, 0, none⟩ (.slice (some ⟨g, 0, none⟩) m cap)).heap[k]? = w.heap[k]? := fun k hk => heap_setCell_other _ _ k _ hk
  refine ⟨heap_setCell_same w hb 0 _ _ _ h.obj, ?_, flAt_congr h.sp (e sb (Ne.symm h.hs)), h.gh, h.gs, h.hs, h.nc, h.n1, h.n2, by have := h.m2; omega⟩
  refine ⟨by rw [cellsL_len]; omega, .inr ?_⟩
  rcases h.own.2 with ⟨h', _⟩ | ⟨g', cap', cur, h', hb', hg, a, b, d, t⟩
  · cases h'
  · cases h'
    refine ⟨g, cap, cur, rfl, hb', (e g h.gh).trans hg, by omega, b, d, ?_⟩
    have := congrArg (List.take m) t
    rw [cellsL_take, List.take_take] at this
    rw [show m * 1 = min m ((m + 1) * 1) by omega]
    exact this

set_option maxHeartbeats 1000000 in
theorem hpop_any (w : World) (hb sb n scap g cap m : Nat) (c s : Nat → Nat) (h : HeadsAt w hb sb n scap g cap (m + 1) c s) :
    Calls Tryd.prog 185 #[.pointer (some ⟨hb, 0, none⟩)] w fun e w' => e = .returned (anyI (c m)) ∧ HeadsAt w' hb sb n scap g cap m c s ∧ Kept hb g w w' := by
  have R := Lib.hid (heads_reslice h)
  obtain ⟨cH, fH, zH⟩ := blkC h.obj
  have c0 : w.cell? ⟨hb, 0, none⟩ = some (.slice (some ⟨g, 0, none⟩) (m + 1) cap) := cH 0
  have k1 := h.cell (show m < m + 1 by omega)
  obtain ⟨a1, a2, a3⟩ := h.cap1
  have b1 : (m : Int) < (m : Int) + 1 := by omega
  have b2 : ((m : Int) + 1) ≤ (cap : Int) := by omega
  have b3 : ((m : Int)) ≤ (cap : Int) := by omega
  unfold maxLen at a2
  clear h cH
  go_enter Tryd.func185, Tryd.ntmps185
  go_wp2
  go_ret
  exact ⟨rfl, R.out, (Kept.refl hb g w).setCell (.inl rfl) _⟩
end Go.Proofs.YtacbemilicdklaaDoor

/- Contracts: Push of the heap of cells; up, down, Init, Push and Pop of container/heap over it. -/
namespace Go.Proofs.YtacbemilicdklaaDoor
open Go.RowKit Fl
set_option linter.unusedVariables false

theorem assert_int (X : TypeId) (k : Int) (w : World) : (Instr.typeAssert (.iface 3 (.int .i64 k)) X 3 false).run Tryd.prog w = .ok (.int .i64 k) w := by kernel_rfl

theorem heads_push {w w3 : World} {hb sb n scap g cap m g' cap' k : Nat} {c s : Nat → Nat} {o : Obj} (h : HeadsAt w hb sb n scap g cap m c s) (hm : m < 131072) (zH : hb < w.heap.size)
    (hown : w3.ownsRow 0 3 1 (.slice (some ⟨g', 0, none⟩) (m + 1) cap') (m + 1) (cellsL c m ++ [.int .i64 (k : Int)])) (hg : (w.alloc o).drew.grownBy w3 (Value.slice (some ⟨g, 0, none⟩) m cap).ownBlock)
    (hat : (Value.slice (some ⟨g, 0, none⟩) m cap).ownBlock = some g' ∨ g' = w.heap.size + 1) (hobj : w3.heap[hb]? = some (headsO g m cap sb n scap)) :
    HeadsAt (w3.setCell ⟨hb, 0, none⟩ (.slice (some ⟨g', 0, none⟩) (m + 1) cap')) hb sb n scap g' cap' (m + 1) (updW c m k) s ∧ Kept hb g w (w3.setCell ⟨hb, 0, none⟩ (.slice (some ⟨g', 0, none⟩) (m + 1) cap')) ∧ (g' = g ∨ w.heap.size ≤ g') := by
  have hg' : g' = g ∨ w.heap.size < g' := by
    rcases hat with e | e
    · left; simpa [Value.ownBlock] using e.symm
    · right; omega
  have gk : ∀ i, i < w.heap.size → i ≠ g → w3.heap[i]? = w.heap[i]? := fun i hi hne => (hg.block i (by show i < (w.alloc o).heap.size; rw [heap_size_alloc]; omega) (by simp [Value.ownBlock]; exact hne)).trans (heap_alloc_old _ _ hi)
  have zs : sb < w.heap.size := World.block_lt_of_cell? w _ (h.sp 0 h.n1)
  have zg := h.cap1.2.2
  have e : ∀ i, i ≠ hb → (w3.setCell ⟨hb, 0, none⟩ (.slice (some ⟨g', 0, none⟩) (m + 1) cap')).heap[i]? = w3.heap[i]? := fun i hi => heap_setCell_other _ _ i _ hi
  have gh := h.gh
  have gs := h.gs
  have hz : w.heap.size ≤ w3.heap.size := Nat.le_trans (by show w.heap.size ≤ (w.alloc o).heap.size; rw [heap_size_alloc]; omega) hg.size
  refine ⟨⟨heap_setCell_same w3 hb 0 _ _ _ hobj, ?_, flAt_congr h.sp ((e sb (Ne.symm h.hs)).trans (gk sb zs (Ne.symm h.gs))), by omega, by omega, h.hs, h.nc, h.n1, h.n2, by omega⟩, ⟨hg.os, hg.tape, hg.output, by simpa using hz, fun i hi h1 h2 => (e i h1).trans (gk i hi h2)⟩, by omega⟩
  rw [← cellsL_succ]
  refine ⟨hown.1, ?_⟩
  rcases hown.2 with ⟨h', _⟩ | ⟨g2, cap2, cur, hv, hb2, hh, r⟩
  · cases h'
  · cases hv
    exact .inr ⟨g', cap', cur, rfl, hb2, (e g' (by omega)).trans hh, r⟩

set_option maxRecDepth 100000 in
set_option maxHeartbeats 2000000 in
theorem hpush_any (w : World) (hb sb n scap g cap m : Nat) (c s : Nat → Nat) (h : HeadsAt w hb sb n scap g cap m c s) (k : Nat) (hm : m < 131072) :
    Calls Tryd.prog 186 #[.pointer (some ⟨hb, 0, none⟩), anyI k] w fun e w' => e = .returned (.tuple #[]) ∧ ∃ g' cap', HeadsAt w' hb sb n scap g' cap' (m + 1) (updW c m k) s ∧ Kept hb g w w' ∧ (g' = g ∨ w.heap.size ≤ g') := by
  have H := Lib.hid h
  obtain ⟨cH, fH, zH⟩ := blkC h.obj
  have c0 : w.cell? ⟨hb, 0, none⟩ = some (.slice (some ⟨g, 0, none⟩) m cap) := cH 0
  have hinfo : (Tryd.prog.info? 3).map (fun i => (i.zero, i.size, i.bytes)) = some (some (.int .i64 0), 1, 8) := by kernel_rfl
  obtain ⟨i0, hi, hz0, hz1, hz2⟩ := info_parts hinfo
  have HM := Lib.hid hm
  have ta := assert_int
  clear h cH hinfo hm
  go_enter Tryd.func186, Tryd.ntmps186
  go_wp2
  go_region_law (refine step_append_lies _ (by rfl) _ _ _ (by rfl) 0 3 i0 _ 1 8 Tryd.underlying40 hi hz0 hz1 hz2 rfl (by omega) (.slice (some ⟨g, 0, none⟩) m cap) m (cellsL c m) (by rfl) (H.out.own.alloc _) ⟨w.heap.size, 0, none⟩ 1 1 [.int .i64 (k : Int)] (by rfl) (by rfl) (World.news_of_block (cs := #[.int .i64 (k : Int)]) (t := 3) (fr := (0, 0)) (heap_alloc_new w _)) (by simp [Value.oneCell']) (by omega) (by have := HM.out; unfold maxLen; omega) (by have := HM.out; omega) (by simp) (w.heap.size + 1) (by simp) ?_; intro g' cap' w3 hown3 hgrow hat hlt3; have out3 := Lib.hid ((hgrow.block hb (by simp; omega) (by simp [Value.ownBlock]; exact Ne.symm H.out.gh)).trans ((heap_alloc_old _ _ zH).trans H.out.obj)); obtain ⟨cV3, fV3, zV3⟩ := blkC out3.out)
  all_goals
    have HO := Lib.hid hown3
    have HG := Lib.hid hgrow
    have HA := Lib.hid hat
    have HL := Lib.hid hlt3
    clear hown3 hgrow hat hlt3 cV3 fV3 zV3
    go_wp2
    go_end0
    exact ⟨rfl, g', cap', heads_push H.out HM.out zH HO.out HG.out HA.out out3.out⟩

theorem m_len (f : Nat) (a : Addr) (w : World) : (method (f + 1) 133 (.pointer (some a)) "Len").run Tryd.prog w = .ok (120, .pointer (some a)) w := by kernel_rfl
theorem m_less (f : Nat) (a : Addr) (w : World) : (method (f + 1) 133 (.pointer (some a)) "Less").run Tryd.prog w = .ok (184, .pointer (some a)) w := by kernel_rfl
theorem m_swap (f : Nat) (a : Addr) (w : World) : (method (f + 1) 133 (.pointer (some a)) "Swap").run Tryd.prog w = .ok (187, .pointer (some a)) w := by kernel_rfl
theorem m_push (f : Nat) (a : Addr) (w : World) : (method (f + 1) 133 (.pointer (some a)) "Push").run Tryd.prog w = .ok (186, .pointer (some a)) w := by kernel_rfl
theorem m_pop (f : Nat) (a : Addr) (w : World) : (method (f + 1) 133 (.pointer (some a)) "Pop").run Tryd.prog w = .ok (185, .pointer (some a)) w := by kernel_rfl

theorem ltB_val {x y : Nat} (hx : vS x = some (vI x)) (hy : vS y = some (vI y)) : ltB x y = decide (vI x < vI y) := by
  unfold ltB; rw [f32f', lss_val hx hy]

theorem num_eq {a b : Int} (h : a = b) : Value.int .i64 a = .int .i64 b := by rw [h]
theorem less_anyI (w : World) (hb sb n scap g cap m : Nat) (c s : Nat → Nat) (h : HeadsAt w hb sb n scap g cap m c s) (i j : Nat) (hi : i < m) (hj : j < m) (ci : c i < n) (cj : c j < n) (x y : Int) (hx : (i : Int) = x) (hy : (j : Int) = y) :
    Calls Tryd.prog 184 #[.pointer (some ⟨hb, 0, none⟩), .int .i64 x, .int .i64 y] w fun e w' => e = .returned (.bool (ltB (s (c i)) (s (c j)))) ∧ ∃ q, w' = w.drewN q := by
  subst hx; subst hy; exact less_any w hb sb n scap g cap m c s h i j hi hj ci cj
theorem swap_anyI (w : World) (hb sb n scap g cap m : Nat) (c s : Nat → Nat) (h : HeadsAt w hb sb n scap g cap m c s) (i j : Nat) (hi : i < m) (hj : j < m) (x y : Int) (hx : (i : Int) = x) (hy : (j : Int) = y) :
    Calls Tryd.prog 187 #[.pointer (some ⟨hb, 0, none⟩), .int .i64 x, .int .i64 y] w fun e w' => e = .returned (.tuple #[]) ∧ HeadsAt w' hb sb n scap g cap m (swp c i j) s ∧ Kept hb g w w' := by
  subst hx; subst hy; exact swap_any w hb sb n scap g cap m c s h i j hi hj

/-- What down answers: the heap's cells at the first n0 places exchanged among themselves, so that they are a heap from L on. -/
def DownPost (hb sb n scap g cap m n0 L : Nat) (c s : Nat → Nat) (w : World) (e : Ending) (w' : World) : Prop :=
  (∃ b, e = .returned (.bool b)) ∧ ∃ c', HeadsAt w' hb sb n scap g cap m c' s ∧ SameSet n0 c c' ∧ (∀ i, n0 ≤ i → c' i = c i) ∧ HeapFrom L n0 (fun x => vI (s x)) c' ∧ Kept hb g w w'

set_option maxRecDepth 100000 in
set_option maxHeartbeats 4000000 in
theorem down_any (w : World) (hb sb n scap g cap m : Nat) (c s : Nat → Nat) (h : HeadsAt w hb sb n scap g cap m c s) (hok : ∀ i, i < m → c i < n ∧ vS (s (c i)) = some (vI (s (c i)))) (i0 n0 : Nat) (h0 : n0 ≤ m) (h1 : i0 ≤ n0)
    (hd : HeapDown i0 n0 (fun x => vI (s x)) c i0) :
    Calls Tryd.prog 146 #[.iface 133 (.pointer (some ⟨hb, 0, none⟩)), .int .i64 i0, .int .i64 n0] w (DownPost hb sb n scap g cap m n0 i0 c s w) := by
  have m2 := h.m2
  have ml := m_less
  have ms := m_swap
  have OK := Lib.hid hok
  have H := Lib.hid h
  have HD := Lib.hid hd
  clear hok h hd
  go_enter Tryd.func146, Tryd.ntmps146
  go_wp2
  go_loopw [7, 8, 9, 10] (fun s7 s8 s9 s10 wr => ∃ (p : Nat) (c' : Nat → Nat), p ≤ n0 ∧ i0 ≤ p ∧ s7 = .int .i64 p ∧ HeadsAt wr hb sb n scap g cap m c' s ∧ SameSet n0 c c' ∧ (∀ i, n0 ≤ i → c' i = c i) ∧ HeapDown i0 n0 (fun x => vI (s x)) c' p ∧ Kept hb g w wr)
    (fun s7 _ _ _ _ => n0 - (intOf s7).toNat)
  case atStart => exact ⟨i0, c, h1, Nat.le_refl _, rfl, H.out, .rfl', fun _ _ => rfl, HD.out, Kept.refl _ _ _⟩
  case round =>
    obtain ⟨p, c', hp1, hp2, rfl, hH, hS, hF, hD, hK⟩ := hrel
    have HH := Lib.hid hH
    have HS := Lib.hid hS
    have HF := Lib.hid hF
    have HDn := Lib.hid hD
    have HK := Lib.hid hK
    have OK' := Lib.hid (show ∀ i, i < m → c' i < n ∧ vS (s (c' i)) = some (vI (s (c' i))) from fun i hi => by
      by_cases e : i < n0
      · exact hS.all (P := fun x => x < n ∧ vS (s x) = some (vI (s x))) (fun i hi => OK.out i (by omega)) i e
      · rw [hF i (by omega)]; exact OK.out i hi)
    clear hH hS hF hD hK
    by_cases hk : 2 * p + 1 < n0
    · by_cases h2 : 2 * p + 2 < n0
      · have L12 := Lib.hid (fun W (hW : HeadsAt W hb sb n scap g cap m c' s) => less_anyI W hb sb n scap g cap m c' s hW (2 * p + 2) (2 * p + 1) (by omega) (by omega) (OK'.out _ (by omega)).1 (OK'.out _ (by omega)).1 (2 * (p : Int) + 1 + 1) (2 * (p : Int) + 1) (by omega) (by omega))
        have V12 := Lib.hid (ltB_val (OK'.out (2 * p + 2) (by omega)).2 (OK'.out (2 * p + 1) (by omega)).2)
        cases e12 : ltB (s (c' (2 * p + 2))) (s (c' (2 * p + 1))) with
        | true =>
          rw [e12] at L12 V12
          have MIN := Lib.hid (kids (n := n0) (p := p) (K := fun x => vI (s x)) (c := c') (j := 2 * p + 2) (.inr rfl) (fun h => by omega) (fun _ => by have := V12.out; simp at this; exact Int.le_of_lt this))
          have L3 := Lib.hid (fun W (hW : HeadsAt W hb sb n scap g cap m c' s) => less_anyI W hb sb n scap g cap m c' s hW (2 * p + 2) p (by omega) (by omega) (OK'.out _ (by omega)).1 (OK'.out _ (by omega)).1 (2 * (p : Int) + 1 + 1) p (by omega) rfl)
          clear e12 V12

          cases e3 : ltB (s (c' (2 * p + 2))) (s (c' p)) with
          | false =>
            rw [e3] at L3
            have HN := Lib.hid (show HeapFrom i0 n0 (fun x => vI (s x)) c' from down_done HDn.out (fun i a b d => Int.le_trans (by rw [ltB_val (OK'.out _ (by omega)).2 (OK'.out _ (by omega)).2] at e3; simpa using e3) (MIN.out i a b d)))
            clear e3
            go_wp2_with (first | (go_at_call 184; (with_reducible refine Calls.mono (L12.out _ ?_) ?_); (first | exact HH.out | exact HH.out.drewN _ | exact (HH.out.drewN _).drewN _); rintro e w' ⟨rfl, q1, rfl⟩) | (go_at_call 184; (with_reducible refine Calls.mono (L3.out _ ?_) ?_); (first | exact HH.out | exact HH.out.drewN _ | exact (HH.out.drewN _).drewN _); rintro e w' ⟨rfl, q2, rfl⟩))
            go_ret
            exact ⟨⟨_, rfl⟩, c', (by first | exact HH.out.drewN _ | exact (HH.out.drewN _).drewN _), HS.out, HF.out, HN.out, by first | exact HK.out.trans (Kept.drewN _ _ _ _) (.inl rfl) | exact (HK.out.trans (Kept.drewN _ _ _ _) (.inl rfl)).trans (Kept.drewN _ _ _ _) (.inl rfl)⟩
          | true =>
            rw [e3] at L3
            have HN := Lib.hid (show HeapDown i0 n0 (fun x => vI (s x)) (swp c' p (2 * p + 2)) (2 * p + 2) from down_swap HDn.out hp2 (by omega) (by omega) (by omega) (by rw [ltB_val (OK'.out _ (by omega)).2 (OK'.out _ (by omega)).2] at e3; simpa using e3) MIN.out)
            have SW := Lib.hid (fun W (hW : HeadsAt W hb sb n scap g cap m c' s) => swap_anyI W hb sb n scap g cap m c' s hW p (2 * p + 2) (by omega) (by omega) p (2 * (p : Int) + 1 + 1) rfl (by omega))
            clear e3
            go_wp2_with (first | (go_at_call 184; (with_reducible refine Calls.mono (L12.out _ ?_) ?_); (first | exact HH.out | exact HH.out.drewN _ | exact (HH.out.drewN _).drewN _); rintro e w' ⟨rfl, q1, rfl⟩) | (go_at_call 184; (with_reducible refine Calls.mono (L3.out _ ?_) ?_); (first | exact HH.out | exact HH.out.drewN _ | exact (HH.out.drewN _).drewN _); rintro e w' ⟨rfl, q2, rfl⟩) | (go_at_call 187; (with_reducible refine Calls.mono (SW.out _ ?_) ?_); (first | exact HH.out | exact HH.out.drewN _ | exact (HH.out.drewN _).drewN _); rintro e w3 ⟨rfl, hs3⟩; have S3 := Lib.hid hs3; clear hs3))
            go_roundw
            case rel => exact ⟨2 * p + 2, swp c' p (2 * p + 2), by omega, by omega, num_eq (by omega), S3.out.1, HS.out.trans (same_swp (by omega) (by omega)), (fun i hi => by rw [swp_o c' (by omega) (by omega)]; exact HF.out i hi), HN.out, by first | exact (HK.out.trans (Kept.drewN _ _ _ _) (.inl rfl)).trans S3.out.2 (.inl rfl) | exact ((HK.out.trans (Kept.drewN _ _ _ _) (.inl rfl)).trans (Kept.drewN _ _ _ _) (.inl rfl)).trans S3.out.2 (.inl rfl)⟩
            case measure => simp [intOf]; omega
        | false =>
          rw [e12] at L12 V12
          have MIN := Lib.hid (kids (n := n0) (p := p) (K := fun x => vI (s x)) (c := c') (j := 2 * p + 1) (.inl rfl) (fun _ _ => by have := V12.out; simp at this; exact this) (fun h => by omega))
          have L3 := Lib.hid (fun W (hW : HeadsAt W hb sb n scap g cap m c' s) => less_anyI W hb sb n scap g cap m c' s hW (2 * p + 1) p (by omega) (by omega) (OK'.out _ (by omega)).1 (OK'.out _ (by omega)).1 (2 * (p : Int) + 1) p (by omega) rfl)
          clear e12 V12

          cases e3 : ltB (s (c' (2 * p + 1))) (s (c' p)) with
          | false =>
            rw [e3] at L3
            have HN := Lib.hid (show HeapFrom i0 n0 (fun x => vI (s x)) c' from down_done HDn.out (fun i a b d => Int.le_trans (by rw [ltB_val (OK'.out _ (by omega)).2 (OK'.out _ (by omega)).2] at e3; simpa using e3) (MIN.out i a b d)))
            clear e3
            go_wp2_with (first | (go_at_call 184; (with_reducible refine Calls.mono (L12.out _ ?_) ?_); (first | exact HH.out | exact HH.out.drewN _ | exact (HH.out.drewN _).drewN _); rintro e w' ⟨rfl, q1, rfl⟩) | (go_at_call 184; (with_reducible refine Calls.mono (L3.out _ ?_) ?_); (first | exact HH.out | exact HH.out.drewN _ | exact (HH.out.drewN _).drewN _); rintro e w' ⟨rfl, q2, rfl⟩))
            go_ret
            exact ⟨⟨_, rfl⟩, c', (by first | exact HH.out.drewN _ | exact (HH.out.drewN _).drewN _), HS.out, HF.out, HN.out, by first | exact HK.out.trans (Kept.drewN _ _ _ _) (.inl rfl) | exact (HK.out.trans (Kept.drewN _ _ _ _) (.inl rfl)).trans (Kept.drewN _ _ _ _) (.inl rfl)⟩
          | true =>
            rw [e3] at L3
            have HN := Lib.hid (show HeapDown i0 n0 (fun x => vI (s x)) (swp c' p (2 * p + 1)) (2 * p + 1) from down_swap HDn.out hp2 (by omega) (by omega) (by omega) (by rw [ltB_val (OK'.out _ (by omega)).2 (OK'.out _ (by omega)).2] at e3; simpa using e3) MIN.out)
            have SW := Lib.hid (fun W (hW : HeadsAt W hb sb n scap g cap m c' s) => swap_anyI W hb sb n scap g cap m c' s hW p (2 * p + 1) (by omega) (by omega) p (2 * (p : Int) + 1) rfl (by omega))
            clear e3
            go_wp2_with (first | (go_at_call 184; (with_reducible refine Calls.mono (L12.out _ ?_) ?_); (first | exact HH.out | exact HH.out.drewN _ | exact (HH.out.drewN _).drewN _); rintro e w' ⟨rfl, q1, rfl⟩) | (go_at_call 184; (with_reducible refine Calls.mono (L3.out _ ?_) ?_); (first | exact HH.out | exact HH.out.drewN _ | exact (HH.out.drewN _).drewN _); rintro e w' ⟨rfl, q2, rfl⟩) | (go_at_call 187; (with_reducible refine Calls.mono (SW.out _ ?_) ?_); (first | exact HH.out | exact HH.out.drewN _ | exact (HH.out.drewN _).drewN _); rintro e w3 ⟨rfl, hs3⟩; have S3 := Lib.hid hs3; clear hs3))
            go_roundw
            case rel => exact ⟨2 * p + 1, swp c' p (2 * p + 1), by omega, by omega, num_eq (by omega), S3.out.1, HS.out.trans (same_swp (by omega) (by omega)), (fun i hi => by rw [swp_o c' (by omega) (by omega)]; exact HF.out i hi), HN.out, by first | exact (HK.out.trans (Kept.drewN _ _ _ _) (.inl rfl)).trans S3.out.2 (.inl rfl) | exact ((HK.out.trans (Kept.drewN _ _ _ _) (.inl rfl)).trans (Kept.drewN _ _ _ _) (.inl rfl)).trans S3.out.2 (.inl rfl)⟩
            case measure => simp [intOf]; omega
      · have h2' : decide ((2 * (p : Int) + 1 + 1) < (n0 : Int)) = false := by simp; omega
        have MIN := Lib.hid (kids (n := n0) (p := p) (K := fun x => vI (s x)) (c := c') (j := 2 * p + 1) (.inl rfl) (fun _ h => by omega) (fun h => by omega))
        have L3 := Lib.hid (fun W (hW : HeadsAt W hb sb n scap g cap m c' s) => less_anyI W hb sb n scap g cap m c' s hW (2 * p + 1) p (by omega) (by omega) (OK'.out _ (by omega)).1 (OK'.out _ (by omega)).1 (2 * (p : Int) + 1) p (by omega) rfl)

        cases e3 : ltB (s (c' (2 * p + 1))) (s (c' p)) with
        | false =>
          rw [e3] at L3
          have HN := Lib.hid (show HeapFrom i0 n0 (fun x => vI (s x)) c' from down_done HDn.out (fun i a b d => Int.le_trans (by rw [ltB_val (OK'.out _ (by omega)).2 (OK'.out _ (by omega)).2] at e3; simpa using e3) (MIN.out i a b d)))
          clear e3
          go_wp2_with (first | (go_at_call 184; (with_reducible refine Calls.mono (L3.out _ ?_) ?_); (first | exact HH.out | exact HH.out.drewN _ | exact (HH.out.drewN _).drewN _); rintro e w' ⟨rfl, q2, rfl⟩))
          go_ret
          exact ⟨⟨_, rfl⟩, c', (by first | exact HH.out.drewN _ | exact (HH.out.drewN _).drewN _), HS.out, HF.out, HN.out, by first | exact HK.out.trans (Kept.drewN _ _ _ _) (.inl rfl) | exact (HK.out.trans (Kept.drewN _ _ _ _) (.inl rfl)).trans (Kept.drewN _ _ _ _) (.inl rfl)⟩
        | true =>
          rw [e3] at L3
          have HN := Lib.hid (show HeapDown i0 n0 (fun x => vI (s x)) (swp c' p (2 * p + 1)) (2 * p + 1) from down_swap HDn.out hp2 (by omega) (by omega) (by omega) (by rw [ltB_val (OK'.out _ (by omega)).2 (OK'.out _ (by omega)).2] at e3; simpa using e3) MIN.out)
          have SW := Lib.hid (fun W (hW : HeadsAt W hb sb n scap g cap m c' s) => swap_anyI W hb sb n scap g cap m c' s hW p (2 * p + 1) (by omega) (by omega) p (2 * (p : Int) + 1) rfl (by omega))
          clear e3
          go_wp2_with (first | (go_at_call 184; (with_reducible refine Calls.mono (L3.out _ ?_) ?_); (first | exact HH.out | exact HH.out.drewN _ | exact (HH.out.drewN _).drewN _); rintro e w' ⟨rfl, q2, rfl⟩) | (go_at_call 187; (with_reducible refine Calls.mono (SW.out _ ?_) ?_); (first | exact HH.out | exact HH.out.drewN _ | exact (HH.out.drewN _).drewN _); rintro e w3 ⟨rfl, hs3⟩; have S3 := Lib.hid hs3; clear hs3))
          go_roundw
          case rel => exact ⟨2 * p + 1, swp c' p (2 * p + 1), by omega, by omega, num_eq (by omega), S3.out.1, HS.out.trans (same_swp (by omega) (by omega)), (fun i hi => by rw [swp_o c' (by omega) (by omega)]; exact HF.out i hi), HN.out, by first | exact (HK.out.trans (Kept.drewN _ _ _ _) (.inl rfl)).trans S3.out.2 (.inl rfl) | exact ((HK.out.trans (Kept.drewN _ _ _ _) (.inl rfl)).trans (Kept.drewN _ _ _ _) (.inl rfl)).trans S3.out.2 (.inl rfl)⟩
          case measure => simp [intOf]; omega
    · have hk' : decide ((2 * (p : Int) + 1) < (n0 : Int)) = false := by simp; omega
      go_wp2
      go_ret
      exact ⟨⟨_, rfl⟩, c', HH.out, HS.out, HF.out, down_done HDn.out (fun i a b d => by omega), HK.out⟩
end Go.Proofs.YtacbemilicdklaaDoor

/- Contracts: up, Init, Pop and Push of container/heap over the heap of cells. -/
namespace Go.Proofs.YtacbemilicdklaaDoor
open Go.RowKit Fl
set_option linter.unusedVariables false

/-- Cells that are there, with spills that have a value. -/
def OkC (n m : Nat) (c s : Nat → Nat) : Prop := ∀ i, i < m → c i < n ∧ vS (s (c i)) = some (vI (s (c i)))
theorem OkC.same {n m : Nat} {c c' s : Nat → Nat} (h : OkC n m c s) (hs : SameSet m c c') : OkC n m c' s := hs.all (P := fun x => x < n ∧ vS (s x) = some (vI (s x))) h

def UpPost (hb sb n scap g cap m : Nat) (c s : Nat → Nat) (w : World) (e : Ending) (w' : World) : Prop :=
  e = .returned (.tuple #[]) ∧ ∃ c', HeadsAt w' hb sb n scap g cap m c' s ∧ SameSet m c c' ∧ Heap m (fun x => vI (s x)) c' ∧ Kept hb g w w'

set_option maxRecDepth 100000 in
set_option maxHeartbeats 2000000 in
theorem up_any (w : World) (hb sb n scap g cap m : Nat) (c s : Nat → Nat) (h : HeadsAt w hb sb n scap g cap m c s) (hok : OkC n m c s) (j0 : Nat) (h0 : j0 < m) (hd : HeapUp m (fun x => vI (s x)) c j0) :
    Calls Tryd.prog 149 #[.iface 133 (.pointer (some ⟨hb, 0, none⟩)), .int .i64 j0] w (UpPost hb sb n scap g cap m c s w) := by
  have m2 := h.m2
  have ml := m_less
  have ms := m_swap
  have OK := Lib.hid hok
  have H := Lib.hid h
  have HD := Lib.hid hd
  clear hok h hd
  go_enter Tryd.func149, Tryd.ntmps149
  go_wp2
  go_loopw [1, 4] (fun s1 s4 wr => ∃ (j : Nat) (c' : Nat → Nat), j < m ∧ s1 = .int .i64 j ∧ HeadsAt wr hb sb n scap g cap m c' s ∧ SameSet m c c' ∧ HeapUp m (fun x => vI (s x)) c' j ∧ Kept hb g w wr)
    (fun s1 _ _ => (intOf s1).toNat)
  case atStart => exact ⟨j0, c, h0, rfl, H.out, .rfl', HD.out, Kept.refl _ _ _⟩
  case round =>
    obtain ⟨j, c', hj1, rfl, hH, hS, hD, hK⟩ := hrel
    have HH := Lib.hid hH
    have HS := Lib.hid hS
    have HU := Lib.hid hD
    have HK := Lib.hid hK
    have OK' := Lib.hid (OK.out.same hS)
    clear hH hS hD hK
    rcases Nat.eq_zero_or_pos j with rfl | hj
    · rw [show ((0 : Nat) : Int) = 0 from rfl]
      go_wp2
      go_end0
      exact ⟨rfl, c', HH.out, HS.out, up_done HU.out (.inl rfl), HK.out⟩
    · have L3 := Lib.hid (fun W (hW : HeadsAt W hb sb n scap g cap m c' s) => less_anyI W hb sb n scap g cap m c' s hW j ((j - 1) / 2) (by omega) (by omega) (OK'.out _ (by omega)).1 (OK'.out _ (by omega)).1 j (((j : Int) - 1) / 2) rfl (by omega))
      have SW := Lib.hid (fun W (hW : HeadsAt W hb sb n scap g cap m c' s) => swap_anyI W hb sb n scap g cap m c' s hW ((j - 1) / 2) j (by omega) (by omega) (((j : Int) - 1) / 2) j (by omega) rfl)
      have hne : ((((j : Int) - 1) / 2) == (j : Int)) = false := by simp; omega
      have hne' : ¬ ((((j : Int) - 1) / 2) = (j : Int)) := by omega
      have V3 := Lib.hid (ltB_val (OK'.out j (by omega)).2 (OK'.out ((j - 1) / 2) (by omega)).2)
      cases e3 : ltB (s (c' j)) (s (c' ((j - 1) / 2))) with
      | false =>
        rw [e3] at L3 V3
        clear e3
        go_wp2_with (first | (go_at_call 184; (with_reducible refine Calls.mono (L3.out _ ?_) ?_); (first | exact HH.out | exact HH.out.drewN _); rintro e w' ⟨rfl, q2, rfl⟩))
        go_end0
        exact ⟨rfl, c', (by first | exact HH.out.drewN _ | exact HH.out), HS.out, up_done HU.out (.inr (by have := V3.out; simp at this; simp; omega)), HK.out.trans (Kept.drewN _ _ _ _) (.inl rfl)⟩
      | true =>
        rw [e3] at L3 V3
        clear e3
        have HN := Lib.hid (up_swap HU.out hj (by have := V3.out; simp at this; exact this))
        go_wp2_with (first | (go_at_call 184; (with_reducible refine Calls.mono (L3.out _ ?_) ?_); (first | exact HH.out | exact HH.out.drewN _); rintro e w' ⟨rfl, q2, rfl⟩) | (go_at_call 187; (with_reducible refine Calls.mono (SW.out _ ?_) ?_); (first | exact HH.out | exact HH.out.drewN _); rintro e w3 ⟨rfl, hs3⟩; have S3 := Lib.hid hs3; clear hs3))
        go_roundw
        case rel => exact ⟨(j - 1) / 2, swp c' ((j - 1) / 2) j, by omega, num_eq (by omega), S3.out.1, HS.out.trans (same_swp (by omega) (by omega)), HN.out, (HK.out.trans (Kept.drewN _ _ _ _) (.inl rfl)).trans S3.out.2 (.inl rfl)⟩
        case measure => simp [intOf]; omega

theorem down_anyI (w : World) (hb sb n scap g cap m : Nat) (c s : Nat → Nat) (h : HeadsAt w hb sb n scap g cap m c s) (hok : OkC n m c s) (i0 n0 : Nat) (h0 : n0 ≤ m) (h1 : i0 ≤ n0)
    (hd : HeapDown i0 n0 (fun x => vI (s x)) c i0) (x y : Int) (hx : (i0 : Int) = x) (hy : (n0 : Int) = y) :
    Calls Tryd.prog 146 #[.iface 133 (.pointer (some ⟨hb, 0, none⟩)), .int .i64 x, .int .i64 y] w (DownPost hb sb n scap g cap m n0 i0 c s w) := by
  subst hx; subst hy; exact down_any w hb sb n scap g cap m c s h hok i0 n0 h0 h1 hd

set_option maxRecDepth 100000 in
set_option maxHeartbeats 2000000 in
theorem hinit_any (w : World) (hb sb n scap g cap m : Nat) (c s : Nat → Nat) (h : HeadsAt w hb sb n scap g cap m c s) (hok : OkC n m c s) :
    Calls Tryd.prog 119 #[.iface 133 (.pointer (some ⟨hb, 0, none⟩))] w (UpPost hb sb n scap g cap m c s w) := by
  have m2 := h.m2
  have ml := m_len
  have LN := Lib.hid (len_any w hb sb n scap g cap m c s h)
  have OK := Lib.hid hok
  have H := Lib.hid h
  clear hok h
  go_enter Tryd.func119, Tryd.ntmps119
  go_wp2_with (go_at_call 120; refine LN.out.mono ?_; rintro e w' ⟨rfl, rfl⟩)
  go_loopw [3] (fun s3 wr => ∃ (q : Nat) (c' : Nat → Nat), q ≤ m ∧ s3 = .int .i64 ((q : Int) - 1) ∧ HeadsAt wr hb sb n scap g cap m c' s ∧ SameSet m c c' ∧ HeapFrom q m (fun x => vI (s x)) c' ∧ Kept hb g w wr)
    (fun s3 _ => (intOf s3 + 1).toNat)
  case atStart => exact ⟨m / 2, c, by omega, num_eq (by omega), H.out, .rfl', heap_all, Kept.refl _ _ _⟩
  case round =>
    obtain ⟨q, c', hq1, rfl, hH, hS, hD, hK⟩ := hrel
    have HH := Lib.hid hH
    have HS := Lib.hid hS
    have HU := Lib.hid hD
    have HK := Lib.hid hK
    have OK' := Lib.hid (OK.out.same hS)
    clear hH hS hD hK
    rcases Nat.eq_zero_or_pos q with rfl | hq
    · rw [show (((0 : Nat) : Int) - 1) = -1 from rfl]
      go_wp2
      go_end0
      exact ⟨rfl, c', HH.out, HS.out, heap_from HU.out, HK.out⟩
    · have DN := Lib.hid (down_anyI wr hb sb n scap g cap m c' s HH.out OK'.out (q - 1) m (Nat.le_refl _) (by omega) (down_start (by rw [show q - 1 + 1 = q by omega]; exact HU.out)) ((q : Int) - 1) m (by omega) rfl)
      go_wp2_with (go_at_call 146; refine DN.out.mono ?_; rintro e w3 ⟨⟨b, rfl⟩, c3, h3⟩; have H3 := Lib.hid h3; clear h3)
      go_roundw
      case rel => exact ⟨q - 1, c3, by omega, num_eq (by omega), H3.out.1, HS.out.trans H3.out.2.1, H3.out.2.2.2.1, HK.out.trans H3.out.2.2.2.2 (.inl rfl)⟩
      case measure => simp [intOf]; omega

def PopPost (hb sb n scap g cap m : Nat) (c s : Nat → Nat) (w : World) (e : Ending) (w' : World) : Prop :=
  e = .returned (anyI (c 0)) ∧ ∃ c', HeadsAt w' hb sb n scap g cap m c' s ∧ SameSet m (swp c 0 m) c' ∧ Heap m (fun x => vI (s x)) c' ∧ Kept hb g w w'

set_option maxRecDepth 100000 in
set_option maxHeartbeats 2000000 in
theorem pop_any (w : World) (hb sb n scap g cap m : Nat) (c s : Nat → Nat) (h : HeadsAt w hb sb n scap g cap (m + 1) c s) (hok : OkC n (m + 1) c s) (hh : Heap (m + 1) (fun x => vI (s x)) c) :
    Calls Tryd.prog 121 #[.iface 133 (.pointer (some ⟨hb, 0, none⟩))] w (PopPost hb sb n scap g cap m c s w) := by
  have m2 := h.m2
  have ml := m_len
  have mp := m_pop
  have ms := m_swap
  have LN := Lib.hid (len_any w hb sb n scap g cap (m + 1) c s h)
  have SW := Lib.hid (swap_anyI w hb sb n scap g cap (m + 1) c s h 0 m (by omega) (by omega) 0 m rfl rfl)
  have DN := Lib.hid (fun W hW => down_anyI W hb sb n scap g cap (m + 1) (swp c 0 m) s hW (hok.same (same_swp (by omega) (by omega))) 0 m (by omega) (by omega) (down_start (pop_start hh)) 0 m rfl rfl)
  clear hok h hh
  go_enter Tryd.func121, Tryd.ntmps121
  go_wp2_with (first | (go_at_call 120; refine LN.out.mono ?_; rintro e w' ⟨rfl, rfl⟩) | (go_at_call 187; refine SW.out.mono ?_; rintro e w1 ⟨rfl, hs1⟩; have S1 := Lib.hid hs1; clear hs1) | (go_at_call 146; refine (DN.out _ S1.out.1).mono ?_; rintro e w2 ⟨⟨b, rfl⟩, c2, h2⟩; have H2 := Lib.hid h2; clear h2) | (go_at_call 185; refine (hpop_any _ hb sb n scap g cap m c2 s H2.out.1).mono ?_; rintro e w3 ⟨rfl, h3⟩; have H3 := Lib.hid h3; clear h3))
  go_ret
  exact ⟨by rw [H2.out.2.2.1 m (Nat.le_refl _), swp_j]; rfl, c2, H3.out.1, H2.out.2.1, heap_from H2.out.2.2.2.1, (S1.out.2.trans H2.out.2.2.2.2 (.inl rfl)).trans H3.out.2 (.inl rfl)⟩

def PushPost (hb sb n scap g m : Nat) (c s : Nat → Nat) (k : Nat) (w : World) (e : Ending) (w' : World) : Prop :=
  e = .returned (.tuple #[]) ∧ ∃ g' cap' c', HeadsAt w' hb sb n scap g' cap' (m + 1) c' s ∧ SameSet (m + 1) (updW c m k) c' ∧ Heap (m + 1) (fun x => vI (s x)) c' ∧ Kept hb g w w' ∧ (g' = g ∨ w.heap.size ≤ g')

set_option maxRecDepth 100000 in
set_option maxHeartbeats 2000000 in
theorem push_any (w : World) (hb sb n scap g cap m : Nat) (c s : Nat → Nat) (h : HeadsAt w hb sb n scap g cap m c s) (hok : OkC n m c s) (hh : Heap m (fun x => vI (s x)) c) (k : Nat) (hm : m < 131072) (hk : k < n) (hv : vS (s k) = some (vI (s k))) :
    Calls Tryd.prog 123 #[.iface 133 (.pointer (some ⟨hb, 0, none⟩)), anyI k] w (PushPost hb sb n scap g m c s k w) := by
  have ml := m_len
  have mp := m_push
  have PU := Lib.hid (hpush_any w hb sb n scap g cap m c s h k hm)
  have OK := Lib.hid (show OkC n (m + 1) (updW c m k) s from fun i hi => by
    by_cases e : i = m
    · subst e; rw [updW_same]; exact ⟨hk, hv⟩
    · rw [updW_other c e]; exact hok i (by omega))
  have HU := Lib.hid (show HeapUp (m + 1) (fun x => vI (s x)) (updW c m k) m from up_start hh (fun i hi => updW_other c (by omega)))
  clear hok h hh hv
  go_enter Tryd.func123, Tryd.ntmps123
  go_wp2_with (first | (go_at_call 186; refine PU.out.mono ?_; rintro e w1 ⟨rfl, g', cap', hs1⟩; have S1 := Lib.hid hs1; clear hs1) | (go_at_call 120; refine (len_any _ hb sb n scap g' cap' (m + 1) _ s S1.out.1).mono ?_; rintro e w' ⟨rfl, rfl⟩) | (go_at_call 149; refine (up_any _ hb sb n scap g' cap' (m + 1) _ s S1.out.1 OK.out m (by omega) HU.out).mono ?_; rintro e w2 ⟨rfl, c2, h2⟩; have H2 := Lib.hid h2; clear h2))
  go_end0
  exact ⟨rfl, g', cap', c2, H2.out.1, H2.out.2.1, H2.out.2.2.1, S1.out.2.1.trans H2.out.2.2.2 S1.out.2.2, S1.out.2.2⟩
end Go.Proofs.YtacbemilicdklaaDoor

/- Contracts: isBorder; neighbours, and the iterator that it hands back: the neighbours of a cell in the order of directions. -/
namespace Go.Proofs.YtacbemilicdklaaDoor
open Go.RowKit Fl Go.Shelf
set_option linter.unusedVariables false
attribute [local go_sem] Oper.semAt_some

set_option maxRecDepth 100000 in
set_option maxHeartbeats 2000000 in
theorem isBorder_any (X Y : Int) (W H k : Nat) (w : World) (hW1 : 1 ≤ W) (hW2 : W ≤ 512) (hH1 : 1 ≤ H) (hH2 : H ≤ 512) (hk : k < W * H) :
    Calls Tryd.prog 118 #[reg X Y W H, .int .i64 k] w fun e w' => e = .returned (.bool (bdB W H k)) ∧ Below w.heap.size w w' := by
  have BD := Lib.hid (show bdB W H k = decide (k % W = 0 ∨ k / W = 0 ∨ k % W + 1 = W ∨ k / W + 1 = H) from rfl)
  obtain ⟨a, ha⟩ : ∃ a : Nat, a = k % W := ⟨_, rfl⟩
  obtain ⟨b, hb'⟩ : ∃ b : Nat, b = k / W := ⟨_, rfl⟩
  have b1 : (a : Int) < 512 := by have := Nat.mod_lt k (show 0 < W by omega); omega
  have b2 : (b : Int) < 512 := by have : k / W < H := Nat.div_lt_of_lt_mul hk; omega
  have t1 : (k : Int).tmod (W : Int) = (a : Int) := by rw [ha]; rw [Int.tmod_eq_emod_of_nonneg (by omega)]; simp
  have t2 : (k : Int).tdiv (W : Int) = (b : Int) := by rw [hb']; rw [Int.tdiv_eq_ediv_of_nonneg (by omega)]; simp
  have t3 : (k : Int) % (W : Int) = (a : Int) := by rw [ha]; simp
  have t4 : (k : Int) / (W : Int) = (b : Int) := by rw [hb']; simp
  have u3 : IntKind.i64.wrap (b : Int) = b := IntWalk.i64_in _ (by omega)
  have w0 : ¬ ((W : Int) = 0) := by omega
  have w0' : ¬ (W = 0) := by omega
  have t6 : k % W = a := ha.symm
  have t7 : k / W = b := hb'.symm
  have w1 : (1 : Int) ≤ (W : Int) := by omega
  have i0 : (0 : Int) ≤ (k : Int) := by omega
  have BD' : Hid (bdB W H k = decide (a = 0 ∨ b = 0 ∨ a + 1 = W ∨ b + 1 = H)) := by
    have h := BD.out
    rw [t6, t7] at h
    exact Lib.hid h
  clear ha hb' BD hk
  obtain ⟨q, hq⟩ : ∃ q, q = bdB W H k := ⟨_, rfl⟩
  rw [← hq] at BD' ⊢
  clear hq
  go_enter Tryd.func118, Tryd.ntmps118
  go_wp2
  go_region
  all_goals clear t1 t2 t3 t4 t6 t7 u3 w0 w0' i0
  all_goals go_wp2
  all_goals go_ret
  all_goals exact ⟨ret_bool (by first | (rw [BD'.out]; simp; omega) | (rw [BD'.out, Bool.eq_iff_iff]; simp; omega)), by repeat (first | exact Below.refl _ _ | refine Below.drew ?_ | refine Below.alloc ?_ (by simp; try omega) _ | exact ((Below.refl _ _).alloc (Nat.le_refl _) _).trans ((below_drewN _ _).mono (by simp)))⟩

/-- What neighbours hands back: a closure of the region and of the place, each in a box of its own. -/
def NbrPost (w : World) (X Y : Int) (W H k : Nat) (e : Ending) (w' : World) : Prop :=
  ∃ q, w.heap.size < q ∧ e = .returned (.func (.func 147) #[] #[.pointer (some ⟨w.heap.size, 0, none⟩), .pointer (some ⟨q, 0, none⟩)]) ∧
    w'.heap[w.heap.size]? = some (regObj X Y W H) ∧ w'.heap[q]? = some (ptO (X + ((k % W : Nat) : Int)) (Y + ((k / W : Nat) : Int))) ∧ q < w'.heap.size ∧ Below w.heap.size w w'

set_option maxHeartbeats 1000000 in
theorem neighbours_any (X Y : Int) (W H k : Nat) (w : World) (hX1 : -4194304 ≤ X) (hX2 : X ≤ 4194304) (hY1 : -4194304 ≤ Y) (hY2 : Y ≤ 4194304) (hW1 : 1 ≤ W) (hW2 : W ≤ 512) (hi : k < 65536) :
    Calls Tryd.prog 122 #[reg X Y W H, .int .i64 k] w (NbrPost w X Y W H k) := by
  have PL := Lib.hid (fun w => place_any X Y W H k w hX1 hX2 hY1 hY2 hW1 hW2 hi)
  obtain ⟨x, hx⟩ : ∃ x, x = X + ((k % W : Nat) : Int) := ⟨_, rfl⟩
  obtain ⟨y, hy⟩ : ∃ y, y = Y + ((k / W : Nat) : Int) := ⟨_, rfl⟩
  have EX := Lib.hid hx
  have EY := Lib.hid hy
  rw [← hx, ← hy] at PL
  clear hx hy
  go_enter Tryd.func122, Tryd.ntmps122
  go_wp2_with (go_at_call 79; refine (PL.out _).mono ?_; rintro e w3 ⟨rfl, hb3⟩; have HR3 := Lib.hid (blkStay (b := w.heap.size) (o := regObj X Y W H) (by ((simp only [heap_alloc_get, if_true]) <;> ((repeat' split) <;> first | rfl | omega))) hb3); have hB3 : Below w.heap.size w w3 := Below.trans (by repeat (first | exact Below.refl _ _ | refine Below.alloc ?_ (by first | omega | (simp; done) | (simp; omega)) _ | refine Below.setCell ?_ (by first | omega | (simp; done) | (simp; omega)) _ | refine Below.drew ?_)) (Below.mono hb3 (by first | omega | (simp; done) | (simp; omega))); have hz3 : w.heap.size < w3.heap.size := (by have := hb3.size; simp at this; omega); clear hb3)
  go_ret
  exact ⟨w3.heap.size, hz3, rfl, (heap_alloc_old _ _ hz3).trans HR3.out, by rw [← EX.out, ← EY.out]; exact heap_alloc_new _ _, by simp, hB3.alloc (Nat.le_of_lt hz3) _⟩

/-- The neighbours in the directions below j: direction and number. -/
def nbrs (W H k j : Nat) : List (Nat × Nat) := (List.range j).filterMap fun d => (nbI W H k d).map fun m => (d, m)
theorem nbrs_none {W H k j : Nat} (h : nbI W H k j = none) : nbrs W H k (j + 1) = nbrs W H k j := by simp [nbrs, List.range_succ, h]
theorem nbrs_some {W H k j m : Nat} (h : nbI W H k j = some m) : nbrs W H k (j + 1) = nbrs W H k j ++ [(j, m)] := by simp [nbrs, List.range_succ, h]
theorem nbrs_len (W H k j : Nat) : (nbrs W H k j).length ≤ j := by
  unfold nbrs; exact Nat.le_trans (List.length_filterMap_le _ _) (by simp)
def encN (x : Nat × Nat) : Array Value := #[.int .i64 (x.1 : Int), .int .i64 (x.2 : Int)]

/-- What a round keeps: the iterator's two boxes and the table of directions. -/
def KpN (r q : Nat) (W W' : World) : Prop := ∀ b, b = r ∨ b = q ∨ b = 1 → W'.heap[b]? = W.heap[b]?
theorem kpN_t {r q : Nat} {A B C : World} (h : KpN r q A B) (k : KpN r q B C) : KpN r q A C := fun b hb => (k b hb).trans (h b hb)
theorem kpN_b {r q : Nat} {w : World} (hr : r < w.heap.size) (hq : q < w.heap.size) (hg : 1 < w.heap.size) (W : World) (l : Nat) (o o' : Obj) (hl : w.heap.size ≤ l) (h : W.heap[l]? = some o) (_ : o.isCells = false) (_ : o.isWalk = false) : KpN r q W (W.putObj l o') :=
  fun b hb => World.putObj_heap_other (by rcases hb with rfl | rfl | rfl <;> omega)
theorem DirsAt.congr {w w' : World} (h : DirsAt w) (e : w'.heap[1]? = w.heap[1]?) : DirsAt w' := fun d hd => by
  obtain ⟨a, b⟩ := h d hd
  exact ⟨(World.cell?_of_block (w := w) (w' := w') (a := ⟨1, d * 2, none⟩) e).trans a, (World.cell?_of_block (w := w) (w' := w') (a := ⟨1, d * 2 + 1, none⟩) e).trans b⟩

theorem grown_of {w w' : World} (h : Below w.heap.size w w') : w.grownBy w' none := ⟨h.os, h.tape, h.output, h.size, fun k hk _ => h.block k hk⟩

set_option maxRecDepth 100000 in
set_option maxHeartbeats 400000 in
/-- The iterator of neighbours, in whatever loop. -/
theorem nbr1_any (X Y x y : Int) (W H k r q : Nat) (n : Nat) (hn : 1 ≤ n) (l : Nat) (hX1 : -4194304 ≤ X) (hX2 : X ≤ 4194304) (hY1 : -4194304 ≤ Y) (hY2 : Y ≤ 4194304) (hW2 : W ≤ 512) (hH2 : H ≤ 512) (hk : k < W * H)
    (ex : x = X + ((k % W : Nat) : Int)) (ey : y = Y + ((k / W : Nat) : Int)) (x1 : -4194304 ≤ x) (x2 : x ≤ 4194304) (y1 : -4194304 ≤ y) (y2 : y ≤ 4194304) (J Jx : List (Nat × Nat) → World → Prop)
    (hJ : ∀ s W W', J s W → W.grownBy W' none → J s W')
    (hY : ∀ pre x W1, J pre W1 → pre.length < 8 → x.1 < 8 → nbI W H k x.1 = some x.2 → YieldAt Fence.wide (n - 1) Tryd.prog l (encN x) W1 fun e W' =>
      (e = .returned (.bool true) ∧ J (pre ++ [x]) W' ∧ KpN r q W1 W') ∨ (e = .returned (.bool false) ∧ Jx (pre ++ [x]) W'))
    (w : World) (hD : DirsAt w) (hr : w.heap[r]? = some (regObj X Y W H)) (hq : w.heap[q]? = some (ptO x y)) (h0 : J [] w) :
    CallsIn Fence.wide n Tryd.prog 147 #[.func (.yield l) #[] #[], .pointer (some ⟨r, 0, none⟩), .pointer (some ⟨q, 0, none⟩)] w fun e W' => (∃ v, e = .returned v) ∧
      (J (nbrs W H k 8) W' ∨ ∃ j, j ≤ 8 ∧ Jx (nbrs W H k j) W') := by
  have EX := Lib.hid ex
  have EY := Lib.hid ey
  clear ex ey
  refine callsIn_of_wp Tryd.func147 rfl trivial ?_ rfl
  simp only [Tryd.ntmps147, List.size_toArray, List.length_cons, List.length_nil, Nat.reduceAdd, Nat.reduceSub, Array.replicate_succ, Array.replicate_zero, List.push_toArray, List.append_toArray, List.nil_append, List.cons_append]
  gi_wp2
  gi_loopw [4, 5, 6, 7] (fun s4 s5 s6 s7 wr => ∃ j : Nat, j ≤ 8 ∧ s7 = .int .i64 j ∧ J (nbrs W H k j) wr ∧ DirsAt wr ∧ wr.heap[r]? = some (regObj X Y W H) ∧ wr.heap[q]? = some (ptO x y))
    (fun _ _ _ i _ => 8 - (intOf i).toNat)
  case atStart => exact ⟨0, Nat.zero_le _, rfl, h0, hD, hr, hq⟩
  case round =>
    obtain ⟨j, hj, rfl, hJs, hDs, hrs, hqs⟩ := hrel
    have HJ := Lib.hid hJs
    have HD := Lib.hid hDs
    have HR := Lib.hid hrs
    have HQ := Lib.hid hqs
    obtain ⟨cR, fR, zR⟩ := blkC hrs
    obtain ⟨cQ, fQ, zQ⟩ := blkC hqs
    clear hJs hDs hrs hqs
    by_cases hlt : j < 8
    · have BS := Lib.hid (beside_any X Y x y W H j wr HD.out hlt hX1 hX2 hY1 hY2 hW2 hH2 x1 x2 y1 y2)
      cases hnb : nbI W H k j with
      | none =>
        have hz := bes_none (X := X) (Y := Y) hnb
        rw [← EX.out, ← EY.out] at hz
        rw [hz] at BS
        have NN := Lib.hid (nbrs_none hnb)
        clear hz hnb
        generalize (y + dyI j - Y) * (W : Int) + (x + dxI j - X) = ix at *
        gi_wp2_with (refine ⟨trivial, ?_⟩; gi_at_call 148; refine (callsIn_wide.2 BS.out).mono ?_; rintro e w2 ⟨rfl, hb2⟩; have HB2 := Lib.hid hb2; clear hb2 cR fR zR cQ fQ zQ)
        refine ⟨fun _ h => (by cases h), ?_⟩
        gi_wp2
        go_roundw
        case rel => exact ⟨j + 1, by omega, by go_num, by rw [NN.out]; exact hJ _ _ _ HJ.out (grown_of HB2.out), HD.out.stay HB2.out, blkStay HR.out HB2.out, blkStay HQ.out HB2.out⟩
        case measure => simp [intOf]; omega
      | some m =>
        obtain ⟨e1, hz⟩ := bes_some (X := X) (Y := Y) hk hnb
        rw [← EX.out, ← EY.out] at hz e1
        rw [hz, e1] at BS
        have NN := Lib.hid (nbrs_some hnb)
        have LN := Lib.hid (show (nbrs W H k j).length < 8 from Nat.lt_of_le_of_lt (nbrs_len W H k j) hlt)
        have NB := Lib.hid hnb
        clear hz e1 hnb
        gi_wp2_with (refine ⟨trivial, ?_⟩; gi_at_call 148; refine (callsIn_wide.2 BS.out).mono ?_; rintro e w2 ⟨rfl, hb2⟩; have HB2 := Lib.hid hb2; clear hb2 cR fR zR cQ fQ zQ; obtain ⟨fn, tmps, assign, body, hy, hR⟩ := hY (nbrs W H k j) (j, m) w2 (hJ _ _ _ HJ.out (grown_of HB2.out)) LN.out hlt NB.out; simp only [encN] at hy; have RR := Lib.hid hR; clear hR)
        refine RR.out.mono ?_
        rintro e W3 (⟨rfl, hJ3, hk3⟩ | ⟨rfl, hJx3⟩)
        · have J3 := Lib.hid hJ3
          have K3 := Lib.hid hk3
          clear hJ3 hk3 hy
          gi_wp2
          go_roundw
          case rel => exact ⟨j + 1, by omega, by go_num, by rw [NN.out]; exact J3.out, (HD.out.stay HB2.out).congr (K3.out _ (.inr (.inr rfl))), (K3.out r (.inl rfl)).trans (blkStay HR.out HB2.out), (K3.out q (.inr (.inl rfl))).trans (blkStay HQ.out HB2.out)⟩
          case measure => simp [intOf]; omega
        · have J3 := Lib.hid hJx3
          clear hJx3 hy
          gi_wp2
          refine bodyPost_ret (results_none rfl _ _ _) rfl ?_
          exact ⟨⟨_, rfl⟩, .inr ⟨j + 1, by omega, by rw [NN.out]; exact J3.out⟩⟩
    · have hj8 : j = 8 := by omega
      subst hj8
      gi_wp2
      go_end0
      exact ⟨⟨_, rfl⟩, .inl HJ.out⟩

theorem enters_nbr1 : Enters 147 := by intro args W; simp [callFunc, Tryd.func147, Tryd.f147]

/-- A neighbour of the cell k: its direction, its number. -/
def Nb (W H k : Nat) : Type := { p : Nat × Nat // p.1 < 8 ∧ nbI W H k p.1 = some p.2 }
def encNb {W H k : Nat} (x : Nb W H k) : Array Value := encN x.1

/-- neighbours' closure, as the law of a range over a function wants it. -/
theorem nbr_stops (X Y x y : Int) (W H k r q : Nat) (n : Nat) (hn : 1 ≤ n) (hX1 : -4194304 ≤ X) (hX2 : X ≤ 4194304) (hY1 : -4194304 ≤ Y) (hY2 : Y ≤ 4194304) (hW2 : W ≤ 512) (hH2 : H ≤ 512) (hk : k < W * H)
    (ex : x = X + ((k % W : Nat) : Int)) (ey : y = Y + ((k / W : Nat) : Int)) (x1 : -4194304 ≤ x) (x2 : x ≤ 4194304) (y1 : -4194304 ≤ y) (y2 : y ≤ 4194304)
    (w : World) (hD : DirsAt w) (hr : w.heap[r]? = some (regObj X Y W H)) (hq : w.heap[q]? = some (ptO x y)) :
    SeqStopsK Fence.wide n Tryd.prog 147 #[.pointer (some ⟨r, 0, none⟩), .pointer (some ⟨q, 0, none⟩)] (encNb (W := W) (H := H) (k := k)) (KpN r q) (fun xs => xs.map (fun z => z.1) = nbrs W H k 8) (fun pre => ∃ j, j ≤ 8 ∧ pre.map (fun z => z.1) = nbrs W H k j) 8 w := fun l J Jx W1 hW hJ hJx hY h0 => by
  refine (nbr1_any X Y x y W H k r q n hn l hX1 hX2 hY1 hY2 hW2 hH2 hk ex ey x1 x2 y1 y2 (fun pre W2 => ∃ p : List (Nb W H k), p.map (fun z => z.1) = pre ∧ J p W2) (fun pre W2 => ∃ p : List (Nb W H k), p.map (fun z => z.1) = pre ∧ Jx p W2)
    (fun s A B hs hg => by obtain ⟨p, e, h⟩ := hs; exact ⟨p, e, hJ p A B none h hg (fun r e => by cases e)⟩) ?_ W1 (hD.stay hW) (blkStay hr hW) (blkStay hq hW) ⟨[], rfl, h0⟩).mono ?_
  · rintro pre z W2 ⟨p, rfl, hp⟩ hlen h8 hnb
    refine (hY p ⟨z, h8, hnb⟩ W2 hp (by simpa using hlen)).mono ?_
    rintro e W' (⟨h1, h2, h3⟩ | ⟨h1, h2⟩)
    · exact .inl ⟨h1, ⟨_, by rw [List.map_append]; rfl, h2⟩, h3⟩
    · exact .inr ⟨h1, ⟨_, by rw [List.map_append]; rfl, h2⟩⟩
  · rintro e W' ⟨hv, ⟨p, e1, h⟩ | ⟨j, hj, p, e1, h⟩⟩
    · exact ⟨hv, .inl ⟨p, e1, h⟩⟩
    · exact ⟨hv, .inr ⟨p, ⟨j, hj, e1⟩, h⟩⟩
theorem nbrs_mem {W H k e m : Nat} (he : e < 8) (h : nbI W H k e = some m) : (e, m) ∈ nbrs W H k 8 := by
  unfold nbrs
  exact List.mem_filterMap.2 ⟨e, List.mem_range.2 he, by rw [h]; rfl⟩
end Go.Proofs.YtacbemilicdklaaDoor

/- A region that draws its order, in a round of a range over a function: walked as outside of it. -/
namespace Go.Proofs.YtacbemilicdklaaDoor
set_option linter.unusedVariables false

theorem rowsIn_round {l n : Nat} {P : Program} {row : String} {args : Array Value} {w : World} {R : Value → World → Prop} (h : Rows P row args w R) : RowsIn (Fence.wide.inRound l) n P row args w R :=
  fun c cs _ => let ⟨v, w', r, s⟩ := h c cs; ⟨v, w', r, stepsIn_wide.2 s⟩
theorem uponIn_round {l n : Nat} {P : Program} {o : Oper} {a : Act} {next : Act → World → Prop} {Q : Exit → Act → World → Prop} {r : Result Next} (h : o.upon P a next Q r) : o.uponIn (Fence.wide.inRound l) n P a next Q r := by
  cases r with
  | ok x w' =>
    cases x <;> first
      | exact h
      | exact ⟨fun e => by simp [Fence.wide] at e, CallsIn.inRound l (callsIn_wide.2 h)⟩
      | exact ⟨fun e => by simp [Fence.wide] at e, rowsIn_round h⟩
      | exact h.elim
  | halt x w' =>
    cases x <;> first | exact h | exact h.elim

/-- An operation's plain walk is one in a round, where it is no defer. -/
theorem wpOpIn_round {l n : Nat} {P : Program} {ops : Array Oper} {Q : Exit → Act → World → Prop} {i : Nat} {K K' : Act → World → Prop} {a : Act} {w : World} (hd : ∀ o, ops[i]? = some o → ∀ c, o.op ≠ .defer c) (hq : ¬ LetsOut Q)
    (hk : ∀ a w, K a w → K' a w) (h : wpOp P ops Q i K a w) : wpOpIn (Fence.wide.inRound l) n P ops Q i K' a w := by
  refine wpOpIn_mono hk ?_
  unfold wpOp at h
  unfold wpOpIn
  cases ho : ops[i]? with
  | none => rw [ho] at h; exact h
  | some o =>
    rw [ho] at h
    dsimp only at h ⊢
    by_cases hw : Region.wanted o (yielded ops a.tmps) = true
    · rw [if_pos hw] at h ⊢
      rcases h with h | h
      · refine ⟨fun _ _ => trivial, ?_⟩
        rw [show o.semAt (Fence.wide.inRound l).round a.eval = execOp a.eval o from Oper.semAt_some l _ _ (hd o ho)]
        exact uponIn_round h
      · exact (hq h.2).elim
    · rw [if_neg hw] at h ⊢
      exact ⟨fun _ _ => trivial, h⟩
theorem wpAnyIn_round {l n : Nat} {P : Program} {md : Region.Mode} {ops : Array Oper} {Q : Exit → Act → World → Prop} (hd : ∀ (i : Nat) (o : Oper), ops[i]? = some o → ∀ c, o.op ≠ .defer c) (hq : ¬ LetsOut Q) :
    ∀ (fuel : Nat) (listed : Array Bool) (a : Act) (w : World), wpAny P md ops Q fuel listed a w → wpAnyIn (Fence.wide.inRound l) n P md ops Q fuel listed a w := by
  intro fuel
  induction fuel with
  | zero => intro listed a w h; exact h
  | succ fuel ih =>
    intro listed a w h
    exact ⟨h.1, fun i hi => wpOpIn_round (hd i) hq (fun a w => ih _ a w) (h.2 i hi)⟩

/-- Reads and quiet calls ahead of one store, in a round. -/
theorem wpIn_still_tail_round {l n : Nat} {P : Program} {id : Nat} {Q : Exit → Act → World → Prop} {a : Act} {w : World} {L : List Oper} (N : Nat) (hm : P.follows .mixedOrders = true) (hd : ∀ (i : Nat) (o : Oper), L.toArray[i]? = some o → ∀ c, o.op ≠ .defer c) (hq : ¬ LetsOut Q) (hB : Region.lexTailB .any L.toArray N = true)
    (h : wpStill P L.toArray { w with drawn := w.drawn + 1 } (fun a' => wpList P L.toArray Q (L.drop N) a' { w with drawn := w.drawn + 1 }) (L.take N) a) : (Code.region id L.toArray true).wpIn (Fence.wide.inRound l) n P Q a w := by
  simp only [Region.lexTailB, Bool.and_eq_true, decide_eq_true_eq] at hB
  obtain ⟨⟨⟨⟨hsel, hn⟩, hs⟩, hc⟩, hlex⟩ := hB
  have hn' : N < L.length := by simpa using hn
  have htl : (L.take N).length = N := by simp; omega
  have hdl : (L.drop N).length = L.toArray.size - N := by simp
  have inv0 : HeadInv .any L.toArray N (Array.replicate L.toArray.size false) :=
    ⟨by simp, fun j oj _ hl => (by rw [getD_replicate_false] at hl; cases hl), fun t _ ht => getD_in (by simpa using ht) (getD_replicate_false _ _)⟩
  have H := wpAnyL_lex (md := .any) (g := L.toArray.size - N) hsel hs hc hn (L.take N) 0 _ a (fun j hj => by
    have hj' : j < N := by rw [htl] at hj; exact hj
    simp [hj']) (by simpa using htl) inv0 (by rw [htl]; exact hlex) h
  refine wpIn_region_any hm (wpAnyIn_round hd hq _ _ _ _ ?_)
  have := wpAny_of_head (Q' := Q) (g := L.toArray.size - N) (fun listed a' hL => by
    have := wpAny_of_seq (md := .any) (Q' := Q) (L.drop N) N listed a' { w with drawn := w.drawn + 1 } (fun j => by simp [List.getElem?_drop]) (by rw [hdl]; exact hL.1) hL.2
    rwa [hdl] at this) _ _ _ H
  rw [htl, show N + (L.toArray.size - N) = L.toArray.size by omega] at this
  exact this
end Go.Proofs.YtacbemilicdklaaDoor

/- Contracts: slices.Clone of singles; a slice of bools; the marks that a loop over a function leaves. -/
namespace Go.Proofs.YtacbemilicdklaaDoor
open Go.RowKit Fl Go.Shelf
set_option linter.unusedVariables false

/-- What Clone answers: a new row of the same singles. -/
def ClonePost (n : Nat) (v : Nat → Nat) (w : World) (e : Ending) (w' : World) : Prop :=
  ∃ g cap, e = .returned (.slice (some ⟨g, 0, none⟩) n cap) ∧ w.heap.size ≤ g ∧ w'.ownsRow w.heap.size 27 1 (.slice (some ⟨g, 0, none⟩) n cap) n (rowL v n) ∧ Below w.heap.size w w'

set_option maxHeartbeats 1000000 in
theorem clone_any (b n cap : Nat) (v : Nat → Nat) (w : World) (h1 : 1 ≤ n) (hn : n ≤ 65536) (hc : FlAt w b 0 n v) :
    Calls Tryd.prog 96 #[.slice (some ⟨b, 0, none⟩) n cap] w (ClonePost n v w) := by
  have zb : b < w.heap.size := World.block_lt_of_cell? w _ (hc 0 h1)
  have hnews := Lib.hid (show ∀ j u, (rowL v n)[j]? = some u → (w.alloc (.cells #[] 27)).cell? ((⟨b, 0, none⟩ : Addr).add j) = some u from fun j u hu => by
    have hj : j < n := by
      rcases Nat.lt_or_ge j n with h | h
      · exact h
      · rw [List.getElem?_eq_none (by simpa [rowL] using h)] at hu; cases hu
    have : u = .float .f32 (v j) := by simpa [rowL, hj] using hu.symm
    rw [this]
    have e := hc j hj
    have : (⟨b, 0, none⟩ : Addr).add j = ⟨b, 0 + j, none⟩ := by simp [Addr.add]; omega
    rw [this]
    exact (World.cell?_of_block (w := w) (a := ⟨b, 0 + j, none⟩) (heap_alloc_old w _ zb)).trans e)
  have hinfo : (Tryd.prog.info? 27).map (fun i => (i.zero, i.size, i.bytes)) = some (some (.float .f32 0), 1, 4) := by kernel_rfl
  obtain ⟨i0, hi, hz0, hz1, hz2⟩ := info_parts hinfo
  have qT : ∀ (w : World) (a : Option Addr) (n c n' c' : Nat), (binOp .eql 24 (.slice a n c) (.slice none n' c')).run Tryd.prog w = .ok (.bool a.isNone) w := fun w a n c n' c' => Lib.run_eql_slice_nil w _ _ a n c n' c' Tryd.underlying24
  have H1 := Lib.hid h1
  have HN := Lib.hid hn
  clear hc hinfo h1 hn
  go_enter Tryd.func96, Tryd.ntmps96
  go_wp2_with (at_builtin; refine wpList_append_own _ rfl _ _ _ rfl w.heap.size 27 i0 (.float .f32 0) 1 4 Tryd.underlying24 hi hz0 hz1 hz2 rfl (by decide) (.slice (some ⟨w.heap.size, 0, none⟩) 0 0) 0 [] rfl (World.ownsRow_lit w #[] 0 (Nat.le_refl _) (by unfold maxLen; omega) rfl) ⟨b, 0, none⟩ n cap (rowL v n) rfl (by simp [rowL]) hnews.out (by simp [rowL, Value.oneCell']) (by have := HN.out; unfold maxLen; omega) (by have := HN.out; omega) (by simp) ?_; intro v' w1 hown' hgrow hnil)
  rw [Nat.zero_add, List.nil_append] at hown'
  obtain ⟨g, cap', rfl, hg, _⟩ := hown'.form H1.out
  have HO := Lib.hid hown'
  have HG := Lib.hid hgrow
  clear hown' hgrow hnil
  go_ret
  exact ⟨g, cap', rfl, hg, HO.out, Below.grown (by repeat (first | exact Below.refl _ _ | refine Below.alloc ?_ (by first | omega | (simp; done) | (simp; omega)) _ | refine Below.setCell ?_ (by first | omega | (simp; done) | (simp; omega)) _ | refine Below.drew ?_)) HG.out (by simp) (fun k e => by simp [Value.ownBlock] at e; omega)⟩

def BoolsAt (w : World) (b n : Nat) (R : Nat → Bool) : Prop := ∃ cs : Array Value, w.heap[b]? = some (.cells cs 4 (0, 0)) ∧ cs.size = n ∧ ∀ i, i < n → cs[i]? = some (.bool (R i))
theorem BoolsAt.congr {w w' : World} {b n : Nat} {R : Nat → Bool} (h : BoolsAt w b n R) (e : w'.heap[b]? = w.heap[b]?) : BoolsAt w' b n R := by
  obtain ⟨cs, h1, h2⟩ := h
  exact ⟨cs, e.trans h1, h2⟩
theorem BoolsAt.cell {w : World} {b n : Nat} {R : Nat → Bool} (h : BoolsAt w b n R) {i : Nat} (hi : i < n) : w.cell? ⟨b, i, none⟩ = some (.bool (R i)) ∧ w.frozen? ⟨b, i, none⟩ = false ∧ b < w.heap.size := by
  obtain ⟨cs, h1, h2, h3⟩ := h
  obtain ⟨c, f, z⟩ := blkC h1
  exact ⟨(c i).trans (h3 i hi), f i, z⟩
theorem BoolsAt.put {w : World} {b n : Nat} {R : Nat → Bool} (h : BoolsAt w b n R) {k : Nat} (hk : k < n) : BoolsAt (w.setCell ⟨b, k, none⟩ (.bool true)) b n (updB R k) := by
  obtain ⟨cs, h1, h2, h3⟩ := h
  refine ⟨_, heap_setCell_same w b k _ _ _ h1, by simpa using h2, fun i hi => ?_⟩
  rw [Array.getElem?_setIfInBounds]
  by_cases e : k = i
  · subst e; rw [if_pos rfl, if_pos (by omega), updB_same]
  · rw [if_neg e, updB_other R (by omega)]; exact h3 i hi

theorem make_bool (n : Nat) (hn : n ≤ 65536) (w : World) :
    (Instr.makeSlice 106 (.int .i64 (n : Int)) (.int .i64 (n : Int))).run Tryd.prog w = .ok (.slice (some ⟨w.heap.size, 0, none⟩) n n) (w.alloc (.cells (madeCells #[Value.bool false] n) 4)) := by
  have h : (Tryd.prog.info? 4).map (fun i => (i.zero, i.size, i.bytes)) = some (some (.bool false), 1, 1) := by kernel_rfl
  obtain ⟨i0, hi, hz0, hz1, hz2⟩ := info_parts h
  have hr := run_make (P := Tryd.prog) w 106 4 i0 (.bool false) Tryd.underlying106 hi hz0 .i64 .i64 n n (by omega) (by omega) (by rw [hz2]; omega) (by omega)
  rw [hz1, Nat.mul_one, Int.toNat_natCast] at hr
  exact hr
theorem made_bools (w : World) (n : Nat) : BoolsAt (w.alloc (.cells (madeCells #[Value.bool false] n) 4)) w.heap.size n (fun _ => false) :=
  ⟨_, heap_alloc_new _ _, by simp [madeCells], fun i hi => by simp [madeCells, hi, Nat.mod_one]⟩

/-- The lowest cells first: how it begins. -/
theorem fil_start {g : Gnd} (G : GndOk g) {R : Nat → Bool} {c : Nat → Nat} {m : Nat} (hR : ∀ k, k < g.n → R k = g.bd k) (hc : ∀ i, i < m → c i < g.n ∧ g.bd (c i) = true) (ha : ∀ x, x < g.n → g.bd x = true → ∃ i, i < m ∧ c i = x)
    (hh : Heap m (fun x => vI (g.h x)) c) : Fil g g.h R c m (fun _ => False) (fun _ => False) (fun _ => 0) 0 :=
  ⟨fun i hi => ⟨(hc i hi).1, by rw [hR _ (hc i hi).1]; exact (hc i hi).2⟩, fun k hk hb => ⟨by rw [hR k hk]; exact hb, rfl⟩, fun k hk _ => ⟨hgt_ok (G.hgt k hk), Nat.le_refl _⟩,
    (fun k hk h1 h2 => by rw [hR k hk, h2] at h1; cases h1), fun _ _ h => h.elim, fun _ _ h => h.elim, fun x hx h => .inr (ha x hx (by rw [← hR x hx]; exact h)), fun _ _ h => h.elim, hh, by have := unr_le g.n R; omega⟩

/-- An end that is no panic. -/
def NoPanic (Q : Exit → Act → World → Prop) : Exit → Act → World → Prop
  | .panic _, _, _ => False
  | .outgrown, _, _ => False
  | e, a, w => Q e a w
theorem noPanic_of {Q : Exit → Act → World → Prop} : ∀ e a w, NoPanic Q e a w → Q e a w
  | .normal, _, _, h => h
  | .ret, _, _, h => h
  | .exit _, _, _, h => h
  | .goto _, _, _, h => h
  | .panic _, _, _, h => h.elim
  | .outgrown, _, _, h => h.elim

/-- The marks of loops that are over. -/
def Marks (lo : Nat) (w : World) : List Deferred → Prop
  | [] => True
  | d :: ds => (∃ D, d = { target := .collected D, args := #[] } ∧ lo ≤ D ∧ w.heap[D]? = some (.deferred (some [])) ∧ ∀ e ∈ ds, e.target ≠ .collected D) ∧ Marks lo w ds
theorem Marks.kept {lo : Nat} {w w' : World} {ds : List Deferred} (h : Marks lo w ds) (hk : ∀ k, lo ≤ k → w.heap[k]? = some (.deferred (some [])) → w'.heap[k]? = some (.deferred (some []))) : Marks lo w' ds := by
  induction ds with
  | nil => trivial
  | cons d ds ih =>
    obtain ⟨⟨D, h1, h2, h3, h4⟩, h5⟩ := h
    exact ⟨⟨D, h1, h2, hk D h2 h3, h4⟩, ih h5⟩
theorem Marks.lt {lo : Nat} {w : World} {ds : List Deferred} (h : Marks lo w ds) : ∀ e ∈ ds, ∀ D, e.target = .collected D → D < w.heap.size := by
  induction ds with
  | nil => intro e he; cases he
  | cons d ds ih =>
    obtain ⟨⟨D, rfl, h2, h3, h4⟩, h5⟩ := h
    intro e he D' hD
    rcases List.mem_cons.1 he with rfl | he
    · cases hD; exact (Array.getElem?_eq_some_iff.1 h3).1
    · exact ih h5 e he D' hD
/-- The marks are taken up at the return; whatever is no deferred block stays. -/
theorem leaves_marks {n : Nat} {P : Program} {fn : Func} {tmps : Array Value} {R : Ending → World → Prop} {lo : Nat} : ∀ (ds : List Deferred) (w : World), Marks lo w ds →
    (∀ w' : World, (∀ k, k < lo → w'.heap[k]? = w.heap[k]?) → (∀ (k : Nat) (o : Obj), w.heap[k]? = some o → o ≠ .deferred (some []) → w'.heap[k]? = some o) → w'.heap.size = w.heap.size → w'.os = w.os → w'.tape = w.tape → w'.output = w.output → ∃ v, (results fn tmps).run P w' = .ok v w' ∧ R (.returned v) w') →
    LeavesInM Fence.wide n P fn tmps R ds .returning w := by
  intro ds
  induction ds with
  | nil =>
    intro w _ h
    obtain ⟨v, h1, h2⟩ := h w (fun _ _ => rfl) (fun _ _ h _ => h) rfl rfl rfl rfl
    exact ⟨v, h1, h2⟩
  | cons d ds ih =>
    intro w hm h
    obtain ⟨⟨D, rfl, h2, h3, h4⟩, h5⟩ := hm
    refine ⟨by simp, .inl ⟨D, _, rfl, run_takeDeferred h3, ih _ ?_ fun w' g1 g2 g3 g4 g5 g6 => ?_⟩⟩
    · have hne : ∀ e ∈ ds, e.target ≠ .collected D := h4
      clear ih h h4
      induction ds with
      | nil => trivial
      | cons d2 ds2 ih2 =>
        obtain ⟨⟨D2, rfl, q2, q3, q4⟩, q5⟩ := h5
        have : D2 ≠ D := fun e => hne _ (List.mem_cons_self ..) (by rw [e])
        exact ⟨⟨D2, rfl, q2, (World.putObj_heap_other this).trans q3, q4⟩, ih2 q5 fun e he => hne e (List.mem_cons_of_mem _ he)⟩
    · exact h w' (fun k hk => (g1 k hk).trans (World.putObj_heap_other (by omega))) (fun k o ho hne => by
        by_cases e : k = D
        · subst e; rw [h3] at ho; cases ho; exact (hne rfl).elim
        · exact g2 k o ((World.putObj_heap_other e).trans ho) hne) (by rw [g3]; simp [World.putObj]) g4 g5 g6
end Go.Proofs.YtacbemilicdklaaDoor

/- Contract: leastSpills. -/
namespace Go.Proofs.YtacbemilicdklaaDoor
open Go.RowKit Fl Go.Shelf
set_option linter.unusedVariables false

abbrev ptrO (hb : Nat) : Obj := .cells #[.pointer (some ⟨hb, 0, none⟩)] 133
abbrev boolsO (rb n : Nat) : Obj := .cells #[.slice (some ⟨rb, 0, none⟩) n n] 106
/-- What leastSpills holds throughout: the boxes of the field and of the slope, of the heap's pointer and of the cells that have been reached. -/
structure Stat (w0 w : World) (X Y : Int) (W H n b cap sl hb : Nat) : Prop where
  fld : w.heap[w0.heap.size]? = some (fldO X Y W H (.slice (some ⟨b, 0, none⟩) n cap))
  slo : w.heap[w0.heap.size + 1]? = some (flObj sl)
  ptr : w.heap[hb + 1]? = some (ptrO hb)
  rsl : w.heap[hb + 1 + 1 + 1]? = some (boolsO (hb + 1 + 1) n)
  bel : Below w0.heap.size w0 w
  lo : w0.heap.size + 1 < hb
theorem Stat.kept {w0 w w' : World} {X Y : Int} {W H n b cap sl hb : Nat} (h : Stat w0 w X Y W H n b cap sl hb) (hk : ∀ k, k ≤ hb + 1 + 1 + 1 → k ≠ hb → k ≠ hb + 1 + 1 → k < w0.heap.size ∨ k = w0.heap.size ∨ k = w0.heap.size + 1 ∨ hb < k → w'.heap[k]? = w.heap[k]?) (hb' : Below w0.heap.size w0 w') : Stat w0 w' X Y W H n b cap sl hb := by
  have := h.lo
  exact ⟨(hk _ (by omega) (by omega) (by omega) (by omega)).trans h.fld, (hk _ (by omega) (by omega) (by omega) (by omega)).trans h.slo, (hk _ (by omega) (by omega) (by omega) (by omega)).trans h.ptr, (hk _ (by omega) (by omega) (by omega) (by omega)).trans h.rsl, hb', h.lo⟩

/-- The first loop, when k cells have been looked at: the border's cells among them have been reached, and lie in the heap. -/
structure L1 (w0 wr : World) (X Y : Int) (W H n b cap sl hb sb scap : Nat) (v : Nat → Nat) (k : Nat) (ov : Value) (m : Nat) (c : Nat → Nat) : Prop where
  stat : Stat w0 wr X Y W H n b cap sl hb
  obj : wr.heap[hb]? = some (.cells #[ov, .slice (some ⟨sb, 0, none⟩) n scap] 135)
  own : wr.ownsRow (hb + 1 + 1 + 1 + 1) 3 1 ov m (cellsL c m)
  sown : wr.ownsRow (w0.heap.size + 1 + 1) 27 1 (.slice (some ⟨sb, 0, none⟩) n scap) n (rowL v n)
  bools : BoolsAt wr (hb + 1 + 1) n (fun i => decide (i < k) && bdB W H i)
  c1 : ∀ i, i < m → c i < k ∧ bdB W H (c i) = true
  c2 : ∀ x, x < k → bdB W H x = true → ∃ i, i < m ∧ c i = x
  mle : m ≤ k
def L1At (w0 : World) (X Y : Int) (W H n b cap sl hb sb scap : Nat) (v : Nat → Nat) (k : Nat) (wr : World) : Prop := ∃ ov m c, L1 w0 wr X Y W H n b cap sl hb sb scap v k ov m c

theorem BoolsAt.as {w : World} {b n : Nat} {R R' : Nat → Bool} (h : BoolsAt w b n R) (e : ∀ i, i < n → R i = R' i) : BoolsAt w b n R' := by
  obtain ⟨cs, h1, h2, h3⟩ := h
  exact ⟨cs, h1, h2, fun i hi => by rw [← e i hi]; exact h3 i hi⟩
theorem BoolsAt.lt {w : World} {b n : Nat} {R : Nat → Bool} (h : BoolsAt w b n R) : b < w.heap.size := by
  obtain ⟨cs, h1, _⟩ := h
  exact (blkC h1).2.2
theorem Stat.below {w0 w w' : World} {X Y : Int} {W H n b cap sl hb : Nat} (h : Stat w0 w X Y W H n b cap sl hb) (hB : Below w.heap.size w w') : Stat w0 w' X Y W H n b cap sl hb :=
  ⟨blkStay h.fld hB, blkStay h.slo hB, blkStay h.ptr hB, blkStay h.rsl hB, h.bel.trans (hB.mono h.bel.size), h.lo⟩
theorem ownsRow_congr {w w' : World} {base : Nat} {e : TypeId} {size : Nat} {v : Value} {n : Nat} {xs : List Value} (h : w.ownsRow base e size v n xs) (hk : ∀ g, v.ownBlock = some g → w'.heap[g]? = w.heap[g]?) : w'.ownsRow base e size v n xs := by
  obtain ⟨h1, h2⟩ := h
  refine ⟨h1, ?_⟩
  rcases h2 with h2 | ⟨g, cap, cur, hv, hg, hh, r⟩
  · exact .inl h2
  · exact .inr ⟨g, cap, cur, hv, hg, (hk g (by rw [hv]; rfl)).trans hh, r⟩

/-- A cell that is not of the border. -/
theorem L1.skip {w0 wr w2 : World} {X Y : Int} {W H n b cap sl hb sb scap : Nat} {v : Nat → Nat} {k : Nat} {ov : Value} {m : Nat} {c : Nat → Nat} (h : L1 w0 wr X Y W H n b cap sl hb sb scap v k ov m c) (hB : Below wr.heap.size wr w2) (hb' : bdB W H k = false) : L1 w0 w2 X Y W H n b cap sl hb sb scap v (k + 1) ov m c := by
  refine ⟨h.stat.below hB, blkStay h.obj hB, ownsRow_below h.own hB, ownsRow_below h.sown hB, (h.bools.congr (hB.block _ h.bools.lt)).as fun i hi => ?_, fun i hi => ⟨by have := (h.c1 i hi).1; omega, (h.c1 i hi).2⟩, fun x hx hx' => ?_, by have := h.mle; omega⟩
  · by_cases e : i = k
    · subst e; rw [hb']; simp
    · have : decide (i < k) = decide (i < k + 1) := by simp; omega
      rw [this]
  · by_cases e : x = k
    · subst e; rw [hb'] at hx'; cases hx'
    · exact h.c2 x (by omega) hx'

/-- A cell of the border: it has been reached. -/
theorem L1.reach {w0 wr w2 : World} {X Y : Int} {W H n b cap sl hb sb scap : Nat} {v : Nat → Nat} {k : Nat} {ov : Value} {m : Nat} {c : Nat → Nat} (h : L1 w0 wr X Y W H n b cap sl hb sb scap v k ov m c) (hB : Below wr.heap.size wr w2) (hk : k < n) (hsb : sb < hb) :
    Stat w0 (w2.setCell ⟨hb + 1 + 1, k, none⟩ (.bool true)) X Y W H n b cap sl hb ∧ (w2.setCell ⟨hb + 1 + 1, k, none⟩ (.bool true)).heap[hb]? = some (.cells #[ov, .slice (some ⟨sb, 0, none⟩) n scap] 135) ∧
    (w2.setCell ⟨hb + 1 + 1, k, none⟩ (.bool true)).ownsRow (hb + 1 + 1 + 1 + 1) 3 1 ov m (cellsL c m) ∧ (w2.setCell ⟨hb + 1 + 1, k, none⟩ (.bool true)).ownsRow (w0.heap.size + 1 + 1) 27 1 (.slice (some ⟨sb, 0, none⟩) n scap) n (rowL v n) ∧
    BoolsAt (w2.setCell ⟨hb + 1 + 1, k, none⟩ (.bool true)) (hb + 1 + 1) n (updB (fun i => decide (i < k) && bdB W H i) k) := by
  have e : ∀ j, j ≠ hb + 1 + 1 → (w2.setCell ⟨hb + 1 + 1, k, none⟩ (.bool true)).heap[j]? = w2.heap[j]? := fun j hj => heap_setCell_other _ _ j _ hj
  have S := h.stat.below hB
  refine ⟨S.kept (fun j h1 h2 h3 _ => e j h3) (S.bel.setCell (by show w0.heap.size ≤ hb + 1 + 1; have := S.lo; omega) _), (e hb (by omega)).trans (blkStay h.obj hB), ownsRow_setCell_below (ownsRow_below h.own hB) (show hb + 1 + 1 < hb + 1 + 1 + 1 + 1 by omega) _, ?_, (h.bools.congr (hB.block _ h.bools.lt)).put hk⟩
  exact ownsRow_congr (ownsRow_below h.sown hB) fun g hg => e g (by simp [Value.ownBlock] at hg; omega)

theorem L1.push {w0 w3 w4 : World} {X Y : Int} {W H n b cap sl hb sb scap : Nat} {v : Nat → Nat} {k : Nat} {ov : Value} {m g' cap' : Nat} {c : Nat → Nat} {o : Obj} (hsb : sb < hb) (hbk : bdB W H k = true) (S : Stat w0 w3 X Y W H n b cap sl hb)
    (obj : w3.heap[hb]? = some (.cells #[ov, .slice (some ⟨sb, 0, none⟩) n scap] 135)) (own : w3.ownsRow (hb + 1 + 1 + 1 + 1) 3 1 ov m (cellsL c m)) (sown : w3.ownsRow (w0.heap.size + 1 + 1) 27 1 (.slice (some ⟨sb, 0, none⟩) n scap) n (rowL v n))
    (bools : BoolsAt w3 (hb + 1 + 1) n (updB (fun i => decide (i < k) && bdB W H i) k)) (c1 : ∀ i, i < m → c i < k ∧ bdB W H (c i) = true) (c2 : ∀ x, x < k → bdB W H x = true → ∃ i, i < m ∧ c i = x) (mk : m ≤ k)
    (hgrow : (w3.alloc o).drew.grownBy w4 ov.ownBlock) (hown : w4.ownsRow (hb + 1 + 1 + 1 + 1) 3 1 (.slice (some ⟨g', 0, none⟩) (m + 1) cap') (m + 1) (cellsL c m ++ [.int .i64 (k : Int)])) :
    L1 w0 (w4.setCell ⟨hb, 0, none⟩ (.slice (some ⟨g', 0, none⟩) (m + 1) cap')) X Y W H n b cap sl hb sb scap v (k + 1) (.slice (some ⟨g', 0, none⟩) (m + 1) cap') (m + 1) (updW c m k) := by
  have far : ∀ j, j < hb + 1 + 1 + 1 + 1 → some j ≠ ov.ownBlock := fun j hj => ownsRow_far own hj
  have z3 : hb + 1 + 1 + 1 < w3.heap.size := (blkC S.rsl).2.2
  have e4 : ∀ j, j < hb + 1 + 1 + 1 + 1 → w4.heap[j]? = w3.heap[j]? := fun j hj => (hgrow.block j (by show j < (w3.alloc o).heap.size; rw [heap_size_alloc]; omega) (far j hj)).trans (heap_alloc_old _ _ (by omega))
  have e5 : ∀ j, j ≠ hb → (w4.setCell ⟨hb, 0, none⟩ (.slice (some ⟨g', 0, none⟩) (m + 1) cap')).heap[j]? = w4.heap[j]? := fun j hj => heap_setCell_other _ _ j _ hj
  have lo := S.lo
  have B3 : Below w0.heap.size w0 (w3.alloc o) := S.bel.alloc S.bel.size o
  have B4 : Below w0.heap.size w0 w4 := ⟨hgrow.os.trans B3.os, hgrow.tape.trans B3.tape, hgrow.output.trans B3.output, Nat.le_trans B3.size hgrow.size, fun j hj => (hgrow.block j (Nat.lt_of_lt_of_le hj B3.size) (far j (by omega))).trans (B3.block j hj)⟩
  refine ⟨S.kept (fun j h1 h2 h3 _ => (e5 j h2).trans (e4 j (by omega))) (B4.setCell (by show w0.heap.size ≤ hb; omega) _), ?_, ?_, ownsRow_congr sown fun g hg => (e5 g (by simp [Value.ownBlock] at hg; omega)).trans (e4 g (by simp [Value.ownBlock] at hg; omega)), ?_, fun i hi => ?_, fun x hx hx' => ?_, by omega⟩
  · exact heap_setCell_same w4 hb 0 _ _ _ ((e4 hb (by omega)).trans obj)
  · rw [← cellsL_succ]; exact ownsRow_setCell_below hown (show hb < hb + 1 + 1 + 1 + 1 by omega) _
  · refine (bools.congr ((e5 _ (by omega)).trans (e4 _ (by omega)))).as fun i hi => ?_
    by_cases e : i = k
    · subst e; rw [updB_same, hbk]; simp
    · rw [updB_other _ e]
      have : decide (i < k) = decide (i < k + 1) := by simp; omega
      rw [this]
  · by_cases e : i = m
    · subst e; rw [updW_same]; exact ⟨by omega, hbk⟩
    · rw [updW_other c e]; exact ⟨by have := (c1 i (by omega)).1; omega, (c1 i (by omega)).2⟩
  · by_cases e : x = k
    · subst e; exact ⟨m, by omega, updW_same c m x⟩
    · obtain ⟨i, hi, q⟩ := c2 x (by omega) hx'
      exact ⟨i, by omega, by rw [updW_other c (by omega)]; exact q⟩

/-- What leastSpills answers. -/
def SpillPost (W H n : Nat) (v : Nat → Nat) (sl : Nat) (w : World) (e : Ending) (w' : World) : Prop :=
  ∃ s sb scap, e = .returned (.slice (some ⟨sb, 0, none⟩) n scap) ∧ w.heap.size ≤ sb ∧ sb < w'.heap.size ∧ n ≤ scap ∧ FlAt w' sb 0 n s ∧ Spills (gndOf W H v sl) s ∧ Below w.heap.size w w'

theorem ownsRow_lower {w : World} {base base' : Nat} {e : TypeId} {size : Nat} {v : Value} {n : Nat} {xs : List Value} (h : w.ownsRow base e size v n xs) (hb : base' ≤ base) : w.ownsRow base' e size v n xs := by
  obtain ⟨h1, h2⟩ := h
  refine ⟨h1, ?_⟩
  rcases h2 with h2 | ⟨g, cap, cur, hv, hg, r⟩
  · exact .inl h2
  · exact .inr ⟨g, cap, cur, hv, Nat.le_trans hb hg, r⟩

theorem l1_start {w0 w1 : World} {X Y : Int} {W H n b cap sl hb sb scap base : Nat} {v : Nat → Nat} (hhb : w1.heap.size = hb) (hbase : w0.heap.size + 1 + 1 ≤ base) (hF : w1.heap[w0.heap.size]? = some (fldO X Y W H (.slice (some ⟨b, 0, none⟩) n cap))) (hL : w1.heap[w0.heap.size + 1]? = some (flObj sl))
    (hB : Below w0.heap.size w0 w1) (hO : w1.ownsRow base 27 1 (.slice (some ⟨sb, 0, none⟩) n scap) n (rowL v n)) :
    L1At w0 X Y W H n b cap sl hb sb scap v 0 ((((w1.alloc (.cells #[.slice none 0 0, .slice (some ⟨sb, 0, none⟩) n scap] 135)).alloc (ptrO hb)).alloc (.cells (madeCells #[Value.bool false] n) 4)).alloc (boolsO (hb + 1 + 1) n)) := by
  have zl := (blkC hL).2.2
  have old : ∀ j o, w1.heap[j]? = some o → ((((w1.alloc (.cells #[.slice none 0 0, .slice (some ⟨sb, 0, none⟩) n scap] 135)).alloc (ptrO hb)).alloc (.cells (madeCells #[Value.bool false] n) 4)).alloc (boolsO (hb + 1 + 1) n)).heap[j]? = some o := fun j o h => by
    have hj : j < w1.heap.size := (Array.getElem?_eq_some_iff.1 h).1
    rw [heap_alloc_old _ _ (by simp; omega), heap_alloc_old _ _ (by simp; omega), heap_alloc_old _ _ (by simp; omega), heap_alloc_old _ _ hj]; exact h
  subst hhb
  refine ⟨.slice none 0 0, 0, fun _ => 0, ⟨⟨old _ _ hF, old _ _ hL, ?_, ?_, ?_, by omega⟩, ?_, World.ownsRow_nil _ _ _ _, ownsRow_lower ((((hO.alloc _).alloc _).alloc _).alloc _) hbase, ?_, fun i hi => by omega, fun x hx => by omega, Nat.le_refl _⟩⟩
  · ((simp only [heap_alloc_get, heap_size_alloc, if_true]) <;> ((repeat' split) <;> first | rfl | omega))
  · ((simp only [heap_alloc_get, heap_size_alloc, if_true]) <;> ((repeat' split) <;> first | rfl | omega))
  · exact (((hB.alloc hB.size _).alloc (by simp; have := hB.size; omega) _).alloc (by simp; have := hB.size; omega) _).alloc (by simp; have := hB.size; omega) _
  · ((simp only [heap_alloc_get, heap_size_alloc, if_true]) <;> ((repeat' split) <;> first | rfl | omega))
  · refine ⟨_, by ((simp only [heap_alloc_get, heap_size_alloc, if_true]) <;> ((repeat' split) <;> first | rfl | omega)), by simp [madeCells], fun i hi => by simp [madeCells, hi, Nat.mod_one]⟩
end Go.Proofs.YtacbemilicdklaaDoor

/- What is known at each head of leastSpills' second loop; its rounds. -/
namespace Go.Proofs.YtacbemilicdklaaDoor
open Go.RowKit Fl Go.Shelf
set_option linter.unusedVariables false

/-- The heap, the spills and the cells that have been reached, in memory. -/
structure Mem (w0 wr : World) (X Y : Int) (W H n b cap sl hb sb scap g gcap m : Nat) (c s : Nat → Nat) (R : Nat → Bool) : Prop where
  stat : Stat w0 wr X Y W H n b cap sl hb
  heads : HeadsAt wr hb sb n scap g gcap m c s
  sown : wr.ownsRow (w0.heap.size + 1 + 1) 27 1 (.slice (some ⟨sb, 0, none⟩) n scap) n (rowL s n)
  bools : BoolsAt wr (hb + 1 + 1) n R
  gl : hb + 1 + 1 + 1 < g
  sbl : sb < hb
theorem ownsRow_flAt' {w : World} {base b cap k : Nat} {f : Nat → Nat} (h : w.ownsRow base 27 1 (.slice (some ⟨b, 0, none⟩) k cap) k (rowL f k)) (hk : 0 < k) : FlAt w b 0 k f := (ownsRow_flAt h hk).1
theorem Mem.below {w0 w w' : World} {X Y : Int} {W H n b cap sl hb sb scap g gcap m : Nat} {c s : Nat → Nat} {R : Nat → Bool} (h : Mem w0 w X Y W H n b cap sl hb sb scap g gcap m c s R) (hB : Below w.heap.size w w') : Mem w0 w' X Y W H n b cap sl hb sb scap g gcap m c s R := by
  have zh := (blkC h.heads.obj).2.2
  have zs : sb < w.heap.size := World.block_lt_of_cell? w _ (h.heads.sp 0 h.heads.n1)
  have zg := h.heads.cap1.2.2
  exact ⟨h.stat.below hB, h.heads.kept (fun k hk => hB.block k (by rcases hk with rfl | rfl | rfl <;> assumption)), ownsRow_below h.sown hB, h.bools.congr (hB.block _ h.bools.lt), h.gl, h.sbl⟩
/-- A step that turns no block of cells. -/
theorem Mem.other {w0 w w' : World} {X Y : Int} {W H n b cap sl hb sb scap g gcap m : Nat} {c s : Nat → Nat} {R : Nat → Bool} (h : Mem w0 w X Y W H n b cap sl hb sb scap g gcap m c s R) (hB : Below w0.heap.size w0 w') (hk : ∀ (k : Nat) (cs : Array Value) (t : TypeId) (f : Nat × Nat), w.heap[k]? = some (.cells cs t f) → w'.heap[k]? = some (.cells cs t f)) : Mem w0 w' X Y W H n b cap sl hb sb scap g gcap m c s R := by
  have S := h.stat
  have own : ∀ {base : Nat} {e : TypeId} {v : Value} {n : Nat} {xs : List Value}, w.ownsRow base e 1 v n xs → w'.ownsRow base e 1 v n xs := fun q => by
    obtain ⟨h1, h2⟩ := q
    refine ⟨h1, ?_⟩
    rcases h2 with h2 | ⟨g, cap, cur, hv, hg, hh, r⟩
    · exact .inl h2
    · exact .inr ⟨g, cap, cur, hv, hg, hk _ _ _ _ hh, r⟩
  have so := own h.sown
  refine ⟨⟨hk _ _ _ _ S.fld, hk _ _ _ _ S.slo, hk _ _ _ _ S.ptr, hk _ _ _ _ S.rsl, hB, S.lo⟩, ⟨hk _ _ _ _ h.heads.obj, own h.heads.own, (ownsRow_flAt' so h.heads.n1), h.heads.gh, h.heads.gs, h.heads.hs, h.heads.nc, h.heads.n1, h.heads.n2, h.heads.m2⟩, so, ?_, h.gl, h.sbl⟩
  obtain ⟨cs, h1, h2⟩ := h.bools
  exact ⟨cs, hk _ _ _ _ h1, h2⟩

theorem below_kept {w0 w w' : World} {hb g : Nat} (hB : Below w0.heap.size w0 w) (K : Kept hb g w w') (h1 : w0.heap.size ≤ hb) (h2 : w0.heap.size ≤ g) : Below w0.heap.size w0 w' :=
  ⟨K.os.trans hB.os, K.tape.trans hB.tape, K.output.trans hB.output, Nat.le_trans hB.size K.size, fun j hj => (K.block j (Nat.lt_of_lt_of_le hj hB.size) (by omega) (by omega)).trans (hB.block j hj)⟩

/-- Behind a step of the heap's. -/
theorem Mem.heapStep {w0 w w' : World} {X Y : Int} {W H n b cap sl hb sb scap g gcap m g' gcap' m' : Nat} {c s c' : Nat → Nat} {R : Nat → Bool} (h : Mem w0 w X Y W H n b cap sl hb sb scap g gcap m c s R) (K : Kept hb g w w') (hh : HeadsAt w' hb sb n scap g' gcap' m' c' s) (hg : g' = g ∨ w.heap.size ≤ g') :
    Mem w0 w' X Y W H n b cap sl hb sb scap g' gcap' m' c' s R := by
  have lo := h.stat.lo
  have gl := h.gl
  have sbl := h.sbl
  have zr := (blkC h.stat.rsl).2.2
  have kk : ∀ k, k ≤ hb + 1 + 1 + 1 → k ≠ hb → w'.heap[k]? = w.heap[k]? := fun k hk hne => K.block k (by omega) hne (by omega)
  exact ⟨h.stat.kept (fun k hk' h1 _ _ => kk k hk' h1) (below_kept h.stat.bel K (by omega) (by omega)), hh, ownsRow_congr h.sown fun g' hg => kk g' (by simp [Value.ownBlock] at hg; omega) (by simp [Value.ownBlock] at hg; omega), h.bools.congr (kk _ (by omega) (by omega)), by omega, h.sbl⟩

theorem rowL_set {s : Nat → Nat} {n k x : Nat} (hk : k < n) : (rowL s n).set k (.float .f32 x) = rowL (updW s k x) n := by
  apply List.ext_getElem?
  intro i
  rw [List.getElem?_set]
  by_cases e : i < n
  · have q : ∀ s : Nat → Nat, (rowL s n)[i]? = some (.float .f32 (s i)) := fun s => by simp [rowL, e]
    by_cases e1 : k = i
    · subst e1; rw [if_pos rfl, if_pos (by simpa [rowL] using e), q, updW_same]
    · rw [if_neg e1, q, q, updW_other s (by omega)]
  · have q : ∀ s : Nat → Nat, (rowL s n)[i]? = none := fun s => List.getElem?_eq_none (by simp [rowL]; omega)
    rw [if_neg (by omega), q, q]

/-- A cell is reached, its spill is stored. -/
theorem Mem.store {w0 w : World} {X Y : Int} {W H n b cap sl hb sb scap g gcap m : Nat} {c s : Nat → Nat} {R : Nat → Bool} (h : Mem w0 w X Y W H n b cap sl hb sb scap g gcap m c s R) {k x : Nat} (hk : k < n) :
    Mem w0 (w.setCell ⟨sb, k, none⟩ (.float .f32 x)) X Y W H n b cap sl hb sb scap g gcap m c (updW s k x) R := by
  have lo := h.stat.lo
  have sbl := h.sbl
  have gl := h.gl
  have e : ∀ j, j ≠ sb → (w.setCell ⟨sb, k, none⟩ (.float .f32 x)).heap[j]? = w.heap[j]? := fun j hj => heap_setCell_other _ _ j _ hj
  have o := (h.sown.stored k (.float .f32 x)).1
  rw [rowL_set hk] at o
  have sl0 := (h.sown.lt sb rfl).1
  have S := h.stat
  have st : Stat w0 (w.setCell ⟨sb, k, none⟩ (.float .f32 x)) X Y W H n b cap sl hb := ⟨(e _ (by omega)).trans S.fld, (e _ (by omega)).trans S.slo, (e _ (by omega)).trans S.ptr, (e _ (by omega)).trans S.rsl, S.bel.setCell (by show w0.heap.size ≤ sb; omega) _, S.lo⟩
  have D := h.heads
  exact ⟨st, ⟨(e _ (by omega)).trans D.obj, ownsRow_congr D.own fun g' hg => e g' (by simp [Value.ownBlock] at hg; omega), ownsRow_flAt' o D.n1, D.gh, D.gs, D.hs, D.nc, D.n1, D.n2, D.m2⟩, o, h.bools.congr (e _ (by omega)), h.gl, h.sbl⟩
theorem Mem.reach {w0 w : World} {X Y : Int} {W H n b cap sl hb sb scap g gcap m : Nat} {c s : Nat → Nat} {R : Nat → Bool} (h : Mem w0 w X Y W H n b cap sl hb sb scap g gcap m c s R) {k : Nat} (hk : k < n) :
    Mem w0 (w.setCell ⟨hb + 1 + 1, k, none⟩ (.bool true)) X Y W H n b cap sl hb sb scap g gcap m c s (updB R k) := by
  have lo := h.stat.lo
  have sbl := h.sbl
  have gl := h.gl
  have e : ∀ j, j ≠ hb + 1 + 1 → (w.setCell ⟨hb + 1 + 1, k, none⟩ (.bool true)).heap[j]? = w.heap[j]? := fun j hj => heap_setCell_other _ _ j _ hj
  exact ⟨h.stat.kept (fun j h1 h2 h3 _ => e j h3) (h.stat.bel.setCell (by show w0.heap.size ≤ hb + 1 + 1; omega) _), h.heads.kept (fun j hj => e j (by omega)), ownsRow_congr h.sown fun g' hg => e g' (by simp [Value.ownBlock] at hg; omega), h.bools.put hk, h.gl, h.sbl⟩

/-- What a round may turn: the heap's blocks, the spills, the cells that have been reached. -/
structure Turn (hb sb g : Nat) (w w' : World) : Prop where
  size : w.heap.size ≤ w'.heap.size
  block : ∀ k, k < w.heap.size → k ≠ hb → k ≠ g → k ≠ sb → k ≠ hb + 1 + 1 → w'.heap[k]? = w.heap[k]?
theorem Turn.refl (hb sb g : Nat) (w : World) : Turn hb sb g w w := ⟨Nat.le_refl _, fun _ _ _ _ _ _ => rfl⟩
theorem Turn.set {hb sb g : Nat} {w w' : World} (h : Turn hb sb g w w') {p : Addr} (hp : p.block = sb ∨ p.block = hb + 1 + 1) (u : Value) : Turn hb sb g w (w'.setCell p u) :=
  ⟨by simpa using h.size, fun k hk h1 h2 h3 h4 => (heap_setCell_other _ p k u (by rcases hp with e | e <;> rw [e] <;> omega)).trans (h.block k hk h1 h2 h3 h4)⟩
theorem Turn.drew {hb sb g : Nat} {w w' : World} (h : Turn hb sb g w w') : Turn hb sb g w w'.drew := ⟨h.size, h.block⟩
theorem Turn.heap {hb sb g : Nat} {w w' w'' : World} (h : Turn hb sb g w w') (K : Kept hb g w' w'') : Turn hb sb g w w'' :=
  ⟨Nat.le_trans h.size K.size, fun k hk h1 h2 h3 h4 => (K.block k (Nat.lt_of_lt_of_le hk h.size) h1 h2).trans (h.block k hk h1 h2 h3 h4)⟩
end Go.Proofs.YtacbemilicdklaaDoor

/- The rounds over the neighbours of the lowest cell: what is known between two of them. -/
namespace Go.Proofs.YtacbemilicdklaaDoor
open Go.RowKit Fl Go.Shelf
set_option linter.unusedVariables false

theorem Doing.of {g : Gnd} {s : Nat → Nat} {R : Nat → Bool} {c : Nat → Nat} {m : Nat} {D : Nat → Prop} {rk : Nat → Nat} {t x : Nat} {P P' : Nat → Prop} (F : Doing g s R c m D rk t x P) (h : ∀ e, P' e → P e) : Doing g s R c m D rk t x P' := ⟨F.f, F.x1, F.x2, fun e he => F.upto e (h e he)⟩
def didB {W H x0 : Nat} (pre : List (Nb W H x0)) (e : Nat) : Prop := ∃ z ∈ pre, z.1.1 = e
theorem did_snoc {W H x0 : Nat} {pre : List (Nb W H x0)} {x : Nb W H x0} {e : Nat} (h : didB (pre ++ [x]) e) : didB pre e ∨ e = x.1.1 := by
  obtain ⟨z, hz, rfl⟩ := h
  rcases List.mem_append.1 hz with h | h
  · exact .inl ⟨z, h, rfl⟩
  · right; rw [List.mem_singleton.1 h]
theorem did_all {W H x0 : Nat} {xs : List (Nb W H x0)} (h : xs.map (fun z => z.1) = nbrs W H x0 8) {e m : Nat} (he : e < 8) (hm : nbI W H x0 e = some m) : didB xs e := by
  have := nbrs_mem he hm
  rw [← h] at this
  obtain ⟨z, hz, q⟩ := List.mem_map.1 this
  exact ⟨z, hz, by rw [q]⟩

theorem Marks.kept' {lo : Nat} {w w' : World} {ds : List Deferred} (h : Marks lo w ds) (hk : ∀ e ∈ ds, ∀ D, e.target = .collected D → w.heap[D]? = some (.deferred (some [])) → w'.heap[D]? = some (.deferred (some []))) : Marks lo w' ds := by
  induction ds with
  | nil => trivial
  | cons d ds ih =>
    obtain ⟨⟨D, h1, h2, h3, h4⟩, h5⟩ := h
    exact ⟨⟨D, h1, h2, hk d (List.mem_cons_self ..) D (by rw [h1]) h3, h4⟩, ih h5 fun e he => hk e (List.mem_cons_of_mem _ he)⟩

/-- Between two rounds. -/
structure In (w0 : World) (ds : List Deferred) (X Y : Int) (W H n b cap : Nat) (v : Nat → Nat) (sl hb sb scap N q8 qq x0 : Nat) (pre : List (Nb W H x0)) (W1 : World) (c s : Nat → Nat) (R : Nat → Bool) (m g gcap : Nat) : Prop where
  mem : Mem w0 W1 X Y W H n b cap sl hb sb scap g gcap m c s R
  did : ∃ D rk t, Doing (gndOf W H v sl) s R c m D rk t x0 (didB pre)
  lt : 2 * unr n R + m < N
  le : unr n R + m ≤ 131072
  box : W1.heap[q8]? = some (.cells #[.int .i64 (x0 : Int)] 3)
  far : g < q8 ∨ qq < g
  marks : Marks (hb + 1 + 1 + 1 + 1) W1 ds
  sz : qq < W1.heap.size
def InAt (w0 : World) (ds : List Deferred) (X Y : Int) (W H n b cap : Nat) (v : Nat → Nat) (sl hb sb scap N q8 qq x0 : Nat) (pre : List (Nb W H x0)) (W1 : World) : Prop := ∃ c s R m g gcap, In w0 ds X Y W H n b cap v sl hb sb scap N q8 qq x0 pre W1 c s R m g gcap

theorem in_own {w0 : World} {ds : List Deferred} {X Y : Int} {W H n b cap : Nat} {v : Nat → Nat} {sl hb sb scap N q8 qq x0 B : Nat} (hB : w0.heap.size ≤ B) (hds : ∀ e ∈ ds, ∀ D, e.target = .collected D → D < B) : OwnFrom B (InAt w0 ds X Y W H n b cap v sl hb sb scap N q8 qq x0) := by
  rintro pre A A' row ⟨c, s, R, m, g, gcap, h⟩ hg hr
  have kc : ∀ (k : Nat) (cs : Array Value) (t : TypeId) (f : Nat × Nat), A.heap[k]? = some (.cells cs t f) → A'.heap[k]? = some (.cells cs t f) := fun k cs t f hk => by
    refine (hg.block k (Array.getElem?_eq_some_iff.1 hk).1 fun e => ?_).trans hk
    obtain ⟨_, o, ho, hc⟩ := hr k e.symm
    rw [hk] at ho; cases ho; cases hc
  have bel : Below w0.heap.size w0 A' := ⟨hg.os.trans h.mem.stat.bel.os, hg.tape.trans h.mem.stat.bel.tape, hg.output.trans h.mem.stat.bel.output, Nat.le_trans h.mem.stat.bel.size hg.size, fun j hj =>
    (hg.block j (Nat.lt_of_lt_of_le hj h.mem.stat.bel.size) fun e => by have := (hr j e.symm).1; omega).trans (h.mem.stat.bel.block j hj)⟩
  refine ⟨c, s, R, m, g, gcap, h.mem.other bel kc, h.did, h.lt, h.le, kc _ _ _ _ h.box, h.far, h.marks.kept' (fun e he D hD hd => ?_), Nat.lt_of_lt_of_le h.sz hg.size⟩
  exact (hg.block D (Array.getElem?_eq_some_iff.1 hd).1 fun e' => by have := (hr D e'.symm).1; have := hds e he D hD; omega).trans hd

/-- A neighbour that has been reached already. -/
theorem In.skip {w0 : World} {ds : List Deferred} {X Y : Int} {W H n b cap : Nat} {v : Nat → Nat} {sl hb sb scap N q8 qq x0 : Nat} {pre : List (Nb W H x0)} {W1 : World} {c s : Nat → Nat} {R : Nat → Bool} {m g gcap : Nat} (G : GndOk (gndOf W H v sl))
    (h : In w0 ds X Y W H n b cap v sl hb sb scap N q8 qq x0 pre W1 c s R m g gcap) (x : Nb W H x0) (hr : R x.1.2 = true) : InAt w0 ds X Y W H n b cap v sl hb sb scap N q8 qq x0 (pre ++ [x]) W1 := by
  obtain ⟨D, rk, t, F⟩ := h.did
  exact ⟨c, s, R, m, g, gcap, h.mem, ⟨D, rk, t, (doing_old G F x.2.2 hr).of fun e he => did_snoc he⟩, h.lt, h.le, h.box, h.far, h.marks, h.sz⟩

/-- A neighbour that is reached now: the heap ahead of the push. -/
theorem In.ready {w0 : World} {ds : List Deferred} {X Y : Int} {W H n b cap : Nat} {v : Nat → Nat} {sl hb sb scap N q8 qq x0 : Nat} {pre : List (Nb W H x0)} {W1 : World} {c s : Nat → Nat} {R : Nat → Bool} {m g gcap : Nat} (G : GndOk (gndOf W H v sl)) (hn : n = W * H)
    (h : In w0 ds X Y W H n b cap v sl hb sb scap N q8 qq x0 pre W1 c s R m g gcap) (x : Nb W H x0) (hr : R x.1.2 = false) :
    x.1.2 < n ∧ x0 < n ∧ m < 131072 ∧ OkC n m c (updW s x.1.2 (stepW sl (s x0) (v x.1.2))) ∧ Heap m (fun y => vI (updW s x.1.2 (stepW sl (s x0) (v x.1.2)) y)) c ∧ vS (updW s x.1.2 (stepW sl (s x0) (v x.1.2)) x.1.2) = some (vI (updW s x.1.2 (stepW sl (s x0) (v x.1.2)) x.1.2)) ∧
      (∃ r, floatBits .add .f32 (s x0) sl = some r ∧ stepW sl (s x0) (v x.1.2) = grtW (v x.1.2) r) := by
  obtain ⟨D, rk, t, F⟩ := h.did
  have hgn : (gndOf W H v sl).n = n := hn.symm
  have k1 : x.1.2 < (gndOf W H v sl).n := G.lt _ _ _ x.2.2
  have xr : R x0 = true := F.f.reach x0 F.x1 (.inr rfl)
  have hx : rk x0 ≤ 1048576 := by have := rk_le G F.f F.x1 xr; omega
  obtain ⟨r, e1, e2, _, _, okN, _⟩ := step_parts (F.f.fin x0 F.x1 xr).1 G.slo (G.hgt _ k1) hx
  have ne : ∀ i, i < m → c i ≠ x.1.2 := fun i hi e => by have := (F.f.cells i hi).2; rw [e, hr] at this; cases this
  have un : 1 ≤ unr n R := by have := unr_upd (n := n) (by rw [← hgn]; exact k1) hr; omega
  refine ⟨by rw [← hgn]; exact k1, by rw [← hgn]; exact F.x1, by have := h.le; omega, fun i hi => ?_, fun i i0 hi => ?_, by rw [updW_same]; exact okN.val, r, e1, ?_⟩
  · rw [updW_other s (ne i hi)]
    obtain ⟨a, b⟩ := F.f.okc i hi
    exact ⟨by rw [← hgn]; exact a, b⟩
  · have q := F.f.heap i i0 hi
    show vI (updW s _ _ (c ((i - 1) / 2))) ≤ vI (updW s _ _ (c i))
    rw [updW_other s (ne i hi), updW_other s (ne _ (by omega))]
    exact q
  · exact congrArg (grtW _) e2

/-- A neighbour that is reached now, behind the push. -/
theorem In.new {w0 : World} {ds : List Deferred} {X Y : Int} {W H n b cap : Nat} {v : Nat → Nat} {sl hb sb scap N q8 qq x0 : Nat} {pre : List (Nb W H x0)} {W1 W3 W4 : World} {c s : Nat → Nat} {R : Nat → Bool} {m g gcap g' gcap' : Nat} {c' : Nat → Nat} (G : GndOk (gndOf W H v sl)) (hn : n = W * H)
    (h : In w0 ds X Y W H n b cap v sl hb sb scap N q8 qq x0 pre W1 c s R m g gcap) (x : Nb W H x0) (hr : R x.1.2 = false)
    (M3 : Mem w0 W3 X Y W H n b cap sl hb sb scap g gcap m c (updW s x.1.2 (stepW sl (s x0) (v x.1.2))) (updB R x.1.2)) (T3 : Turn hb sb g W1 W3) (hq : qq < W1.heap.size) (hq8 : hb + 1 + 1 < q8) (hqq : q8 ≤ qq)
    (hh : HeadsAt W4 hb sb n scap g' gcap' (m + 1) c' (updW s x.1.2 (stepW sl (s x0) (v x.1.2)))) (hs : SameSet (m + 1) (updW c m x.1.2) c') (hp : Heap (m + 1) (fun y => vI (updW s x.1.2 (stepW sl (s x0) (v x.1.2)) y)) c') (K : Kept hb g W3 W4) (hg : g' = g ∨ W3.heap.size ≤ g') :
    InAt w0 ds X Y W H n b cap v sl hb sb scap N q8 qq x0 (pre ++ [x]) W4 ∧ Turn hb sb g W1 W4 := by
  obtain ⟨D, rk, t, F⟩ := h.did
  have k1 : x.1.2 < (gndOf W H v sl).n := G.lt _ _ _ x.2.2
  have hgn : (gndOf W H v sl).n = n := hn.symm
  have T4 := T3.heap K
  have un := unr_upd (n := n) (R := R) (by rw [← hgn]; exact k1) hr
  have sbl := h.mem.sbl
  have z3 := T3.size
  have l1 := h.lt
  have l2 := h.le
  have l3 := h.far
  have zc : ∀ k, W1.heap[k]? = some (.deferred (some [])) → k ≠ hb ∧ k ≠ g ∧ k ≠ sb ∧ k ≠ hb + 1 + 1 := fun k hk => by
    refine ⟨fun e => ?_, fun e => ?_, fun e => ?_, fun e => ?_⟩
    · rw [e, h.mem.heads.obj] at hk; cases hk
    · obtain ⟨_, _ | ⟨g2, cap2, cur, hv, hg2, hh2, _⟩⟩ := h.mem.heads.own
      · rename_i q; cases q.1
      · cases hv; rw [e, hh2] at hk; cases hk
    · obtain ⟨_, _ | ⟨g2, cap2, cur, hv, hg2, hh2, _⟩⟩ := h.mem.sown
      · rename_i q; cases q.1
      · cases hv; rw [e, hh2] at hk; cases hk
    · obtain ⟨cs, hc, _⟩ := h.mem.bools
      rw [e, hc] at hk; cases hk
  refine ⟨⟨c', _, _, m + 1, g', gcap', M3.heapStep K hh hg, ⟨D, _, _, (doing_new G F x.2.1 x.2.2 hr hs hp).of fun e he => did_snoc he⟩, by omega, by omega, ?_, by omega, h.marks.kept' (fun e he DD hD hd => ?_), Nat.lt_of_lt_of_le hq T4.size⟩, T4⟩
  · exact (T4.block q8 (by omega) (by omega) (by omega) (by omega) (by omega)).trans h.box
  · obtain ⟨a1, a2, a3, a4⟩ := zc DD hd
    exact (T4.block DD (Array.getElem?_eq_some_iff.1 hd).1 a1 a2 a3 a4).trans hd

/-- At the head of the second loop. -/
structure L2 (w0 : World) (X Y : Int) (W H n b cap : Nat) (v : Nat → Nat) (sl hb sb scap N : Nat) (W1 : World) (c s : Nat → Nat) (R : Nat → Bool) (m g gcap : Nat) : Prop where
  mem : Mem w0 W1 X Y W H n b cap sl hb sb scap g gcap m c s R
  fil : ∃ D rk t, Fil (gndOf W H v sl) s R c m D D rk t
  num : 2 * unr n R + m = N
  le : unr n R + m ≤ 131072
def L2At (w0 : World) (X Y : Int) (W H n b cap : Nat) (v : Nat → Nat) (sl hb sb scap N : Nat) (W1 : World) : Prop := ∃ c s R m g gcap, L2 w0 X Y W H n b cap v sl hb sb scap N W1 c s R m g gcap

theorem L1.heads {w0 wr : World} {X Y : Int} {W H n b cap sl hb sb scap : Nat} {v : Nat → Nat} {g gcap m : Nat} {c : Nat → Nat} (h : L1 w0 wr X Y W H n b cap sl hb sb scap v n (.slice (some ⟨g, 0, none⟩) m gcap) m c) (h1 : 1 ≤ n) (h2 : n ≤ 65536) (hsb : sb < hb) :
    Mem w0 wr X Y W H n b cap sl hb sb scap g gcap m c v (fun i => decide (i < n) && bdB W H i) := by
  have gl := (h.own.lt g rfl).1
  refine ⟨h.stat, ⟨h.obj, ownsRow_lower h.own (Nat.zero_le _), ownsRow_flAt' h.sown h1, by omega, by omega, by omega, ?_, h1, h2, by have := h.mle; omega⟩, h.sown, h.bools, by omega, hsb⟩
  rcases h.sown.2 with ⟨h', _⟩ | ⟨g2, cap2, cur, hv, _, _, a, _⟩
  · cases h'
  · cases hv; exact a

theorem l2_start {w0 wr w5 : World} {X Y : Int} {W H n b cap : Nat} {v : Nat → Nat} {sl hb sb scap g gcap m : Nat} {c c5 : Nat → Nat} (G : GndOk (gndOf W H v sl)) (hn : n = W * H) (M : Mem w0 wr X Y W H n b cap sl hb sb scap g gcap m c v (fun i => decide (i < n) && bdB W H i)) (K : Kept hb g wr w5)
    (hh : HeadsAt w5 hb sb n scap g gcap m c5 v) (hs : SameSet m c c5) (hp : Heap m (fun x => vI (v x)) c5) (c1 : ∀ i, i < m → c i < n ∧ bdB W H (c i) = true) (c2 : ∀ x, x < n → bdB W H x = true → ∃ i, i < m ∧ c i = x) (hm : m ≤ n) (hn2 : n ≤ 65536) :
    ∃ N, L2At w0 X Y W H n b cap v sl hb sb scap N w5 := by
  have hgn : (gndOf W H v sl).n = n := hn.symm
  refine ⟨_, c5, v, _, m, g, gcap, M.heapStep K hh (.inl rfl), ⟨_, _, _, fil_start G (fun i hi => ?_) (fun i hi => ?_) (fun x hx hb' => (hs x).1 (c2 x (by rw [← hgn]; exact hx) hb')) hp⟩, rfl, ?_⟩
  · rw [hgn] at hi
    show (decide (i < n) && bdB W H i) = bdB W H i
    simp [hi]
  · have q := hs.all (P := fun x => x < n ∧ bdB W H x = true) c1 i hi
    exact ⟨by rw [hgn]; exact q.1, q.2⟩
  · have := unr_le n (fun i => decide (i < n) && bdB W H i); omega

/-- The lowest cell has been taken; its number is in a box. -/
theorem in_start {w0 W2 : World} {ds : List Deferred} {X Y : Int} {W H n b cap : Nat} {v : Nat → Nat} {sl hb sb scap N q8 qq g gcap m : Nat} {c s c' : Nat → Nat} {R : Nat → Bool} (M : Mem w0 W2 X Y W H n b cap sl hb sb scap g gcap m c' s R)
    (hF : ∃ D rk t, Fil (gndOf W H v sl) s R c (m + 1) D D rk t) (hs : SameSet m (swp c 0 m) c') (hh : Heap m (fun x => vI (s x)) c') (hN : 2 * unr n R + (m + 1) = N) (hle : unr n R + (m + 1) ≤ 131072)
    (box : W2.heap[q8]? = some (.cells #[.int .i64 ((c 0 : Nat) : Int)] 3)) (far : g < q8) (mk : Marks (hb + 1 + 1 + 1 + 1) W2 ds) (sz : qq < W2.heap.size) : InAt w0 ds X Y W H n b cap v sl hb sb scap N q8 qq (c 0) [] W2 := by
  obtain ⟨D, rk, t, F⟩ := hF
  exact ⟨c', s, R, m, g, gcap, M, ⟨D, rk, t, (fil_pop F hs hh).of fun e he => by obtain ⟨z, hz, _⟩ := he; cases hz⟩, by omega, by omega, box, .inl far, mk, sz⟩
theorem in_end {w0 W2 : World} {ds : List Deferred} {X Y : Int} {W H n b cap : Nat} {v : Nat → Nat} {sl hb sb scap N q8 qq x0 : Nat} {xs : List (Nb W H x0)} (h : InAt w0 ds X Y W H n b cap v sl hb sb scap N q8 qq x0 xs W2) (hx : xs.map (fun z => z.1) = nbrs W H x0 8) :
    ∃ N', N' < N ∧ L2At w0 X Y W H n b cap v sl hb sb scap N' W2 := by
  obtain ⟨c, s, R, m, g, gcap, h⟩ := h
  obtain ⟨D, rk, t, F⟩ := h.did
  exact ⟨_, h.lt, c, s, R, m, g, gcap, h.mem, ⟨_, _, _, doing_done F fun e he k hk => did_all hx he hk⟩, rfl, h.le⟩

set_option maxRecDepth 100000 in
/-- A frame of 98 slots, written out. -/
theorem slots98 (t : Array Value) (h : t.size = 98) : ∃ u : Nat → Value, t = #[u 0, u 1, u 2, u 3, u 4, u 5, u 6, u 7, u 8, u 9, u 10, u 11, u 12, u 13, u 14, u 15, u 16, u 17, u 18, u 19, u 20, u 21, u 22, u 23, u 24, u 25, u 26, u 27, u 28, u 29, u 30, u 31, u 32, u 33, u 34, u 35, u 36, u 37, u 38, u 39, u 40, u 41, u 42, u 43, u 44, u 45, u 46, u 47, u 48, u 49, u 50, u 51, u 52, u 53, u 54, u 55, u 56, u 57, u 58, u 59, u 60, u 61, u 62, u 63, u 64, u 65, u 66, u 67, u 68, u 69, u 70, u 71, u 72, u 73, u 74, u 75, u 76, u 77, u 78, u 79, u 80, u 81, u 82, u 83, u 84, u 85, u 86, u 87, u 88, u 89, u 90, u 91, u 92, u 93, u 94, u 95, u 96, u 97] := by
  refine ⟨fun i => t.getD i undef, ?_⟩
  have e : ∀ u : Nat → Value, (#[u 0, u 1, u 2, u 3, u 4, u 5, u 6, u 7, u 8, u 9, u 10, u 11, u 12, u 13, u 14, u 15, u 16, u 17, u 18, u 19, u 20, u 21, u 22, u 23, u 24, u 25, u 26, u 27, u 28, u 29, u 30, u 31, u 32, u 33, u 34, u 35, u 36, u 37, u 38, u 39, u 40, u 41, u 42, u 43, u 44, u 45, u 46, u 47, u 48, u 49, u 50, u 51, u 52, u 53, u 54, u 55, u 56, u 57, u 58, u 59, u 60, u 61, u 62, u 63, u 64, u 65, u 66, u 67, u 68, u 69, u 70, u 71, u 72, u 73, u 74, u 75, u 76, u 77, u 78, u 79, u 80, u 81, u 82, u 83, u 84, u 85, u 86, u 87, u 88, u 89, u 90, u 91, u 92, u 93, u 94, u 95, u 96, u 97] : Array Value) = ((List.range 98).map u).toArray := fun u => rfl
  refine Eq.trans ?_ (e fun i => t.getD i undef).symm
  apply Array.ext
  · simp [h]
  · intro i h1 h2
    simp [Array.getD, h1]

/-- At the loop's end: nothing lies in the heap any more. -/
theorem spill_end {w0 wr w' : World} {X Y : Int} {W H n b cap : Nat} {v : Nat → Nat} {sl hb sb scap g gcap lo : Nat} {c s : Nat → Nat} {R : Nat → Bool} (G : GndOk (gndOf W H v sl)) (M : Mem w0 wr X Y W H n b cap sl hb sb scap g gcap 0 c s R) (hF : ∃ D rk t, Fil (gndOf W H v sl) s R c 0 D D rk t) (hlo : w0.heap.size ≤ lo)
    (g1 : ∀ k, k < lo → w'.heap[k]? = wr.heap[k]?) (g2 : ∀ (k : Nat) (o : Obj), wr.heap[k]? = some o → o ≠ .deferred (some []) → w'.heap[k]? = some o) (g3 : w'.heap.size = wr.heap.size) (g4 : w'.os = wr.os) (g5 : w'.tape = wr.tape) (g6 : w'.output = wr.output) :
    SpillPost W H n v sl w0 (.returned (.slice (some ⟨sb, 0, none⟩) n scap)) w' := by
  obtain ⟨D, rk, t, F⟩ := hF
  have B := M.stat.bel
  have sl0 := (M.sown.lt sb rfl)
  refine ⟨s, sb, scap, rfl, by omega, by rw [g3]; exact sl0.2, M.heads.nc, flAt_congr M.heads.sp ?_, fil_end G (gnd_joined W H sl v) F, ⟨g4.trans B.os, g5.trans B.tape, g6.trans B.output, by rw [g3]; exact B.size, fun k hk => (g1 k (by omega)).trans (B.block k hk)⟩⟩
  obtain ⟨_, _ | ⟨g2', cap2, cur, hv, hg2, hh2, _⟩⟩ := M.sown
  · rename_i q; cases q.1
  · cases hv
    rw [g2 _ _ hh2 (by simp), hh2]

/-- What the law of a range over a function asks of a round. -/
theorem In.owes {w0 : World} {ds : List Deferred} {X Y : Int} {W H n b cap : Nat} {v : Nat → Nat} {sl hb sb scap N q8 qq x0 r B : Nat} {pre : List (Nb W H x0)} {W1 W4 : World} {c s : Nat → Nat} {R : Nat → Bool} {m g gcap : Nat}
    (h : In w0 ds X Y W H n b cap v sl hb sb scap N q8 qq x0 pre W1 c s R m g gcap) (T : Turn hb sb g W1 W4) (hr : q8 < r) (hrq : r < qq) (h8 : hb + 1 + 1 + 1 < q8) (hd : 1 < w0.heap.size) : KeepsFrom B W1 W4 ∧ KpN r qq W1 W4 := by
  have far := h.far
  have sz := h.sz
  have lo := h.mem.stat.lo
  have sbl := h.mem.sbl
  have gl := h.mem.gl
  have sl0 := (h.mem.sown.lt sb rfl).1
  have zb := h.mem.stat.bel.size
  refine ⟨⟨T.size, fun k o _ hk ho => (T.block k (Array.getElem?_eq_some_iff.1 hk).1 (fun e => ?_) (fun e => ?_) (fun e => ?_) (fun e => ?_)).trans hk⟩, fun j hj => T.block j ?_ ?_ ?_ ?_ ?_⟩
  · rw [e, h.mem.heads.obj] at hk; cases hk; cases ho
  · obtain ⟨_, _ | ⟨g2, cap2, cur, hv, hg2, hh2, _⟩⟩ := h.mem.heads.own
    · rename_i q; cases q.1
    · cases hv; rw [e, hh2] at hk; cases hk; cases ho
  · obtain ⟨_, _ | ⟨g2, cap2, cur, hv, hg2, hh2, _⟩⟩ := h.mem.sown
    · rename_i q; cases q.1
    · cases hv; rw [e, hh2] at hk; cases hk; cases ho
  · obtain ⟨cs, hc, _⟩ := h.mem.bools
    rw [e, hc] at hk; cases hk; cases ho
  all_goals (rcases hj with rfl | rfl | rfl <;> omega)
end Go.Proofs.YtacbemilicdklaaDoor

/- Contract: leastSpills. -/
namespace Go.Proofs.YtacbemilicdklaaDoor
open Go.RowKit Fl Go.Shelf
set_option linter.unusedVariables false
attribute [local go_sem] Oper.semAt_some

set_option maxRecDepth 100000 in
set_option maxHeartbeats 4000000 in
theorem leastSpills_any (X Y : Int) (W H n b cap : Nat) (v : Nat → Nat) (sl : Nat) (w : World) (h0 : checkR X Y W H = 0) (hn : n = W * H) (hcap : n ≤ cap) (hcp : cap ≤ 9223372036854775807) (hc : FlAt w b 0 n v) (hh : allB n (fun i => hgtB (v i)) = true) (hs : SlW sl) (hD : DirsAt w) :
    Calls Tryd.prog 68 #[fldV X Y W H (.slice (some ⟨b, 0, none⟩) n cap), .float .f32 sl] w (SpillPost W H n v sl w) := by
  obtain ⟨b1, b2, b3, b4, b5, b6, b7, b8, b9⟩ := checkR_zero h0
  have hn2 : n ≤ 65536 := by
    have : ((W : Int) * (H : Int)) = (n : Int) := by rw [hn]; simp
    omega
  have hn1 : 1 ≤ n := by rw [hn]; exact Nat.mul_pos (by omega) (by omega)
  have zb : b < w.heap.size := World.block_lt_of_cell? w _ (hc 0 hn1)
  have G := Lib.hid (gnd_ok (W := W) (H := H) (v := v) (sl := sl) (by omega) (by omega) (fun k hk => allB_iff.1 hh k (by omega)) hs)
  have CL := Lib.hid (fun W' (hb : Below w.heap.size w W') => clone_any b n cap v W' hn1 hn2 (flAt_congr hc (hb.block _ zb)))
  have IB := Lib.hid (fun k (hk : k < n) w => isBorder_any X Y W H k w (by omega) (by omega) (by omega) (by omega) (by omega))
  have mk := make_bool n hn2
  have HD := Lib.hid hD
  have HC := Lib.hid hc
  have HN := Lib.hid hn
  have HS := Lib.hid hs
  have HH := Lib.hid hh
  clear hD hc hn hs hh h0
  refine (callsIn_wide (n := 4)).1 (callsIn_of_wp_marks Tryd.func68 rfl trivial (wpIn_wide.2 (wp_mono (Q := NoPanic (bodyPostM Fence.wide 4 Tryd.prog Tryd.f68 (SpillPost W H n v sl w))) ?_ noPanic_of)) rfl)
  simp only [Tryd.ntmps68, List.size_toArray, List.length_cons, List.length_nil, Nat.reduceAdd, Nat.reduceSub, Array.replicate_succ, Array.replicate_zero, List.push_toArray, List.append_toArray, List.nil_append, List.cons_append]
  go_wp2_with (first | (go_at_call 96; refine (CL.out _ (by repeat (first | exact Below.refl _ _ | refine Below.alloc ?_ (by first | omega | (simp; done) | (simp; omega)) _ | refine Below.setCell ?_ (by first | omega | (simp; done) | (simp; omega)) _ | refine Below.drew ?_))).mono ?_; rintro e w1 ⟨sb, scap, rfl, hg1, how1, hb1⟩; have HO1 := Lib.hid how1; have GB1 := Lib.hid hg1; have HF1 := Lib.hid (blkStay (b := w.heap.size) (o := fldO X Y W H (.slice (some ⟨b, 0, none⟩) n cap)) (by ((simp only [heap_alloc_get, heap_size_alloc, if_true]) <;> ((repeat' split) <;> first | rfl | omega))) hb1); have HL1 := Lib.hid (blkStay (b := w.heap.size + 1) (o := flObj sl) (by ((simp only [heap_alloc_get, heap_size_alloc, if_true]) <;> ((repeat' split) <;> first | rfl | omega))) hb1); have hB1 : Below w.heap.size w w1 := Below.trans (by repeat (first | exact Below.refl _ _ | refine Below.alloc ?_ (by first | omega | (simp; done) | (simp; omega)) _ | refine Below.setCell ?_ (by first | omega | (simp; done) | (simp; omega)) _ | refine Below.drew ?_)) (Below.mono hb1 (by first | omega | (simp; done) | (simp; omega))); obtain ⟨cF, fF, zF⟩ := blkC HF1.out; have zF1 : w.heap.size < w1.heap.size + 1 := (by omega); have zF2 : w.heap.size < w1.heap.size + 1 + 1 := (by omega); have zF3 : w.heap.size < w1.heap.size + 1 + 1 + 1 := (by omega); clear hb1 how1 hg1))
  have S1 := Lib.hid (l1_start (v := v) (b := b) (cap := cap) (sl := sl) (X := X) (Y := Y) (W := W) (H := H) rfl (by simp) HF1.out HL1.out hB1 HO1.out)
  have ZSB := Lib.hid (HO1.out.lt sb rfl).2
  generalize w1.heap.size = hb at *
  clear cF fF zF zF1 zF2 zF3 HF1 HL1 hB1 HO1 GB1 mk CL
  have hinfo : (Tryd.prog.info? 3).map (fun i => (i.zero, i.size, i.bytes)) = some (some (.int .i64 0), 1, 8) := by kernel_rfl
  obtain ⟨i0, hi, hz0, hz1, hz2⟩ := info_parts hinfo
  clear hinfo
  go_loopw [23] (fun s23 wr => ∃ k : Nat, k ≤ n ∧ s23 = .int .i64 k ∧ L1At w X Y W H n b cap sl hb sb scap v k wr) (fun s23 _ => n - (intOf s23).toNat)
  case atStart => exact ⟨0, Nat.zero_le _, rfl, S1.out⟩
  case round =>
    obtain ⟨k, hk, rfl, ov, m, c, h1⟩ := hrel
    have HL := Lib.hid h1
    obtain ⟨cF, fF, zF⟩ := blkC h1.stat.fld
    by_cases hlt : k < n
    · have IK := Lib.hid (IB.out k hlt)
      cases hbk : bdB W H k with
      | false =>
        rw [hbk] at IK
        have SK := Lib.hid (fun w2 hB => h1.skip (w2 := w2) hB hbk)
        clear hbk h1
        go_wp2_with (go_at_call 118; refine (IK.out _).mono ?_; rintro e w2 ⟨rfl, hb2⟩; have HB2 := Lib.hid hb2; clear hb2 cF fF zF)
        go_roundw
        case rel => exact ⟨k + 1, by omega, by go_num, ov, m, c, SK.out w2 HB2.out⟩
        case measure => simp [intOf]; omega
      | true =>
        rw [hbk] at IK
        have HBK := Lib.hid hbk
        clear hbk h1
        have k1 : (k : Int) < (n : Int) := by omega
        go_wp2_with (go_at_call 118; refine (IK.out _).mono ?_; rintro e w2 ⟨rfl, hb2⟩; have HB2 := Lib.hid hb2; clear hb2 cF fF zF; have ST2 := Lib.hid (HL.out.stat.below HB2.out); obtain ⟨cQ, fQ, zQ⟩ := blkC ST2.out.rsl; obtain ⟨b2, g2, z2⟩ := (HL.out.bools.congr (HB2.out.block _ HL.out.bools.lt)).cell hlt)
        obtain ⟨S3, obj3, own3, sown3, bools3⟩ := HL.out.reach HB2.out hlt ZSB.out
        obtain ⟨w3, hw3⟩ : ∃ w3, w2.setCell ⟨hb + 1 + 1, k, none⟩ (.bool true) = w3 := ⟨_, rfl⟩
        rw [hw3] at S3 obj3 own3 sown3 bools3 ⊢
        clear hw3 cQ fQ zQ b2 g2 z2
        obtain ⟨cP, fP, zP⟩ := blkC S3.ptr
        have p0 : w3.cell? ⟨hb + 1, 0, none⟩ = some (.pointer (some ⟨hb, 0, none⟩)) := cP 0
        obtain ⟨cO, fO, zO⟩ := blkC obj3
        have o0 : w3.cell? ⟨hb, 0, none⟩ = some ov := cO 0
        have ST3 := Lib.hid S3
        have OB3 := Lib.hid obj3
        have OW3 := Lib.hid own3
        have SO3 := Lib.hid sown3
        have BO3 := Lib.hid bools3
        have ML := Lib.hid HL.out.mle
        have LO := Lib.hid HL.out.stat.lo
        clear S3 obj3 own3 sown3 bools3 cP cO
        go_region_law (refine step_append_lies _ (by rfl) _ _ _ (by rfl) (hb + 1 + 1 + 1 + 1) 3 i0 _ 1 8 Tryd.underlying40 hi hz0 hz1 hz2 rfl (by omega) ov m (cellsL c m) (by rfl) (OW3.out.alloc _) ⟨w3.heap.size, 0, none⟩ 1 1 [.int .i64 (k : Int)] (by rfl) (by rfl) (World.news_of_block (cs := #[.int .i64 (k : Int)]) (t := 3) (fr := (0, 0)) (heap_alloc_new w3 _)) (by simp [Value.oneCell']) (by omega) (by have := ML.out; unfold maxLen; omega) (by have := ML.out; omega) (by have := (blkC ST3.out.rsl).2.2; simp; omega) (w3.heap.size + 1) (by simp) ?_; intro g' cap' w4 hown4 hgrow hat hlt4; have out4 := Lib.hid ((hgrow.block hb (by simp; omega) (ownsRow_far OW3.out (by omega))).trans ((heap_alloc_old _ _ zO).trans OB3.out)); obtain ⟨cV4, fV4, zV4⟩ := blkC out4.out; have pt4 := Lib.hid ((hgrow.block (hb + 1) (by simp; omega) (ownsRow_far OW3.out (by omega))).trans ((heap_alloc_old _ _ zP).trans ST3.out.ptr)); obtain ⟨cP4, fP4, zP4⟩ := blkC pt4.out)
        all_goals
          have HN1 := Lib.hid (L1.push ZSB.out HBK.out ST3.out OB3.out OW3.out SO3.out BO3.out HL.out.c1 HL.out.c2 HL.out.mle hgrow hown4)
          clear hown4 hgrow hat hlt4 cV4 fV4 zV4 cP4 fP4 zP4 o0 p0 fP fO zP zO
          go_wp2
          go_roundw
          case rel => exact ⟨k + 1, by omega, by go_num, _, _, _, HN1.out⟩
          case measure => simp [intOf]; omega
    · have hkn : k = n := by omega
      subst hkn
      have bd0 : bdB W H 0 = true := bdB_iff.2 (.inl (Nat.zero_mod _))
      obtain ⟨z0, hz0', _⟩ := h1.c2 0 (by omega) bd0
      obtain ⟨g, gcap, rfl, _, _⟩ := h1.own.form (show 0 < m by omega)
      have ME := Lib.hid (h1.heads hn1 hn2 ZSB.out)
      have gr : (gndOf W H v sl).n = k := HN.out.symm
      have C1 := Lib.hid h1.c1
      have C2 := Lib.hid h1.c2
      have OK := Lib.hid (show OkC k m c v from fun i hi => ⟨(h1.c1 i hi).1, (hgt_ok (G.out.hgt (c i) (by rw [gr]; exact (h1.c1 i hi).1))).val⟩)
      have GR := Lib.hid gr
      have ML := Lib.hid h1.mle
      obtain ⟨cP, fP, zP⟩ := blkC h1.stat.ptr
      clear h1 gr bd0 cF fF zF hlt
      go_wp2_with (go_at_call 119; refine (hinit_any _ hb sb k scap g gcap m c v ME.out.heads OK.out).mono ?_; rintro e w5 ⟨rfl, c5, hs5⟩; have S5 := Lib.hid hs5; clear hs5 cP fP zP)
      have L2S := Lib.hid (l2_start G.out HN.out ME.out S5.out.2.2.2 S5.out.1 S5.out.2.1 S5.out.2.2.1 C1.out C2.out ML.out hn2)
      clear ME C1 C2 OK S5 ML
      obtain ⟨N0, l2⟩ := L2S.out
      clear L2S
      refine wp_loop_ghost (fun N a wr => a.tmps.size = 98 ∧ (a.tmps[0]? = some (fldV X Y W H (.slice (some ⟨b, 0, none⟩) k cap)) ∧ a.tmps[1]? = some (.float .f32 sl) ∧ a.tmps[2]? = some (.pointer (some ⟨w.heap.size, 0, none⟩)) ∧ a.tmps[3]? = some (.pointer (some ⟨w.heap.size + 1, 0, none⟩)) ∧
        a.tmps[5]? = some (.pointer (some ⟨hb + 1, 0, none⟩)) ∧ a.tmps[6]? = some (.pointer (some ⟨hb + 1 + 1 + 1, 0, none⟩))) ∧ Marks (hb + 1 + 1 + 1 + 1) wr a.defers ∧ L2At w X Y W H k b cap v sl hb sb scap N wr) N0 ⟨rfl, ⟨rfl, rfl, rfl, rfl, rfl, rfl⟩, trivial, l2⟩ ?_
      rintro N ⟨tm, ds⟩ wr ⟨hsz, ⟨t0, t1, t2, t3, t5, t6⟩, hmk, c', s, R, m', g', gcap', h2⟩
      dsimp only at hsz t0 t1 t2 t3 t5 t6 hmk
      obtain ⟨u, rfl⟩ := slots98 tm hsz
      have q0 : u 0 = _ := Option.some.inj t0
      have q1 : u 1 = _ := Option.some.inj t1
      have q2 : u 2 = _ := Option.some.inj t2
      have q3 : u 3 = _ := Option.some.inj t3
      have q5 : u 5 = _ := Option.some.inj t5
      have q6 : u 6 = _ := Option.some.inj t6
      rw [q0, q1, q2, q3, q5, q6]
      clear q0 q1 q2 q3 q5 q6 t0 t1 t2 t3 t5 t6 hsz
      have HM := Lib.hid h2.mem
      have HF := Lib.hid h2.fil
      have HNUM := Lib.hid h2.num
      have HLE := Lib.hid h2.le
      have MK := Lib.hid hmk
      clear h2 hmk l2
      obtain ⟨cP, fP, zP⟩ := blkC HM.out.stat.ptr
      rcases Nat.eq_zero_or_pos m' with rfl | hm0
      · obtain ⟨cO, fO, zO⟩ := blkC HM.out.heads.obj
        go_wp2_with (go_at_call 120; refine (len_any wr hb sb k scap g' gcap' 0 c' s HM.out.heads).mono ?_; rintro e w' ⟨rfl, rfl⟩)
        exact leaves_marks ds wr MK.out fun w' g1 g2 g3 g4 g5 g6 => by refine ⟨_, results_tmp rfl _ _ _, ?_⟩; exact spill_end G.out HM.out HF.out (by have := HM.out.stat.lo; omega) g1 g2 g3 g4 g5 g6
      · obtain ⟨m, rfl⟩ : ∃ m, m' = m + 1 := ⟨m' - 1, by omega⟩
        obtain ⟨hok, hhp⟩ : OkC k (m + 1) c' s ∧ Heap (m + 1) (fun x => vI (s x)) c' := by
          obtain ⟨D, rk, t, F⟩ := HF.out
          exact ⟨fun i hi => by have q := F.okc i hi; exact ⟨by rw [← GR.out]; exact q.1, q.2⟩, F.heap⟩
        have m1 : (0 : Int) < ((m : Int) + 1) := by omega
        have PO := Lib.hid (pop_any wr hb sb k scap g' gcap' m c' s HM.out.heads hok hhp)
        have X0 := Lib.hid (hok 0 (by omega)).1
        have NE := Lib.hid (fun W' => neighbours_any X Y W H (c' 0) W' (by omega) (by omega) (by omega) (by omega) (by omega) (by omega) (by have := (hok 0 (by omega)).1; omega))
        have ta := assert_int
        clear hok hhp
        go_wp2_with (first | (go_at_call 120; refine (len_any wr hb sb k scap g' gcap' (m + 1) c' s HM.out.heads).mono ?_; rintro e w' ⟨rfl, rfl⟩) | (go_at_call 121; refine PO.out.mono ?_; rintro e w6 ⟨rfl, c6, hs6⟩; have S6 := Lib.hid hs6; have M6 := Lib.hid (HM.out.heapStep hs6.2.2.2 hs6.1 (.inl rfl)); clear hs6 cP fP zP; obtain ⟨cF, fF, zF⟩ := blkC M6.out.stat.fld) | (go_at_call 122; refine (NE.out _).mono ?_; rintro e w8 ⟨q, hq, rfl, hr8, hq8, hql, hb8⟩; have HQ := Lib.hid hq; have HR8 := Lib.hid hr8; have HQ8 := Lib.hid hq8; have HQL := Lib.hid hql; have HB8 := Lib.hid hb8; clear hq hr8 hq8 hql hb8 cF fF zF))
        have B8 := Lib.hid (show Below w6.heap.size w6 w8 from Below.trans (by repeat (first | exact Below.refl _ _ | refine Below.alloc ?_ (by first | omega | (simp; done) | (simp; omega)) _ | refine Below.setCell ?_ (by first | omega | (simp; done) | (simp; omega)) _ | refine Below.drew ?_)) (Below.mono HB8.out (by simp)))
        have M8 := Lib.hid (M6.out.below B8.out)
        have hlo := M8.out.stat.lo
        have zw8 : w.heap.size ≤ w8.heap.size := M8.out.stat.bel.size
        have z68 := B8.out.size
        have hl8 : hb + 1 + 1 + 1 < w6.heap.size := (blkC M6.out.stat.rsl).2.2
        have MK8 := Lib.hid (show Marks (hb + 1 + 1 + 1 + 1) w8 ds from MK.out.kept fun j hj hd => by
          have n1 : j ≠ g' := fun e => by
            obtain ⟨_, _ | ⟨g2, cap2, cur, hv, hg2, hh2, _⟩⟩ := HM.out.heads.own
            · rename_i q; cases q.1
            · cases hv; rw [e, hh2] at hd; cases hd
          exact blkStay ((S6.out.2.2.2.block j (Array.getElem?_eq_some_iff.1 hd).1 (by omega) n1).trans hd) B8.out)
        have DS := Lib.hid (fun e he D hD => MK8.out.lt e he D hD)
        have XB := Lib.hid (show X + ((c' 0 % W : Nat) : Int) ≤ 4194304 ∧ -4194304 ≤ X + ((c' 0 % W : Nat) : Int) from by
          have h : (c' 0) % W < W := Nat.mod_lt _ (by omega)
          generalize c' 0 % W = z at *
          omega)
        have YB := Lib.hid (show Y + ((c' 0 / W : Nat) : Int) ≤ 4194304 ∧ -4194304 ≤ Y + ((c' 0 / W : Nat) : Int) from by
          have h : (c' 0) / W < H := Nat.div_lt_of_lt_mul (by have := X0.out; have := HN.out; omega)
          generalize c' 0 / W = z at *
          omega)
        have D8 := Lib.hid (HD.out.stay M8.out.stat.bel)
        have I0 := Lib.hid (in_start (qq := q) M8.out HF.out S6.out.2.1 S6.out.2.2.1 HNUM.out HLE.out (blkStay (b := w6.heap.size) (o := .cells #[.int .i64 ((c' 0 : Nat) : Int)] 3) (by ((simp only [heap_alloc_get, if_true]) <;> ((repeat' split) <;> first | rfl | omega))) HB8.out) S6.out.1.cap1.2.2 MK8.out HQL.out)
        have r8 := HR8.out
        simp only [World.size_alloc] at r8
        have R8 := Lib.hid r8
        have q9 : w6.heap.size < q := by have := HQ.out; simp at this; omega
        clear r8
        refine (wpIn_wide (n := 4)).1 (wpIn_rangeFunc_ownG rfl (by omega) (gf := 147) (lb := #[.pointer (some ⟨w6.heap.size + 1, 0, none⟩), .pointer (some ⟨q, 0, none⟩)]) rfl trivial enters_nbr1
          (nbr_stops X Y (X + ((c' 0 % W : Nat) : Int)) (Y + ((c' 0 / W : Nat) : Int)) W H (c' 0) (w6.heap.size + 1) q 3 (by omega) (by omega) (by omega) (by omega) (by omega) (by omega) (by omega) (by have := X0.out; have := HN.out; omega) rfl rfl XB.out.2 XB.out.1 YB.out.2 YB.out.1 w8 D8.out R8.out HQ8.out)
          kpN_t (kpN_b (by have := HQL.out; omega) HQL.out D8.out.lt) (Below.refl _ _) (fun _ => rfl)
          (InAt w ds X Y W H k b cap v sl hb sb scap N w6.heap.size q (c' 0)) (fun _ _ _ => False) (in_own zw8 DS.out) (fun _ _ _ _ _ h _ _ => h) I0.out
          (fun x => { tmps := #[fldV X Y W H (.slice (some ⟨b, 0, none⟩) k cap), .float .f32 sl, .pointer (some ⟨w.heap.size, 0, none⟩), .pointer (some ⟨w.heap.size + 1, 0, none⟩), u 4, .pointer (some ⟨hb + 1, 0, none⟩), .pointer (some ⟨hb + 1 + 1 + 1, 0, none⟩), u 7, .pointer (some ⟨w6.heap.size, 0, none⟩), u 9, .int .i64 (x.1.2 : Int), u 11, u 12, u 13, u 14, u 15, u 16, u 17, u 18, u 19, u 20, u 21, u 22, u 23, u 24, u 25, u 26, u 27, u 28, u 29, u 30, u 31, u 32, u 33, u 34, u 35, u 36, u 37, u 38, u 39, u 40, u 41, u 42, u 43, u 44, u 45, u 46,
            .pointer (some ⟨hb, 0, none⟩), .int .i64 ((m : Int) + 1), .bool true, .pointer (some ⟨hb, 0, none⟩), .iface 133 (.pointer (some ⟨hb, 0, none⟩)), anyI (c' 0), .int .i64 ((c' 0 : Nat) : Int), .pointer (some ⟨w.heap.size, 0, none⟩), reg X Y W H, .int .i64 ((c' 0 : Nat) : Int),
            .func (.func 147) #[] #[.pointer (some ⟨w6.heap.size + 1, 0, none⟩), .pointer (some ⟨q, 0, none⟩)], .int .i64 (x.1.1 : Int), .int .i64 (x.1.2 : Int), u 60, u 61, u 62, u 63, u 64, u 65, u 66, u 67, u 68, u 69, u 70, u 71, u 72, u 73, u 74, u 75, u 76, u 77, u 78, u 79, u 80, u 81, u 82, u 83, u 84, u 85, u 86, u 87, u 88, u 89, u 90, u 91, u 92, u 93, u 94, u 95, u 96, u 97], defers := [] }) ?assign ?body ?done ?stop)
        case assign =>
          intro l x W1 K hK
          simp only [encNb, encN]
          gi_wp2
          exact hK
        case body =>
          rintro l pre x W1 ⟨c1, s1, R1, m1', g1, gcap1, hI⟩ hlen
          have HI := Lib.hid hI
          have XL := Lib.hid (show x.1.2 < k from by rw [← GR.out]; exact G.out.lt _ _ _ x.2.2)
          have xl : (x.1.2 : Int) < (k : Int) := by have := XL.out; omega
          obtain ⟨cQ, fQ, zQ⟩ := blkC hI.mem.stat.rsl
          obtain ⟨bl, bf, bz⟩ := hI.mem.bools.cell XL.out
          have OW := Lib.hid (fun W4 T => hI.owes (W4 := W4) (r := w6.heap.size + 1) (B := w8.heap.size) T (by omega) (by have := HQ.out; simp at this; omega) hl8 HD.out.lt)
          clear hI hlen
          cases hr : R1 x.1.2 with
          | true =>
            rw [hr] at bl
            have SK := Lib.hid (HI.out.skip G.out x hr)
            clear hr
            gi_wp2
            exact ⟨(OW.out _ (Turn.refl _ _ _ _)).1, (OW.out _ (Turn.refl _ _ _ _)).2, SK.out⟩
          | false =>
            rw [hr] at bl
            obtain ⟨y1, y2, y3, y4, y5, y6, rr, y7, y8⟩ := HI.out.ready G.out HN.out x hr
            have HR := Lib.hid hr
            clear hr
            gi_wp2
            have M2 := Lib.hid (HI.out.mem.reach XL.out)
            have T2 := Lib.hid ((Turn.refl hb sb g1 W1).set (p := ⟨hb + 1 + 1, x.1.2, none⟩) (.inr rfl) (.bool true))
            have BX := Lib.hid (show (W1.setCell ⟨hb + 1 + 1, x.1.2, none⟩ (.bool true)).heap[w6.heap.size]? = some (.cells #[.int .i64 ((c' 0 : Nat) : Int)] 3) from (heap_setCell_other _ _ _ _ (by show w6.heap.size ≠ hb + 1 + 1; omega)).trans HI.out.box)
            obtain ⟨W2, hW2⟩ : ∃ W2, W1.setCell ⟨hb + 1 + 1, x.1.2, none⟩ (.bool true) = W2 := ⟨_, rfl⟩
            rw [hW2] at M2 T2 BX ⊢
            clear hW2 cQ fQ zQ bl bf bz
            obtain ⟨cP, fP, zP⟩ := blkC M2.out.stat.ptr
            obtain ⟨cO, fO, zO⟩ := blkC M2.out.heads.obj
            obtain ⟨cF, fF, zF⟩ := blkC M2.out.stat.fld
            obtain ⟨cS, fS, zS⟩ := blkC M2.out.stat.slo
            obtain ⟨cB, fB, zB⟩ := blkC BX.out
            have d1 := (flAt_congr HC.out (M2.out.stat.bel.block b zb)) x.1.2 XL.out
            have d2 := M2.out.heads.sp (c' 0) X0.out
            have d3 := M2.out.heads.sp x.1.2 XL.out
            have f3 := M2.out.sown.frozenAt x.1.2
            rw [Nat.zero_add] at d1 d2 d3
            have xc : ((c' 0 : Nat) : Int) < (k : Int) := by have := X0.out; omega
            have a1 := fun (W : World) => run_float_arith (P := Tryd.prog) W .add 27 .f32 (s1 (c' 0)) sl rr y7
            have ST := fun (w : World) (a : Addr) (m : Mode) => run_store_float (P := Tryd.prog) (w := w) (a := a) (m := m)
            refine wpIn_still_tail_round 21 (by kernel_rfl) ?nd ?nl (by kernel_rfl) ?_
            case nd =>
              intro i o h c e
              have hm := Array.mem_of_getElem? h
              simp only [List.mem_toArray, List.mem_cons, List.not_mem_nil, or_false] at hm
              rcases hm with rfl | rfl | rfl | rfl | rfl | rfl | rfl | rfl | rfl | rfl | rfl | rfl | rfl | rfl | rfl | rfl | rfl | rfl | rfl | rfl | rfl | rfl <;> cases e
            case nl => exact fun ⟨_, _, h⟩ => h
            simp only [List.take_succ_cons, List.take_zero, List.drop_succ_cons, List.drop_zero]
            repeat still_step
            still_call ((greater_any _ _ _).mono fun _ _ h => ⟨h.1, h.2.symm⟩)
            repeat still_step
            refine wpStill_nil ?_
            change wpList _ _ _ _ _ W2.drew
            have MD := Lib.hid (M2.out.below (Below.refl _ _).drew)
            have TD := Lib.hid T2.out.drew
            clear cP fP zP cO fO zO cF fF zF cS fS zS cB fB zB d1 d2 d3 f3 a1 T2 M2 BX
            generalize W2.drew = W3 at *
            have d3 := MD.out.heads.sp x.1.2 XL.out
            have f3 := MD.out.sown.frozenAt x.1.2
            rw [Nat.zero_add] at d3
            go_wp2
            have M4 := Lib.hid (MD.out.store (x := grtW (v x.1.2) rr) XL.out)
            have T4 := Lib.hid (TD.out.set (p := ⟨sb, x.1.2, none⟩) (.inl rfl) (.float .f32 (grtW (v x.1.2) rr)))
            obtain ⟨W5, hW5⟩ : ∃ W5, W3.setCell ⟨sb, x.1.2, none⟩ (.float .f32 (grtW (v x.1.2) rr)) = W5 := ⟨_, rfl⟩
            rw [hW5] at M4 T4 ⊢
            rw [← y8] at M4
            clear hW5 d3 f3
            obtain ⟨cP, fP, zP⟩ := blkC M4.out.stat.ptr
            have PU := Lib.hid (push_any W5 hb sb k scap g1 gcap1 m1' c1 _ M4.out.heads y4 y5 x.1.2 y3 XL.out y6)
            gi_wp2_with (refine ⟨trivial, ?_⟩; gi_at_call 123; refine (CallsIn.inRound l (callsIn_wide.2 PU.out)).mono ?_; rintro e W6 ⟨rfl, g', cap', c2, q1, q2, q3, q4, q5⟩; have Q := Lib.hid (And.intro q1 (And.intro q2 (And.intro q3 (And.intro q4 q5)))); clear q1 q2 q3 q4 q5 cP fP zP)
            have A := In.new G.out HN.out HI.out x HR.out M4.out T4.out HI.out.sz (by omega) (by omega) Q.out.1 Q.out.2.1 Q.out.2.2.1 Q.out.2.2.2.1 Q.out.2.2.2.2
            exact ⟨(OW.out _ A.2).1, (OW.out _ A.2).2, A.1⟩
        case done =>
          rintro D xs W1 hD hS hI hK
          obtain ⟨N', hlt, hl2⟩ := in_end hI hS
          obtain ⟨_, _, _, _, _, _, hIn⟩ := hI
          exact ⟨N', hlt, rfl, ⟨rfl, rfl, rfl, rfl, rfl, rfl⟩, ⟨⟨D, rfl, by omega, hK, fun e he hc => by have := DS.out e he D hc; omega⟩, hIn.marks⟩, hl2⟩
        case stop =>
          rintro D c pre W1 _ _ h _
          exact h.elim
end Go.Proofs.YtacbemilicdklaaDoor
