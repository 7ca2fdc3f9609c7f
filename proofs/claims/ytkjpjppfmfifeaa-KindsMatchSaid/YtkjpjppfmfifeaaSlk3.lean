/- Slack with its errors; the law's grows. -/
import Derived.Test.YtkjpjppfmfifeaaSlk2
import Derived.Test.YtkjpjppfmfifeaaGen
import Derived.Test.YtkjpjppfmfifeaaMlw
namespace Go.Proofs.Ytkjpjppfmfifeaa
open Go.RowKit Fl
set_option linter.unusedVariables false

/-- Four singles, as a list. -/
def four (a b c d : Nat) (i : Nat) : Nat := match i with | 0 => a | 1 => b | 2 => c | _ => d
theorem flAt_four {w : World} {p a b c d : Nat} (h : w.heap[p]? = some (.cells #[.float .f32 a, .float .f32 b, .float .f32 c, .float .f32 d] 30)) : FlAt w p 0 4 (four a b c d) := by
  intro i hi
  rw [Nat.zero_add, (blkC h).1 i]
  have : i = 0 ∨ i = 1 ∨ i = 2 ∨ i = 3 := by omega
  rcases this with rfl | rfl | rfl | rfl <;> rfl
theorem four_hgt {a b c d : Nat} (h : fldE 4 (four a b c d) = 0) : hgtB a = true ∧ hgtB b = true ∧ hgtB c = true ∧ hgtB d = true := by
  have := allB_iff.1 (fldE_zero.1 h)
  exact ⟨this 0 (by omega), this 1 (by omega), this 2 (by omega), this 3 (by omega)⟩
/-- The error of Slack. -/
def slkE (v l h s : Nat) : Int := firstE (firstE (fldE 4 (four v l h s)) (whenE (ltB h l) 8)) (whenE (ltB s 0) 3)
theorem slkE_ok {v l h s : Nat} (e : slkE v l h s = 0) : fldE 4 (four v l h s) = 0 ∧ ltB h l = false ∧ ltB s 0 = false := by
  unfold slkE firstE whenE at e
  grind
theorem slkE_ok' {v l h s : Nat} (e : fldE 4 (four v l h s) = 0) (c1 : ltB h l = false) (c2 : ltB s 0 = false) : slkE v l h s = 0 := by
  unfold slkE firstE whenE
  simp [e, c1, c2]
def slkV (v l h s : Nat) : Nat := if slkE v l h s = 0 then slkW v l h s else 0

set_option maxHeartbeats 2000000 in
theorem slackX_any (v l h s : Nat) (w : World) : Calls Try.prog 41 #[.float .f32 v, .float .f32 l, .float .f32 h, .float .f32 s] w fun e w' => e = .returned (.tuple #[.float .f32 (slkV v l h s), .int .i64 (slkE v l h s)]) ∧ Below w.heap.size w w' := by
  have CH := Lib.hid (fun p w (q : w.heap[p]? = some (.cells #[.float .f32 v, .float .f32 l, .float .f32 h, .float .f32 s] 30)) => CheckHeights_row p 0 4 4 (four v l h s) (by omega) w (flAt_four q))
  by_cases h0 : fldE 4 (four v l h s) = 0
  · obtain ⟨g1, g2, g3, g4⟩ := four_hgt h0
    rw [h0] at CH
    cases c1 : ltB h l with
    | true =>
      have e : slkE v l h s = 8 := by unfold slkE firstE whenE; simp [h0, c1]
      have ev : slkV v l h s = 0 := by unfold slkV; rw [if_neg (by omega)]
      rw [ev, e]
      unfold ltB at c1
      clear h0 g1 g2 g3 g4 e ev
      go_enter Try.func41, Try.ntmps41
      go_wp2_with (go_at_call 65; refine (CH.out _ _ (by (first | (rw [heap_alloc_get, if_pos rfl]; done) | ((simp only [heap_alloc_get, heap_size_alloc, if_true]) <;> ((repeat' split) <;> first | rfl | omega))))).mono ?_; rintro e w' ⟨rfl, rfl⟩)
      go_ret2
      exact ⟨rfl, (by repeat (first | exact Below.refl _ _ | refine Below.alloc ?_ (by first | omega | (simp; done) | (simp; omega)) _ | refine Below.setCell ?_ (by first | omega | (simp; done) | (simp; omega)) _ | refine Below.drew ?_))⟩
    | false =>
      cases c2 : ltB s 0 with
      | true =>
        have e : slkE v l h s = 3 := by unfold slkE firstE whenE; simp [h0, c1, c2]
        have ev : slkV v l h s = 0 := by unfold slkV; rw [if_neg (by omega)]
        rw [ev, e]
        unfold ltB at c1 c2
        clear h0 g1 g2 g3 g4 e ev
        go_enter Try.func41, Try.ntmps41
        go_wp2_with (go_at_call 65; refine (CH.out _ _ (by (first | (rw [heap_alloc_get, if_pos rfl]; done) | ((simp only [heap_alloc_get, heap_size_alloc, if_true]) <;> ((repeat' split) <;> first | rfl | omega))))).mono ?_; rintro e w' ⟨rfl, rfl⟩)
        go_ret2
        exact ⟨rfl, (by repeat (first | exact Below.refl _ _ | refine Below.alloc ?_ (by first | omega | (simp; done) | (simp; omega)) _ | refine Below.setCell ?_ (by first | omega | (simp; done) | (simp; omega)) _ | refine Below.drew ?_))⟩
      | false =>
        have e : slkE v l h s = 0 := slkE_ok' h0 c1 c2
        have ev : slkV v l h s = slkW v l h s := by unfold slkV; rw [if_pos e]
        rw [ev, e]
        obtain ⟨z, vs, _⟩ := hgt_val g4
        have SL := Lib.hid (fun w => slack_any v l h s w g1 g2 g3 vs c1)
        unfold ltB at c1 c2
        clear h0 g1 g2 g3 g4 e ev vs
        go_enter Try.func41, Try.ntmps41
        go_wp2_with (first | (go_at_call 65; refine (CH.out _ _ (by (first | (rw [heap_alloc_get, if_pos rfl]; done) | ((simp only [heap_alloc_get, heap_size_alloc, if_true]) <;> ((repeat' split) <;> first | rfl | omega))))).mono ?_; rintro e w' ⟨rfl, rfl⟩) | (go_at_call 100; refine (SL.out _).mono ?_; rintro e w' ⟨rfl, rfl⟩))
        go_ret2
        exact ⟨rfl, (by repeat (first | exact Below.refl _ _ | refine Below.alloc ?_ (by first | omega | (simp; done) | (simp; omega)) _ | refine Below.setCell ?_ (by first | omega | (simp; done) | (simp; omega)) _ | refine Below.drew ?_))⟩
  · have e : slkE v l h s = fldE 4 (four v l h s) := by unfold slkE firstE whenE; simp [h0]
    have ev : slkV v l h s = 0 := by unfold slkV; rw [if_neg (by rw [e]; exact h0)]
    rw [ev, e]
    have cz : (fldE 4 (four v l h s) != 0) = true := by simp [h0]
    clear h0 e ev
    generalize fldE 4 (four v l h s) = er at *
    go_enter Try.func41, Try.ntmps41
    go_wp2_with (go_at_call 65; refine (CH.out _ _ (by (first | (rw [heap_alloc_get, if_pos rfl]; done) | ((simp only [heap_alloc_get, heap_size_alloc, if_true]) <;> ((repeat' split) <;> first | rfl | omega))))).mono ?_; rintro e w' ⟨rfl, rfl⟩)
    go_ret2
    exact ⟨rfl, (by repeat (first | exact Below.refl _ _ | refine Below.alloc ?_ (by first | omega | (simp; done) | (simp; omega)) _ | refine Below.setCell ?_ (by first | omega | (simp; done) | (simp; omega)) _ | refine Below.drew ?_))⟩

theorem grow_e : slkE 1094713344 0 1092616192 1082130432 = 0 := by kernel_rfl
theorem grow_v : slkW 1094713344 0 1092616192 1082130432 = 1056964608 := by kernel_rfl
theorem half_eq : (FloatKind.f32.format.order 1056964608 1056964608 == some .eq) = true := by kernel_rfl
theorem grows_any (w : World) : Calls Try.prog 36 #[] w fun e w' => e = .returned (.bool true) ∧ Below w.heap.size w w' := by
  have SX := Lib.hid (fun w => slackX_any 1094713344 0 1092616192 1082130432 w)
  unfold slkV at SX
  rw [grow_e, if_pos rfl, grow_v] at SX
  have hh := half_eq
  go_enter Try.func36, Try.ntmps36
  go_wp2_with (go_at_call 41; refine (SX.out _).mono ?_; rintro e w2 ⟨rfl, hb2⟩)
  go_ret
  exact ⟨rfl, hb2⟩
end Go.Proofs.Ytkjpjppfmfifeaa
