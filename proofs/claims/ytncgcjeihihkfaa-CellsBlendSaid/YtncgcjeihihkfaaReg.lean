/- Contracts of the regions' functions. -/
import Derived.Test.YtncgcjeihihkfaaRows
import Derived.WalkKit
import Derived.WalkSpells
import Derived.WalkLawsBesides
import Derived.BigQuiet
import Derived.Deep.QuietTactic
namespace Go.Proofs.Ytncgcjeihihkfaa
open Go.RowKit

def withinB (n a b : Int) : Bool := decide (a ≤ n) && decide (n ≤ b)
theorem withinB_iff {n a b : Int} : withinB n a b = true ↔ a ≤ n ∧ n ≤ b := by simp [withinB]
theorem withinB_no {n a b : Int} : withinB n a b = false ↔ (n < a ∨ b < n) := by
  rw [← Bool.not_eq_true, withinB_iff]; omega

theorem ret_int {k : IntKind} {a b : Int} (h : a = b) : Ending.returned (.int k a) = .returned (.int k b) := by rw [h]
theorem ret_bool {a b : Bool} (h : a = b) : Ending.returned (.bool a) = .returned (.bool b) := by rw [h]

/-- What CheckRegion answers. -/
def checkR (x y w h : Int) : Int :=
  if w < 1 ∨ 512 < w ∨ h < 1 ∨ 512 < h then 3
  else if 65536 < w * h then 4
  else if x < -4194304 ∨ 4194304 - w < x ∨ y < -4194304 ∨ 4194304 - h < y then 5
  else 0

theorem mul_side {w h : Int} (a : 1 ≤ w) (b : w ≤ 512) (c : 1 ≤ h) (d : h ≤ 512) : 1 ≤ w * h ∧ w * h ≤ 262144 := by
  constructor
  · have := Int.mul_le_mul a c (by omega) (by omega : (0:Int) ≤ w); omega
  · have := Int.mul_le_mul b d (by omega : (0:Int) ≤ h) (by omega : (0:Int) ≤ 512); omega
theorem wrap_side {w h : Int} (a : 1 ≤ w) (b : w ≤ 512) (c : 1 ≤ h) (d : h ≤ 512) : wrap64 (w * h) = w * h := by
  obtain ⟨e, f⟩ := mul_side a b c d
  exact IntWalk.wrap64_in _ ⟨by omega, by omega⟩

theorem checkR_range {x y w h : Int} (a : withinB w 1 512 = false ∨ withinB h 1 512 = false) : checkR x y w h = 3 := by
  simp only [withinB_no] at a
  unfold checkR; rw [if_pos (by omega)]
theorem checkR_large {x y w h : Int} (a : withinB w 1 512 = true) (b : withinB h 1 512 = true) (c : 65536 < wrap64 (w * h)) : checkR x y w h = 4 := by
  simp only [withinB_iff] at a b
  rw [wrap_side a.1 a.2 b.1 b.2] at c
  unfold checkR; rw [if_neg (by omega), if_pos c]
theorem checkR_place {x y w h : Int} (a : withinB w 1 512 = true) (b : withinB h 1 512 = true) (c : wrap64 (w * h) ≤ 65536)
    (d : withinB x (-4194304) (4194304 - w) = false ∨ withinB y (-4194304) (4194304 - h) = false) : checkR x y w h = 5 := by
  simp only [withinB_iff] at a b
  simp only [withinB_no] at d
  rw [wrap_side a.1 a.2 b.1 b.2] at c
  unfold checkR; rw [if_neg (by omega), if_neg (by omega), if_pos (by omega)]
theorem checkR_ok {x y w h : Int} (a : withinB w 1 512 = true) (b : withinB h 1 512 = true) (c : wrap64 (w * h) ≤ 65536)
    (d : withinB x (-4194304) (4194304 - w) = true) (e : withinB y (-4194304) (4194304 - h) = true) : checkR x y w h = 0 := by
  simp only [withinB_iff] at a b d e
  rw [wrap_side a.1 a.2 b.1 b.2] at c
  unfold checkR; rw [if_neg (by omega), if_neg (by omega), if_neg (by omega)]

set_option maxHeartbeats 400000 in
theorem within_any (n a b : Int) (w : World) :
    Calls Try.prog 104 #[.int .i64 n, .int .i64 a, .int .i64 b] w fun e w' => e = .returned (.bool (withinB n a b)) ∧ w = w' := by
  go_enter Try.func104, Try.ntmps104
  go_wp2
  all_goals go_ret
  all_goals exact ⟨ret_bool (by rw [Bool.eq_iff_iff, withinB_iff]; simp; omega), rfl⟩

set_option maxHeartbeats 400000 in
theorem hasPlace_any (x l : Int) (w : World) (h1 : 0 ≤ l) (h2 : l ≤ 512) :
    Calls Try.prog 107 #[.int .i64 x, .int .i64 l] w fun e w' => e = .returned (.bool (withinB x (-4194304) (4194304 - l))) ∧ w = w' := by
  go_enter Try.func107, Try.ntmps107
  go_wp2_with (go_at_call 104; refine (within_any _ _ _ _).mono ?_; rintro e w' ⟨rfl, rfl⟩)
  go_ret
  exact ⟨rfl, rfl⟩

set_option maxHeartbeats 400000 in
theorem checkRegion_any (x y ww hh : Int) (w : World) :
    Calls Try.prog 51 #[.agg #[.int .i64 x, .int .i64 y, .int .i64 ww, .int .i64 hh]] w fun e w' => e = .returned (.int .i64 (checkR x y ww hh)) ∧ w' = w.alloc (.cells #[.int .i64 x, .int .i64 y, .int .i64 ww, .int .i64 hh] 23) := by
  go_enter Try.func51, Try.ntmps51
  go_wp2_with (first | (go_at_call 104; refine (within_any _ _ _ _).mono ?_; rintro e w' ⟨rfl, rfl⟩) | (go_at_call 107; refine (hasPlace_any _ _ _ ?_ ?_).mono ?_; rotate_left 2; rintro e w' ⟨rfl, rfl⟩))
  all_goals simp only [Bool.not_eq_true, Bool.not_eq_true', Bool.not_eq_false'] at *
  all_goals first
    | (simp only [withinB_iff] at *; omega)
    | (go_ret
       refine ⟨ret_int (Eq.symm ?_), rfl⟩
       first
         | exact checkR_range (.inl ‹_›)
         | exact checkR_range (.inr ‹_›)
         | exact checkR_large ‹_› ‹_› ‹_›
         | exact checkR_place ‹_› ‹_› ‹_› (.inl ‹_›)
         | exact checkR_place ‹_› ‹_› ‹_› (.inr ‹_›)
         | exact checkR_ok ‹_› ‹_› ‹_› ‹_› ‹_›)

set_option maxHeartbeats 400000 in
theorem refCheckRegion_any (x y ww hh : Int) (w : World) :
    Calls Try.prog 57 #[.agg #[.int .i64 x, .int .i64 y, .int .i64 ww, .int .i64 hh]] w fun e w' => e = .returned (.int .i64 (checkR x y ww hh)) ∧ w' = w.alloc (.cells #[.int .i64 x, .int .i64 y, .int .i64 ww, .int .i64 hh] 23) := by
  go_enter Try.func57, Try.ntmps57
  go_wp2
  all_goals go_ret
  all_goals refine ⟨ret_int (Eq.symm ?_), rfl⟩
  all_goals first
    | exact checkR_range (by simp only [withinB_no]; omega)
    | exact checkR_large (by simp only [withinB_iff]; omega) (by simp only [withinB_iff]; omega) (by omega)
    | exact checkR_place (by simp only [withinB_iff]; omega) (by simp only [withinB_iff]; omega) (by omega) (by simp only [withinB_no]; omega)
    | exact checkR_ok (by simp only [withinB_iff]; omega) (by simp only [withinB_iff]; omega) (by omega) (by simp only [withinB_iff]; omega) (by simp only [withinB_iff]; omega)

/-- A region as a value; its cells. -/
abbrev reg (x y w h : Int) : Value := .agg #[.int .i64 x, .int .i64 y, .int .i64 w, .int .i64 h]
abbrev regObj (x y w h : Int) : Obj := .cells #[.int .i64 x, .int .i64 y, .int .i64 w, .int .i64 h] 23

set_option maxHeartbeats 400000 in
theorem refGrown_any (x y ww hh n : Int) (w : World) (a1 : -4194304 ≤ x) (a2 : x ≤ 4194304) (b1 : -4194304 ≤ y) (b2 : y ≤ 4194304) (c1 : 0 ≤ ww) (c2 : ww ≤ 512) (d1 : 0 ≤ hh) (d2 : hh ≤ 512) (n1 : -512 ≤ n) (n2 : n ≤ 512) :
    Calls Try.prog 98 #[reg x y ww hh, .int .i64 n] w fun e w' => e = .returned (reg (x - n) (y - n) (ww + 2 * n) (hh + 2 * n)) ∧ Below w.heap.size w w' := by
  go_enter Try.func98, Try.ntmps98
  go_wp2
  exact bodyPost_ret (v := reg (x - n) (y - n) (ww + 2 * n) (hh + 2 * n)) (by simp [results, Try.results98, go_sem]) rfl ⟨rfl, by repeat (first | exact Below.refl _ _ | refine Below.alloc ?_ (by simp; try omega) _ | refine Below.setCell ?_ (by simp; try omega) _)⟩

end Go.Proofs.Ytncgcjeihihkfaa
