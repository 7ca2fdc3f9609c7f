/- Contracts: the laws' within, when, first (of two, of three). -/
import Derived.Test.YtkjpjppfmfifeaaBlk
import Derived.Test.YtkjpjppfmfifeaaReg
namespace Go.Proofs.Ytkjpjppfmfifeaa
open Go.RowKit
set_option linter.unusedVariables false

set_option maxHeartbeats 400000 in
theorem mWithin_any (n a b : Int) (w : World) :
    Calls Try.prog 53 #[.int .i64 n, .int .i64 a, .int .i64 b] w fun e w' => e = .returned (.bool (withinB n a b)) ∧ w = w' := by
  go_enter Try.func53, Try.ntmps53
  go_wp2
  all_goals go_ret
  all_goals exact ⟨ret_bool (by rw [Bool.eq_iff_iff, withinB_iff]; simp; omega), rfl⟩

def whenE (c : Bool) (k : Int) : Int := if c = true then k else 0
set_option maxHeartbeats 400000 in
theorem when_any (c : Bool) (k : Int) (w : World) :
    Calls Try.prog 44 #[.bool c, .int .i64 k] w fun e w' => e = .returned (.int .i64 (whenE c k)) ∧ w = w' := by
  unfold whenE
  cases c
  all_goals
    go_enter Try.func44, Try.ntmps44
    go_wp2
    go_ret
    exact ⟨rfl, rfl⟩

inductive FirstAt (a b : Int) : Value → Prop where
  | z : FirstAt a b (.int .i64 0)
  | a (h : a = 0) : FirstAt a b (.int .i64 1)
  | b (h : a = 0) (h' : b = 0) : FirstAt a b (.int .i64 2)
def firstE (a b : Int) : Int := if a = 0 then b else a
set_option maxHeartbeats 1000000 in
theorem first2_any (a b : Int) (p : Nat) (w : World) (h : w.heap[p]? = some (.cells #[.int .i64 a, .int .i64 b] 31)) :
    Calls Try.prog 42 #[.slice (some ⟨p, 0, none⟩) 2 2] w fun e w' => e = .returned (.int .i64 (firstE a b)) ∧ w = w' := by
  unfold firstE
  obtain ⟨c, f, z⟩ := blkC h
  clear h
  go_enter Try.func42, Try.ntmps42
  go_wp2
  go_loop [7] (fun i => FirstAt a b i) (fun i => 2 - (intOf i).toNat)
  case atStart => exact .z
  case round =>
    rcases hrel with _ | ha | ⟨ha, hb⟩
    · by_cases h0 : a = 0
      · subst h0
        go_wp2
        go_round
        case rel => exact .a rfl
        case measure => simp [intOf]
      · go_wp2
        go_ret
        exact ⟨by simp, rfl⟩
    · subst ha
      by_cases h0 : b = 0
      · subst h0
        go_wp2
        go_round
        case rel => exact .b rfl rfl
        case measure => simp [intOf]
      · go_wp2
        go_ret
        exact ⟨rfl, rfl⟩
    · subst ha hb
      go_wp2
      go_ret
      exact ⟨rfl, rfl⟩

theorem firstE_zero {a b : Int} (h : firstE a b = 0) : a = 0 ∧ b = 0 := by
  unfold firstE at h
  by_cases q : a = 0
  · rw [if_pos q] at h; exact ⟨q, h⟩
  · rw [if_neg q] at h; exact absurd h q
theorem whenE_zero {c : Bool} {k : Int} (hk : k ≠ 0) (h : whenE c k = 0) : c = false := by
  unfold whenE at h
  cases c with
  | false => rfl
  | true => rw [if_pos rfl] at h; exact absurd h hk

inductive First3At (a b c : Int) : Value → Prop where
  | z : First3At a b c (.int .i64 0)
  | a (h : a = 0) : First3At a b c (.int .i64 1)
  | b (h : a = 0) (h' : b = 0) : First3At a b c (.int .i64 2)
  | c (h : a = 0) (h' : b = 0) (h'' : c = 0) : First3At a b c (.int .i64 3)
set_option maxHeartbeats 1000000 in
theorem first3_any (a b c : Int) (p : Nat) (w : World) (h : w.heap[p]? = some (.cells #[.int .i64 a, .int .i64 b, .int .i64 c] 31)) :
    Calls Try.prog 42 #[.slice (some ⟨p, 0, none⟩) 3 3] w fun e w' => e = .returned (.int .i64 (firstE (firstE a b) c)) ∧ w = w' := by
  unfold firstE
  obtain ⟨cc, f, z⟩ := blkC h
  clear h
  go_enter Try.func42, Try.ntmps42
  go_wp2
  go_loop [7] (fun i => First3At a b c i) (fun i => 3 - (intOf i).toNat)
  case atStart => exact .z
  case round =>
    rcases hrel with _ | ha | ⟨ha, hb⟩ | ⟨ha, hb, hc⟩
    · by_cases h0 : a = 0
      · subst h0
        go_wp2
        go_round
        case rel => exact .a rfl
        case measure => simp [intOf]
      · go_wp2
        go_ret
        exact ⟨by first | (simp; done) | simp [h0], rfl⟩
    · subst ha
      by_cases h0 : b = 0
      · subst h0
        go_wp2
        go_round
        case rel => exact .b rfl rfl
        case measure => simp [intOf]
      · go_wp2
        go_ret
        exact ⟨by first | (simp; done) | simp [h0], rfl⟩
    · subst ha hb
      by_cases h0 : c = 0
      · subst h0
        go_wp2
        go_round
        case rel => exact .c rfl rfl rfl
        case measure => simp [intOf]
      · go_wp2
        go_ret
        exact ⟨by first | (simp; done) | simp [h0], rfl⟩
    · subst ha hb hc
      go_wp2
      go_ret
      exact ⟨rfl, rfl⟩
end Go.Proofs.Ytkjpjppfmfifeaa
