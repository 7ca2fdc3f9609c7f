/- Repeat of "0"; hexadecimal digits; Digest of both sides. -/
import Derived.Test.YtgkpkpbigmcapaaDoorDig3
import Derived.Lib.Strings
namespace Go.Proofs.YtgkpkpbigmcapaaDoor
open Go.RowKit
set_option linter.unusedVariables false

def rep0 (c : Nat) : ByteArray := ⟨(List.replicate c 48).toArray⟩

set_option maxHeartbeats 1000000 in
theorem mul_one (c : Nat) (hc : c < 16) (w : World) :
    Calls Tryd.prog 11 #[.int .u64 1, .int .u64 c] w fun e w' => e = .returned (.tuple #[.int .u64 0, .int .u64 c]) ∧ w = w' := by
  have M := Lib.hid (fun w => mul64_one c hc w)
  clear hc
  go_enter Tryd.func11, Tryd.ntmps11
  go_wp2_with (first | (go_at_call 22; refine (M.out _).mono ?_; rintro e w' ⟨rfl, rfl⟩))
  go_ret2
  exact ⟨rfl, rfl⟩

theorem pre1 (s : ByteArray) (y x : UInt8) (hy : s.data[0]? = some y) : ((s.extract 0 1).toList == [x]) = (y == x) := by
  have h : (s.extract 0 1).toList = [y] := by
    obtain ⟨⟨l⟩⟩ := s
    rw [ByteArray.toList_eq]
    match l, hy with
    | a :: l, hy =>
      simp at hy
      subst hy
      simp
  rw [h]
  simp

set_option maxHeartbeats 1000000 in
theorem hasPreI_any (s : ByteArray) (x : UInt8) (q : Bool) (w : World) (h1 : 1 ≤ s.size) (h2 : s.size ≤ 128) (y : UInt8) (hy : s.data[0]? = some y) (hq : (y == x) = q) :
    Calls Tryd.prog 23 #[.string s, .string ⟨#[x]⟩] w fun e w' => e = .returned (.bool q) ∧ w = w' := by
  go_enter Tryd.func23, Tryd.ntmps23
  go_wp2
  go_ret
  exact ⟨by rw [← hq, ← pre1 s y x hy]; rfl, rfl⟩
set_option maxHeartbeats 1000000 in
theorem hasPre_any (s : ByteArray) (x : UInt8) (q : Bool) (w : World) (h1 : 1 ≤ s.size) (h2 : s.size ≤ 128) (y : UInt8) (hy : s.data[0]? = some y) (hq : (y == x) = q) :
    Calls Tryd.prog 12 #[.string s, .string ⟨#[x]⟩] w fun e w' => e = .returned (.bool q) ∧ w = w' := by
  have H := Lib.hid (fun w => hasPreI_any s x q w h1 h2 y hy hq)
  clear h1 h2 hy hq
  go_enter Tryd.func12, Tryd.ntmps12
  go_wp2_with (first | (go_at_call 23; refine (H.out _).mono ?_; rintro e w' ⟨rfl, rfl⟩))
  go_ret
  exact ⟨rfl, rfl⟩

set_option maxHeartbeats 4000000 in
set_option maxRecDepth 1000000 in
theorem rep0_any (c : Nat) (hc : c < 16) (w : World) :
    Calls Tryd.prog 9 #[.string ⟨#[48]⟩, .int .i64 c] w fun e w' => e = .returned (.string (rep0 c)) ∧ w = w' := by
  have M := Lib.hid (fun w => mul_one c hc w)
  have : c = 0 ∨ c = 1 ∨ c = 2 ∨ c = 3 ∨ c = 4 ∨ c = 5 ∨ c = 6 ∨ c = 7 ∨ c = 8 ∨ c = 9 ∨ c = 10 ∨ c = 11 ∨ c = 12 ∨ c = 13 ∨ c = 14 ∨ c = 15 := by omega
  clear hc
  rcases this with rfl | rfl | rfl | rfl | rfl | rfl | rfl | rfl | rfl | rfl | rfl | rfl | rfl | rfl | rfl | rfl
  all_goals
    go_enter Tryd.func9, Tryd.ntmps9
    go_wp2_with (first | (go_at_call 11; refine (M.out _).mono ?_; rintro e w' ⟨rfl, rfl⟩) | (go_at_call 12; refine (hasPre_any _ _ true _ (by decide) (by decide) 48 (by rfl) (by rfl)).mono ?_; rintro e w' ⟨rfl, rfl⟩) | (go_at_call 12; refine (hasPre_any _ _ false _ (by decide) (by decide) _ (by rfl) (by decide)).mono ?_; rintro e w' ⟨rfl, rfl⟩))
    go_ret
    exact ⟨rfl, rfl⟩
end Go.Proofs.YtgkpkpbigmcapaaDoor
