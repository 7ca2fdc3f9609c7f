/- No value of a result lies below 0. -/
import Derived.Test.YtjjhhnoeiglnhabSha12
import Derived.Test.YtjjhhnoeiglnhabRes
namespace Go.Proofs.Ytjjhhnoeiglnhab
open Go.RowKit Fl
set_option linter.unusedVariables false

theorem enters_lShades1 : Enters 28 := by intro args W; simp [callFunc, Try.func28, Try.f28]

set_option maxHeartbeats 400000 in
theorem shades1_no (x : Nat) (h : (FloatKind.f32.format.order x 0 == some .lt) = false) (w : World) :
    Calls Try.prog 28 #[.float .f32 x] w fun e w' => e = .returned (.bool false) ∧ w = w' := by
  go_enter Try.func28, Try.ntmps28
  go_wp2
  go_ret
  exact ⟨by simp, rfl⟩

set_option maxHeartbeats 1000000 in
theorem indexFunc_none (b cap n : Nat) (v : Nat → Nat) (hl : n ≤ 9223372036854775807) (hv : ∀ j, j < n → (FloatKind.f32.format.order (v j) 0 == some .lt) = false) (w : World) (hc : FlAt w b 0 n v) :
    Calls Try.prog 106 #[.slice (some ⟨b, 0, none⟩) n cap, .func (.func 28) #[] #[]] w fun e w' => e = .returned (.int .i64 (-1)) ∧ w = w' := by
  have hcall := enters_lShades1
  unfold Enters at hcall
  have HV := Lib.hid hv
  clear hv
  go_enter Try.func106, Try.ntmps106
  go_wp2
  go_loop [8] (fun i => ∃ k : Nat, k ≤ n ∧ i = .int .i64 k) (fun i => n - (intOf i).toNat)
  case atStart => exact ⟨0, Nat.zero_le _, rfl⟩
  case round =>
    obtain ⟨k, hk, rfl⟩ := hrel
    by_cases hlt : k < n
    · have hcell := hc k hlt
      rw [Nat.zero_add] at hcell
      have IH := Lib.hid (fun w => shades1_no (v k) (HV.out k hlt) w)
      go_wp2_with fail
      refine (IH.out _).mono ?_
      rintro e w' ⟨rfl, rfl⟩
      go_wp2
      go_round
      case rel => exact ⟨k + 1, by omega, by go_num⟩
      case measure => simp [intOf]; omega
    · go_wp2
      go_ret
      exact ⟨rfl, rfl⟩

set_option maxHeartbeats 1000000 in
theorem indexFunc_nil (w : World) :
    Calls Try.prog 106 #[.slice none 0 0, .func (.func 28) #[] #[]] w fun e w' => e = .returned (.int .i64 (-1)) ∧ w = w' := by
  go_enter Try.func106, Try.ntmps106
  go_wp2
  go_loop [8] (fun i => i = .int .i64 0) (fun i => 0)
  case atStart => rfl
  case round =>
    subst hrel
    go_wp2
    go_ret
    exact ⟨rfl, rfl⟩

set_option maxHeartbeats 1000000 in
theorem contains_no {s f : Value} {w : World} (h : ∀ w', w = w' → Calls Try.prog 106 #[s, f] w' fun e w'' => e = .returned (.int .i64 (-1)) ∧ w' = w'') :
    Calls Try.prog 27 #[s, f] w fun e w' => e = .returned (.bool false) ∧ w = w' := by
  have IH := Lib.hid h
  clear h
  go_enter Try.func27, Try.ntmps27
  go_wp2_with (first | (go_at_call 106; refine (IH.out _ rfl).mono ?_; rintro e w' ⟨rfl, rfl⟩))
  go_ret
  exact ⟨rfl, rfl⟩

theorem res_no {lo : Nat} {w : World} {X Y W H : Int} {n : Nat} {f : Nat → Nat} {er x y u h : Int} {s : Value} {k : Int} (hl : n ≤ 65536) (hv : ∀ j, j < n → (FloatKind.f32.format.order (f j) 0 == some .lt) = false) (r : Res lo w X Y W H n f er x y u h s k) :
    Calls Try.prog 27 #[s, .func (.func 28) #[] #[]] w fun e w' => e = .returned (.bool false) ∧ w = w' := by
  rcases r with ⟨a1, rfl, rfl, rfl, rfl, rfl, rfl⟩ | ⟨a1, a2, rfl, rfl, rfl, rfl, ⟨b, cap, rfl, _, _, c⟩, rfl⟩ | ⟨a1, a2, rfl, rfl, rfl, rfl, rfl, rfl⟩
  · exact contains_no fun w' _ => indexFunc_nil w'
  · exact contains_no fun w' e => indexFunc_none b cap n f (by omega) hv w' (by rw [← e]; exact c)
  · exact contains_no fun w' _ => indexFunc_nil w'
end Go.Proofs.Ytjjhhnoeiglnhab
