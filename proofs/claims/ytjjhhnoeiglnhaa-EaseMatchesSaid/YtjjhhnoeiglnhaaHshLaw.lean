/- HashesMatch: Hash, Unit and Signed answer as the references do; units are from 0 to below 1, signed ones from -1. -/
import Derived.Test.YtjjhhnoeiglnhaaHsh
import Derived.Test.YtjjhhnoeiglnhaaSame
import Derived.Test.YtjjhhnoeiglnhaaReg4
namespace Go.Proofs.Ytjjhhnoeiglnhaa
open Go.RowKit Fl
set_option linter.unusedVariables false

theorem unit_cmp {h : Int} (h0 : 0 ≤ h) (h1 : h < 4294967296) : (FloatKind.f32.format.order (unitW h) 0 == some .gt || FloatKind.f32.format.order (unitW h) 0 == some .eq) = true ∧ (FloatKind.f32.format.order (unitW h) 1065353216 == some .lt) = true := by
  obtain ⟨a, v, a0, a1⟩ := unit_in h0 h1
  rw [show FloatKind.f32.format = Ieee.single from rfl]
  exact ⟨by rw [geq_val v vS_zero]; simpa using a0, by rw [lss_val v vS_one]; simpa using a1⟩
theorem sgn_cmp {h : Int} (h0 : 0 ≤ h) (h1 : h < 4294967296) : (FloatKind.f32.format.order (sgnW h) 3212836864 == some .gt || FloatKind.f32.format.order (sgnW h) 3212836864 == some .eq) = true ∧ (FloatKind.f32.format.order (sgnW h) 1065353216 == some .lt) = true := by
  obtain ⟨a, v, a0, a1⟩ := sgn_in h0 h1
  rw [show FloatKind.f32.format = Ieee.single from rfl]
  exact ⟨by rw [geq_val v vS_mone]; simpa using a0, by rw [lss_val v vS_one]; simpa using a1⟩

set_option maxHeartbeats 400000 in
theorem bits_self (x : Nat) (w : World) :
    Calls Try.prog 40 #[.float .f32 x, .float .f32 x] w fun e w' => e = .returned (.bool true) ∧ w = w' := by
  have h1 := f32bits
  go_enter Try.func40, Try.ntmps40
  go_wp2
  go_ret
  exact ⟨rfl, rfl⟩

set_option maxHeartbeats 1000000 in
theorem hashesMatch_any (s x y n h : Int) (w : World) (h0 : 0 ≤ h) (h1 : h < 4294967296) :
    Calls Try.prog 7 #[.int .u32 s, .int .i64 x, .int .i64 y, .int .i64 n, .int .u32 h] w fun e w' => e = .returned (.bool true) ∧ Below w.heap.size w w' := by
  obtain ⟨c1, c2⟩ := unit_cmp h0 h1
  obtain ⟨c3, c4⟩ := sgn_cmp h0 h1
  go_enter Try.func7, Try.ntmps7
  go_wp2_with (first | (go_at_call 15; refine (landed_any _).mono ?_; rintro e w1 ⟨rfl, hb1⟩) | (go_at_call 36; refine (unit_any _ _ h0 h1).mono ?_; rintro e w' ⟨rfl, rfl⟩) | (go_at_call 37; refine (signed_any _ _ h0 h1).mono ?_; rintro e w' ⟨rfl, rfl⟩) | (go_at_call 38; refine (hash_any _ _ _ _ _).mono ?_; rintro e w' ⟨rfl, rfl⟩) | (go_at_call 39; refine (refHash_any _ _ _ _ _).mono ?_; rintro e w2 ⟨rfl, hb2⟩) | (go_at_call 41; refine (refUnit_any _ _ h0 h1).mono ?_; rintro e w' ⟨rfl, rfl⟩) | (go_at_call 42; refine (refSigned_any _ _ h0 h1).mono ?_; rintro e w' ⟨rfl, rfl⟩) | (go_at_call 40; refine (bits_self _ _).mono ?_; rintro e w' ⟨rfl, rfl⟩))
  go_ret
  exact ⟨rfl, Below.trans hb1 (Below.mono hb2 (by have := hb1.size; omega))⟩
end Go.Proofs.Ytjjhhnoeiglnhaa
