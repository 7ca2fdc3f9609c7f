/- Contracts: Hash, Unit, Signed of both sides. -/
import Derived.Test.YtjjhhnoeiglnhaaAr
import Derived.Test.YtjjhhnoeiglnhaaFl12
namespace Go.Proofs.Ytjjhhnoeiglnhaa
open Go.RowKit Fl
set_option linter.unusedVariables false

/-- Exclusive or of two words of 32 bits. -/
def xorU (a b : Int) : Int := bits .xor .u32 a b
theorem xorU_in (a b : Int) : 0 ≤ xorU a b ∧ xorU a b < 4294967296 := by
  unfold xorU bits; simp only [IntKind.wrap_u32]; omega
def stA (h : Int) : Int := xorU h (h / 65536) * 2246822507 % 4294967296
def stB (h : Int) : Int := xorU h (h / 8192) * 3266489909 % 4294967296
def stC (h : Int) : Int := xorU h (h / 65536)
/-- Stirred once. -/
def stirI (h : Int) : Int := stC (stB (stA h))
theorem stirI_in (h : Int) : 0 ≤ stirI h ∧ stirI h < 4294967296 := xorU_in _ _
/-- The state behind one more whole number. -/
def stepI (h n : Int) : Int := stirI (xorU h (n % 4294967296))
theorem stepI_in (h n : Int) : 0 ≤ stepI h n ∧ stepI h n < 4294967296 := stirI_in _
def hashI (s x y n : Int) : Int := stepI (stepI (stepI s x) y) n
theorem hashI_in (s x y n : Int) : 0 ≤ hashI s x y n ∧ hashI s x y n < 4294967296 := stepI_in _ _

set_option maxHeartbeats 400000 in
theorem stir_any (h : Int) (w : World) :
    Calls Try.prog 111 #[.int .u32 h] w fun e w' => e = .returned (.int .u32 (stirI h)) ∧ w = w' := by
  go_enter Try.func111, Try.ntmps111
  go_wp2
  go_ret
  exact ⟨ret_int rfl, rfl⟩

set_option maxHeartbeats 400000 in
theorem hash_any (s x y n : Int) (w : World) :
    Calls Try.prog 38 #[.int .u32 s, .int .i64 x, .int .i64 y, .int .i64 n] w fun e w' => e = .returned (.int .u32 (hashI s x y n)) ∧ w = w' := by
  go_enter Try.func38, Try.ntmps38
  go_wp2_with (go_at_call 111; refine (stir_any _ _).mono ?_; rintro e w' ⟨rfl, rfl⟩)
  go_ret
  exact ⟨ret_int rfl, rfl⟩

set_option maxHeartbeats 400000 in
theorem unit_any (h : Int) (w : World) (h0 : 0 ≤ h) (h1 : h < 4294967296) :
    Calls Try.prog 36 #[.int .u32 h] w fun e w' => e = .returned (.float .f32 (unitW h)) ∧ w = w' := by
  obtain ⟨r, e, _, hr⟩ := unit_parts h0 h1
  have a2 := fun (W : World) => run_float_arith (P := Try.prog) W .mul 37 .f32 _ 864026624 r e
  rw [← hr]
  clear e hr
  go_enter Try.func36, Try.ntmps36
  go_wp2
  go_ret
  exact ⟨rfl, rfl⟩

set_option maxHeartbeats 400000 in
theorem signed_any (h : Int) (w : World) (h0 : 0 ≤ h) (h1 : h < 4294967296) :
    Calls Try.prog 37 #[.int .u32 h] w fun e w' => e = .returned (.float .f32 (sgnW h)) ∧ w = w' := by
  obtain ⟨p, r, e, _, e', _, hr⟩ := sgn_parts h0 h1
  have a2 := fun (W : World) => run_float_arith (P := Try.prog) W .mul 37 .f32 (unitW h) 1073741824 p e
  have a3 := fun (W : World) => run_float_arith (P := Try.prog) W .sub 37 .f32 p 1065353216 r e'
  rw [← hr]
  clear e hr e'
  go_enter Try.func37, Try.ntmps37
  go_wp2_with (go_at_call 36; refine (unit_any _ _ h0 h1).mono ?_; rintro e w' ⟨rfl, rfl⟩)
  go_ret
  exact ⟨rfl, rfl⟩

set_option maxHeartbeats 400000 in
theorem refConv_any (n : Int) (w : World) :
    Calls Try.prog 110 #[.int .i64 n] w fun e w' => e = .returned (.float .f32 (floatOfInt .f32 n)) ∧ w = w' := by
  go_enter Try.func110, Try.ntmps110
  go_wp2
  go_ret
  exact ⟨rfl, rfl⟩

set_option maxHeartbeats 400000 in
theorem refUnit_any (h : Int) (w : World) (h0 : 0 ≤ h) (h1 : h < 4294967296) :
    Calls Try.prog 41 #[.int .u32 h] w fun e w' => e = .returned (.float .f32 (unitW h)) ∧ w = w' := by
  obtain ⟨r, e, S, hr⟩ := unit_parts h0 h1
  have M := Lib.hid fun w => refMul_any 24 _ _ r S e w
  rw [← hr]
  clear e hr S
  go_enter Try.func41, Try.ntmps41
  go_wp2_with (first | (go_at_call 110; refine (refConv_any _ _).mono ?_; rintro e w' ⟨rfl, rfl⟩) | (go_at_call 113; refine (M.out _).mono ?_; rintro e w' ⟨rfl, rfl⟩))
  go_ret
  exact ⟨rfl, rfl⟩

set_option maxHeartbeats 400000 in
theorem refSigned_any (h : Int) (w : World) (h0 : 0 ≤ h) (h1 : h < 4294967296) :
    Calls Try.prog 42 #[.int .u32 h] w fun e w' => e = .returned (.float .f32 (sgnW h)) ∧ w = w' := by
  obtain ⟨p, r, e, S, e', T, hr⟩ := sgn_parts h0 h1
  have M := Lib.hid fun w => refMul_any 2 _ _ p S e w
  have D := Lib.hid fun w => refSub_any 3 _ _ r T e' w
  rw [← hr]
  clear e hr S T e'
  go_enter Try.func42, Try.ntmps42
  go_wp2_with (first | (go_at_call 41; refine (refUnit_any _ _ h0 h1).mono ?_; rintro e w' ⟨rfl, rfl⟩) | (go_at_call 113; refine (M.out _).mono ?_; rintro e w' ⟨rfl, rfl⟩) | (go_at_call 103; refine (D.out _).mono ?_; rintro e w' ⟨rfl, rfl⟩))
  go_ret
  exact ⟨rfl, rfl⟩

/-- The reference's rounds: the place and the state. -/
inductive HashAt (s x y n : Int) : Value → Value → Prop where
  | z : HashAt s x y n (.int .u32 s) (.int .i64 0)
  | a : HashAt s x y n (.int .u32 (stepI s x)) (.int .i64 1)
  | b : HashAt s x y n (.int .u32 (stepI (stepI s x) y)) (.int .i64 2)
  | c : HashAt s x y n (.int .u32 (hashI s x y n)) (.int .i64 3)

set_option maxHeartbeats 1000000 in
theorem refHash_any (s x y n : Int) (w : World) :
    Calls Try.prog 39 #[.int .u32 s, .int .i64 x, .int .i64 y, .int .i64 n] w fun e w' => e = .returned (.int .u32 (hashI s x y n)) ∧ Below w.heap.size w w' := by
  go_enter Try.func39, Try.ntmps39
  go_wp2
  go_loop [9, 18] (fun h i => HashAt s x y n h i) (fun _ i => 3 - (intOf i).toNat)
  case atStart => exact .z
  case round =>
    cases hrel
    case z =>
      go_wp2
      go_round
      case rel => exact .a
      case measure => simp [intOf]
    case a =>
      go_wp2
      go_round
      case rel => exact .b
      case measure => simp [intOf]
    case b =>
      go_wp2
      go_round
      case rel => exact .c
      case measure => simp [intOf]
    case c =>
      go_wp2
      go_ret
      exact ⟨rfl, (by repeat (first | exact Below.refl _ _ | refine Below.alloc ?_ (by first | omega | (simp; done) | (simp; omega)) _ | refine Below.setCell ?_ (by first | omega | (simp; done) | (simp; omega)) _ | refine Below.drew ?_))⟩
end Go.Proofs.Ytjjhhnoeiglnhaa
