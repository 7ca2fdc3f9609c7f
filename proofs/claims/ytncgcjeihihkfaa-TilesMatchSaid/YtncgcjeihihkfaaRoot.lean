/- Contracts: math.Sqrt, and the roots of both sides. -/
import Derived.Test.YtncgcjeihihkfaaGen
import Derived.Test.YtncgcjeihihkfaaFl19
namespace Go.Proofs.Ytncgcjeihihkfaa
open Go.RowKit Fl
set_option linter.unusedVariables false

theorem extSqrt (X Z : Nat) (h : FloatKind.f64.format.sqrt X = some Z) : Extern.MathSqrt.sqrt #[.float .f64 X] = pure (.float .f64 Z) := by
  conv => lhs; whnf
  rw [h]

theorem sqrt_num (X Z : Nat) (h : Ieee.double.sqrt X = some Z) (w : World) :
    (callFunc 156 #[.float .f64 X]).run Try.prog w = .ok (.value (.float .f64 Z)) w := by
  rw [run_callFunc_extern Try.func156 (by kernel_rfl) (by kernel_rfl) (by kernel_rfl) (e := Extern.MathSqrt.sqrt) (by kernel_rfl), extSqrt X Z h]
  rfl

set_option maxHeartbeats 400000 in
theorem mathSqrt_num (X Z : Nat) (h : Ieee.double.sqrt X = some Z) (w : World) :
    Calls Try.prog 131 #[.float .f64 X] w fun e w' => e = .returned (.float .f64 Z) ∧ w = w' := by
  have a1 := sqrt_num X Z h
  clear h
  go_enter Try.func131, Try.ntmps131
  go_wp2
  go_ret
  exact ⟨rfl, rfl⟩

set_option maxHeartbeats 400000 in
theorem root_any {x : Nat} {a c : Int} {X Z : Nat} (R : RootAt x a X Z c) (w : World) :
    Calls Try.prog 154 #[.float .f32 x] w fun e w' => e = .returned (.float .f32 (rootW x)) ∧ w = w' := by
  have d1 := fun (W : World) => run_convert_float_float (P := Try.prog) W 39 141 .f32 .f64 x X (by kernel_rfl) Try.underlying141 R.up
  have d2 := fun (W : World) => run_convert_float_float (P := Try.prog) W 141 39 .f64 .f32 Z (rootW x) (by kernel_rfl) Try.underlying39 R.dn
  have MS := Lib.hid (fun w => mathSqrt_num X Z R.sq w)
  generalize rootW x = r at *
  clear R
  go_enter Try.func154, Try.ntmps154
  go_wp2_with (go_at_call 131; refine (MS.out _).mono ?_; rintro e w' ⟨rfl, rfl⟩)
  go_ret
  exact ⟨rfl, rfl⟩

set_option maxHeartbeats 400000 in
theorem refRoot_any {x : Nat} {a c : Int} {X Z : Nat} (R : RootAt x a X Z c) (w : World) :
    Calls Try.prog 178 #[.float .f32 x] w fun e w' => e = .returned (.float .f32 (rootW x)) ∧ w = w' := by
  have d1 := fun (W : World) => run_convert_float_float (P := Try.prog) W 39 141 .f32 .f64 x X (by kernel_rfl) Try.underlying141 R.up
  have d2 := fun (W : World) => run_convert_float_float (P := Try.prog) W 141 39 .f64 .f32 Z (rootW x) (by kernel_rfl) Try.underlying39 R.dn
  have MS := Lib.hid (fun w => mathSqrt_num X Z R.sq w)
  generalize rootW x = r at *
  clear R
  go_enter Try.func178, Try.ntmps178
  go_wp2_with (go_at_call 131; refine (MS.out _).mono ?_; rintro e w' ⟨rfl, rfl⟩)
  go_ret
  exact ⟨rfl, rfl⟩
end Go.Proofs.Ytncgcjeihihkfaa
