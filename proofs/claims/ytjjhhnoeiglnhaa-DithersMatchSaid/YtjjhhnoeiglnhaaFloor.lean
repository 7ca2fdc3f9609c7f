/- Contracts: math.Floor, and the floors of both sides. -/
import Derived.Test.YtjjhhnoeiglnhaaAr
import Derived.Test.YtjjhhnoeiglnhaaFl16
namespace Go.Proofs.Ytjjhhnoeiglnhaa
open Go.RowKit Fl
set_option linter.unusedVariables false

theorem toIntegral_num (X : Nat) (d : Ieee.Datum) (h : FloatKind.f64.decode X = d) (hd : ∃ s M I, d = .number s M I) :
    Extern.MathFloor.toIntegral "math.archFloor" .down #[.float .f64 X] = pure (.float .f64 (FloatKind.f64.encode (d.integral .down))) := by
  obtain ⟨s, M, I, rfl⟩ := hd
  conv => lhs; whnf
  rw [h]

theorem archFloor_num (X : Nat) (s : Bool) (M : Nat) (I : Int) (h : Ieee.double.read X = .number s M I) (w : World) :
    (callFunc 172 #[.float .f64 X]).run Try.prog w = .ok (.value (.float .f64 (Ieee.double.write ((Ieee.double.read X).integral .down)))) w := by
  rw [run_callFunc_extern Try.func172 (by kernel_rfl) (by kernel_rfl) (by kernel_rfl) (e := Extern.MathFloor.toIntegral "math.archFloor" .down) (by kernel_rfl), toIntegral_num X _ rfl ⟨s, M, I, h⟩]
  rfl

set_option maxHeartbeats 400000 in
theorem mathFloor_num (X F : Nat) (s : Bool) (M : Nat) (I : Int) (h : Ieee.double.read X = .number s M I) (hF : Ieee.double.write ((Ieee.double.read X).integral .down) = F) (w : World) :
    Calls Try.prog 160 #[.float .f64 X] w fun e w' => e = .returned (.float .f64 F) ∧ w = w' := by
  have a1 := archFloor_num X s M I h
  rw [hF] at a1
  clear h hF
  go_enter Try.func160, Try.ntmps160
  go_wp2
  go_ret
  exact ⟨rfl, rfl⟩

set_option maxHeartbeats 400000 in
theorem floor_any (x k : Nat) (a : Int) (h : vS x = some a) (hb : Bd k x) (hk : k ≤ 50) (w : World) :
    Calls Try.prog 97 #[.float .f32 x] w fun e w' => e = .returned (.float .f32 (flW x)) ∧ w = w' := by
  obtain ⟨X, s, M, I, F, c1, c2, c3, c4, _⟩ := floor_parts h hb hk
  have d1 := fun (W : World) => run_convert_float_float (P := Try.prog) W 37 113 .f32 .f64 x X (by kernel_rfl) Try.underlying113 c1
  have d2 := fun (W : World) => run_convert_float_float (P := Try.prog) W 113 37 .f64 .f32 F (flW x) (by kernel_rfl) Try.underlying37 c4
  have MF := Lib.hid (fun w => mathFloor_num X F s M I c2 c3 w)
  clear c1 c2 c3 c4 h hb
  go_enter Try.func97, Try.ntmps97
  go_wp2_with (go_at_call 160; refine (MF.out _).mono ?_; rintro e w' ⟨rfl, rfl⟩)
  go_ret
  exact ⟨rfl, rfl⟩

set_option maxHeartbeats 400000 in
theorem refFloor_any (x k : Nat) (a : Int) (h : vS x = some a) (hb : Bd k x) (hk : k ≤ 50) (w : World) :
    Calls Try.prog 101 #[.float .f32 x] w fun e w' => e = .returned (.float .f32 (flW x)) ∧ w = w' := by
  obtain ⟨X, s, M, I, F, c1, c2, c3, c4, _⟩ := floor_parts h hb hk
  have d1 := fun (W : World) => run_convert_float_float (P := Try.prog) W 37 113 .f32 .f64 x X (by kernel_rfl) Try.underlying113 c1
  have d2 := fun (W : World) => run_convert_float_float (P := Try.prog) W 113 37 .f64 .f32 F (flW x) (by kernel_rfl) Try.underlying37 c4
  have MF := Lib.hid (fun w => mathFloor_num X F s M I c2 c3 w)
  clear c1 c2 c3 c4 h hb
  go_enter Try.func101, Try.ntmps101
  go_wp2_with (go_at_call 160; refine (MF.out _).mono ?_; rintro e w' ⟨rfl, rfl⟩)
  go_ret
  exact ⟨rfl, rfl⟩
end Go.Proofs.Ytjjhhnoeiglnhaa
