/- Contracts: mix of the program, lerp of the reference: one word. -/
import Derived.Test.YtncgcjeihihkfaaClo
namespace Go.Proofs.Ytncgcjeihihkfaa
open Go.RowKit Fl
set_option linter.unusedVariables false

/-- a + (b - a) * s, each step rounded, as words. -/
def mixW (x y s : Nat) : Nat := (floatBits .add .f32 x ((floatBits .mul .f32 ((floatBits .sub .f32 y x).getD 0) s).getD 0)).getD 0

theorem mix_parts {i j x y s : Nat} (hi : i ≤ 60) (hj : j ≤ 30) (hx : Bd i x) (hy : Bd i y) (hs : Bd j s) :
    ∃ d p r, floatBits .sub .f32 y x = some d ∧ Same2 .sub (i + 1) y x ∧ floatBits .mul .f32 d s = some p ∧ Same2 .mul (i + 1 + j) d s ∧ floatBits .add .f32 x p = some r ∧ Same2 .add (i + 1 + j + 1) x p ∧ r < 4294967296 ∧ Bd (i + 1 + j + 1) r := by
  have h1 : Same2 .sub (i + 1) y x := sub_same (by omega) hy hx
  obtain ⟨X, Y, Z, d, _, _, _, _, e1, b1⟩ := h1.ex
  have h2 : Same2 .mul (i + 1 + j) d s := mul_same (by omega) b1 hs
  obtain ⟨X2, Y2, Z2, p, _, _, _, _, e2, b2⟩ := h2.ex
  have h3 : Same2 .add (i + 1 + j + 1) x p := add_same (by omega) (bd_up hx (by omega)) b2
  obtain ⟨X3, Y3, Z3, r, _, _, _, _, e3, b3⟩ := h3.ex
  exact ⟨d, p, r, e1, h1, e2, h2, e3, h3, opt_lt (d := (Ieee.single.read x).sum (Ieee.single.read p)) e3, b3⟩
theorem mix_eq {x y s d p r : Nat} (h1 : floatBits .sub .f32 y x = some d) (h2 : floatBits .mul .f32 d s = some p) (h3 : floatBits .add .f32 x p = some r) : mixW x y s = r := by
  unfold mixW
  rw [h1]
  show (floatBits .add .f32 x ((floatBits .mul .f32 d s).getD 0)).getD 0 = r
  rw [h2]
  show (floatBits .add .f32 x p).getD 0 = r
  rw [h3]; rfl

set_option maxHeartbeats 400000 in
theorem mix_any (x y s d p r : Nat) (h1 : floatBits .sub .f32 y x = some d) (h2 : floatBits .mul .f32 d s = some p) (h3 : floatBits .add .f32 x p = some r) (w : World) :
    Calls Try.prog 65 #[.float .f32 x, .float .f32 y, .float .f32 s] w fun e w' => e = .returned (.float .f32 r) ∧ w = w' := by
  have a1 := fun (W : World) => run_float_arith (P := Try.prog) W .sub 39 .f32 y x d h1
  have a2 := fun (W : World) => run_float_arith (P := Try.prog) W .mul 39 .f32 d s p h2
  have a3 := fun (W : World) => run_float_arith (P := Try.prog) W .add 39 .f32 x p r h3
  go_enter Try.func65, Try.ntmps65
  go_wp2
  go_ret
  exact ⟨rfl, rfl⟩

set_option maxHeartbeats 400000 in
theorem lerp_any (k1 k2 k3 x y s d p r : Nat) (h1 : floatBits .sub .f32 y x = some d) (s1 : Same2 .sub k1 y x) (h2 : floatBits .mul .f32 d s = some p) (s2 : Same2 .mul k2 d s) (h3 : floatBits .add .f32 x p = some r) (s3 : Same2 .add k3 x p) (w : World) :
    Calls Try.prog 70 #[.float .f32 x, .float .f32 y, .float .f32 s] w fun e w' => e = .returned (.float .f32 r) ∧ w = w' := by
  have A := Lib.hid (fun w => refSub_any k1 y x d s1 h1 w)
  have B := Lib.hid (fun w => refMul_any k2 d s p s2 h2 w)
  have C := Lib.hid (fun w => refAdd_any k3 x p r s3 h3 w)
  clear h1 h2 h3 s1 s2 s3
  go_enter Try.func70, Try.ntmps70
  go_wp2_with (first | (go_at_call 117; refine (A.out _).mono ?_; rintro e w' ⟨rfl, rfl⟩) | (go_at_call 116; refine (B.out _).mono ?_; rintro e w' ⟨rfl, rfl⟩) | (go_at_call 115; refine (C.out _).mono ?_; rintro e w' ⟨rfl, rfl⟩))
  go_ret
  exact ⟨rfl, rfl⟩

end Go.Proofs.Ytncgcjeihihkfaa
