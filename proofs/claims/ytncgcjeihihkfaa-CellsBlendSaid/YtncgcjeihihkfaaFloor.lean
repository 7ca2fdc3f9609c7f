/- Contracts: math.Floor, and the floors of both sides. -/
import Derived.Test.YtncgcjeihihkfaaAr
import Derived.Test.YtncgcjeihihkfaaFl16
namespace Go.Proofs.Ytncgcjeihihkfaa
open Go.RowKit Fl
set_option linter.unusedVariables false

theorem toIntegral_num (X : Nat) (d : Ieee.Datum) (h : FloatKind.f64.decode X = d) (hd : ∃ s M I, d = .number s M I) :
    Extern.MathFloor.toIntegral "math.archFloor" .down #[.float .f64 X] = pure (.float .f64 (FloatKind.f64.encode (d.integral .down))) := by
  obtain ⟨s, M, I, rfl⟩ := hd
  conv => lhs; whnf
  rw [h]

end Go.Proofs.Ytncgcjeihihkfaa
