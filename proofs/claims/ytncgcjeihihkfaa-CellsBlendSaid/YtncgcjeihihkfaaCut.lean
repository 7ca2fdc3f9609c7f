/- The closures of Fill and Cut, on both sides. -/
import Derived.Test.YtncgcjeihihkfaaDth
import Derived.Test.YtncgcjeihihkfaaGen
namespace Go.Proofs.Ytncgcjeihihkfaa
open Go.RowKit Fl
set_option linter.unusedVariables false

/-- The number that the cell number i of a region over X' Y' W' has in one over X Y W. -/
def subN (X Y : Int) (W : Nat) (X' Y' : Int) (W' i : Nat) : Nat := ((Y' + ((i / W' : Nat) : Int) - Y) * W + (X' + ((i % W' : Nat) : Int) - X)).toNat
def cutF (v : Nat → Nat) (X Y : Int) (W : Nat) (X' Y' : Int) (W' i : Nat) : Nat := v (subN X Y W X' Y' W' i)
theorem subN_of {X Y : Int} {W : Nat} {X' Y' x y : Int} {W' i : Nat} (ex : X' + ((i % W' : Nat) : Int) = x) (ey : Y' + ((i / W' : Nat) : Int) = y) (hx : X ≤ x) (hy : Y ≤ y) : (subN X Y W X' Y' W' i : Int) = (y - Y) * W + (x - X) := by
  unfold subN
  rw [ex, ey]
  have : 0 ≤ (y - Y) * W := Int.mul_nonneg (by omega) (by omega)
  omega

end Go.Proofs.Ytncgcjeihihkfaa
