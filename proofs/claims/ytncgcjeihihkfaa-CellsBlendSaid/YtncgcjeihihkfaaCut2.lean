/- Fill and Cut of the program, Cut of the reference. -/
import Derived.Test.YtncgcjeihihkfaaCut
namespace Go.Proofs.Ytncgcjeihihkfaa
open Go.RowKit Fl
set_option linter.unusedVariables false

/-- The error of Fill. -/
def filE (X Y W H : Int) (h : Nat) : Int := if checkR X Y W H = 0 then fldE 1 (fun _ => h) else checkR X Y W H

theorem le_one63 : 1 ≤ 9223372036854775807 := by decide
theorem flAt_one1 {w : World} {b h : Nat} (hb : w.heap[b]? = some (flObj h)) : FlAt w b 0 1 (fun _ => h) := by
  intro i hi
  obtain rfl : i = 0 := by omega
  rw [(blkC hb).1]; rfl

end Go.Proofs.Ytncgcjeihihkfaa
