/- Cut of the program and of the reference. -/
import Derived.Test.YtncgcjeihihkfaaCut2
import Derived.Test.YtncgcjeihihkfaaReg4
namespace Go.Proofs.Ytncgcjeihihkfaa
open Go.RowKit Fl
set_option linter.unusedVariables false

/-- The error of Cut of a right field. -/
def cutE (X Y W H X' Y' W' H' : Int) : Int := if checkR X' Y' W' H' = 0 then (if insideB X' Y' W' H' X Y W H then 0 else 5) else checkR X' Y' W' H'

end Go.Proofs.Ytncgcjeihihkfaa
