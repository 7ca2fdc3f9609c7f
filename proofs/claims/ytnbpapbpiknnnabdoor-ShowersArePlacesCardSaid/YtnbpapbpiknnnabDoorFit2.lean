/- Contract: fit of a field without singles. -/
import Derived.Test.YtnbpapbpiknnnabDoorFit
namespace Go.Proofs.YtnbpapbpiknnnabDoor
open Go.RowKit Fl

end Go.Proofs.YtnbpapbpiknnnabDoor
