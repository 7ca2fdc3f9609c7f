/-
  DERIVED. GIVEN WITH THE SEED: THE CARDS: each row of YtbingcjkphandaaDoorRows.lean that lists a variable, with what it lists TIED to the program's text (the seventh form; the later family's looks); each row that meets fmt, with fmt's text TOLD by the authors' own Lean function (tested against real Go, not proved from fmt's source: count such statements apart). THE CARD IS WHAT COUNTS. Prove the row's statement (the work); the ties are given (YtbingcjkphandaaDoorTie.lean); close each card by the builder's one call (the guide's Derived/Test/ToyasCard.lean, 'card_holds'). Laid BY PROGRAM, IN A SANDBOX (cutbox-door.mjs). By AI agents, Wed Nov 11 2026. No macro, syntax, notation, axiom, sorry.
-/
import Derived.Test.YtbingcjkphandaaDoorRows
import GoSem.ClaimSeven
namespace Go.Proofs.YtbingcjkphandaaDoor
namespace Rows

/-- THE TIED CARD OF 'tarnlaw1.FieldsCheck'. -/
def fieldsCheckCard : Claim7 := { stood := { row := fieldsCheckRow, standIns := [], harness := (true, "e1fbc376d26da95b459071ff732cc88214e5e7310195cdc6f9be02bcb0406f64"), looks := false }, kinds := [], alts := [], laidByText := true, laidKinds := [.data, .data, .data, .data, .pinned, .pinned], laidTests := true, laidLooks := .later }
def FieldsCheckCardSaid : Prop := Claim7.holds Tryd.pinned (.plain (OpenSpec.ofChange fieldsCheckSpec)) fieldsCheckCard

/-- THE TIED CARD OF 'tarnlaw2.GroundsMatch'. -/
def groundsMatchCard : Claim7 := { stood := { row := groundsMatchRow, standIns := [], harness := (true, "e1fbc376d26da95b459071ff732cc88214e5e7310195cdc6f9be02bcb0406f64"), looks := false }, kinds := [], alts := [], laidByText := true, laidKinds := [.data], laidTests := true, laidLooks := .later }
def GroundsMatchCardSaid : Prop := Claim7.holds Tryd.pinned (.plain (OpenSpec.ofChange groundsMatchSpec)) groundsMatchCard

/-- THE TIED CARD OF 'tarnlaw2.FiresGo'. -/
def firesGoCard : Claim7 := { stood := { row := firesGoRow, standIns := [], harness := (true, "e1fbc376d26da95b459071ff732cc88214e5e7310195cdc6f9be02bcb0406f64"), looks := false }, kinds := [], alts := [], laidByText := true, laidKinds := [.data], laidTests := true, laidLooks := .later }
def FiresGoCardSaid : Prop := Claim7.holds Tryd.pinned (.plain (OpenSpec.ofChange firesGoSpec)) firesGoCard

/-- THE SECOND FORM's CARD OF 'tarnlaw1.FieldsCheck'. -/
def fieldsCheckUptoCard : Claim7 := { stood := { row := fieldsCheckUptoRow, standIns := [], harness := (true, "e1fbc376d26da95b459071ff732cc88214e5e7310195cdc6f9be02bcb0406f64"), looks := false }, kinds := [], alts := [], laidByText := true, laidKinds := [.data, .data, .data, .data, .pinned, .pinned], laidTests := true, laidLooks := .later }
def FieldsCheckUptoCardSaid : Prop := Claim7.holds Tryd.pinned (.plain (OpenSpec.upto fieldsCheckSpec)) fieldsCheckUptoCard

/-- THE SECOND FORM's CARD OF 'tarnlaw2.GroundsMatch'. -/
def groundsMatchUptoCard : Claim7 := { stood := { row := groundsMatchUptoRow, standIns := [], harness := (true, "e1fbc376d26da95b459071ff732cc88214e5e7310195cdc6f9be02bcb0406f64"), looks := false }, kinds := [], alts := [], laidByText := true, laidKinds := [.data], laidTests := true, laidLooks := .later }
def GroundsMatchUptoCardSaid : Prop := Claim7.holds Tryd.pinned (.plain (OpenSpec.upto groundsMatchSpec)) groundsMatchUptoCard

/-- THE SECOND FORM's CARD OF 'tarnlaw2.FiresGo'. -/
def firesGoUptoCard : Claim7 := { stood := { row := firesGoUptoRow, standIns := [], harness := (true, "e1fbc376d26da95b459071ff732cc88214e5e7310195cdc6f9be02bcb0406f64"), looks := false }, kinds := [], alts := [], laidByText := true, laidKinds := [.data], laidTests := true, laidLooks := .later }
def FiresGoUptoCardSaid : Prop := Claim7.holds Tryd.pinned (.plain (OpenSpec.upto firesGoSpec)) firesGoUptoCard
end Rows
end Go.Proofs.YtbingcjkphandaaDoor
