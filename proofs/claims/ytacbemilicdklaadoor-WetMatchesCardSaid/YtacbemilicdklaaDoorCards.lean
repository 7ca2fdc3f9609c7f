/-
  DERIVED. GIVEN WITH THE SEED: THE CARDS: each row of YtacbemilicdklaaDoorRows.lean that lists a variable, with what it lists TIED to the program's text (the seventh form; the later family's looks); each row that meets fmt, with fmt's text TOLD by the authors' own Lean function (tested against real Go, not proved from fmt's source: count such statements apart). THE CARD IS WHAT COUNTS. Prove the row's statement (the work); the ties are given (YtacbemilicdklaaDoorTie.lean); close each card by the builder's one call (the guide's Derived/Test/ToyasCard.lean, 'card_holds'). Laid BY PROGRAM, IN A SANDBOX (cutbox-door.mjs). By AI agents, Wed Nov 11 2026. No macro, syntax, notation, axiom, sorry.
-/
import Derived.Test.YtacbemilicdklaaDoorRows
import GoSem.ClaimSeven
namespace Go.Proofs.YtacbemilicdklaaDoor
namespace Rows

/-- THE TIED CARD OF 'tarnlaw2.FilledIsLeast'. -/
def filledIsLeastCard : Claim7 := { stood := { row := filledIsLeastRow, standIns := [], harness := (true, "6fdcf3f2f78e6d341d136240db9de05bdb82b17003d6628a22dbf52f7b54976f"), looks := true }, kinds := [], alts := [], laidByText := true, laidKinds := [.data], laidTests := true, laidLooks := .later }
def FilledIsLeastCardSaid : Prop := Claim7.holds Tryd.pinned (.plain (OpenSpec.ofChange filledIsLeastSpec)) filledIsLeastCard

/-- THE TIED CARD OF 'tarnlaw2.DrainsAsSaid'. -/
def drainsAsSaidCard : Claim7 := { stood := { row := drainsAsSaidRow, standIns := [], harness := (true, "6fdcf3f2f78e6d341d136240db9de05bdb82b17003d6628a22dbf52f7b54976f"), looks := true }, kinds := [], alts := [], laidByText := true, laidKinds := [.data], laidTests := true, laidLooks := .later }
def DrainsAsSaidCardSaid : Prop := Claim7.holds Tryd.pinned (.plain (OpenSpec.ofChange drainsAsSaidSpec)) drainsAsSaidCard

/-- THE TIED CARD OF 'tarnlaw2.DirsMatch'. -/
def dirsMatchCard : Claim7 := { stood := { row := dirsMatchRow, standIns := [], harness := (true, "6fdcf3f2f78e6d341d136240db9de05bdb82b17003d6628a22dbf52f7b54976f"), looks := true }, kinds := [], alts := [], laidByText := true, laidKinds := [.data], laidTests := true, laidLooks := .later }
def DirsMatchCardSaid : Prop := Claim7.holds Tryd.pinned (.plain (OpenSpec.ofChange dirsMatchSpec)) dirsMatchCard

/-- THE TIED CARD OF 'tarnlaw2.DepthMatches'. -/
def depthMatchesCard : Claim7 := { stood := { row := depthMatchesRow, standIns := [], harness := (true, "6fdcf3f2f78e6d341d136240db9de05bdb82b17003d6628a22dbf52f7b54976f"), looks := true }, kinds := [], alts := [], laidByText := true, laidKinds := [.data], laidTests := true, laidLooks := .later }
def DepthMatchesCardSaid : Prop := Claim7.holds Tryd.pinned (.plain (OpenSpec.ofChange depthMatchesSpec)) depthMatchesCard

/-- THE TIED CARD OF 'tarnlaw2.CarvesAsSaid'. -/
def carvesAsSaidCard : Claim7 := { stood := { row := carvesAsSaidRow, standIns := [], harness := (true, "6fdcf3f2f78e6d341d136240db9de05bdb82b17003d6628a22dbf52f7b54976f"), looks := true }, kinds := [], alts := [], laidByText := true, laidKinds := [.data], laidTests := true, laidLooks := .later }
def CarvesAsSaidCardSaid : Prop := Claim7.holds Tryd.pinned (.plain (OpenSpec.ofChange carvesAsSaidSpec)) carvesAsSaidCard

/-- THE TIED CARD OF 'tarnlaw2.BreachesAsSaid'. -/
def breachesAsSaidCard : Claim7 := { stood := { row := breachesAsSaidRow, standIns := [], harness := (true, "6fdcf3f2f78e6d341d136240db9de05bdb82b17003d6628a22dbf52f7b54976f"), looks := true }, kinds := [], alts := [], laidByText := true, laidKinds := [.data], laidTests := true, laidLooks := .later }
def BreachesAsSaidCardSaid : Prop := Claim7.holds Tryd.pinned (.plain (OpenSpec.ofChange breachesAsSaidSpec)) breachesAsSaidCard

/-- THE TIED CARD OF 'tarnlaw2.WetMatches'. -/
def wetMatchesCard : Claim7 := { stood := { row := wetMatchesRow, standIns := [], harness := (true, "6fdcf3f2f78e6d341d136240db9de05bdb82b17003d6628a22dbf52f7b54976f"), looks := true }, kinds := [], alts := [], laidByText := true, laidKinds := [.data], laidTests := true, laidLooks := .later }
def WetMatchesCardSaid : Prop := Claim7.holds Tryd.pinned (.plain (OpenSpec.ofChange wetMatchesSpec)) wetMatchesCard

/-- THE TIED CARD OF 'tarnlaw2.SnowMatches'. -/
def snowMatchesCard : Claim7 := { stood := { row := snowMatchesRow, standIns := [], harness := (true, "6fdcf3f2f78e6d341d136240db9de05bdb82b17003d6628a22dbf52f7b54976f"), looks := true }, kinds := [], alts := [], laidByText := true, laidKinds := [.data], laidTests := true, laidLooks := .later }
def SnowMatchesCardSaid : Prop := Claim7.holds Tryd.pinned (.plain (OpenSpec.ofChange snowMatchesSpec)) snowMatchesCard

/-- THE TIED CARD OF 'tarnlaw2.ShowersArePlaces'. -/
def showersArePlacesCard : Claim7 := { stood := { row := showersArePlacesRow, standIns := [], harness := (true, "6fdcf3f2f78e6d341d136240db9de05bdb82b17003d6628a22dbf52f7b54976f"), looks := true }, kinds := [], alts := [], laidByText := true, laidKinds := [.data], laidTests := true, laidLooks := .later }
def ShowersArePlacesCardSaid : Prop := Claim7.holds Tryd.pinned (.plain (OpenSpec.ofChange showersArePlacesSpec)) showersArePlacesCard

/-- THE TIED CARD OF 'tarntop.TopDrains'. -/
def topDrainsCard : Claim7 := { stood := { row := topDrainsRow, standIns := [], harness := (true, "6fdcf3f2f78e6d341d136240db9de05bdb82b17003d6628a22dbf52f7b54976f"), looks := true }, kinds := [], alts := [], laidByText := true, laidKinds := [.data], laidTests := true, laidLooks := .later }
def TopDrainsCardSaid : Prop := Claim7.holds Tryd.pinned (.plain (OpenSpec.ofChange topDrainsSpec)) topDrainsCard

/-- THE TIED CARD OF 'tarntop.TopFlows'. -/
def topFlowsCard : Claim7 := { stood := { row := topFlowsRow, standIns := [], harness := (true, "6fdcf3f2f78e6d341d136240db9de05bdb82b17003d6628a22dbf52f7b54976f"), looks := true }, kinds := [], alts := [], laidByText := true, laidKinds := [.data], laidTests := true, laidLooks := .later }
def TopFlowsCardSaid : Prop := Claim7.holds Tryd.pinned (.plain (OpenSpec.ofChange topFlowsSpec)) topFlowsCard

/-- THE TIED CARD OF 'tarntop.TopCarves'. -/
def topCarvesCard : Claim7 := { stood := { row := topCarvesRow, standIns := [], harness := (true, "6fdcf3f2f78e6d341d136240db9de05bdb82b17003d6628a22dbf52f7b54976f"), looks := true }, kinds := [], alts := [], laidByText := true, laidKinds := [.data], laidTests := true, laidLooks := .later }
def TopCarvesCardSaid : Prop := Claim7.holds Tryd.pinned (.plain (OpenSpec.ofChange topCarvesSpec)) topCarvesCard

/-- THE SECOND FORM's CARD OF 'tarnlaw2.FilledIsLeast'. -/
def filledIsLeastUptoCard : Claim7 := { stood := { row := filledIsLeastUptoRow, standIns := [], harness := (true, "6fdcf3f2f78e6d341d136240db9de05bdb82b17003d6628a22dbf52f7b54976f"), looks := true }, kinds := [], alts := [], laidByText := true, laidKinds := [.data], laidTests := true, laidLooks := .later }
def FilledIsLeastUptoCardSaid : Prop := Claim7.holds Tryd.pinned (.plain (OpenSpec.upto filledIsLeastSpec)) filledIsLeastUptoCard

/-- THE SECOND FORM's CARD OF 'tarnlaw2.DrainsAsSaid'. -/
def drainsAsSaidUptoCard : Claim7 := { stood := { row := drainsAsSaidUptoRow, standIns := [], harness := (true, "6fdcf3f2f78e6d341d136240db9de05bdb82b17003d6628a22dbf52f7b54976f"), looks := true }, kinds := [], alts := [], laidByText := true, laidKinds := [.data], laidTests := true, laidLooks := .later }
def DrainsAsSaidUptoCardSaid : Prop := Claim7.holds Tryd.pinned (.plain (OpenSpec.upto drainsAsSaidSpec)) drainsAsSaidUptoCard

/-- THE SECOND FORM's CARD OF 'tarnlaw2.DirsMatch'. -/
def dirsMatchUptoCard : Claim7 := { stood := { row := dirsMatchUptoRow, standIns := [], harness := (true, "6fdcf3f2f78e6d341d136240db9de05bdb82b17003d6628a22dbf52f7b54976f"), looks := true }, kinds := [], alts := [], laidByText := true, laidKinds := [.data], laidTests := true, laidLooks := .later }
def DirsMatchUptoCardSaid : Prop := Claim7.holds Tryd.pinned (.plain (OpenSpec.upto dirsMatchSpec)) dirsMatchUptoCard

/-- THE SECOND FORM's CARD OF 'tarnlaw2.DepthMatches'. -/
def depthMatchesUptoCard : Claim7 := { stood := { row := depthMatchesUptoRow, standIns := [], harness := (true, "6fdcf3f2f78e6d341d136240db9de05bdb82b17003d6628a22dbf52f7b54976f"), looks := true }, kinds := [], alts := [], laidByText := true, laidKinds := [.data], laidTests := true, laidLooks := .later }
def DepthMatchesUptoCardSaid : Prop := Claim7.holds Tryd.pinned (.plain (OpenSpec.upto depthMatchesSpec)) depthMatchesUptoCard

/-- THE SECOND FORM's CARD OF 'tarnlaw2.CarvesAsSaid'. -/
def carvesAsSaidUptoCard : Claim7 := { stood := { row := carvesAsSaidUptoRow, standIns := [], harness := (true, "6fdcf3f2f78e6d341d136240db9de05bdb82b17003d6628a22dbf52f7b54976f"), looks := true }, kinds := [], alts := [], laidByText := true, laidKinds := [.data], laidTests := true, laidLooks := .later }
def CarvesAsSaidUptoCardSaid : Prop := Claim7.holds Tryd.pinned (.plain (OpenSpec.upto carvesAsSaidSpec)) carvesAsSaidUptoCard

/-- THE SECOND FORM's CARD OF 'tarnlaw2.BreachesAsSaid'. -/
def breachesAsSaidUptoCard : Claim7 := { stood := { row := breachesAsSaidUptoRow, standIns := [], harness := (true, "6fdcf3f2f78e6d341d136240db9de05bdb82b17003d6628a22dbf52f7b54976f"), looks := true }, kinds := [], alts := [], laidByText := true, laidKinds := [.data], laidTests := true, laidLooks := .later }
def BreachesAsSaidUptoCardSaid : Prop := Claim7.holds Tryd.pinned (.plain (OpenSpec.upto breachesAsSaidSpec)) breachesAsSaidUptoCard

/-- THE SECOND FORM's CARD OF 'tarnlaw2.WetMatches'. -/
def wetMatchesUptoCard : Claim7 := { stood := { row := wetMatchesUptoRow, standIns := [], harness := (true, "6fdcf3f2f78e6d341d136240db9de05bdb82b17003d6628a22dbf52f7b54976f"), looks := true }, kinds := [], alts := [], laidByText := true, laidKinds := [.data], laidTests := true, laidLooks := .later }
def WetMatchesUptoCardSaid : Prop := Claim7.holds Tryd.pinned (.plain (OpenSpec.upto wetMatchesSpec)) wetMatchesUptoCard

/-- THE SECOND FORM's CARD OF 'tarnlaw2.SnowMatches'. -/
def snowMatchesUptoCard : Claim7 := { stood := { row := snowMatchesUptoRow, standIns := [], harness := (true, "6fdcf3f2f78e6d341d136240db9de05bdb82b17003d6628a22dbf52f7b54976f"), looks := true }, kinds := [], alts := [], laidByText := true, laidKinds := [.data], laidTests := true, laidLooks := .later }
def SnowMatchesUptoCardSaid : Prop := Claim7.holds Tryd.pinned (.plain (OpenSpec.upto snowMatchesSpec)) snowMatchesUptoCard

/-- THE SECOND FORM's CARD OF 'tarnlaw2.ShowersArePlaces'. -/
def showersArePlacesUptoCard : Claim7 := { stood := { row := showersArePlacesUptoRow, standIns := [], harness := (true, "6fdcf3f2f78e6d341d136240db9de05bdb82b17003d6628a22dbf52f7b54976f"), looks := true }, kinds := [], alts := [], laidByText := true, laidKinds := [.data], laidTests := true, laidLooks := .later }
def ShowersArePlacesUptoCardSaid : Prop := Claim7.holds Tryd.pinned (.plain (OpenSpec.upto showersArePlacesSpec)) showersArePlacesUptoCard

/-- THE SECOND FORM's CARD OF 'tarntop.TopDrains'. -/
def topDrainsUptoCard : Claim7 := { stood := { row := topDrainsUptoRow, standIns := [], harness := (true, "6fdcf3f2f78e6d341d136240db9de05bdb82b17003d6628a22dbf52f7b54976f"), looks := true }, kinds := [], alts := [], laidByText := true, laidKinds := [.data], laidTests := true, laidLooks := .later }
def TopDrainsUptoCardSaid : Prop := Claim7.holds Tryd.pinned (.plain (OpenSpec.upto topDrainsSpec)) topDrainsUptoCard

/-- THE SECOND FORM's CARD OF 'tarntop.TopFlows'. -/
def topFlowsUptoCard : Claim7 := { stood := { row := topFlowsUptoRow, standIns := [], harness := (true, "6fdcf3f2f78e6d341d136240db9de05bdb82b17003d6628a22dbf52f7b54976f"), looks := true }, kinds := [], alts := [], laidByText := true, laidKinds := [.data], laidTests := true, laidLooks := .later }
def TopFlowsUptoCardSaid : Prop := Claim7.holds Tryd.pinned (.plain (OpenSpec.upto topFlowsSpec)) topFlowsUptoCard

/-- THE SECOND FORM's CARD OF 'tarntop.TopCarves'. -/
def topCarvesUptoCard : Claim7 := { stood := { row := topCarvesUptoRow, standIns := [], harness := (true, "6fdcf3f2f78e6d341d136240db9de05bdb82b17003d6628a22dbf52f7b54976f"), looks := true }, kinds := [], alts := [], laidByText := true, laidKinds := [.data], laidTests := true, laidLooks := .later }
def TopCarvesUptoCardSaid : Prop := Claim7.holds Tryd.pinned (.plain (OpenSpec.upto topCarvesSpec)) topCarvesUptoCard
end Rows
end Go.Proofs.YtacbemilicdklaaDoor
