/-
  NARROWER THAN 'FOR EVERY INPUT', by the rows' own cells (each row's printed sentence says how): FilledIsLeast: laid · DrainsAsSaid: laid · DirsMatch: laid · DepthMatches: laid · CarvesAsSaid: laid · BreachesAsSaid: laid · WetMatches: laid · SnowMatches: laid · ShowersArePlaces: laid · TopDrains: laid · TopFlows: laid · TopCarves: laid.
  DERIVED. THE GIVEN ROWS OF THIS SEAT. 12 by the template 'for every input the law returns true; each argument reads behind the call as it read before'; 0 by the template 'total and deterministic' (their statements: YtacbemilicdklaaDoorTotals.lean).
  GIVEN WITH THE SEED: the statements are not yours to turn. If you find one false, say at which input.
  Laid BY PROGRAM, IN A SANDBOX (cutbox-rows.mjs): the forced cells as the released guide's own fill.sh prints them over the translation 0a86759535ebfc78… (all of the seat's roots in one cut). By AI agents, Wed Nov 11 2026. No macro, syntax, notation, axiom, sorry.
-/
import Derived.Test.YtacbemilicdklaaDoorChecked
import GoSem.Claim
import GoSem.ClaimJoined
import GoSem.ClaimMapViews
import Derived.JoinedTies
import Derived.KernelRfl
namespace Go.Proofs.YtacbemilicdklaaDoor
/- THE CELL 'sum', in the pinned program and in every row, IS THE sha256 OF THE DUMP (.gsa) THAT YtacbemilicdklaaDoorProg.lean LOADS. Nothing in Lean hashes anything: it is a label: what it is worth is what the hold of that sum in a sandbox is worth. -/
noncomputable def Tryd.pinned : Pinned := { name := "ytacbemilicdklaadoor", sum := "0a86759535ebfc78c9cb53607e5066084690a0578c0dc6043fa526d3dac3c51e", checked := Tryd.checked }
namespace Rows
def none {H : Type} : Left H := { results := [], args := [] }

/- WHAT THE LISTED PACKAGE-LEVEL VARIABLES READ AS WHEN THE CALL BEGINS. Each datum BY PROGRAM (the guide's laid-datum.mjs) off the statement by which the dump's own 'gosem.cut.vars' lays the variable. In a bare row this is a premise. The card (YtacbemilicdklaaDoorCards.lean) ties it to the program's text. -/
def laid_tarnfell_water_directions {H : Type} : DataW H := .agg [.agg [.lit (.int .i64 1), .lit (.int .i64 0)], .agg [.lit (.int .i64 1), .lit (.int .i64 1)], .agg [.lit (.int .i64 0), .lit (.int .i64 1)], .agg [.lit (.int .i64 (-1)), .lit (.int .i64 1)], .agg [.lit (.int .i64 (-1)), .lit (.int .i64 0)], .agg [.lit (.int .i64 (-1)), .lit (.int .i64 (-1))], .agg [.lit (.int .i64 0), .lit (.int .i64 (-1))], .agg [.lit (.int .i64 1), .lit (.int .i64 (-1))]]

/-- 'tarnlaw2.FilledIsLeast': WHATEVER THE INPUT: true; the input reads as it did. -/
def filledIsLeastSpec : ChangeSpec := { name := "filledIsLeast", fn := fun _ => fun
  | [d1, d2] => { results := [.lit (.bool true)], args := [d1, d2] }
  | _ => none }
def filledIsLeastRow : OpenClaim := { program := "ytacbemilicdklaadoor", sum := "0a86759535ebfc78c9cb53607e5066084690a0578c0dc6043fa526d3dac3c51e", func := "tarnfell/tarnlaw2.FilledIsLeast", spec := "filledIsLeast", unfollowed := true, recurses := true, named := ["tarnfell/water.directions"], apart := false, laid := [("tarnfell/water.directions", laid_tarnfell_water_directions)] }
def FilledIsLeastSaid : Prop := filledIsLeastRow.holds Tryd.pinned (OpenSpec.ofChange filledIsLeastSpec)

/-- ITS FALSE NEIGHBOUR: 'it returns false'. Refute it at one input. -/
def filledIsLeastWrong : ChangeSpec := { name := "filledIsLeast", fn := fun _ => fun
  | [d1, d2] => { results := [.lit (.bool false)], args := [d1, d2] }
  | _ => none }
def FilledIsLeastWrongFalsely : Prop := filledIsLeastRow.holds Tryd.pinned (OpenSpec.ofChange filledIsLeastWrong)

/-- 'tarnlaw2.DrainsAsSaid': WHATEVER THE INPUT: true; the input reads as it did. -/
def drainsAsSaidSpec : ChangeSpec := { name := "drainsAsSaid", fn := fun _ => fun
  | [d] => { results := [.lit (.bool true)], args := [d] }
  | _ => none }
def drainsAsSaidRow : OpenClaim := { program := "ytacbemilicdklaadoor", sum := "0a86759535ebfc78c9cb53607e5066084690a0578c0dc6043fa526d3dac3c51e", func := "tarnfell/tarnlaw2.DrainsAsSaid", spec := "drainsAsSaid", inPlace := ["math.sqrt"], unfollowed := true, recurses := true, named := ["tarnfell/water.directions"], apart := false, laid := [("tarnfell/water.directions", laid_tarnfell_water_directions)] }
def DrainsAsSaidSaid : Prop := drainsAsSaidRow.holds Tryd.pinned (OpenSpec.ofChange drainsAsSaidSpec)

/-- ITS FALSE NEIGHBOUR: 'it returns false'. Refute it at one input. -/
def drainsAsSaidWrong : ChangeSpec := { name := "drainsAsSaid", fn := fun _ => fun
  | [d] => { results := [.lit (.bool false)], args := [d] }
  | _ => none }
def DrainsAsSaidWrongFalsely : Prop := drainsAsSaidRow.holds Tryd.pinned (OpenSpec.ofChange drainsAsSaidWrong)

/-- 'tarnlaw2.DirsMatch': WHATEVER THE INPUT: true; the input reads as it did. -/
def dirsMatchSpec : ChangeSpec := { name := "dirsMatch", fn := fun _ => fun
  | [d1, d2, d3, d4] => { results := [.lit (.bool true)], args := [d1, d2, d3, d4] }
  | _ => none }
def dirsMatchRow : OpenClaim := { program := "ytacbemilicdklaadoor", sum := "0a86759535ebfc78c9cb53607e5066084690a0578c0dc6043fa526d3dac3c51e", func := "tarnfell/tarnlaw2.DirsMatch", spec := "dirsMatch", inPlace := ["math.sqrt", "math.Float32bits"], unfollowed := true, recurses := true, named := ["tarnfell/water.directions"], apart := false, laid := [("tarnfell/water.directions", laid_tarnfell_water_directions)] }
def DirsMatchSaid : Prop := dirsMatchRow.holds Tryd.pinned (OpenSpec.ofChange dirsMatchSpec)

/-- ITS FALSE NEIGHBOUR: 'it returns false'. Refute it at one input. -/
def dirsMatchWrong : ChangeSpec := { name := "dirsMatch", fn := fun _ => fun
  | [d1, d2, d3, d4] => { results := [.lit (.bool false)], args := [d1, d2, d3, d4] }
  | _ => none }
def DirsMatchWrongFalsely : Prop := dirsMatchRow.holds Tryd.pinned (OpenSpec.ofChange dirsMatchWrong)

/-- 'tarnlaw2.DepthMatches': WHATEVER THE INPUT: true; the input reads as it did. -/
def depthMatchesSpec : ChangeSpec := { name := "depthMatches", fn := fun _ => fun
  | [d1, d2, d3] => { results := [.lit (.bool true)], args := [d1, d2, d3] }
  | _ => none }
def depthMatchesRow : OpenClaim := { program := "ytacbemilicdklaadoor", sum := "0a86759535ebfc78c9cb53607e5066084690a0578c0dc6043fa526d3dac3c51e", func := "tarnfell/tarnlaw2.DepthMatches", spec := "depthMatches", inPlace := ["math.sqrt", "math.Float32bits"], unfollowed := true, recurses := true, named := ["tarnfell/water.directions"], apart := false, laid := [("tarnfell/water.directions", laid_tarnfell_water_directions)] }
def DepthMatchesSaid : Prop := depthMatchesRow.holds Tryd.pinned (OpenSpec.ofChange depthMatchesSpec)

/-- ITS FALSE NEIGHBOUR: 'it returns false'. Refute it at one input. -/
def depthMatchesWrong : ChangeSpec := { name := "depthMatches", fn := fun _ => fun
  | [d1, d2, d3] => { results := [.lit (.bool false)], args := [d1, d2, d3] }
  | _ => none }
def DepthMatchesWrongFalsely : Prop := depthMatchesRow.holds Tryd.pinned (OpenSpec.ofChange depthMatchesWrong)

/-- 'tarnlaw2.CarvesAsSaid': WHATEVER THE INPUT: true; the input reads as it did. -/
def carvesAsSaidSpec : ChangeSpec := { name := "carvesAsSaid", fn := fun _ => fun
  | [d1, d2] => { results := [.lit (.bool true)], args := [d1, d2] }
  | _ => none }
def carvesAsSaidRow : OpenClaim := { program := "ytacbemilicdklaadoor", sum := "0a86759535ebfc78c9cb53607e5066084690a0578c0dc6043fa526d3dac3c51e", func := "tarnfell/tarnlaw2.CarvesAsSaid", spec := "carvesAsSaid", inPlace := ["math.sqrt", "math.Float32bits"], unfollowed := true, recurses := true, named := ["tarnfell/water.directions"], apart := false, laid := [("tarnfell/water.directions", laid_tarnfell_water_directions)] }
def CarvesAsSaidSaid : Prop := carvesAsSaidRow.holds Tryd.pinned (OpenSpec.ofChange carvesAsSaidSpec)

/-- ITS FALSE NEIGHBOUR: 'it returns false'. Refute it at one input. -/
def carvesAsSaidWrong : ChangeSpec := { name := "carvesAsSaid", fn := fun _ => fun
  | [d1, d2] => { results := [.lit (.bool false)], args := [d1, d2] }
  | _ => none }
def CarvesAsSaidWrongFalsely : Prop := carvesAsSaidRow.holds Tryd.pinned (OpenSpec.ofChange carvesAsSaidWrong)

/-- 'tarnlaw2.BreachesAsSaid': WHATEVER THE INPUT: true; the input reads as it did. -/
def breachesAsSaidSpec : ChangeSpec := { name := "breachesAsSaid", fn := fun _ => fun
  | [d1, d2] => { results := [.lit (.bool true)], args := [d1, d2] }
  | _ => none }
def breachesAsSaidRow : OpenClaim := { program := "ytacbemilicdklaadoor", sum := "0a86759535ebfc78c9cb53607e5066084690a0578c0dc6043fa526d3dac3c51e", func := "tarnfell/tarnlaw2.BreachesAsSaid", spec := "breachesAsSaid", inPlace := ["math.sqrt", "math.Float32bits"], unfollowed := true, recurses := true, named := ["tarnfell/water.directions"], apart := false, laid := [("tarnfell/water.directions", laid_tarnfell_water_directions)] }
def BreachesAsSaidSaid : Prop := breachesAsSaidRow.holds Tryd.pinned (OpenSpec.ofChange breachesAsSaidSpec)

/-- ITS FALSE NEIGHBOUR: 'it returns false'. Refute it at one input. -/
def breachesAsSaidWrong : ChangeSpec := { name := "breachesAsSaid", fn := fun _ => fun
  | [d1, d2] => { results := [.lit (.bool false)], args := [d1, d2] }
  | _ => none }
def BreachesAsSaidWrongFalsely : Prop := breachesAsSaidRow.holds Tryd.pinned (OpenSpec.ofChange breachesAsSaidWrong)

/-- 'tarnlaw2.WetMatches': WHATEVER THE INPUT: true; the input reads as it did. -/
def wetMatchesSpec : ChangeSpec := { name := "wetMatches", fn := fun _ => fun
  | [d1, d2] => { results := [.lit (.bool true)], args := [d1, d2] }
  | _ => none }
def wetMatchesRow : OpenClaim := { program := "ytacbemilicdklaadoor", sum := "0a86759535ebfc78c9cb53607e5066084690a0578c0dc6043fa526d3dac3c51e", func := "tarnfell/tarnlaw2.WetMatches", spec := "wetMatches", inPlace := ["math.sqrt", "math.Float32bits"], unfollowed := true, recurses := true, named := ["tarnfell/water.directions"], apart := false, laid := [("tarnfell/water.directions", laid_tarnfell_water_directions)] }
def WetMatchesSaid : Prop := wetMatchesRow.holds Tryd.pinned (OpenSpec.ofChange wetMatchesSpec)

/-- ITS FALSE NEIGHBOUR: 'it returns false'. Refute it at one input. -/
def wetMatchesWrong : ChangeSpec := { name := "wetMatches", fn := fun _ => fun
  | [d1, d2] => { results := [.lit (.bool false)], args := [d1, d2] }
  | _ => none }
def WetMatchesWrongFalsely : Prop := wetMatchesRow.holds Tryd.pinned (OpenSpec.ofChange wetMatchesWrong)

/-- 'tarnlaw2.SnowMatches': WHATEVER THE INPUT: true; the input reads as it did. -/
def snowMatchesSpec : ChangeSpec := { name := "snowMatches", fn := fun _ => fun
  | [d1, d2, d3] => { results := [.lit (.bool true)], args := [d1, d2, d3] }
  | _ => none }
def snowMatchesRow : OpenClaim := { program := "ytacbemilicdklaadoor", sum := "0a86759535ebfc78c9cb53607e5066084690a0578c0dc6043fa526d3dac3c51e", func := "tarnfell/tarnlaw2.SnowMatches", spec := "snowMatches", inPlace := ["math.Float32bits", "math.Float32frombits", "math.archFloor", "math.Float64bits", "math.Float64frombits", "math.archTrunc"], unfollowed := true, recurses := true, named := ["tarnfell/water.directions"], apart := false, laid := [("tarnfell/water.directions", laid_tarnfell_water_directions)] }
def SnowMatchesSaid : Prop := snowMatchesRow.holds Tryd.pinned (OpenSpec.ofChange snowMatchesSpec)

/-- ITS FALSE NEIGHBOUR: 'it returns false'. Refute it at one input. -/
def snowMatchesWrong : ChangeSpec := { name := "snowMatches", fn := fun _ => fun
  | [d1, d2, d3] => { results := [.lit (.bool false)], args := [d1, d2, d3] }
  | _ => none }
def SnowMatchesWrongFalsely : Prop := snowMatchesRow.holds Tryd.pinned (OpenSpec.ofChange snowMatchesWrong)

/-- 'tarnlaw2.ShowersArePlaces': WHATEVER THE INPUT: true; the input reads as it did. -/
def showersArePlacesSpec : ChangeSpec := { name := "showersArePlaces", fn := fun _ => fun
  | [d1, d2, d3] => { results := [.lit (.bool true)], args := [d1, d2, d3] }
  | _ => none }
def showersArePlacesRow : OpenClaim := { program := "ytacbemilicdklaadoor", sum := "0a86759535ebfc78c9cb53607e5066084690a0578c0dc6043fa526d3dac3c51e", func := "tarnfell/tarnlaw2.ShowersArePlaces", spec := "showersArePlaces", unfollowed := true, recurses := true, named := ["tarnfell/water.directions"], apart := false, laid := [("tarnfell/water.directions", laid_tarnfell_water_directions)] }
def ShowersArePlacesSaid : Prop := showersArePlacesRow.holds Tryd.pinned (OpenSpec.ofChange showersArePlacesSpec)

/-- ITS FALSE NEIGHBOUR: 'it returns false'. Refute it at one input. -/
def showersArePlacesWrong : ChangeSpec := { name := "showersArePlaces", fn := fun _ => fun
  | [d1, d2, d3] => { results := [.lit (.bool false)], args := [d1, d2, d3] }
  | _ => none }
def ShowersArePlacesWrongFalsely : Prop := showersArePlacesRow.holds Tryd.pinned (OpenSpec.ofChange showersArePlacesWrong)

/-- 'tarntop.TopDrains': WHATEVER THE INPUT: true; the input reads as it did. -/
def topDrainsSpec : ChangeSpec := { name := "topDrains", fn := fun _ => fun
  | [d1, d2] => { results := [.lit (.bool true)], args := [d1, d2] }
  | _ => none }
def topDrainsRow : OpenClaim := { program := "ytacbemilicdklaadoor", sum := "0a86759535ebfc78c9cb53607e5066084690a0578c0dc6043fa526d3dac3c51e", func := "tarnfell/tarntop.TopDrains", spec := "topDrains", unfollowed := true, recurses := true, named := ["tarnfell/water.directions"], apart := false, laid := [("tarnfell/water.directions", laid_tarnfell_water_directions)] }
def TopDrainsSaid : Prop := topDrainsRow.holds Tryd.pinned (OpenSpec.ofChange topDrainsSpec)

/-- ITS FALSE NEIGHBOUR: 'it returns false'. Refute it at one input. -/
def topDrainsWrong : ChangeSpec := { name := "topDrains", fn := fun _ => fun
  | [d1, d2] => { results := [.lit (.bool false)], args := [d1, d2] }
  | _ => none }
def TopDrainsWrongFalsely : Prop := topDrainsRow.holds Tryd.pinned (OpenSpec.ofChange topDrainsWrong)

/-- 'tarntop.TopFlows': WHATEVER THE INPUT: true; the input reads as it did. -/
def topFlowsSpec : ChangeSpec := { name := "topFlows", fn := fun _ => fun
  | [d1, d2, d3] => { results := [.lit (.bool true)], args := [d1, d2, d3] }
  | _ => none }
def topFlowsRow : OpenClaim := { program := "ytacbemilicdklaadoor", sum := "0a86759535ebfc78c9cb53607e5066084690a0578c0dc6043fa526d3dac3c51e", func := "tarnfell/tarntop.TopFlows", spec := "topFlows", unfollowed := true, recurses := true, named := ["tarnfell/water.directions"], apart := false, laid := [("tarnfell/water.directions", laid_tarnfell_water_directions)] }
def TopFlowsSaid : Prop := topFlowsRow.holds Tryd.pinned (OpenSpec.ofChange topFlowsSpec)

/-- ITS FALSE NEIGHBOUR: 'it returns false'. Refute it at one input. -/
def topFlowsWrong : ChangeSpec := { name := "topFlows", fn := fun _ => fun
  | [d1, d2, d3] => { results := [.lit (.bool false)], args := [d1, d2, d3] }
  | _ => none }
def TopFlowsWrongFalsely : Prop := topFlowsRow.holds Tryd.pinned (OpenSpec.ofChange topFlowsWrong)

/-- 'tarntop.TopCarves': WHATEVER THE INPUT: true; the input reads as it did. -/
def topCarvesSpec : ChangeSpec := { name := "topCarves", fn := fun _ => fun
  | [d1, d2] => { results := [.lit (.bool true)], args := [d1, d2] }
  | _ => none }
def topCarvesRow : OpenClaim := { program := "ytacbemilicdklaadoor", sum := "0a86759535ebfc78c9cb53607e5066084690a0578c0dc6043fa526d3dac3c51e", func := "tarnfell/tarntop.TopCarves", spec := "topCarves", inPlace := ["math.sqrt"], unfollowed := true, recurses := true, named := ["tarnfell/water.directions"], apart := false, laid := [("tarnfell/water.directions", laid_tarnfell_water_directions)] }
def TopCarvesSaid : Prop := topCarvesRow.holds Tryd.pinned (OpenSpec.ofChange topCarvesSpec)

/-- ITS FALSE NEIGHBOUR: 'it returns false'. Refute it at one input. -/
def topCarvesWrong : ChangeSpec := { name := "topCarves", fn := fun _ => fun
  | [d1, d2] => { results := [.lit (.bool false)], args := [d1, d2] }
  | _ => none }
def TopCarvesWrongFalsely : Prop := topCarvesRow.holds Tryd.pinned (OpenSpec.ofChange topCarvesWrong)

/- THE SECOND FORM. 'bulk': how many values and letters a reading holds, each counted each time it is reached (what is shared counts as often as it is met; a slice's spare places count too). A statement '..UptoSaid' is the law's where the arguments, and the package variables that the reading takes, are together of bulk at most 1048576: NARROWER than '..Said'. Prove '..Said' where nothing that the law and all that it calls make is longer than what came in: it says more and counts as full. Else prove '..UptoSaid'. A law counts once. -/
mutual
def uptoBulk {H : Type} : DataW H → Nat
  | .lit (.string bytes) => bytes.length + 1
  | .lit _ => 1
  | .nil => 1
  | .ptr d => uptoBulk d + 1
  | .slice elems spare => uptoBulkAll elems + uptoBulkAll spare + 1
  | .agg parts => uptoBulkAll parts + 1
  | .iface _ d => uptoBulk d + 1
  | .map entries => uptoBulkEntries entries + 1
  | .held _ => 1
def uptoBulkAll {H : Type} : List (DataW H) → Nat
  | [] => 0
  | d :: r => uptoBulk d + uptoBulkAll r
def uptoBulkEntries {H : Type} : List (Lit × DataW H) → Nat
  | [] => 0
  | x :: r => uptoBulkEntry x + uptoBulkEntries r
def uptoBulkEntry {H : Type} : Lit × DataW H → Nat
  | (.string bytes, d) => bytes.length + uptoBulk d + 1
  | (_, d) => uptoBulk d + 1
 end
def uptoSmall : (H : Type) → List (DataW H) → Bool := fun _ ds => decide (uptoBulkAll ds ≤ 1048576)
def OpenSpec.upto (s : _root_.Go.ChangeSpec) : _root_.Go.OpenSpec := { _root_.Go.OpenSpec.ofChange s with cond := some uptoSmall }

/-- 'tarnlaw2.FilledIsLeast', WHERE WHAT IT READS IS OF BULK AT MOST 1048576: true; the input reads as it did. -/
def filledIsLeastUptoRow : OpenClaim := { program := "ytacbemilicdklaadoor", sum := "0a86759535ebfc78c9cb53607e5066084690a0578c0dc6043fa526d3dac3c51e", func := "tarnfell/tarnlaw2.FilledIsLeast", spec := "filledIsLeast", unfollowed := true, recurses := true, named := ["tarnfell/water.directions"], apart := false, laid := [("tarnfell/water.directions", laid_tarnfell_water_directions)], narrowed := true }
def FilledIsLeastUptoSaid : Prop := filledIsLeastUptoRow.holds Tryd.pinned (OpenSpec.upto filledIsLeastSpec)

/-- 'tarnlaw2.DrainsAsSaid', WHERE WHAT IT READS IS OF BULK AT MOST 1048576: true; the input reads as it did. -/
def drainsAsSaidUptoRow : OpenClaim := { program := "ytacbemilicdklaadoor", sum := "0a86759535ebfc78c9cb53607e5066084690a0578c0dc6043fa526d3dac3c51e", func := "tarnfell/tarnlaw2.DrainsAsSaid", spec := "drainsAsSaid", inPlace := ["math.sqrt"], unfollowed := true, recurses := true, named := ["tarnfell/water.directions"], apart := false, laid := [("tarnfell/water.directions", laid_tarnfell_water_directions)], narrowed := true }
def DrainsAsSaidUptoSaid : Prop := drainsAsSaidUptoRow.holds Tryd.pinned (OpenSpec.upto drainsAsSaidSpec)

/-- 'tarnlaw2.DirsMatch', WHERE WHAT IT READS IS OF BULK AT MOST 1048576: true; the input reads as it did. -/
def dirsMatchUptoRow : OpenClaim := { program := "ytacbemilicdklaadoor", sum := "0a86759535ebfc78c9cb53607e5066084690a0578c0dc6043fa526d3dac3c51e", func := "tarnfell/tarnlaw2.DirsMatch", spec := "dirsMatch", inPlace := ["math.sqrt", "math.Float32bits"], unfollowed := true, recurses := true, named := ["tarnfell/water.directions"], apart := false, laid := [("tarnfell/water.directions", laid_tarnfell_water_directions)], narrowed := true }
def DirsMatchUptoSaid : Prop := dirsMatchUptoRow.holds Tryd.pinned (OpenSpec.upto dirsMatchSpec)

/-- 'tarnlaw2.DepthMatches', WHERE WHAT IT READS IS OF BULK AT MOST 1048576: true; the input reads as it did. -/
def depthMatchesUptoRow : OpenClaim := { program := "ytacbemilicdklaadoor", sum := "0a86759535ebfc78c9cb53607e5066084690a0578c0dc6043fa526d3dac3c51e", func := "tarnfell/tarnlaw2.DepthMatches", spec := "depthMatches", inPlace := ["math.sqrt", "math.Float32bits"], unfollowed := true, recurses := true, named := ["tarnfell/water.directions"], apart := false, laid := [("tarnfell/water.directions", laid_tarnfell_water_directions)], narrowed := true }
def DepthMatchesUptoSaid : Prop := depthMatchesUptoRow.holds Tryd.pinned (OpenSpec.upto depthMatchesSpec)

/-- 'tarnlaw2.CarvesAsSaid', WHERE WHAT IT READS IS OF BULK AT MOST 1048576: true; the input reads as it did. -/
def carvesAsSaidUptoRow : OpenClaim := { program := "ytacbemilicdklaadoor", sum := "0a86759535ebfc78c9cb53607e5066084690a0578c0dc6043fa526d3dac3c51e", func := "tarnfell/tarnlaw2.CarvesAsSaid", spec := "carvesAsSaid", inPlace := ["math.sqrt", "math.Float32bits"], unfollowed := true, recurses := true, named := ["tarnfell/water.directions"], apart := false, laid := [("tarnfell/water.directions", laid_tarnfell_water_directions)], narrowed := true }
def CarvesAsSaidUptoSaid : Prop := carvesAsSaidUptoRow.holds Tryd.pinned (OpenSpec.upto carvesAsSaidSpec)

/-- 'tarnlaw2.BreachesAsSaid', WHERE WHAT IT READS IS OF BULK AT MOST 1048576: true; the input reads as it did. -/
def breachesAsSaidUptoRow : OpenClaim := { program := "ytacbemilicdklaadoor", sum := "0a86759535ebfc78c9cb53607e5066084690a0578c0dc6043fa526d3dac3c51e", func := "tarnfell/tarnlaw2.BreachesAsSaid", spec := "breachesAsSaid", inPlace := ["math.sqrt", "math.Float32bits"], unfollowed := true, recurses := true, named := ["tarnfell/water.directions"], apart := false, laid := [("tarnfell/water.directions", laid_tarnfell_water_directions)], narrowed := true }
def BreachesAsSaidUptoSaid : Prop := breachesAsSaidUptoRow.holds Tryd.pinned (OpenSpec.upto breachesAsSaidSpec)

/-- 'tarnlaw2.WetMatches', WHERE WHAT IT READS IS OF BULK AT MOST 1048576: true; the input reads as it did. -/
def wetMatchesUptoRow : OpenClaim := { program := "ytacbemilicdklaadoor", sum := "0a86759535ebfc78c9cb53607e5066084690a0578c0dc6043fa526d3dac3c51e", func := "tarnfell/tarnlaw2.WetMatches", spec := "wetMatches", inPlace := ["math.sqrt", "math.Float32bits"], unfollowed := true, recurses := true, named := ["tarnfell/water.directions"], apart := false, laid := [("tarnfell/water.directions", laid_tarnfell_water_directions)], narrowed := true }
def WetMatchesUptoSaid : Prop := wetMatchesUptoRow.holds Tryd.pinned (OpenSpec.upto wetMatchesSpec)

/-- 'tarnlaw2.SnowMatches', WHERE WHAT IT READS IS OF BULK AT MOST 1048576: true; the input reads as it did. -/
def snowMatchesUptoRow : OpenClaim := { program := "ytacbemilicdklaadoor", sum := "0a86759535ebfc78c9cb53607e5066084690a0578c0dc6043fa526d3dac3c51e", func := "tarnfell/tarnlaw2.SnowMatches", spec := "snowMatches", inPlace := ["math.Float32bits", "math.Float32frombits", "math.archFloor", "math.Float64bits", "math.Float64frombits", "math.archTrunc"], unfollowed := true, recurses := true, named := ["tarnfell/water.directions"], apart := false, laid := [("tarnfell/water.directions", laid_tarnfell_water_directions)], narrowed := true }
def SnowMatchesUptoSaid : Prop := snowMatchesUptoRow.holds Tryd.pinned (OpenSpec.upto snowMatchesSpec)

/-- 'tarnlaw2.ShowersArePlaces', WHERE WHAT IT READS IS OF BULK AT MOST 1048576: true; the input reads as it did. -/
def showersArePlacesUptoRow : OpenClaim := { program := "ytacbemilicdklaadoor", sum := "0a86759535ebfc78c9cb53607e5066084690a0578c0dc6043fa526d3dac3c51e", func := "tarnfell/tarnlaw2.ShowersArePlaces", spec := "showersArePlaces", unfollowed := true, recurses := true, named := ["tarnfell/water.directions"], apart := false, laid := [("tarnfell/water.directions", laid_tarnfell_water_directions)], narrowed := true }
def ShowersArePlacesUptoSaid : Prop := showersArePlacesUptoRow.holds Tryd.pinned (OpenSpec.upto showersArePlacesSpec)

/-- 'tarntop.TopDrains', WHERE WHAT IT READS IS OF BULK AT MOST 1048576: true; the input reads as it did. -/
def topDrainsUptoRow : OpenClaim := { program := "ytacbemilicdklaadoor", sum := "0a86759535ebfc78c9cb53607e5066084690a0578c0dc6043fa526d3dac3c51e", func := "tarnfell/tarntop.TopDrains", spec := "topDrains", unfollowed := true, recurses := true, named := ["tarnfell/water.directions"], apart := false, laid := [("tarnfell/water.directions", laid_tarnfell_water_directions)], narrowed := true }
def TopDrainsUptoSaid : Prop := topDrainsUptoRow.holds Tryd.pinned (OpenSpec.upto topDrainsSpec)

/-- 'tarntop.TopFlows', WHERE WHAT IT READS IS OF BULK AT MOST 1048576: true; the input reads as it did. -/
def topFlowsUptoRow : OpenClaim := { program := "ytacbemilicdklaadoor", sum := "0a86759535ebfc78c9cb53607e5066084690a0578c0dc6043fa526d3dac3c51e", func := "tarnfell/tarntop.TopFlows", spec := "topFlows", unfollowed := true, recurses := true, named := ["tarnfell/water.directions"], apart := false, laid := [("tarnfell/water.directions", laid_tarnfell_water_directions)], narrowed := true }
def TopFlowsUptoSaid : Prop := topFlowsUptoRow.holds Tryd.pinned (OpenSpec.upto topFlowsSpec)

/-- 'tarntop.TopCarves', WHERE WHAT IT READS IS OF BULK AT MOST 1048576: true; the input reads as it did. -/
def topCarvesUptoRow : OpenClaim := { program := "ytacbemilicdklaadoor", sum := "0a86759535ebfc78c9cb53607e5066084690a0578c0dc6043fa526d3dac3c51e", func := "tarnfell/tarntop.TopCarves", spec := "topCarves", inPlace := ["math.sqrt"], unfollowed := true, recurses := true, named := ["tarnfell/water.directions"], apart := false, laid := [("tarnfell/water.directions", laid_tarnfell_water_directions)], narrowed := true }
def TopCarvesUptoSaid : Prop := topCarvesUptoRow.holds Tryd.pinned (OpenSpec.upto topCarvesSpec)

end Rows
end Go.Proofs.YtacbemilicdklaaDoor
