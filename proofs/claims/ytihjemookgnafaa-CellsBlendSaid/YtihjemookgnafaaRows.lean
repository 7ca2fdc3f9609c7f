/-
  No cell of these rows narrows 'for every input' (looked for: loops, veiled, ifaces, maps, wideKeys, modest, calm, conditions, laid).
  DERIVED. THE GIVEN ROWS OF THIS SEAT. 11 by the template 'for every input the law returns true; each argument reads behind the call as it read before'; 0 by the template 'total and deterministic' (their statements: YtihjemookgnafaaTotals.lean).
  GIVEN WITH THE SEED: the statements are not yours to turn. If you find one false, say at which input.
  Laid BY PROGRAM, IN A SANDBOX (cutbox-rows.mjs): the forced cells as the released guide's own fill.sh prints them over the translation ba831f8447ecd733… (all of the seat's roots in one cut). By AI agents, Wed Nov 11 2026. No macro, syntax, notation, axiom, sorry.
-/
import Derived.Test.YtihjemookgnafaaChecked
import GoSem.Claim
import GoSem.ClaimJoined
import GoSem.ClaimMapViews
import Derived.JoinedTies
import Derived.KernelRfl
namespace Go.Proofs.Ytihjemookgnafaa
/- THE CELL 'sum', in the pinned program and in every row, IS THE sha256 OF THE DUMP (.gsa) THAT YtihjemookgnafaaProg.lean LOADS. Nothing in Lean hashes anything: it is a label: what it is worth is what the hold of that sum in a sandbox is worth. -/
noncomputable def Try.pinned : Pinned := { name := "ytihjemookgnafaa", sum := "ba831f8447ecd733af365721e5cd11e0523122d8af56b6912f4e9d55b585bfe6", checked := Try.checked }
namespace Rows
def none {H : Type} : Left H := { results := [], args := [] }

/-- 'tarnlaw1.RegionsMatch': WHATEVER THE INPUT: true; the input reads as it did. -/
def regionsMatchSpec : ChangeSpec := { name := "regionsMatch", fn := fun _ => fun
  | [d1, d2, d3] => { results := [.lit (.bool true)], args := [d1, d2, d3] }
  | _ => none }
def regionsMatchRow : OpenClaim := { program := "ytihjemookgnafaa", sum := "ba831f8447ecd733af365721e5cd11e0523122d8af56b6912f4e9d55b585bfe6", func := "tarnfell/tarnlaw1.RegionsMatch", spec := "regionsMatch", unfollowed := true, recurses := true, apart := false }
def RegionsMatchSaid : Prop := regionsMatchRow.holds Try.pinned (OpenSpec.ofChange regionsMatchSpec)

/-- ITS FALSE NEIGHBOUR: 'it returns false'. Refute it at one input. -/
def regionsMatchWrong : ChangeSpec := { name := "regionsMatch", fn := fun _ => fun
  | [d1, d2, d3] => { results := [.lit (.bool false)], args := [d1, d2, d3] }
  | _ => none }
def RegionsMatchWrongFalsely : Prop := regionsMatchRow.holds Try.pinned (OpenSpec.ofChange regionsMatchWrong)

/-- 'tarnlaw1.FieldsAreCut': WHATEVER THE INPUT: true; the input reads as it did. -/
def fieldsAreCutSpec : ChangeSpec := { name := "fieldsAreCut", fn := fun _ => fun
  | [d1, d2, d3, d4] => { results := [.lit (.bool true)], args := [d1, d2, d3, d4] }
  | _ => none }
def fieldsAreCutRow : OpenClaim := { program := "ytihjemookgnafaa", sum := "ba831f8447ecd733af365721e5cd11e0523122d8af56b6912f4e9d55b585bfe6", func := "tarnfell/tarnlaw1.FieldsAreCut", spec := "fieldsAreCut", inPlace := ["math.Float64bits", "math.Float64frombits", "math.Float32bits", "math.Float32frombits"], unfollowed := true, recurses := true, apart := false }
def FieldsAreCutSaid : Prop := fieldsAreCutRow.holds Try.pinned (OpenSpec.ofChange fieldsAreCutSpec)

/-- ITS FALSE NEIGHBOUR: 'it returns false'. Refute it at one input. -/
def fieldsAreCutWrong : ChangeSpec := { name := "fieldsAreCut", fn := fun _ => fun
  | [d1, d2, d3, d4] => { results := [.lit (.bool false)], args := [d1, d2, d3, d4] }
  | _ => none }
def FieldsAreCutWrongFalsely : Prop := fieldsAreCutRow.holds Try.pinned (OpenSpec.ofChange fieldsAreCutWrong)

/-- 'tarnlaw1.CellsScale': WHATEVER THE INPUT: true; the input reads as it did. -/
def cellsScaleSpec : ChangeSpec := { name := "cellsScale", fn := fun _ => fun
  | [d1, d2, d3] => { results := [.lit (.bool true)], args := [d1, d2, d3] }
  | _ => none }
def cellsScaleRow : OpenClaim := { program := "ytihjemookgnafaa", sum := "ba831f8447ecd733af365721e5cd11e0523122d8af56b6912f4e9d55b585bfe6", func := "tarnfell/tarnlaw1.CellsScale", spec := "cellsScale", inPlace := ["math.Float64bits", "math.Float64frombits", "math.Float32bits", "math.Float32frombits"], unfollowed := true, recurses := true, apart := false }
def CellsScaleSaid : Prop := cellsScaleRow.holds Try.pinned (OpenSpec.ofChange cellsScaleSpec)

/-- ITS FALSE NEIGHBOUR: 'it returns false'. Refute it at one input. -/
def cellsScaleWrong : ChangeSpec := { name := "cellsScale", fn := fun _ => fun
  | [d1, d2, d3] => { results := [.lit (.bool false)], args := [d1, d2, d3] }
  | _ => none }
def CellsScaleWrongFalsely : Prop := cellsScaleRow.holds Try.pinned (OpenSpec.ofChange cellsScaleWrong)

/-- 'tarnlaw1.CellsBlend': WHATEVER THE INPUT: true; the input reads as it did. -/
def cellsBlendSpec : ChangeSpec := { name := "cellsBlend", fn := fun _ => fun
  | [d1, d2, d3] => { results := [.lit (.bool true)], args := [d1, d2, d3] }
  | _ => none }
def cellsBlendRow : OpenClaim := { program := "ytihjemookgnafaa", sum := "ba831f8447ecd733af365721e5cd11e0523122d8af56b6912f4e9d55b585bfe6", func := "tarnfell/tarnlaw1.CellsBlend", spec := "cellsBlend", inPlace := ["math.Float64bits", "math.Float64frombits", "math.Float32bits", "math.Float32frombits"], unfollowed := true, recurses := true, apart := false }
def CellsBlendSaid : Prop := cellsBlendRow.holds Try.pinned (OpenSpec.ofChange cellsBlendSpec)

/-- ITS FALSE NEIGHBOUR: 'it returns false'. Refute it at one input. -/
def cellsBlendWrong : ChangeSpec := { name := "cellsBlend", fn := fun _ => fun
  | [d1, d2, d3] => { results := [.lit (.bool false)], args := [d1, d2, d3] }
  | _ => none }
def CellsBlendWrongFalsely : Prop := cellsBlendRow.holds Try.pinned (OpenSpec.ofChange cellsBlendWrong)

/-- 'tarnlaw1.BetweenCells': WHATEVER THE INPUT: true; the input reads as it did. -/
def betweenCellsSpec : ChangeSpec := { name := "betweenCells", fn := fun _ => fun
  | [d1, d2, d3] => { results := [.lit (.bool true)], args := [d1, d2, d3] }
  | _ => none }
def betweenCellsRow : OpenClaim := { program := "ytihjemookgnafaa", sum := "ba831f8447ecd733af365721e5cd11e0523122d8af56b6912f4e9d55b585bfe6", func := "tarnfell/tarnlaw1.BetweenCells", spec := "betweenCells", inPlace := ["math.Float64bits", "math.Float64frombits", "math.Float32bits", "math.Float32frombits", "math.archFloor", "math.archTrunc"], unfollowed := true, recurses := true, apart := false }
def BetweenCellsSaid : Prop := betweenCellsRow.holds Try.pinned (OpenSpec.ofChange betweenCellsSpec)

/-- ITS FALSE NEIGHBOUR: 'it returns false'. Refute it at one input. -/
def betweenCellsWrong : ChangeSpec := { name := "betweenCells", fn := fun _ => fun
  | [d1, d2, d3] => { results := [.lit (.bool false)], args := [d1, d2, d3] }
  | _ => none }
def BetweenCellsWrongFalsely : Prop := betweenCellsRow.holds Try.pinned (OpenSpec.ofChange betweenCellsWrong)

/-- 'tarnlaw1.FieldsResample': WHATEVER THE INPUT: true; the input reads as it did. -/
def fieldsResampleSpec : ChangeSpec := { name := "fieldsResample", fn := fun _ => fun
  | [d1, d2, d3, d4] => { results := [.lit (.bool true)], args := [d1, d2, d3, d4] }
  | _ => none }
def fieldsResampleRow : OpenClaim := { program := "ytihjemookgnafaa", sum := "ba831f8447ecd733af365721e5cd11e0523122d8af56b6912f4e9d55b585bfe6", func := "tarnfell/tarnlaw1.FieldsResample", spec := "fieldsResample", inPlace := ["math.Float64bits", "math.Float64frombits", "math.Float32bits", "math.Float32frombits"], unfollowed := true, recurses := true, apart := false }
def FieldsResampleSaid : Prop := fieldsResampleRow.holds Try.pinned (OpenSpec.ofChange fieldsResampleSpec)

/-- ITS FALSE NEIGHBOUR: 'it returns false'. Refute it at one input. -/
def fieldsResampleWrong : ChangeSpec := { name := "fieldsResample", fn := fun _ => fun
  | [d1, d2, d3, d4] => { results := [.lit (.bool false)], args := [d1, d2, d3, d4] }
  | _ => none }
def FieldsResampleWrongFalsely : Prop := fieldsResampleRow.holds Try.pinned (OpenSpec.ofChange fieldsResampleWrong)

/-- 'tarnlaw1.HashesMatch': WHATEVER THE INPUT: true; the input reads as it did. -/
def hashesMatchSpec : ChangeSpec := { name := "hashesMatch", fn := fun _ => fun
  | [d1, d2, d3, d4, d5] => { results := [.lit (.bool true)], args := [d1, d2, d3, d4, d5] }
  | _ => none }
def hashesMatchRow : OpenClaim := { program := "ytihjemookgnafaa", sum := "ba831f8447ecd733af365721e5cd11e0523122d8af56b6912f4e9d55b585bfe6", func := "tarnfell/tarnlaw1.HashesMatch", spec := "hashesMatch", inPlace := ["math.Float32bits"], apart := false }
def HashesMatchSaid : Prop := hashesMatchRow.holds Try.pinned (OpenSpec.ofChange hashesMatchSpec)

/-- ITS FALSE NEIGHBOUR: 'it returns false'. Refute it at one input. -/
def hashesMatchWrong : ChangeSpec := { name := "hashesMatch", fn := fun _ => fun
  | [d1, d2, d3, d4, d5] => { results := [.lit (.bool false)], args := [d1, d2, d3, d4, d5] }
  | _ => none }
def HashesMatchWrongFalsely : Prop := hashesMatchRow.holds Try.pinned (OpenSpec.ofChange hashesMatchWrong)

/-- 'tarnlaw1.EaseMatches': WHATEVER THE INPUT: true; the input reads as it did. -/
def easeMatchesSpec : ChangeSpec := { name := "easeMatches", fn := fun _ => fun
  | [d] => { results := [.lit (.bool true)], args := [d] }
  | _ => none }
def easeMatchesRow : OpenClaim := { program := "ytihjemookgnafaa", sum := "ba831f8447ecd733af365721e5cd11e0523122d8af56b6912f4e9d55b585bfe6", func := "tarnfell/tarnlaw1.EaseMatches", spec := "easeMatches", inPlace := ["math.Float64bits", "math.Float64frombits", "math.Float32bits", "math.Float32frombits"], apart := false }
def EaseMatchesSaid : Prop := easeMatchesRow.holds Try.pinned (OpenSpec.ofChange easeMatchesSpec)

/-- ITS FALSE NEIGHBOUR: 'it returns false'. Refute it at one input. -/
def easeMatchesWrong : ChangeSpec := { name := "easeMatches", fn := fun _ => fun
  | [d] => { results := [.lit (.bool false)], args := [d] }
  | _ => none }
def EaseMatchesWrongFalsely : Prop := easeMatchesRow.holds Try.pinned (OpenSpec.ofChange easeMatchesWrong)

/-- 'tarnlaw1.StreamsMatch': WHATEVER THE INPUT: true; the input reads as it did. -/
def streamsMatchSpec : ChangeSpec := { name := "streamsMatch", fn := fun _ => fun
  | [d1, d2, d3, d4] => { results := [.lit (.bool true)], args := [d1, d2, d3, d4] }
  | _ => none }
def streamsMatchRow : OpenClaim := { program := "ytihjemookgnafaa", sum := "ba831f8447ecd733af365721e5cd11e0523122d8af56b6912f4e9d55b585bfe6", func := "tarnfell/tarnlaw1.StreamsMatch", spec := "streamsMatch", inPlace := ["math.Float32bits"], apart := false }
def StreamsMatchSaid : Prop := streamsMatchRow.holds Try.pinned (OpenSpec.ofChange streamsMatchSpec)

/-- ITS FALSE NEIGHBOUR: 'it returns false'. Refute it at one input. -/
def streamsMatchWrong : ChangeSpec := { name := "streamsMatch", fn := fun _ => fun
  | [d1, d2, d3, d4] => { results := [.lit (.bool false)], args := [d1, d2, d3, d4] }
  | _ => none }
def StreamsMatchWrongFalsely : Prop := streamsMatchRow.holds Try.pinned (OpenSpec.ofChange streamsMatchWrong)

/-- 'tarnlaw1.DithersMatch': WHATEVER THE INPUT: true; the input reads as it did. -/
def dithersMatchSpec : ChangeSpec := { name := "dithersMatch", fn := fun _ => fun
  | [d1, d2, d3] => { results := [.lit (.bool true)], args := [d1, d2, d3] }
  | _ => none }
def dithersMatchRow : OpenClaim := { program := "ytihjemookgnafaa", sum := "ba831f8447ecd733af365721e5cd11e0523122d8af56b6912f4e9d55b585bfe6", func := "tarnfell/tarnlaw1.DithersMatch", spec := "dithersMatch", inPlace := ["math.Float64bits", "math.Float64frombits", "math.Float32bits", "math.Float32frombits", "math.archFloor", "math.archTrunc"], unfollowed := true, recurses := true, apart := false }
def DithersMatchSaid : Prop := dithersMatchRow.holds Try.pinned (OpenSpec.ofChange dithersMatchSpec)

/-- ITS FALSE NEIGHBOUR: 'it returns false'. Refute it at one input. -/
def dithersMatchWrong : ChangeSpec := { name := "dithersMatch", fn := fun _ => fun
  | [d1, d2, d3] => { results := [.lit (.bool false)], args := [d1, d2, d3] }
  | _ => none }
def DithersMatchWrongFalsely : Prop := dithersMatchRow.holds Try.pinned (OpenSpec.ofChange dithersMatchWrong)

/-- 'tarnlaw1.TilesMatch': WHATEVER THE INPUT: true; the input reads as it did. -/
def tilesMatchSpec : ChangeSpec := { name := "tilesMatch", fn := fun _ => fun
  | [d1, d2, d3, d4] => { results := [.lit (.bool true)], args := [d1, d2, d3, d4] }
  | _ => none }
def tilesMatchRow : OpenClaim := { program := "ytihjemookgnafaa", sum := "ba831f8447ecd733af365721e5cd11e0523122d8af56b6912f4e9d55b585bfe6", func := "tarnfell/tarnlaw1.TilesMatch", spec := "tilesMatch", apart := false }
def TilesMatchSaid : Prop := tilesMatchRow.holds Try.pinned (OpenSpec.ofChange tilesMatchSpec)

/-- ITS FALSE NEIGHBOUR: 'it returns false'. Refute it at one input. -/
def tilesMatchWrong : ChangeSpec := { name := "tilesMatch", fn := fun _ => fun
  | [d1, d2, d3, d4] => { results := [.lit (.bool false)], args := [d1, d2, d3, d4] }
  | _ => none }
def TilesMatchWrongFalsely : Prop := tilesMatchRow.holds Try.pinned (OpenSpec.ofChange tilesMatchWrong)

/- THE SECOND FORM. 'bulk': how many values and letters a reading holds, each counted each time it is reached (what is shared counts as often as it is met; a slice's spare places count too). A statement '..UptoSaid' is the law's where the arguments, and the package variables that the reading takes, are together of bulk at most 1048576: NARROWER than '..Said'. Prove '..Said' where nothing that the law and all that it calls make is longer than what came in: it says more and counts as full. Else prove '..UptoSaid'. A law counts once. -/
mutual
def uptoBulk {H : Type} : DataW H → Nat
  | .lit (.string bytes) => bytes.length + 1
  | .lit _ => 1
  | .nil => 1
  | .ptr d => uptoBulk d + 1
  | .slice elems spare => uptoBulkAll elems + uptoBulkAll spare + 1
  | .agg parts => uptoBulkAll parts + 1
  | .iface _ d => uptoBulk d + 1
  | .map entries => uptoBulkEntries entries + 1
  | .held _ => 1
def uptoBulkAll {H : Type} : List (DataW H) → Nat
  | [] => 0
  | d :: r => uptoBulk d + uptoBulkAll r
def uptoBulkEntries {H : Type} : List (Lit × DataW H) → Nat
  | [] => 0
  | x :: r => uptoBulkEntry x + uptoBulkEntries r
def uptoBulkEntry {H : Type} : Lit × DataW H → Nat
  | (.string bytes, d) => bytes.length + uptoBulk d + 1
  | (_, d) => uptoBulk d + 1
 end
def uptoSmall : (H : Type) → List (DataW H) → Bool := fun _ ds => decide (uptoBulkAll ds ≤ 1048576)
def OpenSpec.upto (s : _root_.Go.ChangeSpec) : _root_.Go.OpenSpec := { _root_.Go.OpenSpec.ofChange s with cond := some uptoSmall }

/-- 'tarnlaw1.RegionsMatch', WHERE WHAT IT READS IS OF BULK AT MOST 1048576: true; the input reads as it did. -/
def regionsMatchUptoRow : OpenClaim := { program := "ytihjemookgnafaa", sum := "ba831f8447ecd733af365721e5cd11e0523122d8af56b6912f4e9d55b585bfe6", func := "tarnfell/tarnlaw1.RegionsMatch", spec := "regionsMatch", unfollowed := true, recurses := true, apart := false, narrowed := true }
def RegionsMatchUptoSaid : Prop := regionsMatchUptoRow.holds Try.pinned (OpenSpec.upto regionsMatchSpec)

/-- 'tarnlaw1.FieldsAreCut', WHERE WHAT IT READS IS OF BULK AT MOST 1048576: true; the input reads as it did. -/
def fieldsAreCutUptoRow : OpenClaim := { program := "ytihjemookgnafaa", sum := "ba831f8447ecd733af365721e5cd11e0523122d8af56b6912f4e9d55b585bfe6", func := "tarnfell/tarnlaw1.FieldsAreCut", spec := "fieldsAreCut", inPlace := ["math.Float64bits", "math.Float64frombits", "math.Float32bits", "math.Float32frombits"], unfollowed := true, recurses := true, apart := false, narrowed := true }
def FieldsAreCutUptoSaid : Prop := fieldsAreCutUptoRow.holds Try.pinned (OpenSpec.upto fieldsAreCutSpec)

/-- 'tarnlaw1.CellsScale', WHERE WHAT IT READS IS OF BULK AT MOST 1048576: true; the input reads as it did. -/
def cellsScaleUptoRow : OpenClaim := { program := "ytihjemookgnafaa", sum := "ba831f8447ecd733af365721e5cd11e0523122d8af56b6912f4e9d55b585bfe6", func := "tarnfell/tarnlaw1.CellsScale", spec := "cellsScale", inPlace := ["math.Float64bits", "math.Float64frombits", "math.Float32bits", "math.Float32frombits"], unfollowed := true, recurses := true, apart := false, narrowed := true }
def CellsScaleUptoSaid : Prop := cellsScaleUptoRow.holds Try.pinned (OpenSpec.upto cellsScaleSpec)

/-- 'tarnlaw1.CellsBlend', WHERE WHAT IT READS IS OF BULK AT MOST 1048576: true; the input reads as it did. -/
def cellsBlendUptoRow : OpenClaim := { program := "ytihjemookgnafaa", sum := "ba831f8447ecd733af365721e5cd11e0523122d8af56b6912f4e9d55b585bfe6", func := "tarnfell/tarnlaw1.CellsBlend", spec := "cellsBlend", inPlace := ["math.Float64bits", "math.Float64frombits", "math.Float32bits", "math.Float32frombits"], unfollowed := true, recurses := true, apart := false, narrowed := true }
def CellsBlendUptoSaid : Prop := cellsBlendUptoRow.holds Try.pinned (OpenSpec.upto cellsBlendSpec)

/-- 'tarnlaw1.BetweenCells', WHERE WHAT IT READS IS OF BULK AT MOST 1048576: true; the input reads as it did. -/
def betweenCellsUptoRow : OpenClaim := { program := "ytihjemookgnafaa", sum := "ba831f8447ecd733af365721e5cd11e0523122d8af56b6912f4e9d55b585bfe6", func := "tarnfell/tarnlaw1.BetweenCells", spec := "betweenCells", inPlace := ["math.Float64bits", "math.Float64frombits", "math.Float32bits", "math.Float32frombits", "math.archFloor", "math.archTrunc"], unfollowed := true, recurses := true, apart := false, narrowed := true }
def BetweenCellsUptoSaid : Prop := betweenCellsUptoRow.holds Try.pinned (OpenSpec.upto betweenCellsSpec)

/-- 'tarnlaw1.FieldsResample', WHERE WHAT IT READS IS OF BULK AT MOST 1048576: true; the input reads as it did. -/
def fieldsResampleUptoRow : OpenClaim := { program := "ytihjemookgnafaa", sum := "ba831f8447ecd733af365721e5cd11e0523122d8af56b6912f4e9d55b585bfe6", func := "tarnfell/tarnlaw1.FieldsResample", spec := "fieldsResample", inPlace := ["math.Float64bits", "math.Float64frombits", "math.Float32bits", "math.Float32frombits"], unfollowed := true, recurses := true, apart := false, narrowed := true }
def FieldsResampleUptoSaid : Prop := fieldsResampleUptoRow.holds Try.pinned (OpenSpec.upto fieldsResampleSpec)

/-- 'tarnlaw1.HashesMatch', WHERE WHAT IT READS IS OF BULK AT MOST 1048576: true; the input reads as it did. -/
def hashesMatchUptoRow : OpenClaim := { program := "ytihjemookgnafaa", sum := "ba831f8447ecd733af365721e5cd11e0523122d8af56b6912f4e9d55b585bfe6", func := "tarnfell/tarnlaw1.HashesMatch", spec := "hashesMatch", inPlace := ["math.Float32bits"], apart := false, narrowed := true }
def HashesMatchUptoSaid : Prop := hashesMatchUptoRow.holds Try.pinned (OpenSpec.upto hashesMatchSpec)

/-- 'tarnlaw1.EaseMatches', WHERE WHAT IT READS IS OF BULK AT MOST 1048576: true; the input reads as it did. -/
def easeMatchesUptoRow : OpenClaim := { program := "ytihjemookgnafaa", sum := "ba831f8447ecd733af365721e5cd11e0523122d8af56b6912f4e9d55b585bfe6", func := "tarnfell/tarnlaw1.EaseMatches", spec := "easeMatches", inPlace := ["math.Float64bits", "math.Float64frombits", "math.Float32bits", "math.Float32frombits"], apart := false, narrowed := true }
def EaseMatchesUptoSaid : Prop := easeMatchesUptoRow.holds Try.pinned (OpenSpec.upto easeMatchesSpec)

/-- 'tarnlaw1.StreamsMatch', WHERE WHAT IT READS IS OF BULK AT MOST 1048576: true; the input reads as it did. -/
def streamsMatchUptoRow : OpenClaim := { program := "ytihjemookgnafaa", sum := "ba831f8447ecd733af365721e5cd11e0523122d8af56b6912f4e9d55b585bfe6", func := "tarnfell/tarnlaw1.StreamsMatch", spec := "streamsMatch", inPlace := ["math.Float32bits"], apart := false, narrowed := true }
def StreamsMatchUptoSaid : Prop := streamsMatchUptoRow.holds Try.pinned (OpenSpec.upto streamsMatchSpec)

/-- 'tarnlaw1.DithersMatch', WHERE WHAT IT READS IS OF BULK AT MOST 1048576: true; the input reads as it did. -/
def dithersMatchUptoRow : OpenClaim := { program := "ytihjemookgnafaa", sum := "ba831f8447ecd733af365721e5cd11e0523122d8af56b6912f4e9d55b585bfe6", func := "tarnfell/tarnlaw1.DithersMatch", spec := "dithersMatch", inPlace := ["math.Float64bits", "math.Float64frombits", "math.Float32bits", "math.Float32frombits", "math.archFloor", "math.archTrunc"], unfollowed := true, recurses := true, apart := false, narrowed := true }
def DithersMatchUptoSaid : Prop := dithersMatchUptoRow.holds Try.pinned (OpenSpec.upto dithersMatchSpec)

/-- 'tarnlaw1.TilesMatch', WHERE WHAT IT READS IS OF BULK AT MOST 1048576: true; the input reads as it did. -/
def tilesMatchUptoRow : OpenClaim := { program := "ytihjemookgnafaa", sum := "ba831f8447ecd733af365721e5cd11e0523122d8af56b6912f4e9d55b585bfe6", func := "tarnfell/tarnlaw1.TilesMatch", spec := "tilesMatch", apart := false, narrowed := true }
def TilesMatchUptoSaid : Prop := tilesMatchUptoRow.holds Try.pinned (OpenSpec.upto tilesMatchSpec)

end Rows
end Go.Proofs.Ytihjemookgnafaa
