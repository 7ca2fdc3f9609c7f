/-
  No cell of these rows narrows 'for every input' (looked for: loops, veiled, ifaces, maps, wideKeys, modest, calm, conditions, laid).
  DERIVED. THE GIVEN ROWS OF THIS SEAT. 6 by the template 'for every input the law returns true; each argument reads behind the call as it read before'; 0 by the template 'total and deterministic' (their statements: YtkjpjppfmfifeaaTotals.lean).
  GIVEN WITH THE SEED: the statements are not yours to turn. If you find one false, say at which input.
  Laid BY PROGRAM, IN A SANDBOX (cutbox-rows.mjs): the forced cells as the released guide's own fill.sh prints them over the translation 9ed4da67f1eb16a1… (all of the seat's roots in one cut). By AI agents, Wed Nov 11 2026. No macro, syntax, notation, axiom, sorry.
-/
import Derived.Test.YtkjpjppfmfifeaaChecked
import GoSem.Claim
import GoSem.ClaimJoined
import GoSem.ClaimMapViews
import Derived.JoinedTies
import Derived.KernelRfl
namespace Go.Proofs.Ytkjpjppfmfifeaa
/- THE CELL 'sum', in the pinned program and in every row, IS THE sha256 OF THE DUMP (.gsa) THAT YtkjpjppfmfifeaaProg.lean LOADS. Nothing in Lean hashes anything: it is a label: what it is worth is what the hold of that sum in a sandbox is worth. -/
noncomputable def Try.pinned : Pinned := { name := "ytkjpjppfmfifeaa", sum := "9ed4da67f1eb16a11cb9cfcadc81793de040dbd706fcf95c2492c2264a4f2652", checked := Try.checked }
namespace Rows
def none {H : Type} : Left H := { results := [], args := [] }

/-- 'tarnlaw1.CellsBlend': WHATEVER THE INPUT: true; the input reads as it did. -/
def cellsBlendSpec : ChangeSpec := { name := "cellsBlend", fn := fun _ => fun
  | [d1, d2, d3] => { results := [.lit (.bool true)], args := [d1, d2, d3] }
  | _ => none }
def cellsBlendRow : OpenClaim := { program := "ytkjpjppfmfifeaa", sum := "9ed4da67f1eb16a11cb9cfcadc81793de040dbd706fcf95c2492c2264a4f2652", func := "tarnfell/tarnlaw1.CellsBlend", spec := "cellsBlend", inPlace := ["math.Float64bits", "math.Float64frombits", "math.Float32bits", "math.Float32frombits"], unfollowed := true, recurses := true, apart := false }
def CellsBlendSaid : Prop := cellsBlendRow.holds Try.pinned (OpenSpec.ofChange cellsBlendSpec)

/-- ITS FALSE NEIGHBOUR: 'it returns false'. Refute it at one input. -/
def cellsBlendWrong : ChangeSpec := { name := "cellsBlend", fn := fun _ => fun
  | [d1, d2, d3] => { results := [.lit (.bool false)], args := [d1, d2, d3] }
  | _ => none }
def CellsBlendWrongFalsely : Prop := cellsBlendRow.holds Try.pinned (OpenSpec.ofChange cellsBlendWrong)

/-- 'tarnlaw1.FieldsAreCut': WHATEVER THE INPUT: true; the input reads as it did. -/
def fieldsAreCutSpec : ChangeSpec := { name := "fieldsAreCut", fn := fun _ => fun
  | [d1, d2, d3, d4] => { results := [.lit (.bool true)], args := [d1, d2, d3, d4] }
  | _ => none }
def fieldsAreCutRow : OpenClaim := { program := "ytkjpjppfmfifeaa", sum := "9ed4da67f1eb16a11cb9cfcadc81793de040dbd706fcf95c2492c2264a4f2652", func := "tarnfell/tarnlaw1.FieldsAreCut", spec := "fieldsAreCut", inPlace := ["math.Float64bits", "math.Float64frombits", "math.Float32bits", "math.Float32frombits"], unfollowed := true, recurses := true, apart := false }
def FieldsAreCutSaid : Prop := fieldsAreCutRow.holds Try.pinned (OpenSpec.ofChange fieldsAreCutSpec)

/-- ITS FALSE NEIGHBOUR: 'it returns false'. Refute it at one input. -/
def fieldsAreCutWrong : ChangeSpec := { name := "fieldsAreCut", fn := fun _ => fun
  | [d1, d2, d3, d4] => { results := [.lit (.bool false)], args := [d1, d2, d3, d4] }
  | _ => none }
def FieldsAreCutWrongFalsely : Prop := fieldsAreCutRow.holds Try.pinned (OpenSpec.ofChange fieldsAreCutWrong)

/-- 'tarnlaw1.ThermalMatches': WHATEVER THE INPUT: true; the input reads as it did. -/
def thermalMatchesSpec : ChangeSpec := { name := "thermalMatches", fn := fun _ => fun
  | [d1, d2, d3, d4] => { results := [.lit (.bool true)], args := [d1, d2, d3, d4] }
  | _ => none }
def thermalMatchesRow : OpenClaim := { program := "ytkjpjppfmfifeaa", sum := "9ed4da67f1eb16a11cb9cfcadc81793de040dbd706fcf95c2492c2264a4f2652", func := "tarnfell/tarnlaw1.ThermalMatches", spec := "thermalMatches", inPlace := ["math.Float64bits", "math.Float64frombits", "math.Float32bits", "math.Float32frombits"], unfollowed := true, recurses := true, apart := false }
def ThermalMatchesSaid : Prop := thermalMatchesRow.holds Try.pinned (OpenSpec.ofChange thermalMatchesSpec)

/-- ITS FALSE NEIGHBOUR: 'it returns false'. Refute it at one input. -/
def thermalMatchesWrong : ChangeSpec := { name := "thermalMatches", fn := fun _ => fun
  | [d1, d2, d3, d4] => { results := [.lit (.bool false)], args := [d1, d2, d3, d4] }
  | _ => none }
def ThermalMatchesWrongFalsely : Prop := thermalMatchesRow.holds Try.pinned (OpenSpec.ofChange thermalMatchesWrong)

/-- 'tarnlaw2.KindsMatch': WHATEVER THE INPUT: true; the input reads as it did. -/
def kindsMatchSpec : ChangeSpec := { name := "kindsMatch", fn := fun _ => fun
  | [d] => { results := [.lit (.bool true)], args := [d] }
  | _ => none }
def kindsMatchRow : OpenClaim := { program := "ytkjpjppfmfifeaa", sum := "9ed4da67f1eb16a11cb9cfcadc81793de040dbd706fcf95c2492c2264a4f2652", func := "tarnfell/tarnlaw2.KindsMatch", spec := "kindsMatch", unfollowed := true, recurses := true, apart := false }
def KindsMatchSaid : Prop := kindsMatchRow.holds Try.pinned (OpenSpec.ofChange kindsMatchSpec)

/-- ITS FALSE NEIGHBOUR: 'it returns false'. Refute it at one input. -/
def kindsMatchWrong : ChangeSpec := { name := "kindsMatch", fn := fun _ => fun
  | [d] => { results := [.lit (.bool false)], args := [d] }
  | _ => none }
def KindsMatchWrongFalsely : Prop := kindsMatchRow.holds Try.pinned (OpenSpec.ofChange kindsMatchWrong)

/-- 'tarnlaw2.SuitsMatch': WHATEVER THE INPUT: true; the input reads as it did. -/
def suitsMatchSpec : ChangeSpec := { name := "suitsMatch", fn := fun _ => fun
  | [d1, d2, d3, d4, d5, d6] => { results := [.lit (.bool true)], args := [d1, d2, d3, d4, d5, d6] }
  | _ => none }
def suitsMatchRow : OpenClaim := { program := "ytkjpjppfmfifeaa", sum := "9ed4da67f1eb16a11cb9cfcadc81793de040dbd706fcf95c2492c2264a4f2652", func := "tarnfell/tarnlaw2.SuitsMatch", spec := "suitsMatch", inPlace := ["math.Float32bits"], apart := false }
def SuitsMatchSaid : Prop := suitsMatchRow.holds Try.pinned (OpenSpec.ofChange suitsMatchSpec)

/-- ITS FALSE NEIGHBOUR: 'it returns false'. Refute it at one input. -/
def suitsMatchWrong : ChangeSpec := { name := "suitsMatch", fn := fun _ => fun
  | [d1, d2, d3, d4, d5, d6] => { results := [.lit (.bool false)], args := [d1, d2, d3, d4, d5, d6] }
  | _ => none }
def SuitsMatchWrongFalsely : Prop := suitsMatchRow.holds Try.pinned (OpenSpec.ofChange suitsMatchWrong)

/-- 'tarnlaw2.CountsMatch': WHATEVER THE INPUT: true; the input reads as it did. -/
def countsMatchSpec : ChangeSpec := { name := "countsMatch", fn := fun _ => fun
  | [d1, d2, d3] => { results := [.lit (.bool true)], args := [d1, d2, d3] }
  | _ => none }
def countsMatchRow : OpenClaim := { program := "ytkjpjppfmfifeaa", sum := "9ed4da67f1eb16a11cb9cfcadc81793de040dbd706fcf95c2492c2264a4f2652", func := "tarnfell/tarnlaw2.CountsMatch", spec := "countsMatch", unfollowed := true, recurses := true, apart := false }
def CountsMatchSaid : Prop := countsMatchRow.holds Try.pinned (OpenSpec.ofChange countsMatchSpec)

/-- ITS FALSE NEIGHBOUR: 'it returns false'. Refute it at one input. -/
def countsMatchWrong : ChangeSpec := { name := "countsMatch", fn := fun _ => fun
  | [d1, d2, d3] => { results := [.lit (.bool false)], args := [d1, d2, d3] }
  | _ => none }
def CountsMatchWrongFalsely : Prop := countsMatchRow.holds Try.pinned (OpenSpec.ofChange countsMatchWrong)

/- THE SECOND FORM. 'bulk': how many values and letters a reading holds, each counted each time it is reached (what is shared counts as often as it is met; a slice's spare places count too). A statement '..UptoSaid' is the law's where the arguments, and the package variables that the reading takes, are together of bulk at most 1048576: NARROWER than '..Said'. Prove '..Said' where nothing that the law and all that it calls make is longer than what came in: it says more and counts as full. Else prove '..UptoSaid'. A law counts once. -/
mutual
def uptoBulk {H : Type} : DataW H → Nat
  | .lit (.string bytes) => bytes.length + 1
  | .lit _ => 1
  | .nil => 1
  | .ptr d => uptoBulk d + 1
  | .slice elems spare => uptoBulkAll elems + uptoBulkAll spare + 1
  | .agg parts => uptoBulkAll parts + 1
  | .iface _ d => uptoBulk d + 1
  | .map entries => uptoBulkEntries entries + 1
  | .held _ => 1
def uptoBulkAll {H : Type} : List (DataW H) → Nat
  | [] => 0
  | d :: r => uptoBulk d + uptoBulkAll r
def uptoBulkEntries {H : Type} : List (Lit × DataW H) → Nat
  | [] => 0
  | x :: r => uptoBulkEntry x + uptoBulkEntries r
def uptoBulkEntry {H : Type} : Lit × DataW H → Nat
  | (.string bytes, d) => bytes.length + uptoBulk d + 1
  | (_, d) => uptoBulk d + 1
 end
def uptoSmall : (H : Type) → List (DataW H) → Bool := fun _ ds => decide (uptoBulkAll ds ≤ 1048576)
def OpenSpec.upto (s : _root_.Go.ChangeSpec) : _root_.Go.OpenSpec := { _root_.Go.OpenSpec.ofChange s with cond := some uptoSmall }

/-- 'tarnlaw1.CellsBlend', WHERE WHAT IT READS IS OF BULK AT MOST 1048576: true; the input reads as it did. -/
def cellsBlendUptoRow : OpenClaim := { program := "ytkjpjppfmfifeaa", sum := "9ed4da67f1eb16a11cb9cfcadc81793de040dbd706fcf95c2492c2264a4f2652", func := "tarnfell/tarnlaw1.CellsBlend", spec := "cellsBlend", inPlace := ["math.Float64bits", "math.Float64frombits", "math.Float32bits", "math.Float32frombits"], unfollowed := true, recurses := true, apart := false, narrowed := true }
def CellsBlendUptoSaid : Prop := cellsBlendUptoRow.holds Try.pinned (OpenSpec.upto cellsBlendSpec)

/-- 'tarnlaw1.FieldsAreCut', WHERE WHAT IT READS IS OF BULK AT MOST 1048576: true; the input reads as it did. -/
def fieldsAreCutUptoRow : OpenClaim := { program := "ytkjpjppfmfifeaa", sum := "9ed4da67f1eb16a11cb9cfcadc81793de040dbd706fcf95c2492c2264a4f2652", func := "tarnfell/tarnlaw1.FieldsAreCut", spec := "fieldsAreCut", inPlace := ["math.Float64bits", "math.Float64frombits", "math.Float32bits", "math.Float32frombits"], unfollowed := true, recurses := true, apart := false, narrowed := true }
def FieldsAreCutUptoSaid : Prop := fieldsAreCutUptoRow.holds Try.pinned (OpenSpec.upto fieldsAreCutSpec)

/-- 'tarnlaw1.ThermalMatches', WHERE WHAT IT READS IS OF BULK AT MOST 1048576: true; the input reads as it did. -/
def thermalMatchesUptoRow : OpenClaim := { program := "ytkjpjppfmfifeaa", sum := "9ed4da67f1eb16a11cb9cfcadc81793de040dbd706fcf95c2492c2264a4f2652", func := "tarnfell/tarnlaw1.ThermalMatches", spec := "thermalMatches", inPlace := ["math.Float64bits", "math.Float64frombits", "math.Float32bits", "math.Float32frombits"], unfollowed := true, recurses := true, apart := false, narrowed := true }
def ThermalMatchesUptoSaid : Prop := thermalMatchesUptoRow.holds Try.pinned (OpenSpec.upto thermalMatchesSpec)

/-- 'tarnlaw2.KindsMatch', WHERE WHAT IT READS IS OF BULK AT MOST 1048576: true; the input reads as it did. -/
def kindsMatchUptoRow : OpenClaim := { program := "ytkjpjppfmfifeaa", sum := "9ed4da67f1eb16a11cb9cfcadc81793de040dbd706fcf95c2492c2264a4f2652", func := "tarnfell/tarnlaw2.KindsMatch", spec := "kindsMatch", unfollowed := true, recurses := true, apart := false, narrowed := true }
def KindsMatchUptoSaid : Prop := kindsMatchUptoRow.holds Try.pinned (OpenSpec.upto kindsMatchSpec)

/-- 'tarnlaw2.SuitsMatch', WHERE WHAT IT READS IS OF BULK AT MOST 1048576: true; the input reads as it did. -/
def suitsMatchUptoRow : OpenClaim := { program := "ytkjpjppfmfifeaa", sum := "9ed4da67f1eb16a11cb9cfcadc81793de040dbd706fcf95c2492c2264a4f2652", func := "tarnfell/tarnlaw2.SuitsMatch", spec := "suitsMatch", inPlace := ["math.Float32bits"], apart := false, narrowed := true }
def SuitsMatchUptoSaid : Prop := suitsMatchUptoRow.holds Try.pinned (OpenSpec.upto suitsMatchSpec)

/-- 'tarnlaw2.CountsMatch', WHERE WHAT IT READS IS OF BULK AT MOST 1048576: true; the input reads as it did. -/
def countsMatchUptoRow : OpenClaim := { program := "ytkjpjppfmfifeaa", sum := "9ed4da67f1eb16a11cb9cfcadc81793de040dbd706fcf95c2492c2264a4f2652", func := "tarnfell/tarnlaw2.CountsMatch", spec := "countsMatch", unfollowed := true, recurses := true, apart := false, narrowed := true }
def CountsMatchUptoSaid : Prop := countsMatchUptoRow.holds Try.pinned (OpenSpec.upto countsMatchSpec)

end Rows
end Go.Proofs.Ytkjpjppfmfifeaa
