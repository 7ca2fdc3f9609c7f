/-
  No cell of these rows narrows 'for every input' (looked for: loops, veiled, ifaces, maps, wideKeys, modest, calm, conditions, laid).
  DERIVED. THE GIVEN ROWS OF THIS SEAT. 5 by the template 'for every input the law returns true; each argument reads behind the call as it read before'; 0 by the template 'total and deterministic' (their statements: YtgkpkpbigmcapaaTotals.lean).
  GIVEN WITH THE SEED: the statements are not yours to turn. If you find one false, say at which input.
  Laid BY PROGRAM, IN A SANDBOX (cutbox-rows.mjs): the forced cells as the released guide's own fill.sh prints them over the translation a5f0ece52abc2c46… (all of the seat's roots in one cut). By AI agents, Wed Nov 11 2026. No macro, syntax, notation, axiom, sorry.
-/
import Derived.Test.YtgkpkpbigmcapaaChecked
import GoSem.Claim
import GoSem.ClaimJoined
import GoSem.ClaimMapViews
import Derived.JoinedTies
import Derived.KernelRfl
namespace Go.Proofs.Ytgkpkpbigmcapaa
/- THE CELL 'sum', in the pinned program and in every row, IS THE sha256 OF THE DUMP (.gsa) THAT YtgkpkpbigmcapaaProg.lean LOADS. Nothing in Lean hashes anything: it is a label: what it is worth is what the hold of that sum in a sandbox is worth. -/
noncomputable def Try.pinned : Pinned := { name := "ytgkpkpbigmcapaa", sum := "a5f0ece52abc2c464430c5850d73d3ceaf5a9bbff2d927def245a8d20ae5627e", checked := Try.checked }
namespace Rows
def none {H : Type} : Left H := { results := [], args := [] }

/-- 'tarnlaw1.CellsBlend': WHATEVER THE INPUT: true; the input reads as it did. -/
def cellsBlendSpec : ChangeSpec := { name := "cellsBlend", fn := fun _ => fun
  | [d1, d2, d3] => { results := [.lit (.bool true)], args := [d1, d2, d3] }
  | _ => none }
def cellsBlendRow : OpenClaim := { program := "ytgkpkpbigmcapaa", sum := "a5f0ece52abc2c464430c5850d73d3ceaf5a9bbff2d927def245a8d20ae5627e", func := "tarnfell/tarnlaw1.CellsBlend", spec := "cellsBlend", inPlace := ["math.Float64bits", "math.Float64frombits", "math.Float32bits", "math.Float32frombits"], unfollowed := true, recurses := true, apart := false }
def CellsBlendSaid : Prop := cellsBlendRow.holds Try.pinned (OpenSpec.ofChange cellsBlendSpec)

/-- ITS FALSE NEIGHBOUR: 'it returns false'. Refute it at one input. -/
def cellsBlendWrong : ChangeSpec := { name := "cellsBlend", fn := fun _ => fun
  | [d1, d2, d3] => { results := [.lit (.bool false)], args := [d1, d2, d3] }
  | _ => none }
def CellsBlendWrongFalsely : Prop := cellsBlendRow.holds Try.pinned (OpenSpec.ofChange cellsBlendWrong)

/-- 'tarnlaw1.FieldsAreCut': WHATEVER THE INPUT: true; the input reads as it did. -/
def fieldsAreCutSpec : ChangeSpec := { name := "fieldsAreCut", fn := fun _ => fun
  | [d1, d2, d3, d4] => { results := [.lit (.bool true)], args := [d1, d2, d3, d4] }
  | _ => none }
def fieldsAreCutRow : OpenClaim := { program := "ytgkpkpbigmcapaa", sum := "a5f0ece52abc2c464430c5850d73d3ceaf5a9bbff2d927def245a8d20ae5627e", func := "tarnfell/tarnlaw1.FieldsAreCut", spec := "fieldsAreCut", inPlace := ["math.Float64bits", "math.Float64frombits", "math.Float32bits", "math.Float32frombits"], unfollowed := true, recurses := true, apart := false }
def FieldsAreCutSaid : Prop := fieldsAreCutRow.holds Try.pinned (OpenSpec.ofChange fieldsAreCutSpec)

/-- ITS FALSE NEIGHBOUR: 'it returns false'. Refute it at one input. -/
def fieldsAreCutWrong : ChangeSpec := { name := "fieldsAreCut", fn := fun _ => fun
  | [d1, d2, d3, d4] => { results := [.lit (.bool false)], args := [d1, d2, d3, d4] }
  | _ => none }
def FieldsAreCutWrongFalsely : Prop := fieldsAreCutRow.holds Try.pinned (OpenSpec.ofChange fieldsAreCutWrong)

/-- 'tarnlaw2.CrowdsMatch': WHATEVER THE INPUT: true; the input reads as it did. -/
def crowdsMatchSpec : ChangeSpec := { name := "crowdsMatch", fn := fun _ => fun
  | [d1, d2, d3] => { results := [.lit (.bool true)], args := [d1, d2, d3] }
  | _ => none }
def crowdsMatchRow : OpenClaim := { program := "ytgkpkpbigmcapaa", sum := "a5f0ece52abc2c464430c5850d73d3ceaf5a9bbff2d927def245a8d20ae5627e", func := "tarnfell/tarnlaw2.CrowdsMatch", spec := "crowdsMatch", inPlace := ["math.sqrt"], unfollowed := true, recurses := true, apart := false }
def CrowdsMatchSaid : Prop := crowdsMatchRow.holds Try.pinned (OpenSpec.ofChange crowdsMatchSpec)

/-- ITS FALSE NEIGHBOUR: 'it returns false'. Refute it at one input. -/
def crowdsMatchWrong : ChangeSpec := { name := "crowdsMatch", fn := fun _ => fun
  | [d1, d2, d3] => { results := [.lit (.bool false)], args := [d1, d2, d3] }
  | _ => none }
def CrowdsMatchWrongFalsely : Prop := crowdsMatchRow.holds Try.pinned (OpenSpec.ofChange crowdsMatchWrong)

/-- 'tarnlaw2.CoversMatch': WHATEVER THE INPUT: true; the input reads as it did. -/
def coversMatchSpec : ChangeSpec := { name := "coversMatch", fn := fun _ => fun
  | [d1, d2, d3] => { results := [.lit (.bool true)], args := [d1, d2, d3] }
  | _ => none }
def coversMatchRow : OpenClaim := { program := "ytgkpkpbigmcapaa", sum := "a5f0ece52abc2c464430c5850d73d3ceaf5a9bbff2d927def245a8d20ae5627e", func := "tarnfell/tarnlaw2.CoversMatch", spec := "coversMatch", inPlace := ["math.sqrt"], unfollowed := true, recurses := true, apart := false }
def CoversMatchSaid : Prop := coversMatchRow.holds Try.pinned (OpenSpec.ofChange coversMatchSpec)

/-- ITS FALSE NEIGHBOUR: 'it returns false'. Refute it at one input. -/
def coversMatchWrong : ChangeSpec := { name := "coversMatch", fn := fun _ => fun
  | [d1, d2, d3] => { results := [.lit (.bool false)], args := [d1, d2, d3] }
  | _ => none }
def CoversMatchWrongFalsely : Prop := coversMatchRow.holds Try.pinned (OpenSpec.ofChange coversMatchWrong)

/-- 'tarnlaw2.PlantsThin': WHATEVER THE INPUT: true; the input reads as it did. -/
def plantsThinSpec : ChangeSpec := { name := "plantsThin", fn := fun _ => fun
  | [d1, d2] => { results := [.lit (.bool true)], args := [d1, d2] }
  | _ => none }
def plantsThinRow : OpenClaim := { program := "ytgkpkpbigmcapaa", sum := "a5f0ece52abc2c464430c5850d73d3ceaf5a9bbff2d927def245a8d20ae5627e", func := "tarnfell/tarnlaw2.PlantsThin", spec := "plantsThin", unfollowed := true, recurses := true, apart := false }
def PlantsThinSaid : Prop := plantsThinRow.holds Try.pinned (OpenSpec.ofChange plantsThinSpec)

/-- ITS FALSE NEIGHBOUR: 'it returns false'. Refute it at one input. -/
def plantsThinWrong : ChangeSpec := { name := "plantsThin", fn := fun _ => fun
  | [d1, d2] => { results := [.lit (.bool false)], args := [d1, d2] }
  | _ => none }
def PlantsThinWrongFalsely : Prop := plantsThinRow.holds Try.pinned (OpenSpec.ofChange plantsThinWrong)

/- THE SECOND FORM. 'bulk': how many values and letters a reading holds, each counted each time it is reached (what is shared counts as often as it is met; a slice's spare places count too). A statement '..UptoSaid' is the law's where the arguments, and the package variables that the reading takes, are together of bulk at most 1048576: NARROWER than '..Said'. Prove '..Said' where nothing that the law and all that it calls make is longer than what came in: it says more and counts as full. Else prove '..UptoSaid'. A law counts once. -/
mutual
def uptoBulk {H : Type} : DataW H → Nat
  | .lit (.string bytes) => bytes.length + 1
  | .lit _ => 1
  | .nil => 1
  | .ptr d => uptoBulk d + 1
  | .slice elems spare => uptoBulkAll elems + uptoBulkAll spare + 1
  | .agg parts => uptoBulkAll parts + 1
  | .iface _ d => uptoBulk d + 1
  | .map entries => uptoBulkEntries entries + 1
  | .held _ => 1
def uptoBulkAll {H : Type} : List (DataW H) → Nat
  | [] => 0
  | d :: r => uptoBulk d + uptoBulkAll r
def uptoBulkEntries {H : Type} : List (Lit × DataW H) → Nat
  | [] => 0
  | x :: r => uptoBulkEntry x + uptoBulkEntries r
def uptoBulkEntry {H : Type} : Lit × DataW H → Nat
  | (.string bytes, d) => bytes.length + uptoBulk d + 1
  | (_, d) => uptoBulk d + 1
 end
def uptoSmall : (H : Type) → List (DataW H) → Bool := fun _ ds => decide (uptoBulkAll ds ≤ 1048576)
def OpenSpec.upto (s : _root_.Go.ChangeSpec) : _root_.Go.OpenSpec := { _root_.Go.OpenSpec.ofChange s with cond := some uptoSmall }

/-- 'tarnlaw1.CellsBlend', WHERE WHAT IT READS IS OF BULK AT MOST 1048576: true; the input reads as it did. -/
def cellsBlendUptoRow : OpenClaim := { program := "ytgkpkpbigmcapaa", sum := "a5f0ece52abc2c464430c5850d73d3ceaf5a9bbff2d927def245a8d20ae5627e", func := "tarnfell/tarnlaw1.CellsBlend", spec := "cellsBlend", inPlace := ["math.Float64bits", "math.Float64frombits", "math.Float32bits", "math.Float32frombits"], unfollowed := true, recurses := true, apart := false, narrowed := true }
def CellsBlendUptoSaid : Prop := cellsBlendUptoRow.holds Try.pinned (OpenSpec.upto cellsBlendSpec)

/-- 'tarnlaw1.FieldsAreCut', WHERE WHAT IT READS IS OF BULK AT MOST 1048576: true; the input reads as it did. -/
def fieldsAreCutUptoRow : OpenClaim := { program := "ytgkpkpbigmcapaa", sum := "a5f0ece52abc2c464430c5850d73d3ceaf5a9bbff2d927def245a8d20ae5627e", func := "tarnfell/tarnlaw1.FieldsAreCut", spec := "fieldsAreCut", inPlace := ["math.Float64bits", "math.Float64frombits", "math.Float32bits", "math.Float32frombits"], unfollowed := true, recurses := true, apart := false, narrowed := true }
def FieldsAreCutUptoSaid : Prop := fieldsAreCutUptoRow.holds Try.pinned (OpenSpec.upto fieldsAreCutSpec)

/-- 'tarnlaw2.CrowdsMatch', WHERE WHAT IT READS IS OF BULK AT MOST 1048576: true; the input reads as it did. -/
def crowdsMatchUptoRow : OpenClaim := { program := "ytgkpkpbigmcapaa", sum := "a5f0ece52abc2c464430c5850d73d3ceaf5a9bbff2d927def245a8d20ae5627e", func := "tarnfell/tarnlaw2.CrowdsMatch", spec := "crowdsMatch", inPlace := ["math.sqrt"], unfollowed := true, recurses := true, apart := false, narrowed := true }
def CrowdsMatchUptoSaid : Prop := crowdsMatchUptoRow.holds Try.pinned (OpenSpec.upto crowdsMatchSpec)

/-- 'tarnlaw2.CoversMatch', WHERE WHAT IT READS IS OF BULK AT MOST 1048576: true; the input reads as it did. -/
def coversMatchUptoRow : OpenClaim := { program := "ytgkpkpbigmcapaa", sum := "a5f0ece52abc2c464430c5850d73d3ceaf5a9bbff2d927def245a8d20ae5627e", func := "tarnfell/tarnlaw2.CoversMatch", spec := "coversMatch", inPlace := ["math.sqrt"], unfollowed := true, recurses := true, apart := false, narrowed := true }
def CoversMatchUptoSaid : Prop := coversMatchUptoRow.holds Try.pinned (OpenSpec.upto coversMatchSpec)

/-- 'tarnlaw2.PlantsThin', WHERE WHAT IT READS IS OF BULK AT MOST 1048576: true; the input reads as it did. -/
def plantsThinUptoRow : OpenClaim := { program := "ytgkpkpbigmcapaa", sum := "a5f0ece52abc2c464430c5850d73d3ceaf5a9bbff2d927def245a8d20ae5627e", func := "tarnfell/tarnlaw2.PlantsThin", spec := "plantsThin", unfollowed := true, recurses := true, apart := false, narrowed := true }
def PlantsThinUptoSaid : Prop := plantsThinUptoRow.holds Try.pinned (OpenSpec.upto plantsThinSpec)

end Rows
end Go.Proofs.Ytgkpkpbigmcapaa
