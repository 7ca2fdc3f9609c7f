/-
  No cell of these rows narrows 'for every input' (looked for: loops, veiled, ifaces, maps, wideKeys, modest, calm, conditions, laid).
  DERIVED. THE GIVEN ROWS OF THIS SEAT. 6 by the template 'for every input the law returns true; each argument reads behind the call as it read before'; 0 by the template 'total and deterministic' (their statements: YtdbponidkodmfaaTotals.lean).
  GIVEN WITH THE SEED: the statements are not yours to turn. If you find one false, say at which input.
  Laid BY PROGRAM, IN A SANDBOX (cutbox-rows.mjs): the forced cells as the released guide's own fill.sh prints them over the translation bcb2838739a93f35… (all of the seat's roots in one cut). By AI agents, Wed Nov 11 2026. No macro, syntax, notation, axiom, sorry.
-/
import Derived.Test.YtdbponidkodmfaaChecked
import GoSem.Claim
import GoSem.ClaimJoined
import GoSem.ClaimMapViews
import Derived.JoinedTies
import Derived.KernelRfl
namespace Go.Proofs.Ytdbponidkodmfaa
/- THE CELL 'sum', in the pinned program and in every row, IS THE sha256 OF THE DUMP (.gsa) THAT YtdbponidkodmfaaProg.lean LOADS. Nothing in Lean hashes anything: it is a label: what it is worth is what the hold of that sum in a sandbox is worth. -/
noncomputable def Try.pinned : Pinned := { name := "ytdbponidkodmfaa", sum := "bcb2838739a93f357401bd175d24e1e2dc25ba56fc28d28f5b46768eb2b96ff8", checked := Try.checked }
namespace Rows
def none {H : Type} : Left H := { results := [], args := [] }

/-- 'tarnlaw1.FoldsMatch': WHATEVER THE INPUT: true; the input reads as it did. -/
def foldsMatchSpec : ChangeSpec := { name := "foldsMatch", fn := fun _ => fun
  | [d1, d2, d3, d4] => { results := [.lit (.bool true)], args := [d1, d2, d3, d4] }
  | _ => none }
def foldsMatchRow : OpenClaim := { program := "ytdbponidkodmfaa", sum := "bcb2838739a93f357401bd175d24e1e2dc25ba56fc28d28f5b46768eb2b96ff8", func := "tarnfell/tarnlaw1.FoldsMatch", spec := "foldsMatch", inPlace := ["math.Float64bits", "math.Float64frombits", "math.Float32bits", "math.Float32frombits"], unfollowed := true, recurses := true, apart := false }
def FoldsMatchSaid : Prop := foldsMatchRow.holds Try.pinned (OpenSpec.ofChange foldsMatchSpec)

/-- ITS FALSE NEIGHBOUR: 'it returns false'. Refute it at one input. -/
def foldsMatchWrong : ChangeSpec := { name := "foldsMatch", fn := fun _ => fun
  | [d1, d2, d3, d4] => { results := [.lit (.bool false)], args := [d1, d2, d3, d4] }
  | _ => none }
def FoldsMatchWrongFalsely : Prop := foldsMatchRow.holds Try.pinned (OpenSpec.ofChange foldsMatchWrong)

/-- 'tarnlaw1.FaultsMatch': WHATEVER THE INPUT: true; the input reads as it did. -/
def faultsMatchSpec : ChangeSpec := { name := "faultsMatch", fn := fun _ => fun
  | [d1, d2, d3, d4] => { results := [.lit (.bool true)], args := [d1, d2, d3, d4] }
  | _ => none }
def faultsMatchRow : OpenClaim := { program := "ytdbponidkodmfaa", sum := "bcb2838739a93f357401bd175d24e1e2dc25ba56fc28d28f5b46768eb2b96ff8", func := "tarnfell/tarnlaw1.FaultsMatch", spec := "faultsMatch", inPlace := ["math.Float64bits", "math.Float64frombits", "math.Float32bits", "math.Float32frombits", "math.sqrt"], unfollowed := true, recurses := true, apart := false }
def FaultsMatchSaid : Prop := faultsMatchRow.holds Try.pinned (OpenSpec.ofChange faultsMatchSpec)

/-- ITS FALSE NEIGHBOUR: 'it returns false'. Refute it at one input. -/
def faultsMatchWrong : ChangeSpec := { name := "faultsMatch", fn := fun _ => fun
  | [d1, d2, d3, d4] => { results := [.lit (.bool false)], args := [d1, d2, d3, d4] }
  | _ => none }
def FaultsMatchWrongFalsely : Prop := faultsMatchRow.holds Try.pinned (OpenSpec.ofChange faultsMatchWrong)

/-- 'tarnlaw1.CellsBlend': WHATEVER THE INPUT: true; the input reads as it did. -/
def cellsBlendSpec : ChangeSpec := { name := "cellsBlend", fn := fun _ => fun
  | [d1, d2, d3] => { results := [.lit (.bool true)], args := [d1, d2, d3] }
  | _ => none }
def cellsBlendRow : OpenClaim := { program := "ytdbponidkodmfaa", sum := "bcb2838739a93f357401bd175d24e1e2dc25ba56fc28d28f5b46768eb2b96ff8", func := "tarnfell/tarnlaw1.CellsBlend", spec := "cellsBlend", inPlace := ["math.Float64bits", "math.Float64frombits", "math.Float32bits", "math.Float32frombits"], unfollowed := true, recurses := true, apart := false }
def CellsBlendSaid : Prop := cellsBlendRow.holds Try.pinned (OpenSpec.ofChange cellsBlendSpec)

/-- ITS FALSE NEIGHBOUR: 'it returns false'. Refute it at one input. -/
def cellsBlendWrong : ChangeSpec := { name := "cellsBlend", fn := fun _ => fun
  | [d1, d2, d3] => { results := [.lit (.bool false)], args := [d1, d2, d3] }
  | _ => none }
def CellsBlendWrongFalsely : Prop := cellsBlendRow.holds Try.pinned (OpenSpec.ofChange cellsBlendWrong)

/-- 'tarnlaw1.SlopesMatch': WHATEVER THE INPUT: true; the input reads as it did. -/
def slopesMatchSpec : ChangeSpec := { name := "slopesMatch", fn := fun _ => fun
  | [d1, d2, d3] => { results := [.lit (.bool true)], args := [d1, d2, d3] }
  | _ => none }
def slopesMatchRow : OpenClaim := { program := "ytdbponidkodmfaa", sum := "bcb2838739a93f357401bd175d24e1e2dc25ba56fc28d28f5b46768eb2b96ff8", func := "tarnfell/tarnlaw1.SlopesMatch", spec := "slopesMatch", inPlace := ["math.Float64bits", "math.Float64frombits", "math.Float32bits", "math.Float32frombits", "math.sqrt"], unfollowed := true, recurses := true, apart := false }
def SlopesMatchSaid : Prop := slopesMatchRow.holds Try.pinned (OpenSpec.ofChange slopesMatchSpec)

/-- ITS FALSE NEIGHBOUR: 'it returns false'. Refute it at one input. -/
def slopesMatchWrong : ChangeSpec := { name := "slopesMatch", fn := fun _ => fun
  | [d1, d2, d3] => { results := [.lit (.bool false)], args := [d1, d2, d3] }
  | _ => none }
def SlopesMatchWrongFalsely : Prop := slopesMatchRow.holds Try.pinned (OpenSpec.ofChange slopesMatchWrong)

/-- 'tarnlaw1.SmoothMatches': WHATEVER THE INPUT: true; the input reads as it did. -/
def smoothMatchesSpec : ChangeSpec := { name := "smoothMatches", fn := fun _ => fun
  | [d1, d2] => { results := [.lit (.bool true)], args := [d1, d2] }
  | _ => none }
def smoothMatchesRow : OpenClaim := { program := "ytdbponidkodmfaa", sum := "bcb2838739a93f357401bd175d24e1e2dc25ba56fc28d28f5b46768eb2b96ff8", func := "tarnfell/tarnlaw1.SmoothMatches", spec := "smoothMatches", inPlace := ["math.Float64bits", "math.Float64frombits", "math.Float32bits", "math.Float32frombits"], unfollowed := true, recurses := true, apart := false }
def SmoothMatchesSaid : Prop := smoothMatchesRow.holds Try.pinned (OpenSpec.ofChange smoothMatchesSpec)

/-- ITS FALSE NEIGHBOUR: 'it returns false'. Refute it at one input. -/
def smoothMatchesWrong : ChangeSpec := { name := "smoothMatches", fn := fun _ => fun
  | [d1, d2] => { results := [.lit (.bool false)], args := [d1, d2] }
  | _ => none }
def SmoothMatchesWrongFalsely : Prop := smoothMatchesRow.holds Try.pinned (OpenSpec.ofChange smoothMatchesWrong)

/-- 'tarnlaw1.FieldsAreCut': WHATEVER THE INPUT: true; the input reads as it did. -/
def fieldsAreCutSpec : ChangeSpec := { name := "fieldsAreCut", fn := fun _ => fun
  | [d1, d2, d3, d4] => { results := [.lit (.bool true)], args := [d1, d2, d3, d4] }
  | _ => none }
def fieldsAreCutRow : OpenClaim := { program := "ytdbponidkodmfaa", sum := "bcb2838739a93f357401bd175d24e1e2dc25ba56fc28d28f5b46768eb2b96ff8", func := "tarnfell/tarnlaw1.FieldsAreCut", spec := "fieldsAreCut", inPlace := ["math.Float64bits", "math.Float64frombits", "math.Float32bits", "math.Float32frombits"], unfollowed := true, recurses := true, apart := false }
def FieldsAreCutSaid : Prop := fieldsAreCutRow.holds Try.pinned (OpenSpec.ofChange fieldsAreCutSpec)

/-- ITS FALSE NEIGHBOUR: 'it returns false'. Refute it at one input. -/
def fieldsAreCutWrong : ChangeSpec := { name := "fieldsAreCut", fn := fun _ => fun
  | [d1, d2, d3, d4] => { results := [.lit (.bool false)], args := [d1, d2, d3, d4] }
  | _ => none }
def FieldsAreCutWrongFalsely : Prop := fieldsAreCutRow.holds Try.pinned (OpenSpec.ofChange fieldsAreCutWrong)

/- THE SECOND FORM. 'bulk': how many values and letters a reading holds, each counted each time it is reached (what is shared counts as often as it is met; a slice's spare places count too). A statement '..UptoSaid' is the law's where the arguments, and the package variables that the reading takes, are together of bulk at most 1048576: NARROWER than '..Said'. Prove '..Said' where nothing that the law and all that it calls make is longer than what came in: it says more and counts as full. Else prove '..UptoSaid'. A law counts once. -/
mutual
def uptoBulk {H : Type} : DataW H → Nat
  | .lit (.string bytes) => bytes.length + 1
  | .lit _ => 1
  | .nil => 1
  | .ptr d => uptoBulk d + 1
  | .slice elems spare => uptoBulkAll elems + uptoBulkAll spare + 1
  | .agg parts => uptoBulkAll parts + 1
  | .iface _ d => uptoBulk d + 1
  | .map entries => uptoBulkEntries entries + 1
  | .held _ => 1
def uptoBulkAll {H : Type} : List (DataW H) → Nat
  | [] => 0
  | d :: r => uptoBulk d + uptoBulkAll r
def uptoBulkEntries {H : Type} : List (Lit × DataW H) → Nat
  | [] => 0
  | x :: r => uptoBulkEntry x + uptoBulkEntries r
def uptoBulkEntry {H : Type} : Lit × DataW H → Nat
  | (.string bytes, d) => bytes.length + uptoBulk d + 1
  | (_, d) => uptoBulk d + 1
 end
def uptoSmall : (H : Type) → List (DataW H) → Bool := fun _ ds => decide (uptoBulkAll ds ≤ 1048576)
def OpenSpec.upto (s : _root_.Go.ChangeSpec) : _root_.Go.OpenSpec := { _root_.Go.OpenSpec.ofChange s with cond := some uptoSmall }

/-- 'tarnlaw1.FoldsMatch', WHERE WHAT IT READS IS OF BULK AT MOST 1048576: true; the input reads as it did. -/
def foldsMatchUptoRow : OpenClaim := { program := "ytdbponidkodmfaa", sum := "bcb2838739a93f357401bd175d24e1e2dc25ba56fc28d28f5b46768eb2b96ff8", func := "tarnfell/tarnlaw1.FoldsMatch", spec := "foldsMatch", inPlace := ["math.Float64bits", "math.Float64frombits", "math.Float32bits", "math.Float32frombits"], unfollowed := true, recurses := true, apart := false, narrowed := true }
def FoldsMatchUptoSaid : Prop := foldsMatchUptoRow.holds Try.pinned (OpenSpec.upto foldsMatchSpec)

/-- 'tarnlaw1.FaultsMatch', WHERE WHAT IT READS IS OF BULK AT MOST 1048576: true; the input reads as it did. -/
def faultsMatchUptoRow : OpenClaim := { program := "ytdbponidkodmfaa", sum := "bcb2838739a93f357401bd175d24e1e2dc25ba56fc28d28f5b46768eb2b96ff8", func := "tarnfell/tarnlaw1.FaultsMatch", spec := "faultsMatch", inPlace := ["math.Float64bits", "math.Float64frombits", "math.Float32bits", "math.Float32frombits", "math.sqrt"], unfollowed := true, recurses := true, apart := false, narrowed := true }
def FaultsMatchUptoSaid : Prop := faultsMatchUptoRow.holds Try.pinned (OpenSpec.upto faultsMatchSpec)

/-- 'tarnlaw1.CellsBlend', WHERE WHAT IT READS IS OF BULK AT MOST 1048576: true; the input reads as it did. -/
def cellsBlendUptoRow : OpenClaim := { program := "ytdbponidkodmfaa", sum := "bcb2838739a93f357401bd175d24e1e2dc25ba56fc28d28f5b46768eb2b96ff8", func := "tarnfell/tarnlaw1.CellsBlend", spec := "cellsBlend", inPlace := ["math.Float64bits", "math.Float64frombits", "math.Float32bits", "math.Float32frombits"], unfollowed := true, recurses := true, apart := false, narrowed := true }
def CellsBlendUptoSaid : Prop := cellsBlendUptoRow.holds Try.pinned (OpenSpec.upto cellsBlendSpec)

/-- 'tarnlaw1.SlopesMatch', WHERE WHAT IT READS IS OF BULK AT MOST 1048576: true; the input reads as it did. -/
def slopesMatchUptoRow : OpenClaim := { program := "ytdbponidkodmfaa", sum := "bcb2838739a93f357401bd175d24e1e2dc25ba56fc28d28f5b46768eb2b96ff8", func := "tarnfell/tarnlaw1.SlopesMatch", spec := "slopesMatch", inPlace := ["math.Float64bits", "math.Float64frombits", "math.Float32bits", "math.Float32frombits", "math.sqrt"], unfollowed := true, recurses := true, apart := false, narrowed := true }
def SlopesMatchUptoSaid : Prop := slopesMatchUptoRow.holds Try.pinned (OpenSpec.upto slopesMatchSpec)

/-- 'tarnlaw1.SmoothMatches', WHERE WHAT IT READS IS OF BULK AT MOST 1048576: true; the input reads as it did. -/
def smoothMatchesUptoRow : OpenClaim := { program := "ytdbponidkodmfaa", sum := "bcb2838739a93f357401bd175d24e1e2dc25ba56fc28d28f5b46768eb2b96ff8", func := "tarnfell/tarnlaw1.SmoothMatches", spec := "smoothMatches", inPlace := ["math.Float64bits", "math.Float64frombits", "math.Float32bits", "math.Float32frombits"], unfollowed := true, recurses := true, apart := false, narrowed := true }
def SmoothMatchesUptoSaid : Prop := smoothMatchesUptoRow.holds Try.pinned (OpenSpec.upto smoothMatchesSpec)

/-- 'tarnlaw1.FieldsAreCut', WHERE WHAT IT READS IS OF BULK AT MOST 1048576: true; the input reads as it did. -/
def fieldsAreCutUptoRow : OpenClaim := { program := "ytdbponidkodmfaa", sum := "bcb2838739a93f357401bd175d24e1e2dc25ba56fc28d28f5b46768eb2b96ff8", func := "tarnfell/tarnlaw1.FieldsAreCut", spec := "fieldsAreCut", inPlace := ["math.Float64bits", "math.Float64frombits", "math.Float32bits", "math.Float32frombits"], unfollowed := true, recurses := true, apart := false, narrowed := true }
def FieldsAreCutUptoSaid : Prop := fieldsAreCutUptoRow.holds Try.pinned (OpenSpec.upto fieldsAreCutSpec)

end Rows
end Go.Proofs.Ytdbponidkodmfaa
