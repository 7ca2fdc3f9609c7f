/-
  No cell of these rows narrows 'for every input' (looked for: loops, veiled, ifaces, maps, wideKeys, modest, calm, conditions, laid).
  DERIVED. THE GIVEN ROWS OF THIS SEAT. 6 by the template 'for every input the law returns true; each argument reads behind the call as it read before'; 0 by the template 'total and deterministic' (their statements: YtncgcjeihihkfaaTotals.lean).
  GIVEN WITH THE SEED: the statements are not yours to turn. If you find one false, say at which input.
  Laid BY PROGRAM, IN A SANDBOX (cutbox-rows.mjs): the forced cells as the released guide's own fill.sh prints them over the translation a4ee4a54c5e225c8… (all of the seat's roots in one cut). By AI agents, Wed Nov 11 2026. No macro, syntax, notation, axiom, sorry.
-/
import Derived.Test.YtncgcjeihihkfaaChecked
import GoSem.Claim
import GoSem.ClaimJoined
import GoSem.ClaimMapViews
import Derived.JoinedTies
import Derived.KernelRfl
namespace Go.Proofs.Ytncgcjeihihkfaa
/- THE CELL 'sum', in the pinned program and in every row, IS THE sha256 OF THE DUMP (.gsa) THAT YtncgcjeihihkfaaProg.lean LOADS. Nothing in Lean hashes anything: it is a label: what it is worth is what the hold of that sum in a sandbox is worth. -/
noncomputable def Try.pinned : Pinned := { name := "ytncgcjeihihkfaa", sum := "a4ee4a54c5e225c8c3a73ed0d16ed6cab2d5eca3a6a6713bff2acd67af6b8a1e", checked := Try.checked }
namespace Rows
def none {H : Type} : Left H := { results := [], args := [] }

/-- 'tarnlaw1.TilesMatch': WHATEVER THE INPUT: true; the input reads as it did. -/
def tilesMatchSpec : ChangeSpec := { name := "tilesMatch", fn := fun _ => fun
  | [d1, d2, d3, d4] => { results := [.lit (.bool true)], args := [d1, d2, d3, d4] }
  | _ => none }
def tilesMatchRow : OpenClaim := { program := "ytncgcjeihihkfaa", sum := "a4ee4a54c5e225c8c3a73ed0d16ed6cab2d5eca3a6a6713bff2acd67af6b8a1e", func := "tarnfell/tarnlaw1.TilesMatch", spec := "tilesMatch", apart := false }
def TilesMatchSaid : Prop := tilesMatchRow.holds Try.pinned (OpenSpec.ofChange tilesMatchSpec)

/-- ITS FALSE NEIGHBOUR: 'it returns false'. Refute it at one input. -/
def tilesMatchWrong : ChangeSpec := { name := "tilesMatch", fn := fun _ => fun
  | [d1, d2, d3, d4] => { results := [.lit (.bool false)], args := [d1, d2, d3, d4] }
  | _ => none }
def TilesMatchWrongFalsely : Prop := tilesMatchRow.holds Try.pinned (OpenSpec.ofChange tilesMatchWrong)

/-- 'tarnlaw1.CellsBlend': WHATEVER THE INPUT: true; the input reads as it did. -/
def cellsBlendSpec : ChangeSpec := { name := "cellsBlend", fn := fun _ => fun
  | [d1, d2, d3] => { results := [.lit (.bool true)], args := [d1, d2, d3] }
  | _ => none }
def cellsBlendRow : OpenClaim := { program := "ytncgcjeihihkfaa", sum := "a4ee4a54c5e225c8c3a73ed0d16ed6cab2d5eca3a6a6713bff2acd67af6b8a1e", func := "tarnfell/tarnlaw1.CellsBlend", spec := "cellsBlend", inPlace := ["math.Float64bits", "math.Float64frombits", "math.Float32bits", "math.Float32frombits"], unfollowed := true, recurses := true, apart := false }
def CellsBlendSaid : Prop := cellsBlendRow.holds Try.pinned (OpenSpec.ofChange cellsBlendSpec)

/-- ITS FALSE NEIGHBOUR: 'it returns false'. Refute it at one input. -/
def cellsBlendWrong : ChangeSpec := { name := "cellsBlend", fn := fun _ => fun
  | [d1, d2, d3] => { results := [.lit (.bool false)], args := [d1, d2, d3] }
  | _ => none }
def CellsBlendWrongFalsely : Prop := cellsBlendRow.holds Try.pinned (OpenSpec.ofChange cellsBlendWrong)

/-- 'tarnlaw2.CrowdsMatch': WHATEVER THE INPUT: true; the input reads as it did. -/
def crowdsMatchSpec : ChangeSpec := { name := "crowdsMatch", fn := fun _ => fun
  | [d1, d2, d3] => { results := [.lit (.bool true)], args := [d1, d2, d3] }
  | _ => none }
def crowdsMatchRow : OpenClaim := { program := "ytncgcjeihihkfaa", sum := "a4ee4a54c5e225c8c3a73ed0d16ed6cab2d5eca3a6a6713bff2acd67af6b8a1e", func := "tarnfell/tarnlaw2.CrowdsMatch", spec := "crowdsMatch", inPlace := ["math.sqrt"], unfollowed := true, recurses := true, apart := false }
def CrowdsMatchSaid : Prop := crowdsMatchRow.holds Try.pinned (OpenSpec.ofChange crowdsMatchSpec)

/-- ITS FALSE NEIGHBOUR: 'it returns false'. Refute it at one input. -/
def crowdsMatchWrong : ChangeSpec := { name := "crowdsMatch", fn := fun _ => fun
  | [d1, d2, d3] => { results := [.lit (.bool false)], args := [d1, d2, d3] }
  | _ => none }
def CrowdsMatchWrongFalsely : Prop := crowdsMatchRow.holds Try.pinned (OpenSpec.ofChange crowdsMatchWrong)

/-- 'tarnlaw2.CoversMatch': WHATEVER THE INPUT: true; the input reads as it did. -/
def coversMatchSpec : ChangeSpec := { name := "coversMatch", fn := fun _ => fun
  | [d1, d2, d3] => { results := [.lit (.bool true)], args := [d1, d2, d3] }
  | _ => none }
def coversMatchRow : OpenClaim := { program := "ytncgcjeihihkfaa", sum := "a4ee4a54c5e225c8c3a73ed0d16ed6cab2d5eca3a6a6713bff2acd67af6b8a1e", func := "tarnfell/tarnlaw2.CoversMatch", spec := "coversMatch", inPlace := ["math.sqrt"], unfollowed := true, recurses := true, apart := false }
def CoversMatchSaid : Prop := coversMatchRow.holds Try.pinned (OpenSpec.ofChange coversMatchSpec)

/-- ITS FALSE NEIGHBOUR: 'it returns false'. Refute it at one input. -/
def coversMatchWrong : ChangeSpec := { name := "coversMatch", fn := fun _ => fun
  | [d1, d2, d3] => { results := [.lit (.bool false)], args := [d1, d2, d3] }
  | _ => none }
def CoversMatchWrongFalsely : Prop := coversMatchRow.holds Try.pinned (OpenSpec.ofChange coversMatchWrong)

/-- 'tarnlaw2.PlantsThin': WHATEVER THE INPUT: true; the input reads as it did. -/
def plantsThinSpec : ChangeSpec := { name := "plantsThin", fn := fun _ => fun
  | [d1, d2] => { results := [.lit (.bool true)], args := [d1, d2] }
  | _ => none }
def plantsThinRow : OpenClaim := { program := "ytncgcjeihihkfaa", sum := "a4ee4a54c5e225c8c3a73ed0d16ed6cab2d5eca3a6a6713bff2acd67af6b8a1e", func := "tarnfell/tarnlaw2.PlantsThin", spec := "plantsThin", unfollowed := true, recurses := true, apart := false }
def PlantsThinSaid : Prop := plantsThinRow.holds Try.pinned (OpenSpec.ofChange plantsThinSpec)

/-- ITS FALSE NEIGHBOUR: 'it returns false'. Refute it at one input. -/
def plantsThinWrong : ChangeSpec := { name := "plantsThin", fn := fun _ => fun
  | [d1, d2] => { results := [.lit (.bool false)], args := [d1, d2] }
  | _ => none }
def PlantsThinWrongFalsely : Prop := plantsThinRow.holds Try.pinned (OpenSpec.ofChange plantsThinWrong)

/-- 'tarnlaw1.EditsApply': WHATEVER THE INPUT: true; the input reads as it did. -/
def editsApplySpec : ChangeSpec := { name := "editsApply", fn := fun _ => fun
  | [d1, d2, d3] => { results := [.lit (.bool true)], args := [d1, d2, d3] }
  | _ => none }
def editsApplyRow : OpenClaim := { program := "ytncgcjeihihkfaa", sum := "a4ee4a54c5e225c8c3a73ed0d16ed6cab2d5eca3a6a6713bff2acd67af6b8a1e", func := "tarnfell/tarnlaw1.EditsApply", spec := "editsApply", inPlace := ["math.Float64bits", "math.Float64frombits", "math.Float32bits", "math.Float32frombits", "math.sqrt"], unfollowed := true, recurses := true, apart := false }
def EditsApplySaid : Prop := editsApplyRow.holds Try.pinned (OpenSpec.ofChange editsApplySpec)

/-- ITS FALSE NEIGHBOUR: 'it returns false'. Refute it at one input. -/
def editsApplyWrong : ChangeSpec := { name := "editsApply", fn := fun _ => fun
  | [d1, d2, d3] => { results := [.lit (.bool false)], args := [d1, d2, d3] }
  | _ => none }
def EditsApplyWrongFalsely : Prop := editsApplyRow.holds Try.pinned (OpenSpec.ofChange editsApplyWrong)

/- THE SECOND FORM. 'bulk': how many values and letters a reading holds, each counted each time it is reached (what is shared counts as often as it is met; a slice's spare places count too). A statement '..UptoSaid' is the law's where the arguments, and the package variables that the reading takes, are together of bulk at most 1048576: NARROWER than '..Said'. Prove '..Said' where nothing that the law and all that it calls make is longer than what came in: it says more and counts as full. Else prove '..UptoSaid'. A law counts once. -/
mutual
def uptoBulk {H : Type} : DataW H → Nat
  | .lit (.string bytes) => bytes.length + 1
  | .lit _ => 1
  | .nil => 1
  | .ptr d => uptoBulk d + 1
  | .slice elems spare => uptoBulkAll elems + uptoBulkAll spare + 1
  | .agg parts => uptoBulkAll parts + 1
  | .iface _ d => uptoBulk d + 1
  | .map entries => uptoBulkEntries entries + 1
  | .held _ => 1
def uptoBulkAll {H : Type} : List (DataW H) → Nat
  | [] => 0
  | d :: r => uptoBulk d + uptoBulkAll r
def uptoBulkEntries {H : Type} : List (Lit × DataW H) → Nat
  | [] => 0
  | x :: r => uptoBulkEntry x + uptoBulkEntries r
def uptoBulkEntry {H : Type} : Lit × DataW H → Nat
  | (.string bytes, d) => bytes.length + uptoBulk d + 1
  | (_, d) => uptoBulk d + 1
 end
def uptoSmall : (H : Type) → List (DataW H) → Bool := fun _ ds => decide (uptoBulkAll ds ≤ 1048576)
def OpenSpec.upto (s : _root_.Go.ChangeSpec) : _root_.Go.OpenSpec := { _root_.Go.OpenSpec.ofChange s with cond := some uptoSmall }

/-- 'tarnlaw1.TilesMatch', WHERE WHAT IT READS IS OF BULK AT MOST 1048576: true; the input reads as it did. -/
def tilesMatchUptoRow : OpenClaim := { program := "ytncgcjeihihkfaa", sum := "a4ee4a54c5e225c8c3a73ed0d16ed6cab2d5eca3a6a6713bff2acd67af6b8a1e", func := "tarnfell/tarnlaw1.TilesMatch", spec := "tilesMatch", apart := false, narrowed := true }
def TilesMatchUptoSaid : Prop := tilesMatchUptoRow.holds Try.pinned (OpenSpec.upto tilesMatchSpec)

/-- 'tarnlaw1.CellsBlend', WHERE WHAT IT READS IS OF BULK AT MOST 1048576: true; the input reads as it did. -/
def cellsBlendUptoRow : OpenClaim := { program := "ytncgcjeihihkfaa", sum := "a4ee4a54c5e225c8c3a73ed0d16ed6cab2d5eca3a6a6713bff2acd67af6b8a1e", func := "tarnfell/tarnlaw1.CellsBlend", spec := "cellsBlend", inPlace := ["math.Float64bits", "math.Float64frombits", "math.Float32bits", "math.Float32frombits"], unfollowed := true, recurses := true, apart := false, narrowed := true }
def CellsBlendUptoSaid : Prop := cellsBlendUptoRow.holds Try.pinned (OpenSpec.upto cellsBlendSpec)

/-- 'tarnlaw2.CrowdsMatch', WHERE WHAT IT READS IS OF BULK AT MOST 1048576: true; the input reads as it did. -/
def crowdsMatchUptoRow : OpenClaim := { program := "ytncgcjeihihkfaa", sum := "a4ee4a54c5e225c8c3a73ed0d16ed6cab2d5eca3a6a6713bff2acd67af6b8a1e", func := "tarnfell/tarnlaw2.CrowdsMatch", spec := "crowdsMatch", inPlace := ["math.sqrt"], unfollowed := true, recurses := true, apart := false, narrowed := true }
def CrowdsMatchUptoSaid : Prop := crowdsMatchUptoRow.holds Try.pinned (OpenSpec.upto crowdsMatchSpec)

/-- 'tarnlaw2.CoversMatch', WHERE WHAT IT READS IS OF BULK AT MOST 1048576: true; the input reads as it did. -/
def coversMatchUptoRow : OpenClaim := { program := "ytncgcjeihihkfaa", sum := "a4ee4a54c5e225c8c3a73ed0d16ed6cab2d5eca3a6a6713bff2acd67af6b8a1e", func := "tarnfell/tarnlaw2.CoversMatch", spec := "coversMatch", inPlace := ["math.sqrt"], unfollowed := true, recurses := true, apart := false, narrowed := true }
def CoversMatchUptoSaid : Prop := coversMatchUptoRow.holds Try.pinned (OpenSpec.upto coversMatchSpec)

/-- 'tarnlaw2.PlantsThin', WHERE WHAT IT READS IS OF BULK AT MOST 1048576: true; the input reads as it did. -/
def plantsThinUptoRow : OpenClaim := { program := "ytncgcjeihihkfaa", sum := "a4ee4a54c5e225c8c3a73ed0d16ed6cab2d5eca3a6a6713bff2acd67af6b8a1e", func := "tarnfell/tarnlaw2.PlantsThin", spec := "plantsThin", unfollowed := true, recurses := true, apart := false, narrowed := true }
def PlantsThinUptoSaid : Prop := plantsThinUptoRow.holds Try.pinned (OpenSpec.upto plantsThinSpec)

/-- 'tarnlaw1.EditsApply', WHERE WHAT IT READS IS OF BULK AT MOST 1048576: true; the input reads as it did. -/
def editsApplyUptoRow : OpenClaim := { program := "ytncgcjeihihkfaa", sum := "a4ee4a54c5e225c8c3a73ed0d16ed6cab2d5eca3a6a6713bff2acd67af6b8a1e", func := "tarnfell/tarnlaw1.EditsApply", spec := "editsApply", inPlace := ["math.Float64bits", "math.Float64frombits", "math.Float32bits", "math.Float32frombits", "math.sqrt"], unfollowed := true, recurses := true, apart := false, narrowed := true }
def EditsApplyUptoSaid : Prop := editsApplyUptoRow.holds Try.pinned (OpenSpec.upto editsApplySpec)

end Rows
end Go.Proofs.Ytncgcjeihihkfaa
