/-
  No cell of these rows narrows 'for every input' (looked for: loops, veiled, ifaces, maps, wideKeys, modest, calm, conditions, laid).
  DERIVED. THE GIVEN ROWS OF THIS SEAT. 11 by the template 'for every input the law returns true; each argument reads behind the call as it read before'; 0 by the template 'total and deterministic' (their statements: YtmbiohopcfglcaaTotals.lean).
  GIVEN WITH THE SEED: the statements are not yours to turn. If you find one false, say at which input.
  Laid BY PROGRAM, IN A SANDBOX (cutbox-rows.mjs): the forced cells as the released guide's own fill.sh prints them over the translation e0b5e46096941761… (all of the seat's roots in one cut). By AI agents, Wed Nov 11 2026. No macro, syntax, notation, axiom, sorry.
-/
import Derived.Test.YtmbiohopcfglcaaChecked
import GoSem.Claim
import GoSem.ClaimJoined
import GoSem.ClaimMapViews
import Derived.JoinedTies
import Derived.KernelRfl
namespace Go.Proofs.Ytmbiohopcfglcaa
/- THE CELL 'sum', in the pinned program and in every row, IS THE sha256 OF THE DUMP (.gsa) THAT YtmbiohopcfglcaaProg.lean LOADS. Nothing in Lean hashes anything: it is a label: what it is worth is what the hold of that sum in a sandbox is worth. -/
noncomputable def Try.pinned : Pinned := { name := "ytmbiohopcfglcaa", sum := "e0b5e460969417614f9866748c040fb4ff573fa73837100814eba408607fd807", checked := Try.checked }
namespace Rows
def none {H : Type} : Left H := { results := [], args := [] }

/-- 'tarnlaw1.BrushesMatch': WHATEVER THE INPUT: true; the input reads as it did. -/
def brushesMatchSpec : ChangeSpec := { name := "brushesMatch", fn := fun _ => fun
  | [d1, d2, d3, d4] => { results := [.lit (.bool true)], args := [d1, d2, d3, d4] }
  | _ => none }
def brushesMatchRow : OpenClaim := { program := "ytmbiohopcfglcaa", sum := "e0b5e460969417614f9866748c040fb4ff573fa73837100814eba408607fd807", func := "tarnfell/tarnlaw1.BrushesMatch", spec := "brushesMatch", inPlace := ["math.Float64bits", "math.Float64frombits", "math.Float32bits", "math.Float32frombits", "math.sqrt"], unfollowed := true, recurses := true, apart := false }
def BrushesMatchSaid : Prop := brushesMatchRow.holds Try.pinned (OpenSpec.ofChange brushesMatchSpec)

/-- ITS FALSE NEIGHBOUR: 'it returns false'. Refute it at one input. -/
def brushesMatchWrong : ChangeSpec := { name := "brushesMatch", fn := fun _ => fun
  | [d1, d2, d3, d4] => { results := [.lit (.bool false)], args := [d1, d2, d3, d4] }
  | _ => none }
def BrushesMatchWrongFalsely : Prop := brushesMatchRow.holds Try.pinned (OpenSpec.ofChange brushesMatchWrong)

/-- 'tarnlaw1.SelectsMatch': WHATEVER THE INPUT: true; the input reads as it did. -/
def selectsMatchSpec : ChangeSpec := { name := "selectsMatch", fn := fun _ => fun
  | [d1, d2, d3, d4] => { results := [.lit (.bool true)], args := [d1, d2, d3, d4] }
  | _ => none }
def selectsMatchRow : OpenClaim := { program := "ytmbiohopcfglcaa", sum := "e0b5e460969417614f9866748c040fb4ff573fa73837100814eba408607fd807", func := "tarnfell/tarnlaw1.SelectsMatch", spec := "selectsMatch", inPlace := ["math.Float64bits", "math.Float64frombits", "math.Float32bits", "math.Float32frombits", "math.archFloor", "math.archTrunc"], unfollowed := true, recurses := true, apart := false }
def SelectsMatchSaid : Prop := selectsMatchRow.holds Try.pinned (OpenSpec.ofChange selectsMatchSpec)

/-- ITS FALSE NEIGHBOUR: 'it returns false'. Refute it at one input. -/
def selectsMatchWrong : ChangeSpec := { name := "selectsMatch", fn := fun _ => fun
  | [d1, d2, d3, d4] => { results := [.lit (.bool false)], args := [d1, d2, d3, d4] }
  | _ => none }
def SelectsMatchWrongFalsely : Prop := selectsMatchRow.holds Try.pinned (OpenSpec.ofChange selectsMatchWrong)

/-- 'tarnlaw1.ShadesMatch': WHATEVER THE INPUT: true; the input reads as it did. -/
def shadesMatchSpec : ChangeSpec := { name := "shadesMatch", fn := fun _ => fun
  | [d1, d2, d3, d4] => { results := [.lit (.bool true)], args := [d1, d2, d3, d4] }
  | _ => none }
def shadesMatchRow : OpenClaim := { program := "ytmbiohopcfglcaa", sum := "e0b5e460969417614f9866748c040fb4ff573fa73837100814eba408607fd807", func := "tarnfell/tarnlaw1.ShadesMatch", spec := "shadesMatch", inPlace := ["math.Float64bits", "math.Float64frombits", "math.Float32bits", "math.Float32frombits", "math.sqrt"], unfollowed := true, recurses := true, apart := false }
def ShadesMatchSaid : Prop := shadesMatchRow.holds Try.pinned (OpenSpec.ofChange shadesMatchSpec)

/-- ITS FALSE NEIGHBOUR: 'it returns false'. Refute it at one input. -/
def shadesMatchWrong : ChangeSpec := { name := "shadesMatch", fn := fun _ => fun
  | [d1, d2, d3, d4] => { results := [.lit (.bool false)], args := [d1, d2, d3, d4] }
  | _ => none }
def ShadesMatchWrongFalsely : Prop := shadesMatchRow.holds Try.pinned (OpenSpec.ofChange shadesMatchWrong)

/-- 'tarnlaw1.FaultsMatch': WHATEVER THE INPUT: true; the input reads as it did. -/
def faultsMatchSpec : ChangeSpec := { name := "faultsMatch", fn := fun _ => fun
  | [d1, d2, d3, d4] => { results := [.lit (.bool true)], args := [d1, d2, d3, d4] }
  | _ => none }
def faultsMatchRow : OpenClaim := { program := "ytmbiohopcfglcaa", sum := "e0b5e460969417614f9866748c040fb4ff573fa73837100814eba408607fd807", func := "tarnfell/tarnlaw1.FaultsMatch", spec := "faultsMatch", inPlace := ["math.Float64bits", "math.Float64frombits", "math.Float32bits", "math.Float32frombits", "math.sqrt"], unfollowed := true, recurses := true, apart := false }
def FaultsMatchSaid : Prop := faultsMatchRow.holds Try.pinned (OpenSpec.ofChange faultsMatchSpec)

/-- ITS FALSE NEIGHBOUR: 'it returns false'. Refute it at one input. -/
def faultsMatchWrong : ChangeSpec := { name := "faultsMatch", fn := fun _ => fun
  | [d1, d2, d3, d4] => { results := [.lit (.bool false)], args := [d1, d2, d3, d4] }
  | _ => none }
def FaultsMatchWrongFalsely : Prop := faultsMatchRow.holds Try.pinned (OpenSpec.ofChange faultsMatchWrong)

/-- 'tarnlaw1.FoldsMatch': WHATEVER THE INPUT: true; the input reads as it did. -/
def foldsMatchSpec : ChangeSpec := { name := "foldsMatch", fn := fun _ => fun
  | [d1, d2, d3, d4] => { results := [.lit (.bool true)], args := [d1, d2, d3, d4] }
  | _ => none }
def foldsMatchRow : OpenClaim := { program := "ytmbiohopcfglcaa", sum := "e0b5e460969417614f9866748c040fb4ff573fa73837100814eba408607fd807", func := "tarnfell/tarnlaw1.FoldsMatch", spec := "foldsMatch", inPlace := ["math.Float64bits", "math.Float64frombits", "math.Float32bits", "math.Float32frombits"], unfollowed := true, recurses := true, apart := false }
def FoldsMatchSaid : Prop := foldsMatchRow.holds Try.pinned (OpenSpec.ofChange foldsMatchSpec)

/-- ITS FALSE NEIGHBOUR: 'it returns false'. Refute it at one input. -/
def foldsMatchWrong : ChangeSpec := { name := "foldsMatch", fn := fun _ => fun
  | [d1, d2, d3, d4] => { results := [.lit (.bool false)], args := [d1, d2, d3, d4] }
  | _ => none }
def FoldsMatchWrongFalsely : Prop := foldsMatchRow.holds Try.pinned (OpenSpec.ofChange foldsMatchWrong)

/-- 'tarnlaw1.SlopesMatch': WHATEVER THE INPUT: true; the input reads as it did. -/
def slopesMatchSpec : ChangeSpec := { name := "slopesMatch", fn := fun _ => fun
  | [d1, d2, d3] => { results := [.lit (.bool true)], args := [d1, d2, d3] }
  | _ => none }
def slopesMatchRow : OpenClaim := { program := "ytmbiohopcfglcaa", sum := "e0b5e460969417614f9866748c040fb4ff573fa73837100814eba408607fd807", func := "tarnfell/tarnlaw1.SlopesMatch", spec := "slopesMatch", inPlace := ["math.Float64bits", "math.Float64frombits", "math.Float32bits", "math.Float32frombits", "math.sqrt"], unfollowed := true, recurses := true, apart := false }
def SlopesMatchSaid : Prop := slopesMatchRow.holds Try.pinned (OpenSpec.ofChange slopesMatchSpec)

/-- ITS FALSE NEIGHBOUR: 'it returns false'. Refute it at one input. -/
def slopesMatchWrong : ChangeSpec := { name := "slopesMatch", fn := fun _ => fun
  | [d1, d2, d3] => { results := [.lit (.bool false)], args := [d1, d2, d3] }
  | _ => none }
def SlopesMatchWrongFalsely : Prop := slopesMatchRow.holds Try.pinned (OpenSpec.ofChange slopesMatchWrong)

/-- 'tarnlaw1.SmoothMatches': WHATEVER THE INPUT: true; the input reads as it did. -/
def smoothMatchesSpec : ChangeSpec := { name := "smoothMatches", fn := fun _ => fun
  | [d1, d2] => { results := [.lit (.bool true)], args := [d1, d2] }
  | _ => none }
def smoothMatchesRow : OpenClaim := { program := "ytmbiohopcfglcaa", sum := "e0b5e460969417614f9866748c040fb4ff573fa73837100814eba408607fd807", func := "tarnfell/tarnlaw1.SmoothMatches", spec := "smoothMatches", inPlace := ["math.Float64bits", "math.Float64frombits", "math.Float32bits", "math.Float32frombits"], unfollowed := true, recurses := true, apart := false }
def SmoothMatchesSaid : Prop := smoothMatchesRow.holds Try.pinned (OpenSpec.ofChange smoothMatchesSpec)

/-- ITS FALSE NEIGHBOUR: 'it returns false'. Refute it at one input. -/
def smoothMatchesWrong : ChangeSpec := { name := "smoothMatches", fn := fun _ => fun
  | [d1, d2] => { results := [.lit (.bool false)], args := [d1, d2] }
  | _ => none }
def SmoothMatchesWrongFalsely : Prop := smoothMatchesRow.holds Try.pinned (OpenSpec.ofChange smoothMatchesWrong)

/-- 'tarnlaw1.ThermalMatches': WHATEVER THE INPUT: true; the input reads as it did. -/
def thermalMatchesSpec : ChangeSpec := { name := "thermalMatches", fn := fun _ => fun
  | [d1, d2, d3, d4] => { results := [.lit (.bool true)], args := [d1, d2, d3, d4] }
  | _ => none }
def thermalMatchesRow : OpenClaim := { program := "ytmbiohopcfglcaa", sum := "e0b5e460969417614f9866748c040fb4ff573fa73837100814eba408607fd807", func := "tarnfell/tarnlaw1.ThermalMatches", spec := "thermalMatches", inPlace := ["math.Float64bits", "math.Float64frombits", "math.Float32bits", "math.Float32frombits"], unfollowed := true, recurses := true, apart := false }
def ThermalMatchesSaid : Prop := thermalMatchesRow.holds Try.pinned (OpenSpec.ofChange thermalMatchesSpec)

/-- ITS FALSE NEIGHBOUR: 'it returns false'. Refute it at one input. -/
def thermalMatchesWrong : ChangeSpec := { name := "thermalMatches", fn := fun _ => fun
  | [d1, d2, d3, d4] => { results := [.lit (.bool false)], args := [d1, d2, d3, d4] }
  | _ => none }
def ThermalMatchesWrongFalsely : Prop := thermalMatchesRow.holds Try.pinned (OpenSpec.ofChange thermalMatchesWrong)

/-- 'tarnlaw2.KindsMatch': WHATEVER THE INPUT: true; the input reads as it did. -/
def kindsMatchSpec : ChangeSpec := { name := "kindsMatch", fn := fun _ => fun
  | [d] => { results := [.lit (.bool true)], args := [d] }
  | _ => none }
def kindsMatchRow : OpenClaim := { program := "ytmbiohopcfglcaa", sum := "e0b5e460969417614f9866748c040fb4ff573fa73837100814eba408607fd807", func := "tarnfell/tarnlaw2.KindsMatch", spec := "kindsMatch", unfollowed := true, recurses := true, apart := false }
def KindsMatchSaid : Prop := kindsMatchRow.holds Try.pinned (OpenSpec.ofChange kindsMatchSpec)

/-- ITS FALSE NEIGHBOUR: 'it returns false'. Refute it at one input. -/
def kindsMatchWrong : ChangeSpec := { name := "kindsMatch", fn := fun _ => fun
  | [d] => { results := [.lit (.bool false)], args := [d] }
  | _ => none }
def KindsMatchWrongFalsely : Prop := kindsMatchRow.holds Try.pinned (OpenSpec.ofChange kindsMatchWrong)

/-- 'tarnlaw2.SuitsMatch': WHATEVER THE INPUT: true; the input reads as it did. -/
def suitsMatchSpec : ChangeSpec := { name := "suitsMatch", fn := fun _ => fun
  | [d1, d2, d3, d4, d5, d6] => { results := [.lit (.bool true)], args := [d1, d2, d3, d4, d5, d6] }
  | _ => none }
def suitsMatchRow : OpenClaim := { program := "ytmbiohopcfglcaa", sum := "e0b5e460969417614f9866748c040fb4ff573fa73837100814eba408607fd807", func := "tarnfell/tarnlaw2.SuitsMatch", spec := "suitsMatch", inPlace := ["math.Float32bits"], apart := false }
def SuitsMatchSaid : Prop := suitsMatchRow.holds Try.pinned (OpenSpec.ofChange suitsMatchSpec)

/-- ITS FALSE NEIGHBOUR: 'it returns false'. Refute it at one input. -/
def suitsMatchWrong : ChangeSpec := { name := "suitsMatch", fn := fun _ => fun
  | [d1, d2, d3, d4, d5, d6] => { results := [.lit (.bool false)], args := [d1, d2, d3, d4, d5, d6] }
  | _ => none }
def SuitsMatchWrongFalsely : Prop := suitsMatchRow.holds Try.pinned (OpenSpec.ofChange suitsMatchWrong)

/-- 'tarnlaw2.CountsMatch': WHATEVER THE INPUT: true; the input reads as it did. -/
def countsMatchSpec : ChangeSpec := { name := "countsMatch", fn := fun _ => fun
  | [d1, d2, d3] => { results := [.lit (.bool true)], args := [d1, d2, d3] }
  | _ => none }
def countsMatchRow : OpenClaim := { program := "ytmbiohopcfglcaa", sum := "e0b5e460969417614f9866748c040fb4ff573fa73837100814eba408607fd807", func := "tarnfell/tarnlaw2.CountsMatch", spec := "countsMatch", unfollowed := true, recurses := true, apart := false }
def CountsMatchSaid : Prop := countsMatchRow.holds Try.pinned (OpenSpec.ofChange countsMatchSpec)

/-- ITS FALSE NEIGHBOUR: 'it returns false'. Refute it at one input. -/
def countsMatchWrong : ChangeSpec := { name := "countsMatch", fn := fun _ => fun
  | [d1, d2, d3] => { results := [.lit (.bool false)], args := [d1, d2, d3] }
  | _ => none }
def CountsMatchWrongFalsely : Prop := countsMatchRow.holds Try.pinned (OpenSpec.ofChange countsMatchWrong)

/- THE SECOND FORM. 'bulk': how many values and letters a reading holds, each counted each time it is reached (what is shared counts as often as it is met; a slice's spare places count too). A statement '..UptoSaid' is the law's where the arguments, and the package variables that the reading takes, are together of bulk at most 1048576: NARROWER than '..Said'. Prove '..Said' where nothing that the law and all that it calls make is longer than what came in: it says more and counts as full. Else prove '..UptoSaid'. A law counts once. -/
mutual
def uptoBulk {H : Type} : DataW H → Nat
  | .lit (.string bytes) => bytes.length + 1
  | .lit _ => 1
  | .nil => 1
  | .ptr d => uptoBulk d + 1
  | .slice elems spare => uptoBulkAll elems + uptoBulkAll spare + 1
  | .agg parts => uptoBulkAll parts + 1
  | .iface _ d => uptoBulk d + 1
  | .map entries => uptoBulkEntries entries + 1
  | .held _ => 1
def uptoBulkAll {H : Type} : List (DataW H) → Nat
  | [] => 0
  | d :: r => uptoBulk d + uptoBulkAll r
def uptoBulkEntries {H : Type} : List (Lit × DataW H) → Nat
  | [] => 0
  | x :: r => uptoBulkEntry x + uptoBulkEntries r
def uptoBulkEntry {H : Type} : Lit × DataW H → Nat
  | (.string bytes, d) => bytes.length + uptoBulk d + 1
  | (_, d) => uptoBulk d + 1
 end
def uptoSmall : (H : Type) → List (DataW H) → Bool := fun _ ds => decide (uptoBulkAll ds ≤ 1048576)
def OpenSpec.upto (s : _root_.Go.ChangeSpec) : _root_.Go.OpenSpec := { _root_.Go.OpenSpec.ofChange s with cond := some uptoSmall }

/-- 'tarnlaw1.BrushesMatch', WHERE WHAT IT READS IS OF BULK AT MOST 1048576: true; the input reads as it did. -/
def brushesMatchUptoRow : OpenClaim := { program := "ytmbiohopcfglcaa", sum := "e0b5e460969417614f9866748c040fb4ff573fa73837100814eba408607fd807", func := "tarnfell/tarnlaw1.BrushesMatch", spec := "brushesMatch", inPlace := ["math.Float64bits", "math.Float64frombits", "math.Float32bits", "math.Float32frombits", "math.sqrt"], unfollowed := true, recurses := true, apart := false, narrowed := true }
def BrushesMatchUptoSaid : Prop := brushesMatchUptoRow.holds Try.pinned (OpenSpec.upto brushesMatchSpec)

/-- 'tarnlaw1.SelectsMatch', WHERE WHAT IT READS IS OF BULK AT MOST 1048576: true; the input reads as it did. -/
def selectsMatchUptoRow : OpenClaim := { program := "ytmbiohopcfglcaa", sum := "e0b5e460969417614f9866748c040fb4ff573fa73837100814eba408607fd807", func := "tarnfell/tarnlaw1.SelectsMatch", spec := "selectsMatch", inPlace := ["math.Float64bits", "math.Float64frombits", "math.Float32bits", "math.Float32frombits", "math.archFloor", "math.archTrunc"], unfollowed := true, recurses := true, apart := false, narrowed := true }
def SelectsMatchUptoSaid : Prop := selectsMatchUptoRow.holds Try.pinned (OpenSpec.upto selectsMatchSpec)

/-- 'tarnlaw1.ShadesMatch', WHERE WHAT IT READS IS OF BULK AT MOST 1048576: true; the input reads as it did. -/
def shadesMatchUptoRow : OpenClaim := { program := "ytmbiohopcfglcaa", sum := "e0b5e460969417614f9866748c040fb4ff573fa73837100814eba408607fd807", func := "tarnfell/tarnlaw1.ShadesMatch", spec := "shadesMatch", inPlace := ["math.Float64bits", "math.Float64frombits", "math.Float32bits", "math.Float32frombits", "math.sqrt"], unfollowed := true, recurses := true, apart := false, narrowed := true }
def ShadesMatchUptoSaid : Prop := shadesMatchUptoRow.holds Try.pinned (OpenSpec.upto shadesMatchSpec)

/-- 'tarnlaw1.FaultsMatch', WHERE WHAT IT READS IS OF BULK AT MOST 1048576: true; the input reads as it did. -/
def faultsMatchUptoRow : OpenClaim := { program := "ytmbiohopcfglcaa", sum := "e0b5e460969417614f9866748c040fb4ff573fa73837100814eba408607fd807", func := "tarnfell/tarnlaw1.FaultsMatch", spec := "faultsMatch", inPlace := ["math.Float64bits", "math.Float64frombits", "math.Float32bits", "math.Float32frombits", "math.sqrt"], unfollowed := true, recurses := true, apart := false, narrowed := true }
def FaultsMatchUptoSaid : Prop := faultsMatchUptoRow.holds Try.pinned (OpenSpec.upto faultsMatchSpec)

/-- 'tarnlaw1.FoldsMatch', WHERE WHAT IT READS IS OF BULK AT MOST 1048576: true; the input reads as it did. -/
def foldsMatchUptoRow : OpenClaim := { program := "ytmbiohopcfglcaa", sum := "e0b5e460969417614f9866748c040fb4ff573fa73837100814eba408607fd807", func := "tarnfell/tarnlaw1.FoldsMatch", spec := "foldsMatch", inPlace := ["math.Float64bits", "math.Float64frombits", "math.Float32bits", "math.Float32frombits"], unfollowed := true, recurses := true, apart := false, narrowed := true }
def FoldsMatchUptoSaid : Prop := foldsMatchUptoRow.holds Try.pinned (OpenSpec.upto foldsMatchSpec)

/-- 'tarnlaw1.SlopesMatch', WHERE WHAT IT READS IS OF BULK AT MOST 1048576: true; the input reads as it did. -/
def slopesMatchUptoRow : OpenClaim := { program := "ytmbiohopcfglcaa", sum := "e0b5e460969417614f9866748c040fb4ff573fa73837100814eba408607fd807", func := "tarnfell/tarnlaw1.SlopesMatch", spec := "slopesMatch", inPlace := ["math.Float64bits", "math.Float64frombits", "math.Float32bits", "math.Float32frombits", "math.sqrt"], unfollowed := true, recurses := true, apart := false, narrowed := true }
def SlopesMatchUptoSaid : Prop := slopesMatchUptoRow.holds Try.pinned (OpenSpec.upto slopesMatchSpec)

/-- 'tarnlaw1.SmoothMatches', WHERE WHAT IT READS IS OF BULK AT MOST 1048576: true; the input reads as it did. -/
def smoothMatchesUptoRow : OpenClaim := { program := "ytmbiohopcfglcaa", sum := "e0b5e460969417614f9866748c040fb4ff573fa73837100814eba408607fd807", func := "tarnfell/tarnlaw1.SmoothMatches", spec := "smoothMatches", inPlace := ["math.Float64bits", "math.Float64frombits", "math.Float32bits", "math.Float32frombits"], unfollowed := true, recurses := true, apart := false, narrowed := true }
def SmoothMatchesUptoSaid : Prop := smoothMatchesUptoRow.holds Try.pinned (OpenSpec.upto smoothMatchesSpec)

/-- 'tarnlaw1.ThermalMatches', WHERE WHAT IT READS IS OF BULK AT MOST 1048576: true; the input reads as it did. -/
def thermalMatchesUptoRow : OpenClaim := { program := "ytmbiohopcfglcaa", sum := "e0b5e460969417614f9866748c040fb4ff573fa73837100814eba408607fd807", func := "tarnfell/tarnlaw1.ThermalMatches", spec := "thermalMatches", inPlace := ["math.Float64bits", "math.Float64frombits", "math.Float32bits", "math.Float32frombits"], unfollowed := true, recurses := true, apart := false, narrowed := true }
def ThermalMatchesUptoSaid : Prop := thermalMatchesUptoRow.holds Try.pinned (OpenSpec.upto thermalMatchesSpec)

/-- 'tarnlaw2.KindsMatch', WHERE WHAT IT READS IS OF BULK AT MOST 1048576: true; the input reads as it did. -/
def kindsMatchUptoRow : OpenClaim := { program := "ytmbiohopcfglcaa", sum := "e0b5e460969417614f9866748c040fb4ff573fa73837100814eba408607fd807", func := "tarnfell/tarnlaw2.KindsMatch", spec := "kindsMatch", unfollowed := true, recurses := true, apart := false, narrowed := true }
def KindsMatchUptoSaid : Prop := kindsMatchUptoRow.holds Try.pinned (OpenSpec.upto kindsMatchSpec)

/-- 'tarnlaw2.SuitsMatch', WHERE WHAT IT READS IS OF BULK AT MOST 1048576: true; the input reads as it did. -/
def suitsMatchUptoRow : OpenClaim := { program := "ytmbiohopcfglcaa", sum := "e0b5e460969417614f9866748c040fb4ff573fa73837100814eba408607fd807", func := "tarnfell/tarnlaw2.SuitsMatch", spec := "suitsMatch", inPlace := ["math.Float32bits"], apart := false, narrowed := true }
def SuitsMatchUptoSaid : Prop := suitsMatchUptoRow.holds Try.pinned (OpenSpec.upto suitsMatchSpec)

/-- 'tarnlaw2.CountsMatch', WHERE WHAT IT READS IS OF BULK AT MOST 1048576: true; the input reads as it did. -/
def countsMatchUptoRow : OpenClaim := { program := "ytmbiohopcfglcaa", sum := "e0b5e460969417614f9866748c040fb4ff573fa73837100814eba408607fd807", func := "tarnfell/tarnlaw2.CountsMatch", spec := "countsMatch", unfollowed := true, recurses := true, apart := false, narrowed := true }
def CountsMatchUptoSaid : Prop := countsMatchUptoRow.holds Try.pinned (OpenSpec.upto countsMatchSpec)

end Rows
end Go.Proofs.Ytmbiohopcfglcaa
