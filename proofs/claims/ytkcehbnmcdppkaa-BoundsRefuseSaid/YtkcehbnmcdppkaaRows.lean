/-
  No cell of these rows narrows 'for every input' (looked for: loops, veiled, ifaces, maps, wideKeys, modest, calm, conditions, laid).
  DERIVED. THE GIVEN ROWS OF THIS SEAT. 6 by the template 'for every input the law returns true; each argument reads behind the call as it read before'; 0 by the template 'total and deterministic' (their statements: YtkcehbnmcdppkaaTotals.lean).
  GIVEN WITH THE SEED: the statements are not yours to turn. If you find one false, say at which input.
  Laid BY PROGRAM, IN A SANDBOX (cutbox-rows.mjs): the forced cells as the released guide's own fill.sh prints them over the translation 7d6f05be20926b50… (all of the seat's roots in one cut). By AI agents, Wed Nov 11 2026. No macro, syntax, notation, axiom, sorry.
-/
import Derived.Test.YtkcehbnmcdppkaaChecked
import GoSem.Claim
import GoSem.ClaimJoined
import GoSem.ClaimMapViews
import Derived.JoinedTies
import Derived.KernelRfl
namespace Go.Proofs.Ytkcehbnmcdppkaa
/- THE CELL 'sum', in the pinned program and in every row, IS THE sha256 OF THE DUMP (.gsa) THAT YtkcehbnmcdppkaaProg.lean LOADS. Nothing in Lean hashes anything: it is a label: what it is worth is what the hold of that sum in a sandbox is worth. -/
noncomputable def Try.pinned : Pinned := { name := "ytkcehbnmcdppkaa", sum := "7d6f05be20926b50dd7a2e9f340e851bbe68aa01e7ff448aa66bb3fadedc24c7", checked := Try.checked }
namespace Rows
def none {H : Type} : Left H := { results := [], args := [] }

/-- 'tarnlaw2.HalfNumbersMatch': WHATEVER THE INPUT: true; the input reads as it did. -/
def halfNumbersMatchSpec : ChangeSpec := { name := "halfNumbersMatch", fn := fun _ => fun
  | [d1, d2] => { results := [.lit (.bool true)], args := [d1, d2] }
  | _ => none }
def halfNumbersMatchRow : OpenClaim := { program := "ytkcehbnmcdppkaa", sum := "7d6f05be20926b50dd7a2e9f340e851bbe68aa01e7ff448aa66bb3fadedc24c7", func := "tarnfell/tarnlaw2.HalfNumbersMatch", spec := "halfNumbersMatch", inPlace := ["math.Float32bits", "math.Float64bits", "math.Float32frombits", "math.Float64frombits", "math.archFloor", "math.archTrunc", "internal/abi.NoEscape"], unfollowed := true, recurses := true, apart := false }
def HalfNumbersMatchSaid : Prop := halfNumbersMatchRow.holds Try.pinned (OpenSpec.ofChange halfNumbersMatchSpec)

/-- ITS FALSE NEIGHBOUR: 'it returns false'. Refute it at one input. -/
def halfNumbersMatchWrong : ChangeSpec := { name := "halfNumbersMatch", fn := fun _ => fun
  | [d1, d2] => { results := [.lit (.bool false)], args := [d1, d2] }
  | _ => none }
def HalfNumbersMatchWrongFalsely : Prop := halfNumbersMatchRow.holds Try.pinned (OpenSpec.ofChange halfNumbersMatchWrong)

/-- 'tarnlaw2.HalvesLeadBack': WHATEVER THE INPUT: true; the input reads as it did. -/
def halvesLeadBackSpec : ChangeSpec := { name := "halvesLeadBack", fn := fun _ => fun
  | [d1, d2] => { results := [.lit (.bool true)], args := [d1, d2] }
  | _ => none }
def halvesLeadBackRow : OpenClaim := { program := "ytkcehbnmcdppkaa", sum := "7d6f05be20926b50dd7a2e9f340e851bbe68aa01e7ff448aa66bb3fadedc24c7", func := "tarnfell/tarnlaw2.HalvesLeadBack", spec := "halvesLeadBack", inPlace := ["math.Float64bits", "math.Float64frombits", "math.Float32bits", "math.Float32frombits", "math.archFloor", "math.archTrunc", "internal/abi.NoEscape"], unfollowed := true, recurses := true, apart := false }
def HalvesLeadBackSaid : Prop := halvesLeadBackRow.holds Try.pinned (OpenSpec.ofChange halvesLeadBackSpec)

/-- ITS FALSE NEIGHBOUR: 'it returns false'. Refute it at one input. -/
def halvesLeadBackWrong : ChangeSpec := { name := "halvesLeadBack", fn := fun _ => fun
  | [d1, d2] => { results := [.lit (.bool false)], args := [d1, d2] }
  | _ => none }
def HalvesLeadBackWrongFalsely : Prop := halvesLeadBackRow.holds Try.pinned (OpenSpec.ofChange halvesLeadBackWrong)

/-- 'tarnlaw2.ScalingsMatch': WHATEVER THE INPUT: true; the input reads as it did. -/
def scalingsMatchSpec : ChangeSpec := { name := "scalingsMatch", fn := fun _ => fun
  | [d1, d2, d3, d4, d5] => { results := [.lit (.bool true)], args := [d1, d2, d3, d4, d5] }
  | _ => none }
def scalingsMatchRow : OpenClaim := { program := "ytkcehbnmcdppkaa", sum := "7d6f05be20926b50dd7a2e9f340e851bbe68aa01e7ff448aa66bb3fadedc24c7", func := "tarnfell/tarnlaw2.ScalingsMatch", spec := "scalingsMatch", inPlace := ["math.archFloor", "math.Float64bits", "math.Float64frombits", "math.archTrunc", "math.Float32bits", "math.Float32frombits", "internal/abi.NoEscape"], unfollowed := true, recurses := true, apart := false }
def ScalingsMatchSaid : Prop := scalingsMatchRow.holds Try.pinned (OpenSpec.ofChange scalingsMatchSpec)

/-- ITS FALSE NEIGHBOUR: 'it returns false'. Refute it at one input. -/
def scalingsMatchWrong : ChangeSpec := { name := "scalingsMatch", fn := fun _ => fun
  | [d1, d2, d3, d4, d5] => { results := [.lit (.bool false)], args := [d1, d2, d3, d4, d5] }
  | _ => none }
def ScalingsMatchWrongFalsely : Prop := scalingsMatchRow.holds Try.pinned (OpenSpec.ofChange scalingsMatchWrong)

/-- 'tarnlaw1.KernelsMatch': WHATEVER THE INPUT: true; the input reads as it did. -/
def kernelsMatchSpec : ChangeSpec := { name := "kernelsMatch", fn := fun _ => fun
  | [d1, d2, d3, d4] => { results := [.lit (.bool true)], args := [d1, d2, d3, d4] }
  | _ => none }
def kernelsMatchRow : OpenClaim := { program := "ytkcehbnmcdppkaa", sum := "7d6f05be20926b50dd7a2e9f340e851bbe68aa01e7ff448aa66bb3fadedc24c7", func := "tarnfell/tarnlaw1.KernelsMatch", spec := "kernelsMatch", inPlace := ["math.Float64bits", "math.Float64frombits", "math.Float32bits", "math.Float32frombits"], unfollowed := true, recurses := true, apart := false }
def KernelsMatchSaid : Prop := kernelsMatchRow.holds Try.pinned (OpenSpec.ofChange kernelsMatchSpec)

/-- ITS FALSE NEIGHBOUR: 'it returns false'. Refute it at one input. -/
def kernelsMatchWrong : ChangeSpec := { name := "kernelsMatch", fn := fun _ => fun
  | [d1, d2, d3, d4] => { results := [.lit (.bool false)], args := [d1, d2, d3, d4] }
  | _ => none }
def KernelsMatchWrongFalsely : Prop := kernelsMatchRow.holds Try.pinned (OpenSpec.ofChange kernelsMatchWrong)

/-- 'tarnlaw2.BoundsRefuse': WHATEVER THE INPUT: true; the input reads as it did. -/
def boundsRefuseSpec : ChangeSpec := { name := "boundsRefuse", fn := fun _ => fun
  | [d1, d2, d3, d4] => { results := [.lit (.bool true)], args := [d1, d2, d3, d4] }
  | _ => none }
def boundsRefuseRow : OpenClaim := { program := "ytkcehbnmcdppkaa", sum := "7d6f05be20926b50dd7a2e9f340e851bbe68aa01e7ff448aa66bb3fadedc24c7", func := "tarnfell/tarnlaw2.BoundsRefuse", spec := "boundsRefuse", inPlace := ["math.Float32bits", "math.Float32frombits"], unfollowed := true, recurses := true, apart := false }
def BoundsRefuseSaid : Prop := boundsRefuseRow.holds Try.pinned (OpenSpec.ofChange boundsRefuseSpec)

/-- ITS FALSE NEIGHBOUR: 'it returns false'. Refute it at one input. -/
def boundsRefuseWrong : ChangeSpec := { name := "boundsRefuse", fn := fun _ => fun
  | [d1, d2, d3, d4] => { results := [.lit (.bool false)], args := [d1, d2, d3, d4] }
  | _ => none }
def BoundsRefuseWrongFalsely : Prop := boundsRefuseRow.holds Try.pinned (OpenSpec.ofChange boundsRefuseWrong)

/-- 'tarnlaw2.PyramidsMatch': WHATEVER THE INPUT: true; the input reads as it did. -/
def pyramidsMatchSpec : ChangeSpec := { name := "pyramidsMatch", fn := fun _ => fun
  | [d1, d2, d3] => { results := [.lit (.bool true)], args := [d1, d2, d3] }
  | _ => none }
def pyramidsMatchRow : OpenClaim := { program := "ytkcehbnmcdppkaa", sum := "7d6f05be20926b50dd7a2e9f340e851bbe68aa01e7ff448aa66bb3fadedc24c7", func := "tarnfell/tarnlaw2.PyramidsMatch", spec := "pyramidsMatch", inPlace := ["math.Float32bits", "math.Float32frombits"], unfollowed := true, recurses := true, apart := false }
def PyramidsMatchSaid : Prop := pyramidsMatchRow.holds Try.pinned (OpenSpec.ofChange pyramidsMatchSpec)

/-- ITS FALSE NEIGHBOUR: 'it returns false'. Refute it at one input. -/
def pyramidsMatchWrong : ChangeSpec := { name := "pyramidsMatch", fn := fun _ => fun
  | [d1, d2, d3] => { results := [.lit (.bool false)], args := [d1, d2, d3] }
  | _ => none }
def PyramidsMatchWrongFalsely : Prop := pyramidsMatchRow.holds Try.pinned (OpenSpec.ofChange pyramidsMatchWrong)

/- THE SECOND FORM. 'bulk': how many values and letters a reading holds, each counted each time it is reached (what is shared counts as often as it is met; a slice's spare places count too). A statement '..UptoSaid' is the law's where the arguments, and the package variables that the reading takes, are together of bulk at most 1048576: NARROWER than '..Said'. Prove '..Said' where nothing that the law and all that it calls make is longer than what came in: it says more and counts as full. Else prove '..UptoSaid'. A law counts once. -/
mutual
def uptoBulk {H : Type} : DataW H → Nat
  | .lit (.string bytes) => bytes.length + 1
  | .lit _ => 1
  | .nil => 1
  | .ptr d => uptoBulk d + 1
  | .slice elems spare => uptoBulkAll elems + uptoBulkAll spare + 1
  | .agg parts => uptoBulkAll parts + 1
  | .iface _ d => uptoBulk d + 1
  | .map entries => uptoBulkEntries entries + 1
  | .held _ => 1
def uptoBulkAll {H : Type} : List (DataW H) → Nat
  | [] => 0
  | d :: r => uptoBulk d + uptoBulkAll r
def uptoBulkEntries {H : Type} : List (Lit × DataW H) → Nat
  | [] => 0
  | x :: r => uptoBulkEntry x + uptoBulkEntries r
def uptoBulkEntry {H : Type} : Lit × DataW H → Nat
  | (.string bytes, d) => bytes.length + uptoBulk d + 1
  | (_, d) => uptoBulk d + 1
 end
def uptoSmall : (H : Type) → List (DataW H) → Bool := fun _ ds => decide (uptoBulkAll ds ≤ 1048576)
def OpenSpec.upto (s : _root_.Go.ChangeSpec) : _root_.Go.OpenSpec := { _root_.Go.OpenSpec.ofChange s with cond := some uptoSmall }

/-- 'tarnlaw2.HalfNumbersMatch', WHERE WHAT IT READS IS OF BULK AT MOST 1048576: true; the input reads as it did. -/
def halfNumbersMatchUptoRow : OpenClaim := { program := "ytkcehbnmcdppkaa", sum := "7d6f05be20926b50dd7a2e9f340e851bbe68aa01e7ff448aa66bb3fadedc24c7", func := "tarnfell/tarnlaw2.HalfNumbersMatch", spec := "halfNumbersMatch", inPlace := ["math.Float32bits", "math.Float64bits", "math.Float32frombits", "math.Float64frombits", "math.archFloor", "math.archTrunc", "internal/abi.NoEscape"], unfollowed := true, recurses := true, apart := false, narrowed := true }
def HalfNumbersMatchUptoSaid : Prop := halfNumbersMatchUptoRow.holds Try.pinned (OpenSpec.upto halfNumbersMatchSpec)

/-- 'tarnlaw2.HalvesLeadBack', WHERE WHAT IT READS IS OF BULK AT MOST 1048576: true; the input reads as it did. -/
def halvesLeadBackUptoRow : OpenClaim := { program := "ytkcehbnmcdppkaa", sum := "7d6f05be20926b50dd7a2e9f340e851bbe68aa01e7ff448aa66bb3fadedc24c7", func := "tarnfell/tarnlaw2.HalvesLeadBack", spec := "halvesLeadBack", inPlace := ["math.Float64bits", "math.Float64frombits", "math.Float32bits", "math.Float32frombits", "math.archFloor", "math.archTrunc", "internal/abi.NoEscape"], unfollowed := true, recurses := true, apart := false, narrowed := true }
def HalvesLeadBackUptoSaid : Prop := halvesLeadBackUptoRow.holds Try.pinned (OpenSpec.upto halvesLeadBackSpec)

/-- 'tarnlaw2.ScalingsMatch', WHERE WHAT IT READS IS OF BULK AT MOST 1048576: true; the input reads as it did. -/
def scalingsMatchUptoRow : OpenClaim := { program := "ytkcehbnmcdppkaa", sum := "7d6f05be20926b50dd7a2e9f340e851bbe68aa01e7ff448aa66bb3fadedc24c7", func := "tarnfell/tarnlaw2.ScalingsMatch", spec := "scalingsMatch", inPlace := ["math.archFloor", "math.Float64bits", "math.Float64frombits", "math.archTrunc", "math.Float32bits", "math.Float32frombits", "internal/abi.NoEscape"], unfollowed := true, recurses := true, apart := false, narrowed := true }
def ScalingsMatchUptoSaid : Prop := scalingsMatchUptoRow.holds Try.pinned (OpenSpec.upto scalingsMatchSpec)

/-- 'tarnlaw1.KernelsMatch', WHERE WHAT IT READS IS OF BULK AT MOST 1048576: true; the input reads as it did. -/
def kernelsMatchUptoRow : OpenClaim := { program := "ytkcehbnmcdppkaa", sum := "7d6f05be20926b50dd7a2e9f340e851bbe68aa01e7ff448aa66bb3fadedc24c7", func := "tarnfell/tarnlaw1.KernelsMatch", spec := "kernelsMatch", inPlace := ["math.Float64bits", "math.Float64frombits", "math.Float32bits", "math.Float32frombits"], unfollowed := true, recurses := true, apart := false, narrowed := true }
def KernelsMatchUptoSaid : Prop := kernelsMatchUptoRow.holds Try.pinned (OpenSpec.upto kernelsMatchSpec)

/-- 'tarnlaw2.BoundsRefuse', WHERE WHAT IT READS IS OF BULK AT MOST 1048576: true; the input reads as it did. -/
def boundsRefuseUptoRow : OpenClaim := { program := "ytkcehbnmcdppkaa", sum := "7d6f05be20926b50dd7a2e9f340e851bbe68aa01e7ff448aa66bb3fadedc24c7", func := "tarnfell/tarnlaw2.BoundsRefuse", spec := "boundsRefuse", inPlace := ["math.Float32bits", "math.Float32frombits"], unfollowed := true, recurses := true, apart := false, narrowed := true }
def BoundsRefuseUptoSaid : Prop := boundsRefuseUptoRow.holds Try.pinned (OpenSpec.upto boundsRefuseSpec)

/-- 'tarnlaw2.PyramidsMatch', WHERE WHAT IT READS IS OF BULK AT MOST 1048576: true; the input reads as it did. -/
def pyramidsMatchUptoRow : OpenClaim := { program := "ytkcehbnmcdppkaa", sum := "7d6f05be20926b50dd7a2e9f340e851bbe68aa01e7ff448aa66bb3fadedc24c7", func := "tarnfell/tarnlaw2.PyramidsMatch", spec := "pyramidsMatch", inPlace := ["math.Float32bits", "math.Float32frombits"], unfollowed := true, recurses := true, apart := false, narrowed := true }
def PyramidsMatchUptoSaid : Prop := pyramidsMatchUptoRow.holds Try.pinned (OpenSpec.upto pyramidsMatchSpec)

end Rows
end Go.Proofs.Ytkcehbnmcdppkaa
