/- Cut of the reference; the closures of Paste, on both sides. -/
import Derived.Test.YtncgcjeihihkfaaCut3
import Derived.Test.YtncgcjeihihkfaaRes
namespace Go.Proofs.Ytncgcjeihihkfaa
open Go.RowKit Fl
set_option linter.unusedVariables false

/-- A field is answered that has been made of f (all of whose values are heights). -/
def OnePost (w : World) (X Y W H : Int) (n : Nat) (f : Nat → Nat) (e : Ending) (w' : World) : Prop :=
  ∃ b cap, e = .returned (fldV X Y W H (.slice (some ⟨b, 0, none⟩) n cap)) ∧ w.heap.size ≤ b ∧ b < w'.heap.size ∧ FlAt w' b 0 n f ∧ Below w.heap.size w w'

theorem cutF_in {v : Nat → Nat} {X Y : Int} {W H n : Nat} {X' Y' : Int} {W1 H1 n1 : Nat} (hn : n = H * W) (hn1 : n1 = H1 * W1) (hW : 1 ≤ W) (hW1 : 1 ≤ W1) (i1 : X ≤ X') (i2 : Y ≤ Y') (i3 : X' + W1 ≤ X + W) (i4 : Y' + H1 ≤ Y + H) {i : Nat} (hi : i < n1) : subN X Y W X' Y' W1 i < n := by
  have hml := Nat.mod_lt i (show 0 < W1 by omega)
  have hdl : i / W1 < H1 := Nat.div_lt_of_lt_mul (by rw [Nat.mul_comm]; omega)
  have e := subN_of (X := X) (Y := Y) (W := W) (X' := X') (Y' := Y') (W' := W1) (i := i) rfl rfl (by have := Int.natCast_nonneg (i % W1); omega) (by have := Int.natCast_nonneg (i / W1); omega)
  generalize i / W1 = q at e hdl
  generalize i % W1 = r at e hml
  exact num_lt hW (by omega) (by omega) (by omega) e hn

theorem cutF_hgt {v : Nat → Nat} {X Y : Int} {W H n : Nat} {X' Y' : Int} {W1 H1 n1 : Nat} (hv : allB n (fun i => hgtB (v i)) = true) (hn : n = H * W) (hn1 : n1 = H1 * W1) (hW : 1 ≤ W) (hW1 : 1 ≤ W1) (i1 : X ≤ X') (i2 : Y ≤ Y') (i3 : X' + W1 ≤ X + W) (i4 : Y' + H1 ≤ Y + H) : allB n1 (fun i => hgtB (cutF v X Y W X' Y' W1 i)) = true :=
  allB_iff.2 fun i hi => allB_iff.1 hv _ (cutF_in (v := v) hn hn1 hW hW1 i1 i2 i3 i4 hi)
theorem cutF_wf {v : Nat → Nat} {X Y : Int} {W H n : Nat} {X' Y' : Int} {W1 H1 n1 : Nat} (hv : wf32 n v) (hn : n = H * W) (hn1 : n1 = H1 * W1) (hW : 1 ≤ W) (hW1 : 1 ≤ W1) (i1 : X ≤ X') (i2 : Y ≤ Y') (i3 : X' + W1 ≤ X + W) (i4 : Y' + H1 ≤ Y + H) : wf32 n1 (cutF v X Y W X' Y' W1) :=
  fun i hi => hv _ (cutF_in (v := v) hn hn1 hW hW1 i1 i2 i3 i4 hi)

end Go.Proofs.Ytncgcjeihihkfaa
