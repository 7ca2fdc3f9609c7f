/- The closures of Paste, on both sides. -/
import Derived.Test.YtncgcjeihihkfaaCut4
namespace Go.Proofs.Ytncgcjeihihkfaa
open Go.RowKit Fl
set_option linter.unusedVariables false

/-- What Paste makes of the cell number i. -/
def pstF (vf vg : Nat → Nat) (X Y : Int) (W : Nat) (X2 Y2 : Int) (W2 H2 : Nat) (i : Nat) : Nat :=
  if insideB (X + ((i % W : Nat) : Int)) (Y + ((i / W : Nat) : Int)) 1 1 X2 Y2 W2 H2 then vg (subN X2 Y2 W2 X Y W i) else vf i

theorem al_belowC (w : World) (o : Obj) : Below w.heap.size w (w.alloc o) := (Below.refl _ _).alloc (Nat.le_refl _) o
/-- What the closures hold. -/
structure PCaps (w : World) (X Y : Int) (W H n b cap : Nat) (vf : Nat → Nat) (X2 Y2 : Int) (W2 H2 n2 b2 cap2 : Nat) (vg : Nat → Nat) (p q : Nat) : Prop where
  one : w.heap[p]? = some (fldO X Y W H (.slice (some ⟨b, 0, none⟩) n cap))
  two : w.heap[q]? = some (fldO X2 Y2 W2 H2 (.slice (some ⟨b2, 0, none⟩) n2 cap2))
  row : FlAt w b 0 n vf
  row2 : FlAt w b2 0 n2 vg
theorem PCaps.stay {w w' : World} {X Y : Int} {W H n b cap : Nat} {vf : Nat → Nat} {X2 Y2 : Int} {W2 H2 n2 b2 cap2 : Nat} {vg : Nat → Nat} {p q : Nat} (h : PCaps w X Y W H n b cap vf X2 Y2 W2 H2 n2 b2 cap2 vg p q) (hn : 1 ≤ n) (hn2 : 1 ≤ n2) (hb : Below w.heap.size w w') : PCaps w' X Y W H n b cap vf X2 Y2 W2 H2 n2 b2 cap2 vg p q :=
  ⟨blkStay h.one hb, blkStay h.two hb, flAt_congr h.row (hb.block _ (World.block_lt_of_cell? w _ (h.row 0 hn))), flAt_congr h.row2 (hb.block _ (World.block_lt_of_cell? w _ (h.row2 0 hn2)))⟩

end Go.Proofs.Ytncgcjeihihkfaa
