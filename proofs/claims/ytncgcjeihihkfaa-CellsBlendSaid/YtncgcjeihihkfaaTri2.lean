/- Three fields of one region in a world, behind calls and stores. -/
import Derived.Test.YtncgcjeihihkfaaTri
namespace Go.Proofs.Ytncgcjeihihkfaa
open Go.RowKit Fl
set_option linter.unusedVariables false

structure St5 (w wx : World) (X Y : Int) (W H n b : Nat) (v : Nat → Nat) (s2 s3 : Value) : Prop where
  f : FitAt wx w.heap.size (w.heap.size + 1 + 1 + 1) X Y W H n b v
  g : wx.heap[w.heap.size + 1]? = some (fldO X Y W H s2)
  h : wx.heap[w.heap.size + 1 + 1]? = some (fldO X Y W H s3)
  bel : Below w.heap.size w wx
theorem St5.size {w wx : World} {X Y : Int} {W H n b : Nat} {v : Nat → Nat} {s2 s3 : Value} (h : St5 w wx X Y W H n b v s2 s3) : w.heap.size + 1 + 1 + 1 ≤ wx.heap.size := by
  have := h.f.low
  have := h.f.lt
  omega
theorem St5.stay {w wx wy : World} {X Y : Int} {W H n b : Nat} {v : Nat → Nat} {s2 s3 : Value} (h : St5 w wx X Y W H n b v s2 s3) (hb : Below wx.heap.size wx wy) : St5 w wy X Y W H n b v s2 s3 :=
  ⟨h.f.stay hb, blkStay h.g hb, blkStay h.h hb, h.bel.trans (hb.mono h.bel.size)⟩
theorem St5.put2 {w wx : World} {X Y : Int} {W H n b : Nat} {v : Nat → Nat} {s2 s3 : Value} (h : St5 w wx X Y W H n b v s2 s3) (u : Value) : St5 w (wx.setCell ⟨w.heap.size + 1, 4, none⟩ u) X Y W H n b v u s3 := by
  have l := h.f.low
  exact ⟨h.f.congr (set1_heap wx _ _ u (by omega)) (set1_heap wx _ _ u (by omega)) (set1_size wx _ u), set1_self u h.g, (set1_heap wx _ _ u (by omega)).trans h.h, h.bel.setCell (p := ⟨w.heap.size + 1, 4, none⟩) (by show w.heap.size ≤ w.heap.size + 1; omega) _⟩
theorem St5.put3 {w wx : World} {X Y : Int} {W H n b : Nat} {v : Nat → Nat} {s2 s3 : Value} (h : St5 w wx X Y W H n b v s2 s3) (u : Value) : St5 w (wx.setCell ⟨w.heap.size + 1 + 1, 4, none⟩ u) X Y W H n b v s2 u := by
  have l := h.f.low
  exact ⟨h.f.congr (set1_heap wx _ _ u (by omega)) (set1_heap wx _ _ u (by omega)) (set1_size wx _ u), (set1_heap wx _ _ u (by omega)).trans h.g, set1_self u h.h, h.bel.setCell (p := ⟨w.heap.size + 1 + 1, 4, none⟩) (by show w.heap.size ≤ w.heap.size + 1 + 1; omega) _⟩
theorem fitRow_put {wx : World} {g N p : Nat} (r : FitRow wx g N N) (hp : g ≠ p) (u : Value) : FitRow (wx.setCell ⟨p, 4, none⟩ u) g N N := fitRow_congr r (set1_heap wx p g u hp)
theorem pent_mk {w wx : World} {X Y : Int} {W H n b : Nat} {v : Nat → Nat} {g2 N2 g3 N3 : Nat} (s : St5 w wx X Y W H n b v (.slice (some ⟨g2, 0, none⟩) n N2) (.slice (some ⟨g3, 0, none⟩) n N3)) (r2 : FitRow wx g2 N2 N2) (r3 : FitRow wx g3 N3 N3) (n2 : n ≤ N2) (n3 : n ≤ N3) : PentAt w wx := by
  obtain ⟨v2, p1, p2, p3, p4⟩ := part_row r2 n2
  obtain ⟨v3, q1, q2, q3, q4⟩ := part_row r3 n3
  exact ⟨X, Y, W, H, n, b, v, g2, N2, v2, g3, N3, v3, s.f, s.g, s.h, ⟨p1, p2, p3, p4⟩, ⟨q1, q2, q3, q4⟩, s.bel⟩
end Go.Proofs.Ytncgcjeihihkfaa
