/- What CellsBlend wants of the fields that fit makes (FitAt, fit_at as in XCut9, XCutLaw: those texts are not imported). -/
import Derived.Test.YtncgcjeihihkfaaRep
import Derived.Test.YtncgcjeihihkfaaRes
import Derived.Test.YtncgcjeihihkfaaFit2
namespace Go.Proofs.Ytncgcjeihihkfaa
open Go.RowKit Fl
set_option linter.unusedVariables false

/-- A field that fit has made lies in block p, its singles in a block from lo on. -/
structure FitAt (w : World) (p lo : Nat) (X Y : Int) (W H n b : Nat) (v : Nat → Nat) : Prop where
  chk : checkR X Y W H = 0
  num : n = W * H
  pos : 1 ≤ n
  few : n ≤ 256
  fld : w.heap[p]? = some (fldO X Y W H (.slice (some ⟨b, 0, none⟩) n n))
  low : lo ≤ b
  lt : b < w.heap.size
  row : FlAt w b 0 n v
  wf : wf32 n v
  hgt : allB n (fun i => hgtB (v i)) = true
theorem FitAt.stay {w w' : World} {p lo : Nat} {X Y : Int} {W H n b : Nat} {v : Nat → Nat} (h : FitAt w p lo X Y W H n b v) (hb : Below w.heap.size w w') : FitAt w' p lo X Y W H n b v :=
  ⟨h.chk, h.num, h.pos, h.few, blkStay h.fld hb, h.low, Nat.lt_of_lt_of_le h.lt hb.size, flAt_congr h.row (hb.block _ h.lt), h.wf, h.hgt⟩
theorem fit_at {w w0 : World} {X Y W' H' : Int} {b n p lo : Nat} (x1 : -5000 ≤ X) (x2 : X ≤ 5000) (y1 : -5000 ≤ Y) (y2 : Y ≤ 5000) (u1 : 1 ≤ W') (u2 : W' ≤ 16) (h1 : 1 ≤ H') (h2 : H' ≤ 16) (hn : (n : Int) = W' * H') (hn1 : 1 ≤ n) (hn2 : n ≤ 256) (hlo : lo ≤ b) (hrow : FitRow w b n n) (hp : w0.heap[p]? = some (fldO X Y W' H' (.slice (some ⟨b, 0, none⟩) n n))) (hb : w0.heap[b]? = w.heap[b]?) (hlt : b < w0.heap.size) :
    ∃ (W H : Nat) (v : Nat → Nat), W' = W ∧ H' = H ∧ FitAt w0 p lo X Y W H n b v := by
  obtain ⟨W, rfl⟩ : ∃ W : Nat, W' = W := ⟨W'.toNat, by omega⟩
  obtain ⟨H, rfl⟩ : ∃ H : Nat, H' = H := ⟨H'.toNat, by omega⟩
  obtain ⟨v, fv, wv, hv, bv⟩ := fit_fn hrow
  refine ⟨W, H, v, rfl, rfl, fit_check x1 x2 y1 y2 u1 u2 h1 h2 hn hn2, ?_, hn1, hn2, hp, hlo, hlt, flAt_congr fv hb, wv, hv⟩
  have : (n : Int) = ((W * H : Nat) : Int) := by rw [hn]; simp
  omega

theorem fitRow_congr {w w' : World} {b n : Nat} (h : FitRow w b n n) (e : w'.heap[b]? = w.heap[b]?) : FitRow w' b n n := by
  obtain ⟨cs, h1, h2⟩ := h
  exact ⟨cs, by rw [e]; exact h1, h2⟩
theorem fitRow_lt {w : World} {b n : Nat} (h : FitRow w b n n) : b < w.heap.size := by
  obtain ⟨cs, h1, _⟩ := h
  exact (blkC h1).2.2
/-- What stands behind the three calls of fit. -/
def TriAt (w wx : World) : Prop :=
  ∃ (X Y : Int) (W H n b : Nat) (v : Nat → Nat) (X2 Y2 : Int) (W2 H2 n2 b2 : Nat) (v2 : Nat → Nat) (X3 Y3 : Int) (W3 H3 n3 b3 : Nat) (v3 : Nat → Nat), FitAt wx w.heap.size (w.heap.size + 1 + 1 + 1) X Y W H n b v ∧ FitAt wx (w.heap.size + 1) (w.heap.size + 1 + 1 + 1) X2 Y2 W2 H2 n2 b2 v2 ∧ FitAt wx (w.heap.size + 1 + 1) (w.heap.size + 1 + 1 + 1) X3 Y3 W3 H3 n3 b3 v3 ∧ FitRow wx b2 n2 n2 ∧ FitRow wx b3 n3 n3 ∧ Below w.heap.size w wx

theorem tri_rel {w w4 : World} {a0 a1 a2 a3 a4 c0 c1 c2 c3 c4 d0 d1 d2 d3 d4 : Value} {X Y W' H' X2 Y2 W2' H2' X3 Y3 W3' H3' : Int} {b n b2 n2 b3 n3 : Nat}
    (HA : w4.heap[w.heap.size]? = some (.cells #[a0, a1, a2, a3, a4] 36)) (HG : w4.heap[w.heap.size + 1]? = some (.cells #[c0, c1, c2, c3, c4] 36)) (HW : w4.heap[w.heap.size + 1 + 1]? = some (.cells #[d0, d1, d2, d3, d4] 36)) (HB : Below w.heap.size w w4)
    (x1 : -5000 ≤ X) (x2 : X ≤ 5000) (y1 : -5000 ≤ Y) (y2 : Y ≤ 5000) (u1 : 1 ≤ W') (u2 : W' ≤ 16) (h1 : 1 ≤ H') (h2 : H' ≤ 16) (hn : (n : Int) = W' * H') (hn1 : 1 ≤ n) (hn2 : n ≤ 256) (hlo : w.heap.size + 1 + 1 + 1 ≤ b) (hrow : FitRow w4 b n n)
    (gx1 : -5000 ≤ X2) (gx2 : X2 ≤ 5000) (gy1 : -5000 ≤ Y2) (gy2 : Y2 ≤ 5000) (gu1 : 1 ≤ W2') (gu2 : W2' ≤ 16) (gh1 : 1 ≤ H2') (gh2 : H2' ≤ 16) (ghn : (n2 : Int) = W2' * H2') (ghn1 : 1 ≤ n2) (ghn2 : n2 ≤ 256) (ghlo : w.heap.size + 1 + 1 + 1 ≤ b2) (ghrow : FitRow w4 b2 n2 n2)
    (kx1 : -5000 ≤ X3) (kx2 : X3 ≤ 5000) (ky1 : -5000 ≤ Y3) (ky2 : Y3 ≤ 5000) (ku1 : 1 ≤ W3') (ku2 : W3' ≤ 16) (kh1 : 1 ≤ H3') (kh2 : H3' ≤ 16) (khn : (n3 : Int) = W3' * H3') (khn1 : 1 ≤ n3) (khn2 : n3 ≤ 256) (khlo : w.heap.size + 1 + 1 + 1 ≤ b3) (khrow : FitRow w4 b3 n3 n3) :
    TriAt w (set5 (set5 (set5 w4 w.heap.size (.int .i64 X) (.int .i64 Y) (.int .i64 W') (.int .i64 H') (.slice (some ⟨b, 0, none⟩) n n)) (w.heap.size + 1) (.int .i64 X2) (.int .i64 Y2) (.int .i64 W2') (.int .i64 H2') (.slice (some ⟨b2, 0, none⟩) n2 n2)) (w.heap.size + 1 + 1) (.int .i64 X3) (.int .i64 Y3) (.int .i64 W3') (.int .i64 H3') (.slice (some ⟨b3, 0, none⟩) n3 n3)) := by
  have lt1 := fitRow_lt hrow
  have lt2 := fitRow_lt ghrow
  have lt3 := fitRow_lt khrow
  have e : ∀ k, k ≠ w.heap.size → k ≠ w.heap.size + 1 → k ≠ w.heap.size + 1 + 1 → (set5 (set5 (set5 w4 w.heap.size (.int .i64 X) (.int .i64 Y) (.int .i64 W') (.int .i64 H') (.slice (some ⟨b, 0, none⟩) n n)) (w.heap.size + 1) (.int .i64 X2) (.int .i64 Y2) (.int .i64 W2') (.int .i64 H2') (.slice (some ⟨b2, 0, none⟩) n2 n2)) (w.heap.size + 1 + 1) (.int .i64 X3) (.int .i64 Y3) (.int .i64 W3') (.int .i64 H3') (.slice (some ⟨b3, 0, none⟩) n3 n3)).heap[k]? = w4.heap[k]? := fun k k1 k2 k3 => by rw [set5_heap _ _ _ _ _ _ _ _ k3, set5_heap _ _ _ _ _ _ _ _ k2, set5_heap _ _ _ _ _ _ _ _ k1]
  obtain ⟨W, H, v, rfl, rfl, F1⟩ := fit_at (p := w.heap.size) x1 x2 y1 y2 u1 u2 h1 h2 hn hn1 hn2 hlo hrow ((set5_heap _ _ _ _ _ _ _ _ (by omega)).trans ((set5_heap _ _ _ _ _ _ _ _ (by omega)).trans (set5_self _ _ _ _ _ HA))) (e b (by omega) (by omega) (by omega)) (by rw [set5_size, set5_size, set5_size]; exact lt1)
  obtain ⟨W2, H2, v2, rfl, rfl, F2⟩ := fit_at (p := w.heap.size + 1) gx1 gx2 gy1 gy2 gu1 gu2 gh1 gh2 ghn ghn1 ghn2 ghlo ghrow ((set5_heap _ _ _ _ _ _ _ _ (by omega)).trans (set5_self _ _ _ _ _ ((set5_heap _ _ _ _ _ _ _ _ (by omega)).trans HG))) (e b2 (by omega) (by omega) (by omega)) (by rw [set5_size, set5_size, set5_size]; exact lt2)
  obtain ⟨W3, H3, v3, rfl, rfl, F3⟩ := fit_at (p := w.heap.size + 1 + 1) kx1 kx2 ky1 ky2 ku1 ku2 kh1 kh2 khn khn1 khn2 khlo khrow (set5_self _ _ _ _ _ ((set5_heap _ _ _ _ _ _ _ _ (by omega)).trans ((set5_heap _ _ _ _ _ _ _ _ (by omega)).trans HW))) (e b3 (by omega) (by omega) (by omega)) (by rw [set5_size, set5_size, set5_size]; exact lt3)
  exact ⟨X, Y, W, H, n, b, v, X2, Y2, W2, H2, n2, b2, v2, X3, Y3, W3, H3, n3, b3, v3, F1, F2, F3, fitRow_congr ghrow (e b2 (by omega) (by omega) (by omega)), fitRow_congr khrow (e b3 (by omega) (by omega) (by omega)), set5_below (set5_below (set5_below HB _ _ _ _ _ _ (Nat.le_refl _)) _ _ _ _ _ _ (by omega)) _ _ _ _ _ _ (by omega)⟩


/-- What stands behind the copies of the region. -/
def QuadAt (w wx : World) : Prop :=
  ∃ (X Y : Int) (W H n b : Nat) (v : Nat → Nat) (n2 b2 n3 b3 : Nat), FitAt wx w.heap.size (w.heap.size + 1 + 1 + 1) X Y W H n b v ∧ wx.heap[w.heap.size + 1]? = some (fldO X Y W H (.slice (some ⟨b2, 0, none⟩) n2 n2)) ∧ wx.heap[w.heap.size + 1 + 1]? = some (fldO X Y W H (.slice (some ⟨b3, 0, none⟩) n3 n3)) ∧
    FitRow wx b2 n2 n2 ∧ FitRow wx b3 n3 n3 ∧ 1 ≤ n2 ∧ n2 ≤ 256 ∧ 1 ≤ n3 ∧ n3 ≤ 256 ∧ w.heap.size + 1 + 1 + 1 ≤ b2 ∧ w.heap.size + 1 + 1 + 1 ≤ b3 ∧ Below w.heap.size w wx

def set4 (wr : World) (b : Nat) (u1 u2 u3 u4 : Value) : World := (((wr.setCell ⟨b, 0, none⟩ u1).setCell ⟨b, 1, none⟩ u2).setCell ⟨b, 2, none⟩ u3).setCell ⟨b, 3, none⟩ u4
theorem set4_heap (wr : World) (b k : Nat) (u1 u2 u3 u4 : Value) (h : k ≠ b) : (set4 wr b u1 u2 u3 u4).heap[k]? = wr.heap[k]? := by
  unfold set4
  rw [Below.heap_setCell _ _ _ _ h, Below.heap_setCell _ _ _ _ h, Below.heap_setCell _ _ _ _ h, Below.heap_setCell _ _ _ _ h]
theorem set4_below {w wr : World} {B : Nat} (hb : Below B w wr) (b : Nat) (u1 u2 u3 u4 : Value) (h : B ≤ b) : Below B w (set4 wr b u1 u2 u3 u4) :=
  (((hb.setCell (p := ⟨b, 0, none⟩) h u1).setCell (p := ⟨b, 1, none⟩) h u2).setCell (p := ⟨b, 2, none⟩) h u3).setCell (p := ⟨b, 3, none⟩) h u4
theorem set4_size (wr : World) (b : Nat) (u1 u2 u3 u4 : Value) : (set4 wr b u1 u2 u3 u4).heap.size = wr.heap.size := by simp [set4]
theorem set4_self {wr : World} {b : Nat} {a1 a2 a3 a4 a5 : Value} {t : TypeId} (u1 u2 u3 u4 : Value) (h : wr.heap[b]? = some (.cells #[a1, a2, a3, a4, a5] t (0, 0))) :
    (set4 wr b u1 u2 u3 u4).heap[b]? = some (.cells #[u1, u2, u3, u4, a5] t (0, 0)) := by
  have h1 := heap_setCell_same wr b 0 _ _ u1 h
  have h2 := heap_setCell_same _ b 1 _ _ u2 h1
  have h3 := heap_setCell_same _ b 2 _ _ u3 h2
  have h4 := heap_setCell_same _ b 3 _ _ u4 h3
  exact h4

theorem FitAt.congr {w w' : World} {p lo : Nat} {X Y : Int} {W H n b : Nat} {v : Nat → Nat} (h : FitAt w p lo X Y W H n b v) (e1 : w'.heap[p]? = w.heap[p]?) (e2 : w'.heap[b]? = w.heap[b]?) (e3 : w'.heap.size = w.heap.size) : FitAt w' p lo X Y W H n b v :=
  ⟨h.chk, h.num, h.pos, h.few, e1.trans h.fld, h.low, by rw [e3]; exact h.lt, flAt_congr h.row e2, h.wf, h.hgt⟩

theorem quad_rel {w wx : World} {X Y : Int} {W H n b : Nat} {v : Nat → Nat} {X2 Y2 : Int} {W2 H2 n2 b2 : Nat} {v2 : Nat → Nat} {X3 Y3 : Int} {W3 H3 n3 b3 : Nat} {v3 : Nat → Nat} (F1 : FitAt wx w.heap.size (w.heap.size + 1 + 1 + 1) X Y W H n b v) (F2 : FitAt wx (w.heap.size + 1) (w.heap.size + 1 + 1 + 1) X2 Y2 W2 H2 n2 b2 v2) (F3 : FitAt wx (w.heap.size + 1 + 1) (w.heap.size + 1 + 1 + 1) X3 Y3 W3 H3 n3 b3 v3) (r2 : FitRow wx b2 n2 n2) (r3 : FitRow wx b3 n3 n3) (hb : Below w.heap.size w wx) :
    QuadAt w (set4 (set4 wx (w.heap.size + 1) (.int .i64 X) (.int .i64 Y) (.int .i64 W) (.int .i64 H)) (w.heap.size + 1 + 1) (.int .i64 X) (.int .i64 Y) (.int .i64 W) (.int .i64 H)) := by
  have l1 := F1.low
  have l2 := F2.low
  have l3 := F3.low
  have e : ∀ k, k ≠ w.heap.size + 1 → k ≠ w.heap.size + 1 + 1 → (set4 (set4 wx (w.heap.size + 1) (.int .i64 X) (.int .i64 Y) (.int .i64 W) (.int .i64 H)) (w.heap.size + 1 + 1) (.int .i64 X) (.int .i64 Y) (.int .i64 W) (.int .i64 H)).heap[k]? = wx.heap[k]? := fun k k1 k2 => by rw [set4_heap _ _ _ _ _ _ _ k2, set4_heap _ _ _ _ _ _ _ k1]
  exact ⟨X, Y, W, H, n, b, v, n2, b2, n3, b3, F1.congr (e _ (by omega) (by omega)) (e _ (by omega) (by omega)) (by rw [set4_size, set4_size]), (set4_heap _ _ _ _ _ _ _ (by omega)).trans (set4_self _ _ _ _ F2.fld), set4_self _ _ _ _ ((set4_heap _ _ _ _ _ _ _ (by omega)).trans F3.fld), fitRow_congr r2 (e _ (by omega) (by omega)), fitRow_congr r3 (e _ (by omega) (by omega)), F2.pos, F2.few, F3.pos, F3.few, l2, l3, set4_below (set4_below hb _ _ _ _ _ (by omega)) _ _ _ _ _ (by omega)⟩
theorem QuadAt.drew {w wx : World} (h : QuadAt w wx) : QuadAt w wx.drew := by
  obtain ⟨X, Y, W, H, n, b, v, n2, b2, n3, b3, F, g, k, r2, r3, a1, a2, a3, a4, l2, l3, hb⟩ := h
  exact ⟨X, Y, W, H, n, b, v, n2, b2, n3, b3, F.congr rfl rfl rfl, g, k, fitRow_congr r2 rfl, fitRow_congr r3 rfl, a1, a2, a3, a4, l2, l3, hb.drew⟩

/-- Three fields of one region, each with as many right cells as the region has: what the law asks about. -/
def PentAt (w wx : World) : Prop :=
  ∃ (X Y : Int) (W H n b : Nat) (v : Nat → Nat) (g2 N2 : Nat) (v2 : Nat → Nat) (g3 N3 : Nat) (v3 : Nat → Nat), FitAt wx w.heap.size (w.heap.size + 1 + 1 + 1) X Y W H n b v ∧ wx.heap[w.heap.size + 1]? = some (fldO X Y W H (.slice (some ⟨g2, 0, none⟩) n N2)) ∧ wx.heap[w.heap.size + 1 + 1]? = some (fldO X Y W H (.slice (some ⟨g3, 0, none⟩) n N3)) ∧
    (FlAt wx g2 0 n v2 ∧ wf32 n v2 ∧ allB n (fun i => hgtB (v2 i)) = true ∧ g2 < wx.heap.size) ∧ (FlAt wx g3 0 n v3 ∧ wf32 n v3 ∧ allB n (fun i => hgtB (v3 i)) = true ∧ g3 < wx.heap.size) ∧ Below w.heap.size w wx

theorem part_row {w : World} {g n N : Nat} (h : FitRow w g N N) (hn : n ≤ N) : ∃ v, FlAt w g 0 n v ∧ wf32 n v ∧ allB n (fun i => hgtB (v i)) = true ∧ g < w.heap.size := by
  obtain ⟨v, h1, h2, h3, h4⟩ := fit_fn h
  exact ⟨v, fun i hi => h1 i (Nat.lt_of_lt_of_le hi hn), fun i hi => h2 i (Nat.lt_of_lt_of_le hi hn), allB_iff.2 fun i hi => allB_iff.1 h3 i (Nat.lt_of_lt_of_le hi hn), h4⟩

def set1 (wr : World) (b : Nat) (u : Value) : World := wr.setCell ⟨b, 4, none⟩ u
theorem set1_heap (wr : World) (b k : Nat) (u : Value) (h : k ≠ b) : (set1 wr b u).heap[k]? = wr.heap[k]? := by
  unfold set1; rw [Below.heap_setCell _ _ _ _ h]
theorem set1_size (wr : World) (b : Nat) (u : Value) : (set1 wr b u).heap.size = wr.heap.size := by simp [set1]
theorem set1_self {wr : World} {b : Nat} {a1 a2 a3 a4 a5 : Value} {t : TypeId} (u : Value) (h : wr.heap[b]? = some (.cells #[a1, a2, a3, a4, a5] t (0, 0))) : (set1 wr b u).heap[b]? = some (.cells #[a1, a2, a3, a4, u] t (0, 0)) := by
  have h1 := heap_setCell_same wr b 4 _ _ u h
  exact h1
theorem pent_rel {w wx : World} {X Y : Int} {W H n b : Nat} {v : Nat → Nat} {s2 s3 : Value} {g2 N2 g3 N3 : Nat} (F1 : FitAt wx w.heap.size (w.heap.size + 1 + 1 + 1) X Y W H n b v) (hG : wx.heap[w.heap.size + 1]? = some (fldO X Y W H s2)) (hW : wx.heap[w.heap.size + 1 + 1]? = some (fldO X Y W H s3)) (r2 : FitRow wx g2 N2 N2) (r3 : FitRow wx g3 N3 N3) (n2 : n ≤ N2) (n3 : n ≤ N3) (l2 : w.heap.size + 1 + 1 + 1 ≤ g2) (l3 : w.heap.size + 1 + 1 + 1 ≤ g3) (hb : Below w.heap.size w wx) :
    PentAt w (set1 (set1 wx (w.heap.size + 1) (.slice (some ⟨g2, 0, none⟩) n N2)) (w.heap.size + 1 + 1) (.slice (some ⟨g3, 0, none⟩) n N3)) := by
  have l1 := F1.low
  have e : ∀ k, k ≠ w.heap.size + 1 → k ≠ w.heap.size + 1 + 1 → (set1 (set1 wx (w.heap.size + 1) (.slice (some ⟨g2, 0, none⟩) n N2)) (w.heap.size + 1 + 1) (.slice (some ⟨g3, 0, none⟩) n N3)).heap[k]? = wx.heap[k]? := fun k k1 k2 => by rw [set1_heap _ _ _ _ k2, set1_heap _ _ _ _ k1]
  obtain ⟨v2, p1, p2, p3, p4⟩ := part_row (fitRow_congr r2 (e g2 (by omega) (by omega))) n2
  obtain ⟨v3, q1, q2, q3, q4⟩ := part_row (fitRow_congr r3 (e g3 (by omega) (by omega))) n3
  exact ⟨X, Y, W, H, n, b, v, g2, N2, v2, g3, N3, v3, F1.congr (e _ (by omega) (by omega)) (e _ (by omega) (by omega)) (by rw [set1_size, set1_size]), (set1_heap _ _ _ _ (by omega)).trans (set1_self _ hG), set1_self _ ((set1_heap _ _ _ _ (by omega)).trans hW), ⟨p1, p2, p3, p4⟩, ⟨q1, q2, q3, q4⟩, (hb.setCell (p := ⟨w.heap.size + 1, 4, none⟩) (by show w.heap.size ≤ w.heap.size + 1; omega) _).setCell (p := ⟨w.heap.size + 1 + 1, 4, none⟩) (by show w.heap.size ≤ w.heap.size + 1 + 1; omega) _⟩
theorem PentAt.drew {w wx : World} (h : PentAt w wx) : PentAt w wx.drew := by
  obtain ⟨X, Y, W, H, n, b, v, g2, N2, v2, g3, N3, v3, F, g, k, a, c, hb⟩ := h
  exact ⟨X, Y, W, H, n, b, v, g2, N2, v2, g3, N3, v3, F.congr rfl rfl rfl, g, k, ⟨flAt_congr a.1 rfl, a.2⟩, ⟨flAt_congr c.1 rfl, c.2⟩, hb.drew⟩
end Go.Proofs.Ytncgcjeihihkfaa
