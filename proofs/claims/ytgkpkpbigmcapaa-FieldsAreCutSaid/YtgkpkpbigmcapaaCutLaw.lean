/- FieldsAreCut: Fill, Cut, Paste and Same answer as the references do. -/
import Derived.Test.YtgkpkpbigmcapaaCut9
import Derived.Test.YtgkpkpbigmcapaaReg3
namespace Go.Proofs.Ytgkpkpbigmcapaa
open Go.RowKit Fl
set_option linter.unusedVariables false

theorem fit_at {w w0 : World} {X Y W' H' : Int} {b n p lo : Nat} (x1 : -5000 ≤ X) (x2 : X ≤ 5000) (y1 : -5000 ≤ Y) (y2 : Y ≤ 5000) (u1 : 1 ≤ W') (u2 : W' ≤ 16) (h1 : 1 ≤ H') (h2 : H' ≤ 16) (hn : (n : Int) = W' * H') (hn1 : 1 ≤ n) (hn2 : n ≤ 256) (hlo : lo ≤ b) (hrow : FitRow w b n n) (hp : w0.heap[p]? = some (fldO X Y W' H' (.slice (some ⟨b, 0, none⟩) n n))) (hb : w0.heap[b]? = w.heap[b]?) (hlt : b < w0.heap.size) :
    ∃ (W H : Nat) (v : Nat → Nat), W' = W ∧ H' = H ∧ FitAt w0 p lo X Y W H n b v := by
  obtain ⟨W, rfl⟩ : ∃ W : Nat, W' = W := ⟨W'.toNat, by omega⟩
  obtain ⟨H, rfl⟩ : ∃ H : Nat, H' = H := ⟨H'.toNat, by omega⟩
  obtain ⟨v, fv, wv, hv, bv⟩ := fit_fn hrow
  refine ⟨W, H, v, rfl, rfl, fit_check x1 x2 y1 y2 u1 u2 h1 h2 hn hn2, ?_, hn1, hn2, hp, hlo, hlt, flAt_congr fv hb, wv, hv⟩
  have : (n : Int) = ((W * H : Nat) : Int) := by rw [hn]; simp
  omega

/-- What stands ahead of the law's first call: the two fields, the region, the single. -/
def CutAt (w wx : World) (rx ry rw rh : Int) (h : Nat) : Prop :=
  ∃ (X Y : Int) (W H n b : Nat) (v : Nat → Nat) (X2 Y2 : Int) (W2 H2 n2 b2 : Nat) (v2 : Nat → Nat), FitAt wx w.heap.size (w.heap.size + 1 + 1 + 1 + 1) X Y W H n b v ∧ FitAt wx (w.heap.size + 1) (w.heap.size + 1 + 1 + 1 + 1) X2 Y2 W2 H2 n2 b2 v2 ∧
    wx.heap[w.heap.size + 1 + 1]? = some (regObj rx ry rw rh) ∧ wx.heap[w.heap.size + 1 + 1 + 1]? = some (flObj h) ∧ Below w.heap.size w wx

/-- What all later worlds of the law keep. -/
structure LawAt (w wx : World) (X Y : Int) (W H n b : Nat) (v : Nat → Nat) (X2 Y2 : Int) (W2 H2 n2 b2 : Nat) (v2 : Nat → Nat) (rx ry rw rh : Int) (h : Nat) : Prop where
  f : FitAt wx w.heap.size (w.heap.size + 1 + 1 + 1 + 1) X Y W H n b v
  g : FitAt wx (w.heap.size + 1) (w.heap.size + 1 + 1 + 1 + 1) X2 Y2 W2 H2 n2 b2 v2
  r : wx.heap[w.heap.size + 1 + 1]? = some (regObj rx ry rw rh)
  h : wx.heap[w.heap.size + 1 + 1 + 1]? = some (flObj h)
  bel : Below w.heap.size w wx
theorem LawAt.stay {w wx wy : World} {X Y : Int} {W H n b : Nat} {v : Nat → Nat} {X2 Y2 : Int} {W2 H2 n2 b2 : Nat} {v2 : Nat → Nat} {rx ry rw rh : Int} {h : Nat} (L : LawAt w wx X Y W H n b v X2 Y2 W2 H2 n2 b2 v2 rx ry rw rh h) (hb : Below wx.heap.size wx wy) : LawAt w wy X Y W H n b v X2 Y2 W2 H2 n2 b2 v2 rx ry rw rh h :=
  ⟨L.f.stay hb, L.g.stay hb, blkStay L.r hb, blkStay L.h hb, L.bel.trans (hb.mono L.bel.size)⟩
theorem LawAt.cells {w wx : World} {X Y : Int} {W H n b : Nat} {v : Nat → Nat} {X2 Y2 : Int} {W2 H2 n2 b2 : Nat} {v2 : Nat → Nat} {rx ry rw rh : Int} {h : Nat} (L : LawAt w wx X Y W H n b v X2 Y2 W2 H2 n2 b2 v2 rx ry rw rh h) :
    (∀ o, wx.cell? ⟨w.heap.size, o, none⟩ = #[.int .i64 X, .int .i64 Y, .int .i64 W, .int .i64 H, .slice (some ⟨b, 0, none⟩) n n][o]?) ∧ (∀ o, wx.cell? ⟨w.heap.size + 1, o, none⟩ = #[.int .i64 X2, .int .i64 Y2, .int .i64 W2, .int .i64 H2, .slice (some ⟨b2, 0, none⟩) n2 n2][o]?) ∧
    (∀ o, wx.cell? ⟨w.heap.size + 1 + 1, o, none⟩ = #[.int .i64 rx, .int .i64 ry, .int .i64 rw, .int .i64 rh][o]?) ∧ (∀ o, wx.cell? ⟨w.heap.size + 1 + 1 + 1, o, none⟩ = #[Value.float .f32 h][o]?) ∧ w.heap.size < wx.heap.size ∧ w.heap.size + 1 < wx.heap.size ∧ w.heap.size + 1 + 1 < wx.heap.size ∧ w.heap.size + 1 + 1 + 1 < wx.heap.size :=
  ⟨(blkC L.f.fld).1, (blkC L.g.fld).1, (blkC L.r).1, (blkC L.h).1, (blkC L.f.fld).2.2, (blkC L.g.fld).2.2, (blkC L.r).2.2, (blkC L.h).2.2⟩
theorem made_yes {w w' : World} {X Y W H : Int} {n : Nat} {f : Nat → Nat} {e : Ending} (h : MadePost w X Y W H n f e w') (ha : allB n (fun i => hgtB (f i)) = true) :
    ∃ b cap, e = .returned (.tuple #[fldV X Y W H (.slice (some ⟨b, 0, none⟩) n cap), .int .i64 0]) ∧ b < w'.heap.size ∧ FlAt w' b 0 n f ∧ Below w.heap.size w w' := by
  rcases h with ⟨_, b, cap, h1, _, h3, h4, h5⟩ | ⟨h1, _⟩
  · exact ⟨b, cap, h1, h3, h4, h5⟩
  · rw [ha] at h1; cases h1

theorem one_yes {w w' : World} {X Y W H : Int} {n : Nat} {f : Nat → Nat} {e : Ending} (h : OnePost w X Y W H n f e w') :
    ∃ b cap, e = .returned (fldV X Y W H (.slice (some ⟨b, 0, none⟩) n cap)) ∧ b < w'.heap.size ∧ FlAt w' b 0 n f ∧ Below w.heap.size w w' := by
  obtain ⟨b, cap, h1, _, h3, h4, h5⟩ := h
  exact ⟨b, cap, h1, h3, h4, h5⟩

theorem fitRow_congr {w w' : World} {b n : Nat} (h : FitRow w b n n) (e : w'.heap[b]? = w.heap[b]?) : FitRow w' b n n := by
  obtain ⟨cs, h1, h2⟩ := h
  exact ⟨cs, by rw [e]; exact h1, h2⟩
theorem fitRow_lt {w : World} {b n : Nat} (h : FitRow w b n n) : b < w.heap.size := by
  obtain ⟨cs, h1, _⟩ := h
  exact (blkC h1).2.2
theorem cut_rel {w w3 : World} {rx ry rw rh : Int} {h : Nat} {a0 a1 a2 a3 a4 c0 c1 c2 c3 c4 : Value} {X Y W' H' X2 Y2 W2' H2' : Int} {b n b2 n2 : Nat}
    (HA : w3.heap[w.heap.size]? = some (.cells #[a0, a1, a2, a3, a4] 26)) (HG : w3.heap[w.heap.size + 1]? = some (.cells #[c0, c1, c2, c3, c4] 26)) (HR : w3.heap[w.heap.size + 1 + 1]? = some (regObj rx ry rw rh)) (HH : w3.heap[w.heap.size + 1 + 1 + 1]? = some (flObj h)) (HB : Below w.heap.size w w3)
    (x1 : -5000 ≤ X) (x2 : X ≤ 5000) (y1 : -5000 ≤ Y) (y2 : Y ≤ 5000) (u1 : 1 ≤ W') (u2 : W' ≤ 16) (h1 : 1 ≤ H') (h2 : H' ≤ 16) (hn : (n : Int) = W' * H') (hn1 : 1 ≤ n) (hn2 : n ≤ 256) (hlo : w.heap.size + 1 + 1 + 1 + 1 ≤ b) (hrow : FitRow w3 b n n)
    (gx1 : -5000 ≤ X2) (gx2 : X2 ≤ 5000) (gy1 : -5000 ≤ Y2) (gy2 : Y2 ≤ 5000) (gu1 : 1 ≤ W2') (gu2 : W2' ≤ 16) (gh1 : 1 ≤ H2') (gh2 : H2' ≤ 16) (ghn : (n2 : Int) = W2' * H2') (ghn1 : 1 ≤ n2) (ghn2 : n2 ≤ 256) (ghlo : w.heap.size + 1 + 1 + 1 + 1 ≤ b2) (ghrow : FitRow w3 b2 n2 n2) :
    CutAt w (set5 (set5 w3 w.heap.size (.int .i64 X) (.int .i64 Y) (.int .i64 W') (.int .i64 H') (.slice (some ⟨b, 0, none⟩) n n)) (w.heap.size + 1) (.int .i64 X2) (.int .i64 Y2) (.int .i64 W2') (.int .i64 H2') (.slice (some ⟨b2, 0, none⟩) n2 n2)) rx ry rw rh h := by
  have e : ∀ k, k ≠ w.heap.size → k ≠ w.heap.size + 1 → (set5 (set5 w3 w.heap.size (.int .i64 X) (.int .i64 Y) (.int .i64 W') (.int .i64 H') (.slice (some ⟨b, 0, none⟩) n n)) (w.heap.size + 1) (.int .i64 X2) (.int .i64 Y2) (.int .i64 W2') (.int .i64 H2') (.slice (some ⟨b2, 0, none⟩) n2 n2)).heap[k]? = w3.heap[k]? := fun k k1 k2 => by rw [set5_heap _ _ _ _ _ _ _ _ k2, set5_heap _ _ _ _ _ _ _ _ k1]
  have lt1 := fitRow_lt hrow
  have lt2 := fitRow_lt ghrow
  obtain ⟨W, H, v, rfl, rfl, F1⟩ := fit_at (p := w.heap.size) x1 x2 y1 y2 u1 u2 h1 h2 hn hn1 hn2 hlo hrow ((set5_heap _ _ _ _ _ _ _ _ (by omega)).trans (set5_self _ _ _ _ _ HA)) (e b (by omega) (by omega)) (by rw [set5_size, set5_size]; exact lt1)
  obtain ⟨W2, H2, v2, rfl, rfl, F2⟩ := fit_at (p := w.heap.size + 1) gx1 gx2 gy1 gy2 gu1 gu2 gh1 gh2 ghn ghn1 ghn2 ghlo ghrow (set5_self _ _ _ _ _ ((set5_heap _ _ _ _ _ _ _ _ (by omega)).trans HG)) (e b2 (by omega) (by omega)) (by rw [set5_size, set5_size]; exact lt2)
  exact ⟨X, Y, W, H, n, b, v, X2, Y2, W2, H2, n2, b2, v2, F1, F2, (e _ (by omega) (by omega)).trans HR, (e _ (by omega) (by omega)).trans HH, set5_below (set5_below HB _ _ _ _ _ _ (Nat.le_refl _)) _ _ _ _ _ _ (by omega)⟩

end Go.Proofs.Ytgkpkpbigmcapaa
