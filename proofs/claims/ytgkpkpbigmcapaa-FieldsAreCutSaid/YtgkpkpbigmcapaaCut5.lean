/- The closures of Paste, on both sides. -/
import Derived.Test.YtgkpkpbigmcapaaCut4
namespace Go.Proofs.Ytgkpkpbigmcapaa
open Go.RowKit Fl
set_option linter.unusedVariables false

set_option maxHeartbeats 1000000 in
theorem pCell_any (x y : Int) (w : World) :
    Calls Try.prog 74 #[.int .i64 x, .int .i64 y] w fun e w' => e = .returned (reg x y 1 1) ∧ Below w.heap.size w w' := by
  go_enter Try.func74, Try.ntmps74
  go_wp2
  exact bodyPost_ret (v := reg x y 1 1) (by simp [results, Try.results74, go_sem]) rfl ⟨rfl, (by repeat (first | exact Below.refl _ _ | refine Below.alloc ?_ (by first | omega | (simp; done) | (simp; omega)) _ | refine Below.setCell ?_ (by first | omega | (simp; done) | (simp; omega)) _ | refine Below.drew ?_))⟩

set_option maxHeartbeats 1000000 in
theorem pThere_any (X Y : Int) (W H n b cap : Nat) (x y : Int) (c : Bool) (w : World) (h0 : checkR X Y W H = 0) (x1 : -536871000 ≤ x) (x2 : x ≤ 536871000) (y1 : -536871000 ≤ y) (y2 : y ≤ 536871000) (hc : insideB x y 1 1 X Y W H = c) :
    Calls Try.prog 76 #[fldV X Y W H (.slice (some ⟨b, 0, none⟩) n cap), .int .i64 x, .int .i64 y] w fun e w' => e = .returned (.bool c) ∧ Below w.heap.size w w' := by
  obtain ⟨b1, b2, b3, b4, b5, b6, b7, b8, b9⟩ := checkR_zero h0
  have IN := Lib.hid (fun w => refInside_any x y 1 1 X Y W H w (by omega) (by omega) (by omega) (by omega) (by omega) (by omega) (by omega) (by omega) (by omega) (by omega) (by omega) (by omega) (by omega) (by omega) (by omega) (by omega))
  rw [hc] at IN
  clear h0 b1 b2 b3 b4 b5 b6 b7 b8 b9 hc x1 x2 y1 y2
  go_enter Try.func76, Try.ntmps76
  go_wp2_with (first | (go_at_call 21; refine (IN.out _).mono ?_; rintro e w2 ⟨rfl, hb2⟩))
  go_ret
  exact ⟨rfl, Below.trans (by repeat (first | exact Below.refl _ _ | refine Below.alloc ?_ (by first | omega | (simp; done) | (simp; omega)) _ | refine Below.setCell ?_ (by first | omega | (simp; done) | (simp; omega)) _ | refine Below.drew ?_)) (hb2.mono (by simp))⟩

/-- What Paste makes of the cell number i. -/
def pstF (vf vg : Nat → Nat) (X Y : Int) (W : Nat) (X2 Y2 : Int) (W2 H2 : Nat) (i : Nat) : Nat :=
  if insideB (X + ((i % W : Nat) : Int)) (Y + ((i / W : Nat) : Int)) 1 1 X2 Y2 W2 H2 then vg (subN X2 Y2 W2 X Y W i) else vf i

theorem al_belowC (w : World) (o : Obj) : Below w.heap.size w (w.alloc o) := (Below.refl _ _).alloc (Nat.le_refl _) o
/-- What the closures hold. -/
structure PCaps (w : World) (X Y : Int) (W H n b cap : Nat) (vf : Nat → Nat) (X2 Y2 : Int) (W2 H2 n2 b2 cap2 : Nat) (vg : Nat → Nat) (p q : Nat) : Prop where
  one : w.heap[p]? = some (fldO X Y W H (.slice (some ⟨b, 0, none⟩) n cap))
  two : w.heap[q]? = some (fldO X2 Y2 W2 H2 (.slice (some ⟨b2, 0, none⟩) n2 cap2))
  row : FlAt w b 0 n vf
  row2 : FlAt w b2 0 n2 vg
theorem PCaps.stay {w w' : World} {X Y : Int} {W H n b cap : Nat} {vf : Nat → Nat} {X2 Y2 : Int} {W2 H2 n2 b2 cap2 : Nat} {vg : Nat → Nat} {p q : Nat} (h : PCaps w X Y W H n b cap vf X2 Y2 W2 H2 n2 b2 cap2 vg p q) (hn : 1 ≤ n) (hn2 : 1 ≤ n2) (hb : Below w.heap.size w w') : PCaps w' X Y W H n b cap vf X2 Y2 W2 H2 n2 b2 cap2 vg p q :=
  ⟨blkStay h.one hb, blkStay h.two hb, flAt_congr h.row (hb.block _ (World.block_lt_of_cell? w _ (h.row 0 hn))), flAt_congr h.row2 (hb.block _ (World.block_lt_of_cell? w _ (h.row2 0 hn2)))⟩

set_option maxHeartbeats 4000000 in
set_option maxRecDepth 100000 in
theorem paste1_any (X Y : Int) (W H n b cap : Nat) (vf : Nat → Nat) (X2 Y2 : Int) (W2 H2 n2 b2 cap2 : Nat) (vg : Nat → Nat) (p q r : Nat) (c1 c2 c3 c4 : Int) (w : World) (hk : PCaps w X Y W H n b cap vf X2 Y2 W2 H2 n2 b2 cap2 vg p q) (hr : w.heap[r]? = some (regObj c1 c2 c3 c4))
    (h0 : checkR X Y W H = 0) (h02 : checkR X2 Y2 W2 H2 = 0) (hn : n = H * W) (hn2 : n2 = H2 * W2) (k1 : -1073741824 ≤ c1) (k2 : c1 ≤ 1073741824) (k3 : -1073741824 ≤ c2) (k4 : c2 ≤ 1073741824) (k5 : 1 ≤ c3) (k6 : c3 ≤ 1073741824) (k7 : 1 ≤ c4) (k8 : c4 ≤ 1073741824)
    (hcom : ∀ x y, X ≤ x → x < X + W → Y ≤ y → y < Y + H → insideB x y 1 1 c1 c2 c3 c4 = insideB x y 1 1 X2 Y2 W2 H2) :
    Clos2 73 #[.pointer (some ⟨p, 0, none⟩), .pointer (some ⟨r, 0, none⟩), .pointer (some ⟨q, 0, none⟩)] X Y W H (pstF vf vg X Y W X2 Y2 W2 H2) w := by
  intro x y i w2 h1 h2 h3 h4 h5 hb
  obtain ⟨b1, b2', b3, b4, b5, b6, b7, b8, b9⟩ := checkR_zero h0
  obtain ⟨d1, d2, d3, d4, d5, d6, d7, d8, d9⟩ := checkR_zero h02
  have en : ((W : Int) * (H : Int)) = (n : Int) := by rw [hn, Nat.mul_comm]; simp
  have en2 : ((W2 : Int) * (H2 : Int)) = (n2 : Int) := by rw [hn2, Nat.mul_comm]; simp
  have hN : n ≤ 65536 := by omega
  have hN2 : n2 ≤ 65536 := by omega
  have hp1 : 1 ≤ n := by rw [hn]; exact Nat.mul_pos (by omega) (by omega)
  have hp2 : 1 ≤ n2 := by rw [hn2]; exact Nat.mul_pos (by omega) (by omega)
  obtain ⟨ex, ey⟩ := place_of (show 1 ≤ W by omega) h1 h2 h3 h5
  have IN := Lib.hid (fun w => inside_any x y 1 1 c1 c2 c3 c4 w (by omega) (by omega) (by omega) (by omega) (by omega) (by omega) (by omega) (by omega) k1 k2 k3 k4 k5 k6 k7 k8)
  rw [hcom x y h1 h2 h3 h4] at IN
  show Calls _ _ _ _ fun e w' => e = .returned (.float .f32 (if insideB (X + ((i % W : Nat) : Int)) (Y + ((i / W : Nat) : Int)) 1 1 X2 Y2 W2 H2 then vg (subN X2 Y2 W2 X Y W i) else vf i)) ∧ _
  rw [ex, ey]
  have K := hk.stay hp1 hp2 hb
  have GR := Lib.hid (blkStay hr hb)
  have GF := Lib.hid K.one
  have GG := Lib.hid K.two
  cases hin : insideB x y 1 1 X2 Y2 W2 H2 with
  | false =>
    rw [hin] at IN
    have hi : i < n := num_lt (by omega) h1 h2 h4 h5 hn
    have IX := Lib.hid (fun w => index_any X Y W H i x y w (by omega) (by omega) (by omega) (by omega) (by omega) (by omega) (by omega) h1 h2 h3 h4 h5 (by omega))
    have hcell := K.row i hi
    rw [Nat.zero_add] at hcell
    have HC := Lib.hid hcell
    have zb : b < w2.heap.size := World.block_lt_of_cell? w2 _ hcell
    have hi2 : (i : Int) < (n : Int) := by omega
    have hi3 : (0 : Int) ≤ (i : Int) := by omega
    obtain ⟨cF, fF, zF⟩ := blkC GF.out
    obtain ⟨cR, fR, zR⟩ := blkC GR.out
    have HO := Lib.hid (heap_alloc_new w2 (fldO X Y W H (.slice (some ⟨b, 0, none⟩) n cap)))
    have hB := al_belowC w2 (fldO X Y W H (.slice (some ⟨b, 0, none⟩) n cap))
    clear hk hr hb h1 h2 h3 h4 h5 K ex ey hin hcom b1 b2' b3 b4 b5 b6 b7 b8 b9 d1 d2 d3 d4 d5 d6 d7 d8 d9 en en2 hN hN2 hp1 hp2 hn hn2 h0 h02 k1 k2 k3 k4 k5 k6 k7 k8 hi hcell
    go_enter Try.func73, Try.ntmps73
    go_wp2_with fail
    have GR3 := Lib.hid (blkStay GR.out hB)
    have HC3 := Lib.hid ((Below.cell (p := ⟨b, i, none⟩) hB zb).trans HC.out)
    have zb3 : b < (w2.alloc (fldO X Y W H (.slice (some ⟨b, 0, none⟩) n cap))).heap.size := by rw [heap_size_alloc]; exact Nat.lt_succ_of_lt zb
    have z23 := hB.size
    have HB := Lib.hid hB
    clear cF fF zF cR fR zR GR GF GG HC hB
    generalize w2.alloc (fldO X Y W H (.slice (some ⟨b, 0, none⟩) n cap)) = w3 at *
    obtain ⟨cR, fR, zR⟩ := blkC GR3.out
    obtain ⟨cO, fO, zO⟩ := blkC HO.out
    go_region_held3 (fun w' => (∀ o, w'.cell? ⟨r, o, none⟩ = #[.int .i64 c1, .int .i64 c2, .int .i64 c3, .int .i64 c4][o]?) ∧ Below w3.heap.size w3 w') (first | exact ⟨(blkC (blkStay GR3.out hb9)).1, hb9⟩ | exact ⟨(blkC (blkStay GR3.out (by repeat (first | exact Below.refl _ _ | refine Below.alloc ?_ (by first | omega | (simp; done) | (simp; omega)) _ | refine Below.setCell ?_ (by first | omega | (simp; done) | (simp; omega)) _ | refine Below.drew ?_)))).1, (by repeat (first | exact Below.refl _ _ | refine Below.alloc ?_ (by first | omega | (simp; done) | (simp; omega)) _ | refine Below.setCell ?_ (by first | omega | (simp; done) | (simp; omega)) _ | refine Below.drew ?_))⟩) (first | (go_at_call 74; (with_reducible refine Calls.mono (pCell_any _ _ _) ?_); rintro e w' ⟨rfl, hb8⟩; have hb9 : Below w3.heap.size w3 w' := (by first | exact hb8 | exact hold ‹_ ∧ Below w3.heap.size w3 _› hb8); clear hb8) | (go_at_call 65; (with_reducible refine Calls.mono (IN.out _) ?_); rintro e w' ⟨rfl, hb8⟩; have hb9 : Below w3.heap.size w3 w' := (by first | exact hb8 | exact hold ‹_ ∧ Below w3.heap.size w3 _› hb8); clear hb8))
    rename_i hHeld
    repeat (clear hb9)
    generalize w' = w5 at *
    have hB5 := hHeld.2
    have HO5 := Lib.hid (blkStay HO.out hB5)
    have HC5 := Lib.hid ((Below.cell (p := ⟨b, i, none⟩) hB5 zb3).trans HC3.out)
    have zb5 : b < w5.heap.size := Nat.lt_of_lt_of_le zb3 hB5.size
    have HB5 := Lib.hid (HB.out.trans (hB5.mono HB.out.size))
    clear cR fR zR cO fO zO GR3 HC3 HO hHeld hB5 HB IN zb zb3 z23
    obtain ⟨cO, fO, zO⟩ := blkC HO5.out
    have hcell := HC5.out
    go_wp2_with fail
    go_region_held3 (fun w' => (∀ o, w'.cell? ⟨w2.heap.size, o, none⟩ = #[.int .i64 X, .int .i64 Y, .int .i64 W, .int .i64 H, .slice (some ⟨b, 0, none⟩) n cap][o]?) ∧ w'.cell? ⟨b, i, none⟩ = some (.float .f32 (vf i)) ∧ Below w5.heap.size w5 w') (first | exact ⟨(blkC (blkStay HO5.out (by repeat (first | exact Below.refl _ _ | refine Below.alloc ?_ (by first | omega | (simp; done) | (simp; omega)) _ | refine Below.setCell ?_ (by first | omega | (simp; done) | (simp; omega)) _ | refine Below.drew ?_)))).1, (Below.cell (p := ⟨b, i, none⟩) (w := w5) (B := w5.heap.size) (by repeat (first | exact Below.refl _ _ | refine Below.alloc ?_ (by first | omega | (simp; done) | (simp; omega)) _ | refine Below.setCell ?_ (by first | omega | (simp; done) | (simp; omega)) _ | refine Below.drew ?_)) zb5).trans HC5.out, (by repeat (first | exact Below.refl _ _ | refine Below.alloc ?_ (by first | omega | (simp; done) | (simp; omega)) _ | refine Below.setCell ?_ (by first | omega | (simp; done) | (simp; omega)) _ | refine Below.drew ?_))⟩) (first | (go_at_call 68; (with_reducible refine Calls.mono (IX.out _) ?_); rintro e w' ⟨rfl, rfl⟩))
    rename_i hHeld
    go_wp2
    go_ret
    exact ⟨rfl, HB5.out.trans (hHeld.2.2.mono HB5.out.size)⟩
  | true =>
    rw [hin] at IN
    obtain ⟨g1, g2, g3, g4⟩ := insideB_iff.1 hin
    have hj := subN_of (X := X2) (Y := Y2) (W := W2) ex ey (by omega) (by omega)
    generalize subN X2 Y2 W2 X Y W i = j at hj ⊢
    have hi : j < n2 := num_lt (by omega) (by omega) (by omega) (by omega) hj hn2
    have IX := Lib.hid (fun w => index_any X2 Y2 W2 H2 j x y w (by omega) (by omega) (by omega) (by omega) (by omega) (by omega) (by omega) (by omega) (by omega) (by omega) (by omega) hj (by omega))
    have hcell := K.row2 j hi
    rw [Nat.zero_add] at hcell
    have HC := Lib.hid hcell
    have zb : b2 < w2.heap.size := World.block_lt_of_cell? w2 _ hcell
    have hi2 : (j : Int) < (n2 : Int) := by omega
    have hi3 : (0 : Int) ≤ (j : Int) := by omega
    obtain ⟨cF, fF, zF⟩ := blkC GF.out
    obtain ⟨cR, fR, zR⟩ := blkC GR.out
    have HO := Lib.hid (heap_alloc_new w2 (fldO X Y W H (.slice (some ⟨b, 0, none⟩) n cap)))
    have hB := al_belowC w2 (fldO X Y W H (.slice (some ⟨b, 0, none⟩) n cap))
    clear hj g1 g2 g3 g4 hk hr hb h1 h2 h3 h4 h5 K ex ey hin hcom b1 b2' b3 b4 b5 b6 b7 b8 b9 d1 d2 d3 d4 d5 d6 d7 d8 d9 en en2 hN hN2 hp1 hp2 hn hn2 h0 h02 k1 k2 k3 k4 k5 k6 k7 k8 hi hcell
    go_enter Try.func73, Try.ntmps73
    go_wp2_with fail
    have GR3 := Lib.hid (blkStay GR.out hB)
    have GG3 := Lib.hid (blkStay GG.out hB)
    have HC3 := Lib.hid ((Below.cell (p := ⟨b2, j, none⟩) hB zb).trans HC.out)
    have zb3 : b2 < (w2.alloc (fldO X Y W H (.slice (some ⟨b, 0, none⟩) n cap))).heap.size := by rw [heap_size_alloc]; exact Nat.lt_succ_of_lt zb
    have z23 := hB.size
    have HB := Lib.hid hB
    clear cF fF zF cR fR zR GR GF GG HC hB
    generalize w2.alloc (fldO X Y W H (.slice (some ⟨b, 0, none⟩) n cap)) = w3 at *
    obtain ⟨cR, fR, zR⟩ := blkC GR3.out
    obtain ⟨cO, fO, zO⟩ := blkC HO.out
    go_region_held3 (fun w' => (∀ o, w'.cell? ⟨r, o, none⟩ = #[.int .i64 c1, .int .i64 c2, .int .i64 c3, .int .i64 c4][o]?) ∧ Below w3.heap.size w3 w') (first | exact ⟨(blkC (blkStay GR3.out hb9)).1, hb9⟩ | exact ⟨(blkC (blkStay GR3.out (by repeat (first | exact Below.refl _ _ | refine Below.alloc ?_ (by first | omega | (simp; done) | (simp; omega)) _ | refine Below.setCell ?_ (by first | omega | (simp; done) | (simp; omega)) _ | refine Below.drew ?_)))).1, (by repeat (first | exact Below.refl _ _ | refine Below.alloc ?_ (by first | omega | (simp; done) | (simp; omega)) _ | refine Below.setCell ?_ (by first | omega | (simp; done) | (simp; omega)) _ | refine Below.drew ?_))⟩) (first | (go_at_call 74; (with_reducible refine Calls.mono (pCell_any _ _ _) ?_); rintro e w' ⟨rfl, hb8⟩; have hb9 : Below w3.heap.size w3 w' := (by first | exact hb8 | exact hold ‹_ ∧ Below w3.heap.size w3 _› hb8); clear hb8) | (go_at_call 65; (with_reducible refine Calls.mono (IN.out _) ?_); rintro e w' ⟨rfl, hb8⟩; have hb9 : Below w3.heap.size w3 w' := (by first | exact hb8 | exact hold ‹_ ∧ Below w3.heap.size w3 _› hb8); clear hb8))
    rename_i hHeld
    repeat (clear hb9)
    generalize w' = w5 at *
    have hB5 := hHeld.2
    have HO5 := Lib.hid (blkStay HO.out hB5)
    have HG5 := Lib.hid (blkStay GG3.out hB5)
    have HC5 := Lib.hid ((Below.cell (p := ⟨b2, j, none⟩) hB5 zb3).trans HC3.out)
    have zb5 : b2 < w5.heap.size := Nat.lt_of_lt_of_le zb3 hB5.size
    have hne : b2 ≠ w2.heap.size := by omega
    have HB5 := Lib.hid (set5_below (HB.out.trans (hB5.mono HB.out.size)) w2.heap.size (.int .i64 X2) (.int .i64 Y2) (.int .i64 W2) (.int .i64 H2) (.slice (some ⟨b2, 0, none⟩) n2 cap2) (Nat.le_refl _))
    clear cR fR zR cO fO zO GR3 GG3 HC3 HO hHeld hB5 HB IN zb zb3 z23
    obtain ⟨cO, fO, zO⟩ := blkC HO5.out
    obtain ⟨cG, fG, zG⟩ := blkC HG5.out
    go_wp2_with fail
    have HO6 := Lib.hid (set5_self (.int .i64 X2) (.int .i64 Y2) (.int .i64 W2) (.int .i64 H2) (.slice (some ⟨b2, 0, none⟩) n2 cap2) HO5.out)
    have HC6 := Lib.hid ((World.cell?_of_block (w := w5) (a := ⟨b2, j, none⟩) (set5_heap w5 w2.heap.size b2 (.int .i64 X2) (.int .i64 Y2) (.int .i64 W2) (.int .i64 H2) (.slice (some ⟨b2, 0, none⟩) n2 cap2) hne)).trans HC5.out)
    have zb6 : b2 < (set5 w5 w2.heap.size (.int .i64 X2) (.int .i64 Y2) (.int .i64 W2) (.int .i64 H2) (.slice (some ⟨b2, 0, none⟩) n2 cap2)).heap.size := by rw [set5_size]; exact zb5
    clear cO fO zO cG fG zG HO5 HC5 HG5
    dsimp only [set5] at HO6 HC6 zb6 HB5
    generalize ((((w5.setCell ⟨w2.heap.size, 0, none⟩ (.int .i64 X2)).setCell ⟨w2.heap.size, 1, none⟩ (.int .i64 Y2)).setCell ⟨w2.heap.size, 2, none⟩ (.int .i64 W2)).setCell ⟨w2.heap.size, 3, none⟩ (.int .i64 H2)).setCell ⟨w2.heap.size, 4, none⟩ (.slice (some ⟨b2, 0, none⟩) n2 cap2) = w6 at *
    obtain ⟨cO, fO, zO⟩ := blkC HO6.out
    have hcell := HC6.out
    go_region_held3 (fun w' => (∀ o, w'.cell? ⟨w2.heap.size, o, none⟩ = #[.int .i64 X2, .int .i64 Y2, .int .i64 W2, .int .i64 H2, .slice (some ⟨b2, 0, none⟩) n2 cap2][o]?) ∧ w'.cell? ⟨b2, j, none⟩ = some (.float .f32 (vg j)) ∧ Below w6.heap.size w6 w') (first | exact ⟨(blkC (blkStay HO6.out (by repeat (first | exact Below.refl _ _ | refine Below.alloc ?_ (by first | omega | (simp; done) | (simp; omega)) _ | refine Below.setCell ?_ (by first | omega | (simp; done) | (simp; omega)) _ | refine Below.drew ?_)))).1, (Below.cell (p := ⟨b2, j, none⟩) (w := w6) (B := w6.heap.size) (by repeat (first | exact Below.refl _ _ | refine Below.alloc ?_ (by first | omega | (simp; done) | (simp; omega)) _ | refine Below.setCell ?_ (by first | omega | (simp; done) | (simp; omega)) _ | refine Below.drew ?_)) zb6).trans HC6.out, (by repeat (first | exact Below.refl _ _ | refine Below.alloc ?_ (by first | omega | (simp; done) | (simp; omega)) _ | refine Below.setCell ?_ (by first | omega | (simp; done) | (simp; omega)) _ | refine Below.drew ?_))⟩) (first | (go_at_call 68; (with_reducible refine Calls.mono (IX.out _) ?_); rintro e w' ⟨rfl, rfl⟩))
    rename_i hHeld
    go_wp2
    go_ret
    exact ⟨rfl, HB5.out.trans (hHeld.2.2.mono HB5.out.size)⟩
end Go.Proofs.Ytgkpkpbigmcapaa
