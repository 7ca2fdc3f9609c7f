/- Select of both sides, of a right field. -/
import Derived.Test.YtjjhhnoeiglnhabSel2
import Derived.Test.YtjjhhnoeiglnhabRem
import Derived.Test.YtjjhhnoeiglnhabRes
namespace Go.Proofs.Ytjjhhnoeiglnhab
open Go.RowKit Fl
set_option linter.unusedVariables false

/-- Three singles, as a list. -/
def three (a b c : Nat) (i : Nat) : Nat := if i = 0 then a else if i = 1 then b else c
theorem flAt_three {w : World} {k a b c : Nat} (h : w.heap[k]? = some (.cells #[.float .f32 a, .float .f32 b, .float .f32 c] 37)) : FlAt w k 0 3 (three a b c) := by
  intro i hi
  rw [Nat.zero_add, (blkC h).1 i]
  have : i = 0 ∨ i = 1 ∨ i = 2 := by omega
  rcases this with rfl | rfl | rfl <;> rfl
theorem three_hgt {a b c : Nat} (h : fldE 3 (three a b c) = 0) : hgtB a = true ∧ hgtB b = true ∧ hgtB c = true := by
  have := allB_iff.1 (fldE_zero.1 h)
  exact ⟨this 0 (by omega), this 1 (by omega), this 2 (by omega)⟩
theorem three_wf {a b c : Nat} (ha : a < 4294967296) (hb : b < 4294967296) (hc : c < 4294967296) : wf32 3 (three a b c) := by
  intro i hi
  have : i = 0 ∨ i = 1 ∨ i = 2 := by omega
  rcases this with rfl | rfl | rfl <;> assumption

/-- The error of Select's singles. -/
def selE (lo hi so : Nat) : Int := if fldE 3 (three lo hi so) = 0 then (if (FloatKind.f32.format.order lo hi == some .gt) = true then 8 else if (FloatKind.f32.format.order so 0 == some .lt) = true then 3 else 0) else fldE 3 (three lo hi so)

theorem enters_Select1 : Enters 110 := by intro args W; simp [callFunc, Try.func110, Try.f110]
theorem enters_rSelect1 : Enters 113 := by intro args W; simp [callFunc, Try.func113, Try.f113]

set_option maxHeartbeats 2000000 in
theorem select_any (X Y : Int) (W H n b cap : Nat) (v : Nat → Nat) (lo hi so : Nat) (w : World) (h0 : checkR X Y W H = 0) (hn : n = W * H) (hc : FlAt w b 0 n v) (hh : allB n (fun i => hgtB (v i)) = true) :
    Calls Try.prog 29 #[fldV X Y W H (.slice (some ⟨b, 0, none⟩) n cap), .float .f32 lo, .float .f32 hi, .float .f32 so] w (ScPost w X Y W H n (fun i => selW (v i) lo hi so) (selE lo hi so)) := by
  obtain ⟨b1, b2, b3, b4, b5, b6, b7, b8, b9⟩ := checkR_zero h0
  have hnn : n = H * W := by rw [hn]; exact Nat.mul_comm _ _
  have h1 : 1 ≤ n := by rw [hn]; exact Nat.mul_pos (by omega) (by omega)
  have hlt : b < w.heap.size := World.block_lt_of_cell? w _ (hc 0 h1)
  have CK := Lib.hid (fun W' (hb : Below w.heap.size w W') => check_ok X Y W H n b cap v W' h0 hn (flAt_congr hc (hb.block _ hlt)) hh)
  have CS := Lib.hid (fun bb W' (hb : W'.heap[bb]? = some (.cells #[.float .f32 lo, .float .f32 hi, .float .f32 so] 37)) => CheckHeights_row bb 0 3 3 (three lo hi so) (by omega) W' (flAt_three hb))
  unfold selE
  by_cases hz : fldE 3 (three lo hi so) = 0
  · obtain ⟨g1, g2, g3⟩ := three_hgt hz
    rw [if_pos hz]
    rw [hz] at CS
    have HC := Lib.hid hc
    cases c1 : (FloatKind.f32.format.order lo hi == some .gt) with
    | true =>
      rw [if_pos rfl]
      clear hc hn h0 hh hz b1 b2 b3 b4 b5 b6 b7 b8 b9 hnn g1 g2 g3
      go_enter Try.func29, Try.ntmps29
      go_wp2_with (first | (go_at_call 107; refine (CK.out _ (by repeat (first | exact Below.refl _ _ | refine Below.alloc ?_ (by first | omega | (simp; done) | (simp; omega)) _ | refine Below.setCell ?_ (by first | omega | (simp; done) | (simp; omega)) _ | refine Below.drew ?_))).mono ?_; rintro e w2 ⟨rfl, hb2⟩; have HF2 := Lib.hid (blkStay (b := w.heap.size) (o := fldO X Y W H (.slice (some ⟨b, 0, none⟩) n cap)) (by ((simp only [heap_alloc_get, heap_size_alloc, if_true]) <;> ((repeat' split) <;> first | rfl | omega))) hb2); have HL2 := Lib.hid (blkStay (b := w.heap.size + 1) (o := flObj lo) (by ((simp only [heap_alloc_get, heap_size_alloc, if_true]) <;> ((repeat' split) <;> first | rfl | omega))) hb2); have HH2 := Lib.hid (blkStay (b := w.heap.size + 1 + 1) (o := flObj hi) (by ((simp only [heap_alloc_get, heap_size_alloc, if_true]) <;> ((repeat' split) <;> first | rfl | omega))) hb2); have HO2 := Lib.hid (blkStay (b := w.heap.size + 1 + 1 + 1) (o := flObj so) (by ((simp only [heap_alloc_get, heap_size_alloc, if_true]) <;> ((repeat' split) <;> first | rfl | omega))) hb2); have HS2 := Lib.hid (blkStay (b := w.heap.size + 1 + 1 + 1 + 1) (o := fldO 0 0 0 0 (.slice none 0 0)) (by ((simp only [heap_alloc_get, heap_size_alloc, if_true]) <;> ((repeat' split) <;> first | rfl | omega))) hb2); have hB2 : Below w.heap.size w w2 := Below.trans (by repeat (first | exact Below.refl _ _ | refine Below.alloc ?_ (by first | omega | (simp; done) | (simp; omega)) _ | refine Below.setCell ?_ (by first | omega | (simp; done) | (simp; omega)) _ | refine Below.drew ?_)) (Below.mono hb2 (by first | omega | (simp; done) | (simp; omega))); obtain ⟨cL, fL, zL⟩ := blkC HL2.out; obtain ⟨cH, fH, zH⟩ := blkC HH2.out; obtain ⟨cO, fO, zO⟩ := blkC HO2.out; clear hb2) | (go_at_call 108; refine (CS.out _ _ (heap_alloc_new _ _)).mono ?_; rintro e w3 ⟨rfl, hw3⟩; have hb23 : Below w2.heap.size w2 w3 := (by rw [← hw3]; exact (by repeat (first | exact Below.refl _ _ | refine Below.alloc ?_ (by first | omega | (simp; done) | (simp; omega)) _ | refine Below.setCell ?_ (by first | omega | (simp; done) | (simp; omega)) _ | refine Below.drew ?_))); clear hw3 cL fL zL cH fH zH cO fO zO; have HF3 := Lib.hid (blkStay HF2.out hb23); have HL3 := Lib.hid (blkStay HL2.out hb23); have HH3 := Lib.hid (blkStay HH2.out hb23); have HO3 := Lib.hid (blkStay HO2.out hb23); have HS3 := Lib.hid (blkStay HS2.out hb23); have hB3 := hB2.trans (hb23.mono hB2.size); clear hb23 hB2 HF2 HL2 HH2 HO2 HS2; obtain ⟨cF, fF, zF⟩ := blkC HF3.out; obtain ⟨cL, fL, zL⟩ := blkC HL3.out; obtain ⟨cH, fH, zH⟩ := blkC HH3.out; obtain ⟨cO, fO, zO⟩ := blkC HO3.out; obtain ⟨cS, fS, zS⟩ := blkC HS3.out))
      refine bodyPost_ret (v := .tuple #[fldV 0 0 0 0 (.slice none 0 0), .int .i64 8]) (by simp [results, Try.results29, go_sem, cS]) rfl ?_
      exact .inl ⟨by decide, rfl, set5_below hB3 _ _ _ _ _ _ (by omega)⟩
    | false =>
      cases c2 : (FloatKind.f32.format.order so 0 == some .lt) with
      | true =>
        rw [if_neg (by simp), if_pos rfl]
        clear hc hn h0 hh hz b1 b2 b3 b4 b5 b6 b7 b8 b9 hnn g1 g2 g3
        go_enter Try.func29, Try.ntmps29
        go_wp2_with (first | (go_at_call 107; refine (CK.out _ (by repeat (first | exact Below.refl _ _ | refine Below.alloc ?_ (by first | omega | (simp; done) | (simp; omega)) _ | refine Below.setCell ?_ (by first | omega | (simp; done) | (simp; omega)) _ | refine Below.drew ?_))).mono ?_; rintro e w2 ⟨rfl, hb2⟩; have HF2 := Lib.hid (blkStay (b := w.heap.size) (o := fldO X Y W H (.slice (some ⟨b, 0, none⟩) n cap)) (by ((simp only [heap_alloc_get, heap_size_alloc, if_true]) <;> ((repeat' split) <;> first | rfl | omega))) hb2); have HL2 := Lib.hid (blkStay (b := w.heap.size + 1) (o := flObj lo) (by ((simp only [heap_alloc_get, heap_size_alloc, if_true]) <;> ((repeat' split) <;> first | rfl | omega))) hb2); have HH2 := Lib.hid (blkStay (b := w.heap.size + 1 + 1) (o := flObj hi) (by ((simp only [heap_alloc_get, heap_size_alloc, if_true]) <;> ((repeat' split) <;> first | rfl | omega))) hb2); have HO2 := Lib.hid (blkStay (b := w.heap.size + 1 + 1 + 1) (o := flObj so) (by ((simp only [heap_alloc_get, heap_size_alloc, if_true]) <;> ((repeat' split) <;> first | rfl | omega))) hb2); have HS2 := Lib.hid (blkStay (b := w.heap.size + 1 + 1 + 1 + 1) (o := fldO 0 0 0 0 (.slice none 0 0)) (by ((simp only [heap_alloc_get, heap_size_alloc, if_true]) <;> ((repeat' split) <;> first | rfl | omega))) hb2); have hB2 : Below w.heap.size w w2 := Below.trans (by repeat (first | exact Below.refl _ _ | refine Below.alloc ?_ (by first | omega | (simp; done) | (simp; omega)) _ | refine Below.setCell ?_ (by first | omega | (simp; done) | (simp; omega)) _ | refine Below.drew ?_)) (Below.mono hb2 (by first | omega | (simp; done) | (simp; omega))); obtain ⟨cL, fL, zL⟩ := blkC HL2.out; obtain ⟨cH, fH, zH⟩ := blkC HH2.out; obtain ⟨cO, fO, zO⟩ := blkC HO2.out; clear hb2) | (go_at_call 108; refine (CS.out _ _ (heap_alloc_new _ _)).mono ?_; rintro e w3 ⟨rfl, hw3⟩; have hb23 : Below w2.heap.size w2 w3 := (by rw [← hw3]; exact (by repeat (first | exact Below.refl _ _ | refine Below.alloc ?_ (by first | omega | (simp; done) | (simp; omega)) _ | refine Below.setCell ?_ (by first | omega | (simp; done) | (simp; omega)) _ | refine Below.drew ?_))); clear hw3 cL fL zL cH fH zH cO fO zO; have HF3 := Lib.hid (blkStay HF2.out hb23); have HL3 := Lib.hid (blkStay HL2.out hb23); have HH3 := Lib.hid (blkStay HH2.out hb23); have HO3 := Lib.hid (blkStay HO2.out hb23); have HS3 := Lib.hid (blkStay HS2.out hb23); have hB3 := hB2.trans (hb23.mono hB2.size); clear hb23 hB2 HF2 HL2 HH2 HO2 HS2; obtain ⟨cF, fF, zF⟩ := blkC HF3.out; obtain ⟨cL, fL, zL⟩ := blkC HL3.out; obtain ⟨cH, fH, zH⟩ := blkC HH3.out; obtain ⟨cO, fO, zO⟩ := blkC HO3.out; obtain ⟨cS, fS, zS⟩ := blkC HS3.out))
        refine bodyPost_ret (v := .tuple #[fldV 0 0 0 0 (.slice none 0 0), .int .i64 3]) (by simp [results, Try.results29, go_sem, cS]) rfl ?_
        exact .inl ⟨by decide, rfl, set5_below hB3 _ _ _ _ _ _ (by omega)⟩
      | false =>
        rw [if_neg (by simp), if_neg (by simp)]
        have RM := Lib.hid (fun W' p (k1 : W'.heap[p + 1]? = some (flObj lo)) (k2 : W'.heap[p + 1 + 1]? = some (flObj hi)) (k3 : W'.heap[p + 1 + 1 + 1]? = some (flObj so)) (hc' : FlAt W' b 0 n v) =>
          remade_any X Y W H n b cap v (fun i => selW (v i) lo hi so) 110 #[.pointer (some ⟨p + 1, 0, none⟩), .pointer (some ⟨p + 1 + 1 + 1, 0, none⟩), .pointer (some ⟨p + 1 + 1, 0, none⟩)] W' enters_Select1
            (fun x y i W'' h1 h2 h3 h4 h5 hb => (sel1_any (v i) lo hi so x y (p + 1) (p + 1 + 1) (p + 1 + 1 + 1) W'' (blkStay k1 hb) (blkStay k2 hb) (blkStay k3 hb) (allB_iff.1 hh i (num_lt (by omega) h1 h2 h4 h5 hnn)) g1 g2 g3).mono fun e W3 h => ⟨h.1, by rw [← h.2]; exact Below.refl _ _⟩) h0 hnn hc')
        clear hc hn h0 hh hz b1 b2 b3 b4 b5 b6 b7 b8 b9 hnn g1 g2 g3
        go_enter Try.func29, Try.ntmps29
        go_wp2_with (first | (go_at_call 107; refine (CK.out _ (by repeat (first | exact Below.refl _ _ | refine Below.alloc ?_ (by first | omega | (simp; done) | (simp; omega)) _ | refine Below.setCell ?_ (by first | omega | (simp; done) | (simp; omega)) _ | refine Below.drew ?_))).mono ?_; rintro e w2 ⟨rfl, hb2⟩; have HF2 := Lib.hid (blkStay (b := w.heap.size) (o := fldO X Y W H (.slice (some ⟨b, 0, none⟩) n cap)) (by ((simp only [heap_alloc_get, heap_size_alloc, if_true]) <;> ((repeat' split) <;> first | rfl | omega))) hb2); have HL2 := Lib.hid (blkStay (b := w.heap.size + 1) (o := flObj lo) (by ((simp only [heap_alloc_get, heap_size_alloc, if_true]) <;> ((repeat' split) <;> first | rfl | omega))) hb2); have HH2 := Lib.hid (blkStay (b := w.heap.size + 1 + 1) (o := flObj hi) (by ((simp only [heap_alloc_get, heap_size_alloc, if_true]) <;> ((repeat' split) <;> first | rfl | omega))) hb2); have HO2 := Lib.hid (blkStay (b := w.heap.size + 1 + 1 + 1) (o := flObj so) (by ((simp only [heap_alloc_get, heap_size_alloc, if_true]) <;> ((repeat' split) <;> first | rfl | omega))) hb2); have HS2 := Lib.hid (blkStay (b := w.heap.size + 1 + 1 + 1 + 1) (o := fldO 0 0 0 0 (.slice none 0 0)) (by ((simp only [heap_alloc_get, heap_size_alloc, if_true]) <;> ((repeat' split) <;> first | rfl | omega))) hb2); have hB2 : Below w.heap.size w w2 := Below.trans (by repeat (first | exact Below.refl _ _ | refine Below.alloc ?_ (by first | omega | (simp; done) | (simp; omega)) _ | refine Below.setCell ?_ (by first | omega | (simp; done) | (simp; omega)) _ | refine Below.drew ?_)) (Below.mono hb2 (by first | omega | (simp; done) | (simp; omega))); obtain ⟨cL, fL, zL⟩ := blkC HL2.out; obtain ⟨cH, fH, zH⟩ := blkC HH2.out; obtain ⟨cO, fO, zO⟩ := blkC HO2.out; clear hb2) | (go_at_call 108; refine (CS.out _ _ (heap_alloc_new _ _)).mono ?_; rintro e w3 ⟨rfl, hw3⟩; have hb23 : Below w2.heap.size w2 w3 := (by rw [← hw3]; exact (by repeat (first | exact Below.refl _ _ | refine Below.alloc ?_ (by first | omega | (simp; done) | (simp; omega)) _ | refine Below.setCell ?_ (by first | omega | (simp; done) | (simp; omega)) _ | refine Below.drew ?_))); clear hw3 cL fL zL cH fH zH cO fO zO; have HF3 := Lib.hid (blkStay HF2.out hb23); have HL3 := Lib.hid (blkStay HL2.out hb23); have HH3 := Lib.hid (blkStay HH2.out hb23); have HO3 := Lib.hid (blkStay HO2.out hb23); have HS3 := Lib.hid (blkStay HS2.out hb23); have hB3 := hB2.trans (hb23.mono hB2.size); clear hb23 hB2 HF2 HL2 HH2 HO2 HS2; obtain ⟨cF, fF, zF⟩ := blkC HF3.out; obtain ⟨cL, fL, zL⟩ := blkC HL3.out; obtain ⟨cH, fH, zH⟩ := blkC HH3.out; obtain ⟨cO, fO, zO⟩ := blkC HO3.out; obtain ⟨cS, fS, zS⟩ := blkC HS3.out))
        clear cS fS cF fF zF
        refine (RM.out _ w.heap.size HL3.out HH3.out HO3.out (flAt_congr HC.out (hB3.block _ hlt))).mono ?_
        intro e w4 hmade
        rcases hmade with ⟨hall, b', cap', rfl, hb', hlt', hrow, hbel⟩ | ⟨hall, rfl, hbel⟩
        · obtain ⟨cS, fS, zS4⟩ := blkC (blkStay HS3.out hbel)
          have HB := Lib.hid hb'
          clear hb'
          go_wp2
          refine bodyPost_ret (v := .tuple #[fldV X Y W H (.slice (some ⟨b', 0, none⟩) n cap'), .int .i64 0]) (by simp [results, Try.results29, go_sem, cS]) rfl ?_
          have z3 := hB3.size
          have hb' := HB.out
          exact .inr ⟨rfl, .inl ⟨hall, b', cap', rfl, by omega, by rw [set5_size]; exact hlt', flAt_congr hrow (set5_heap w4 _ _ _ _ _ _ _ (by omega)), set5_below (hB3.trans (hbel.mono z3)) _ _ _ _ _ _ (by omega)⟩⟩
        · obtain ⟨cS, fS, zS4⟩ := blkC (blkStay HS3.out hbel)
          go_wp2
          refine bodyPost_ret (v := .tuple #[fldV 0 0 0 0 (.slice none 0 0), .int .i64 3]) (by simp [results, Try.results29, go_sem, cS]) rfl ?_
          have z3 := hB3.size
          exact .inr ⟨rfl, .inr ⟨hall, rfl, set5_below (hB3.trans (hbel.mono z3)) _ _ _ _ _ _ (by omega)⟩⟩
  · have hzb : (fldE 3 (three lo hi so) != 0) = true := by simp [hz]
    rw [if_neg hz]
    have HZ := Lib.hid hz
    generalize fldE 3 (three lo hi so) = er at *
    clear hc hn h0 hh hz b1 b2 b3 b4 b5 b6 b7 b8 b9 hnn
    go_enter Try.func29, Try.ntmps29
    go_wp2_with (first | (go_at_call 107; refine (CK.out _ (by repeat (first | exact Below.refl _ _ | refine Below.alloc ?_ (by first | omega | (simp; done) | (simp; omega)) _ | refine Below.setCell ?_ (by first | omega | (simp; done) | (simp; omega)) _ | refine Below.drew ?_))).mono ?_; rintro e w2 ⟨rfl, hb2⟩; have HF2 := Lib.hid (blkStay (b := w.heap.size) (o := fldO X Y W H (.slice (some ⟨b, 0, none⟩) n cap)) (by ((simp only [heap_alloc_get, heap_size_alloc, if_true]) <;> ((repeat' split) <;> first | rfl | omega))) hb2); have HL2 := Lib.hid (blkStay (b := w.heap.size + 1) (o := flObj lo) (by ((simp only [heap_alloc_get, heap_size_alloc, if_true]) <;> ((repeat' split) <;> first | rfl | omega))) hb2); have HH2 := Lib.hid (blkStay (b := w.heap.size + 1 + 1) (o := flObj hi) (by ((simp only [heap_alloc_get, heap_size_alloc, if_true]) <;> ((repeat' split) <;> first | rfl | omega))) hb2); have HO2 := Lib.hid (blkStay (b := w.heap.size + 1 + 1 + 1) (o := flObj so) (by ((simp only [heap_alloc_get, heap_size_alloc, if_true]) <;> ((repeat' split) <;> first | rfl | omega))) hb2); have HS2 := Lib.hid (blkStay (b := w.heap.size + 1 + 1 + 1 + 1) (o := fldO 0 0 0 0 (.slice none 0 0)) (by ((simp only [heap_alloc_get, heap_size_alloc, if_true]) <;> ((repeat' split) <;> first | rfl | omega))) hb2); have hB2 : Below w.heap.size w w2 := Below.trans (by repeat (first | exact Below.refl _ _ | refine Below.alloc ?_ (by first | omega | (simp; done) | (simp; omega)) _ | refine Below.setCell ?_ (by first | omega | (simp; done) | (simp; omega)) _ | refine Below.drew ?_)) (Below.mono hb2 (by first | omega | (simp; done) | (simp; omega))); obtain ⟨cL, fL, zL⟩ := blkC HL2.out; obtain ⟨cH, fH, zH⟩ := blkC HH2.out; obtain ⟨cO, fO, zO⟩ := blkC HO2.out; clear hb2) | (go_at_call 108; refine (CS.out _ _ (heap_alloc_new _ _)).mono ?_; rintro e w3 ⟨rfl, hw3⟩; have hb23 : Below w2.heap.size w2 w3 := (by rw [← hw3]; exact (by repeat (first | exact Below.refl _ _ | refine Below.alloc ?_ (by first | omega | (simp; done) | (simp; omega)) _ | refine Below.setCell ?_ (by first | omega | (simp; done) | (simp; omega)) _ | refine Below.drew ?_))); clear hw3 cL fL zL cH fH zH cO fO zO; have HF3 := Lib.hid (blkStay HF2.out hb23); have HL3 := Lib.hid (blkStay HL2.out hb23); have HH3 := Lib.hid (blkStay HH2.out hb23); have HO3 := Lib.hid (blkStay HO2.out hb23); have HS3 := Lib.hid (blkStay HS2.out hb23); have hB3 := hB2.trans (hb23.mono hB2.size); clear hb23 hB2 HF2 HL2 HH2 HO2 HS2; obtain ⟨cF, fF, zF⟩ := blkC HF3.out; obtain ⟨cL, fL, zL⟩ := blkC HL3.out; obtain ⟨cH, fH, zH⟩ := blkC HH3.out; obtain ⟨cO, fO, zO⟩ := blkC HO3.out; obtain ⟨cS, fS, zS⟩ := blkC HS3.out))
    refine bodyPost_ret (v := .tuple #[fldV 0 0 0 0 (.slice none 0 0), .int .i64 er]) (by simp [results, Try.results29, go_sem, cS]) rfl ?_
    exact .inl ⟨HZ.out, rfl, set5_below hB3 _ _ _ _ _ _ (by omega)⟩
end Go.Proofs.Ytjjhhnoeiglnhab
