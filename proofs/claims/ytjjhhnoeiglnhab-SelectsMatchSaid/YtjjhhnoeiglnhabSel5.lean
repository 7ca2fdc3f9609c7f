/- Terrace of the program, of a right field. -/
import Derived.Test.YtjjhhnoeiglnhabSel4
namespace Go.Proofs.Ytjjhhnoeiglnhab
open Go.RowKit Fl
set_option linter.unusedVariables false

/-- The tests of Terrace's singles: what is wrong. -/
def terB (st sh : Nat) : Bool := (FloatKind.f32.format.order st 981467136 == some .lt) || ((FloatKind.f32.format.order st 1149239296 == some .gt) || ((FloatKind.f32.format.order sh 0 == some .lt) || (FloatKind.f32.format.order sh 1065353216 == some .gt || FloatKind.f32.format.order sh 1065353216 == some .eq)))
/-- The error of Terrace's singles. -/
def terE (st sh : Nat) : Int := if fldE 2 (two st sh) = 0 then (if terB st sh = true then 3 else 0) else fldE 2 (two st sh)

theorem two_wf {a b : Nat} (ha : a < 4294967296) (hb : b < 4294967296) : wf32 2 (two a b) := by
  intro i hi
  have : i = 0 ∨ i = 1 := by omega
  rcases this with rfl | rfl <;> assumption

theorem enters_Terrace1 : Enters 115 := by intro args W; simp [callFunc, Try.func115, Try.f115]
theorem enters_rTerrace1 : Enters 118 := by intro args W; simp [callFunc, Try.func118, Try.f118]

theorem ter_ok {st sh : Nat} (h : hgtB st = true) (h' : hgtB sh = true) (c1 : (FloatKind.f32.format.order st 981467136 == some .lt) = false) (c2 : (FloatKind.f32.format.order st 1149239296 == some .gt) = false) (c3 : (FloatKind.f32.format.order sh 0 == some .lt) = false)
    (c4 : (FloatKind.f32.format.order sh 1065353216 == some .gt || FloatKind.f32.format.order sh 1065353216 == some .eq) = false) : StepOk st ∧ ShOk sh := by
  constructor
  · exact step_ok (by unfold wiE; rw [if_neg (by rw [hgt_fin h]; simp), if_neg (by rw [c1, c2]; simp)])
  · obtain ⟨b, hb, _⟩ := hgt_val h'
    rw [f32f, lss_val hb vS_zero] at c3
    rw [f32f, geq_val hb vS_one] at c4
    exact ⟨b, hb, by simpa using c3, by simpa using c4⟩

set_option maxHeartbeats 2000000 in
theorem terrace_any (X Y : Int) (W H n b cap : Nat) (v : Nat → Nat) (st sh : Nat) (w : World) (h0 : checkR X Y W H = 0) (hn : n = W * H) (hc : FlAt w b 0 n v) (hh : allB n (fun i => hgtB (v i)) = true) :
    Calls Try.prog 31 #[fldV X Y W H (.slice (some ⟨b, 0, none⟩) n cap), .float .f32 st, .float .f32 sh] w (ScPost w X Y W H n (fun i => terW (v i) st sh) (terE st sh)) := by
  obtain ⟨b1, b2, b3, b4, b5, b6, b7, b8, b9⟩ := checkR_zero h0
  have hnn : n = H * W := by rw [hn]; exact Nat.mul_comm _ _
  have h1 : 1 ≤ n := by rw [hn]; exact Nat.mul_pos (by omega) (by omega)
  have hlt : b < w.heap.size := World.block_lt_of_cell? w _ (hc 0 h1)
  have CK := Lib.hid (fun W' (hb : Below w.heap.size w W') => check_ok X Y W H n b cap v W' h0 hn (flAt_congr hc (hb.block _ hlt)) hh)
  have CS := Lib.hid (fun bb W' (hb : W'.heap[bb]? = some (.cells #[.float .f32 st, .float .f32 sh] 37)) => CheckHeights_row bb 0 2 2 (two st sh) (by omega) W' (flAt_two hb))
  unfold terE
  by_cases hz : fldE 2 (two st sh) = 0
  · obtain ⟨g1, g2⟩ := two_hgt hz
    rw [if_pos hz]
    rw [hz] at CS
    have HC := Lib.hid hc
    cases c1 : (FloatKind.f32.format.order st 981467136 == some .lt) with
    | true =>
      rw [if_pos (by unfold terB; rw [c1]; rfl)]
      clear hc hn h0 hh hz b1 b2 b3 b4 b5 b6 b7 b8 b9 hnn g1 g2
      go_enter Try.func31, Try.ntmps31
      go_wp2_with (first | (go_at_call 107; refine (CK.out _ (by repeat (first | exact Below.refl _ _ | refine Below.alloc ?_ (by first | omega | (simp; done) | (simp; omega)) _ | refine Below.setCell ?_ (by first | omega | (simp; done) | (simp; omega)) _ | refine Below.drew ?_))).mono ?_; rintro e w2 ⟨rfl, hb2⟩; have HF2 := Lib.hid (blkStay (b := w.heap.size) (o := fldO X Y W H (.slice (some ⟨b, 0, none⟩) n cap)) (by ((simp only [heap_alloc_get, heap_size_alloc, if_true]) <;> ((repeat' split) <;> first | rfl | omega))) hb2); have HL2 := Lib.hid (blkStay (b := w.heap.size + 1) (o := flObj st) (by ((simp only [heap_alloc_get, heap_size_alloc, if_true]) <;> ((repeat' split) <;> first | rfl | omega))) hb2); have HH2 := Lib.hid (blkStay (b := w.heap.size + 1 + 1) (o := flObj sh) (by ((simp only [heap_alloc_get, heap_size_alloc, if_true]) <;> ((repeat' split) <;> first | rfl | omega))) hb2); have HS2 := Lib.hid (blkStay (b := w.heap.size + 1 + 1 + 1) (o := fldO 0 0 0 0 (.slice none 0 0)) (by ((simp only [heap_alloc_get, heap_size_alloc, if_true]) <;> ((repeat' split) <;> first | rfl | omega))) hb2); have hB2 : Below w.heap.size w w2 := Below.trans (by repeat (first | exact Below.refl _ _ | refine Below.alloc ?_ (by first | omega | (simp; done) | (simp; omega)) _ | refine Below.setCell ?_ (by first | omega | (simp; done) | (simp; omega)) _ | refine Below.drew ?_)) (Below.mono hb2 (by first | omega | (simp; done) | (simp; omega))); obtain ⟨cL, fL, zL⟩ := blkC HL2.out; obtain ⟨cH, fH, zH⟩ := blkC HH2.out; clear hb2) | (go_at_call 108; refine (CS.out _ _ (heap_alloc_new _ _)).mono ?_; rintro e w3 ⟨rfl, hw3⟩; have hb23 : Below w2.heap.size w2 w3 := (by rw [← hw3]; exact (by repeat (first | exact Below.refl _ _ | refine Below.alloc ?_ (by first | omega | (simp; done) | (simp; omega)) _ | refine Below.setCell ?_ (by first | omega | (simp; done) | (simp; omega)) _ | refine Below.drew ?_))); clear hw3 cL fL zL cH fH zH; have HF3 := Lib.hid (blkStay HF2.out hb23); have HL3 := Lib.hid (blkStay HL2.out hb23); have HH3 := Lib.hid (blkStay HH2.out hb23); have HS3 := Lib.hid (blkStay HS2.out hb23); have hB3 := hB2.trans (hb23.mono hB2.size); clear hb23 hB2 HF2 HL2 HH2 HS2; obtain ⟨cF, fF, zF⟩ := blkC HF3.out; obtain ⟨cL, fL, zL⟩ := blkC HL3.out; obtain ⟨cH, fH, zH⟩ := blkC HH3.out; obtain ⟨cS, fS, zS⟩ := blkC HS3.out))
      refine bodyPost_ret (v := .tuple #[fldV 0 0 0 0 (.slice none 0 0), .int .i64 3]) (by simp [results, Try.results31, go_sem, cS]) rfl ?_
      exact .inl ⟨by decide, rfl, set5_below hB3 _ _ _ _ _ _ (by omega)⟩
    | false =>
      cases c2 : (FloatKind.f32.format.order st 1149239296 == some .gt) with
      | true =>
        rw [if_pos (by unfold terB; rw [c1, c2]; rfl)]
        clear hc hn h0 hh hz b1 b2 b3 b4 b5 b6 b7 b8 b9 hnn g1 g2
        go_enter Try.func31, Try.ntmps31
        go_wp2_with (first | (go_at_call 107; refine (CK.out _ (by repeat (first | exact Below.refl _ _ | refine Below.alloc ?_ (by first | omega | (simp; done) | (simp; omega)) _ | refine Below.setCell ?_ (by first | omega | (simp; done) | (simp; omega)) _ | refine Below.drew ?_))).mono ?_; rintro e w2 ⟨rfl, hb2⟩; have HF2 := Lib.hid (blkStay (b := w.heap.size) (o := fldO X Y W H (.slice (some ⟨b, 0, none⟩) n cap)) (by ((simp only [heap_alloc_get, heap_size_alloc, if_true]) <;> ((repeat' split) <;> first | rfl | omega))) hb2); have HL2 := Lib.hid (blkStay (b := w.heap.size + 1) (o := flObj st) (by ((simp only [heap_alloc_get, heap_size_alloc, if_true]) <;> ((repeat' split) <;> first | rfl | omega))) hb2); have HH2 := Lib.hid (blkStay (b := w.heap.size + 1 + 1) (o := flObj sh) (by ((simp only [heap_alloc_get, heap_size_alloc, if_true]) <;> ((repeat' split) <;> first | rfl | omega))) hb2); have HS2 := Lib.hid (blkStay (b := w.heap.size + 1 + 1 + 1) (o := fldO 0 0 0 0 (.slice none 0 0)) (by ((simp only [heap_alloc_get, heap_size_alloc, if_true]) <;> ((repeat' split) <;> first | rfl | omega))) hb2); have hB2 : Below w.heap.size w w2 := Below.trans (by repeat (first | exact Below.refl _ _ | refine Below.alloc ?_ (by first | omega | (simp; done) | (simp; omega)) _ | refine Below.setCell ?_ (by first | omega | (simp; done) | (simp; omega)) _ | refine Below.drew ?_)) (Below.mono hb2 (by first | omega | (simp; done) | (simp; omega))); obtain ⟨cL, fL, zL⟩ := blkC HL2.out; obtain ⟨cH, fH, zH⟩ := blkC HH2.out; clear hb2) | (go_at_call 108; refine (CS.out _ _ (heap_alloc_new _ _)).mono ?_; rintro e w3 ⟨rfl, hw3⟩; have hb23 : Below w2.heap.size w2 w3 := (by rw [← hw3]; exact (by repeat (first | exact Below.refl _ _ | refine Below.alloc ?_ (by first | omega | (simp; done) | (simp; omega)) _ | refine Below.setCell ?_ (by first | omega | (simp; done) | (simp; omega)) _ | refine Below.drew ?_))); clear hw3 cL fL zL cH fH zH; have HF3 := Lib.hid (blkStay HF2.out hb23); have HL3 := Lib.hid (blkStay HL2.out hb23); have HH3 := Lib.hid (blkStay HH2.out hb23); have HS3 := Lib.hid (blkStay HS2.out hb23); have hB3 := hB2.trans (hb23.mono hB2.size); clear hb23 hB2 HF2 HL2 HH2 HS2; obtain ⟨cF, fF, zF⟩ := blkC HF3.out; obtain ⟨cL, fL, zL⟩ := blkC HL3.out; obtain ⟨cH, fH, zH⟩ := blkC HH3.out; obtain ⟨cS, fS, zS⟩ := blkC HS3.out))
        refine bodyPost_ret (v := .tuple #[fldV 0 0 0 0 (.slice none 0 0), .int .i64 3]) (by simp [results, Try.results31, go_sem, cS]) rfl ?_
        exact .inl ⟨by decide, rfl, set5_below hB3 _ _ _ _ _ _ (by omega)⟩
      | false =>
        cases c3 : (FloatKind.f32.format.order sh 0 == some .lt) with
        | true =>
          rw [if_pos (by unfold terB; rw [c1, c2, c3]; rfl)]
          clear hc hn h0 hh hz b1 b2 b3 b4 b5 b6 b7 b8 b9 hnn g1 g2
          go_enter Try.func31, Try.ntmps31
          go_wp2_with (first | (go_at_call 107; refine (CK.out _ (by repeat (first | exact Below.refl _ _ | refine Below.alloc ?_ (by first | omega | (simp; done) | (simp; omega)) _ | refine Below.setCell ?_ (by first | omega | (simp; done) | (simp; omega)) _ | refine Below.drew ?_))).mono ?_; rintro e w2 ⟨rfl, hb2⟩; have HF2 := Lib.hid (blkStay (b := w.heap.size) (o := fldO X Y W H (.slice (some ⟨b, 0, none⟩) n cap)) (by ((simp only [heap_alloc_get, heap_size_alloc, if_true]) <;> ((repeat' split) <;> first | rfl | omega))) hb2); have HL2 := Lib.hid (blkStay (b := w.heap.size + 1) (o := flObj st) (by ((simp only [heap_alloc_get, heap_size_alloc, if_true]) <;> ((repeat' split) <;> first | rfl | omega))) hb2); have HH2 := Lib.hid (blkStay (b := w.heap.size + 1 + 1) (o := flObj sh) (by ((simp only [heap_alloc_get, heap_size_alloc, if_true]) <;> ((repeat' split) <;> first | rfl | omega))) hb2); have HS2 := Lib.hid (blkStay (b := w.heap.size + 1 + 1 + 1) (o := fldO 0 0 0 0 (.slice none 0 0)) (by ((simp only [heap_alloc_get, heap_size_alloc, if_true]) <;> ((repeat' split) <;> first | rfl | omega))) hb2); have hB2 : Below w.heap.size w w2 := Below.trans (by repeat (first | exact Below.refl _ _ | refine Below.alloc ?_ (by first | omega | (simp; done) | (simp; omega)) _ | refine Below.setCell ?_ (by first | omega | (simp; done) | (simp; omega)) _ | refine Below.drew ?_)) (Below.mono hb2 (by first | omega | (simp; done) | (simp; omega))); obtain ⟨cL, fL, zL⟩ := blkC HL2.out; obtain ⟨cH, fH, zH⟩ := blkC HH2.out; clear hb2) | (go_at_call 108; refine (CS.out _ _ (heap_alloc_new _ _)).mono ?_; rintro e w3 ⟨rfl, hw3⟩; have hb23 : Below w2.heap.size w2 w3 := (by rw [← hw3]; exact (by repeat (first | exact Below.refl _ _ | refine Below.alloc ?_ (by first | omega | (simp; done) | (simp; omega)) _ | refine Below.setCell ?_ (by first | omega | (simp; done) | (simp; omega)) _ | refine Below.drew ?_))); clear hw3 cL fL zL cH fH zH; have HF3 := Lib.hid (blkStay HF2.out hb23); have HL3 := Lib.hid (blkStay HL2.out hb23); have HH3 := Lib.hid (blkStay HH2.out hb23); have HS3 := Lib.hid (blkStay HS2.out hb23); have hB3 := hB2.trans (hb23.mono hB2.size); clear hb23 hB2 HF2 HL2 HH2 HS2; obtain ⟨cF, fF, zF⟩ := blkC HF3.out; obtain ⟨cL, fL, zL⟩ := blkC HL3.out; obtain ⟨cH, fH, zH⟩ := blkC HH3.out; obtain ⟨cS, fS, zS⟩ := blkC HS3.out))
          refine bodyPost_ret (v := .tuple #[fldV 0 0 0 0 (.slice none 0 0), .int .i64 3]) (by simp [results, Try.results31, go_sem, cS]) rfl ?_
          exact .inl ⟨by decide, rfl, set5_below hB3 _ _ _ _ _ _ (by omega)⟩
        | false =>
          cases c4 : (FloatKind.f32.format.order sh 1065353216 == some .gt || FloatKind.f32.format.order sh 1065353216 == some .eq) with
          | true =>
            rw [if_pos (by unfold terB; rw [c1, c2, c3, c4]; rfl)]
            clear hc hn h0 hh hz b1 b2 b3 b4 b5 b6 b7 b8 b9 hnn g1 g2
            go_enter Try.func31, Try.ntmps31
            go_wp2_with (first | (go_at_call 107; refine (CK.out _ (by repeat (first | exact Below.refl _ _ | refine Below.alloc ?_ (by first | omega | (simp; done) | (simp; omega)) _ | refine Below.setCell ?_ (by first | omega | (simp; done) | (simp; omega)) _ | refine Below.drew ?_))).mono ?_; rintro e w2 ⟨rfl, hb2⟩; have HF2 := Lib.hid (blkStay (b := w.heap.size) (o := fldO X Y W H (.slice (some ⟨b, 0, none⟩) n cap)) (by ((simp only [heap_alloc_get, heap_size_alloc, if_true]) <;> ((repeat' split) <;> first | rfl | omega))) hb2); have HL2 := Lib.hid (blkStay (b := w.heap.size + 1) (o := flObj st) (by ((simp only [heap_alloc_get, heap_size_alloc, if_true]) <;> ((repeat' split) <;> first | rfl | omega))) hb2); have HH2 := Lib.hid (blkStay (b := w.heap.size + 1 + 1) (o := flObj sh) (by ((simp only [heap_alloc_get, heap_size_alloc, if_true]) <;> ((repeat' split) <;> first | rfl | omega))) hb2); have HS2 := Lib.hid (blkStay (b := w.heap.size + 1 + 1 + 1) (o := fldO 0 0 0 0 (.slice none 0 0)) (by ((simp only [heap_alloc_get, heap_size_alloc, if_true]) <;> ((repeat' split) <;> first | rfl | omega))) hb2); have hB2 : Below w.heap.size w w2 := Below.trans (by repeat (first | exact Below.refl _ _ | refine Below.alloc ?_ (by first | omega | (simp; done) | (simp; omega)) _ | refine Below.setCell ?_ (by first | omega | (simp; done) | (simp; omega)) _ | refine Below.drew ?_)) (Below.mono hb2 (by first | omega | (simp; done) | (simp; omega))); obtain ⟨cL, fL, zL⟩ := blkC HL2.out; obtain ⟨cH, fH, zH⟩ := blkC HH2.out; clear hb2) | (go_at_call 108; refine (CS.out _ _ (heap_alloc_new _ _)).mono ?_; rintro e w3 ⟨rfl, hw3⟩; have hb23 : Below w2.heap.size w2 w3 := (by rw [← hw3]; exact (by repeat (first | exact Below.refl _ _ | refine Below.alloc ?_ (by first | omega | (simp; done) | (simp; omega)) _ | refine Below.setCell ?_ (by first | omega | (simp; done) | (simp; omega)) _ | refine Below.drew ?_))); clear hw3 cL fL zL cH fH zH; have HF3 := Lib.hid (blkStay HF2.out hb23); have HL3 := Lib.hid (blkStay HL2.out hb23); have HH3 := Lib.hid (blkStay HH2.out hb23); have HS3 := Lib.hid (blkStay HS2.out hb23); have hB3 := hB2.trans (hb23.mono hB2.size); clear hb23 hB2 HF2 HL2 HH2 HS2; obtain ⟨cF, fF, zF⟩ := blkC HF3.out; obtain ⟨cL, fL, zL⟩ := blkC HL3.out; obtain ⟨cH, fH, zH⟩ := blkC HH3.out; obtain ⟨cS, fS, zS⟩ := blkC HS3.out))
            refine bodyPost_ret (v := .tuple #[fldV 0 0 0 0 (.slice none 0 0), .int .i64 3]) (by simp [results, Try.results31, go_sem, cS]) rfl ?_
            exact .inl ⟨by decide, rfl, set5_below hB3 _ _ _ _ _ _ (by omega)⟩
          | false =>
            rw [if_neg (by unfold terB; rw [c1, c2, c3, c4]; simp)]
            obtain ⟨so, ho⟩ := ter_ok g1 g2 c1 c2 c3 c4
            have RM := Lib.hid (fun W' p (k1 : W'.heap[p + 1]? = some (flObj st)) (k2 : W'.heap[p + 1 + 1]? = some (flObj sh)) (hc' : FlAt W' b 0 n v) =>
              remade_any X Y W H n b cap v (fun i => terW (v i) st sh) 115 #[.pointer (some ⟨p + 1, 0, none⟩), .pointer (some ⟨p + 1 + 1, 0, none⟩)] W' enters_Terrace1
                (fun x y i W'' h1 h2 h3 h4 h5 hb => (ter1_any (v i) st sh x y (p + 1) (p + 1 + 1) W'' (blkStay k1 hb) (blkStay k2 hb) (allB_iff.1 hh i (num_lt (by omega) h1 h2 h4 h5 hnn)) so ho).mono fun e W3 h => ⟨h.1, by rw [← h.2]; exact Below.refl _ _⟩) h0 hnn hc')
            clear hc hn h0 hh hz b1 b2 b3 b4 b5 b6 b7 b8 b9 hnn g1 g2 so ho
            go_enter Try.func31, Try.ntmps31
            go_wp2_with (first | (go_at_call 107; refine (CK.out _ (by repeat (first | exact Below.refl _ _ | refine Below.alloc ?_ (by first | omega | (simp; done) | (simp; omega)) _ | refine Below.setCell ?_ (by first | omega | (simp; done) | (simp; omega)) _ | refine Below.drew ?_))).mono ?_; rintro e w2 ⟨rfl, hb2⟩; have HF2 := Lib.hid (blkStay (b := w.heap.size) (o := fldO X Y W H (.slice (some ⟨b, 0, none⟩) n cap)) (by ((simp only [heap_alloc_get, heap_size_alloc, if_true]) <;> ((repeat' split) <;> first | rfl | omega))) hb2); have HL2 := Lib.hid (blkStay (b := w.heap.size + 1) (o := flObj st) (by ((simp only [heap_alloc_get, heap_size_alloc, if_true]) <;> ((repeat' split) <;> first | rfl | omega))) hb2); have HH2 := Lib.hid (blkStay (b := w.heap.size + 1 + 1) (o := flObj sh) (by ((simp only [heap_alloc_get, heap_size_alloc, if_true]) <;> ((repeat' split) <;> first | rfl | omega))) hb2); have HS2 := Lib.hid (blkStay (b := w.heap.size + 1 + 1 + 1) (o := fldO 0 0 0 0 (.slice none 0 0)) (by ((simp only [heap_alloc_get, heap_size_alloc, if_true]) <;> ((repeat' split) <;> first | rfl | omega))) hb2); have hB2 : Below w.heap.size w w2 := Below.trans (by repeat (first | exact Below.refl _ _ | refine Below.alloc ?_ (by first | omega | (simp; done) | (simp; omega)) _ | refine Below.setCell ?_ (by first | omega | (simp; done) | (simp; omega)) _ | refine Below.drew ?_)) (Below.mono hb2 (by first | omega | (simp; done) | (simp; omega))); obtain ⟨cL, fL, zL⟩ := blkC HL2.out; obtain ⟨cH, fH, zH⟩ := blkC HH2.out; clear hb2) | (go_at_call 108; refine (CS.out _ _ (heap_alloc_new _ _)).mono ?_; rintro e w3 ⟨rfl, hw3⟩; have hb23 : Below w2.heap.size w2 w3 := (by rw [← hw3]; exact (by repeat (first | exact Below.refl _ _ | refine Below.alloc ?_ (by first | omega | (simp; done) | (simp; omega)) _ | refine Below.setCell ?_ (by first | omega | (simp; done) | (simp; omega)) _ | refine Below.drew ?_))); clear hw3 cL fL zL cH fH zH; have HF3 := Lib.hid (blkStay HF2.out hb23); have HL3 := Lib.hid (blkStay HL2.out hb23); have HH3 := Lib.hid (blkStay HH2.out hb23); have HS3 := Lib.hid (blkStay HS2.out hb23); have hB3 := hB2.trans (hb23.mono hB2.size); clear hb23 hB2 HF2 HL2 HH2 HS2; obtain ⟨cF, fF, zF⟩ := blkC HF3.out; obtain ⟨cL, fL, zL⟩ := blkC HL3.out; obtain ⟨cH, fH, zH⟩ := blkC HH3.out; obtain ⟨cS, fS, zS⟩ := blkC HS3.out))
            clear cS fS cF fF zF
            refine (RM.out _ w.heap.size HL3.out HH3.out (flAt_congr HC.out (hB3.block _ hlt))).mono ?_
            intro e w4 hmade
            rcases hmade with ⟨hall, b', cap', rfl, hb', hlt', hrow, hbel⟩ | ⟨hall, rfl, hbel⟩
            · obtain ⟨cS, fS, zS4⟩ := blkC (blkStay HS3.out hbel)
              have HB := Lib.hid hb'
              clear hb'
              go_wp2
              refine bodyPost_ret (v := .tuple #[fldV X Y W H (.slice (some ⟨b', 0, none⟩) n cap'), .int .i64 0]) (by simp [results, Try.results31, go_sem, cS]) rfl ?_
              have z3 := hB3.size
              have hb' := HB.out
              exact .inr ⟨rfl, .inl ⟨hall, b', cap', rfl, by omega, by rw [set5_size]; exact hlt', flAt_congr hrow (set5_heap w4 _ _ _ _ _ _ _ (by omega)), set5_below (hB3.trans (hbel.mono z3)) _ _ _ _ _ _ (by omega)⟩⟩
            · obtain ⟨cS, fS, zS4⟩ := blkC (blkStay HS3.out hbel)
              go_wp2
              refine bodyPost_ret (v := .tuple #[fldV 0 0 0 0 (.slice none 0 0), .int .i64 3]) (by simp [results, Try.results31, go_sem, cS]) rfl ?_
              have z3 := hB3.size
              exact .inr ⟨rfl, .inr ⟨hall, rfl, set5_below (hB3.trans (hbel.mono z3)) _ _ _ _ _ _ (by omega)⟩⟩
  · have hzb : (fldE 2 (two st sh) != 0) = true := by simp [hz]
    rw [if_neg hz]
    have HZ := Lib.hid hz
    generalize fldE 2 (two st sh) = er at *
    clear hc hn h0 hh hz b1 b2 b3 b4 b5 b6 b7 b8 b9 hnn
    go_enter Try.func31, Try.ntmps31
    go_wp2_with (first | (go_at_call 107; refine (CK.out _ (by repeat (first | exact Below.refl _ _ | refine Below.alloc ?_ (by first | omega | (simp; done) | (simp; omega)) _ | refine Below.setCell ?_ (by first | omega | (simp; done) | (simp; omega)) _ | refine Below.drew ?_))).mono ?_; rintro e w2 ⟨rfl, hb2⟩; have HF2 := Lib.hid (blkStay (b := w.heap.size) (o := fldO X Y W H (.slice (some ⟨b, 0, none⟩) n cap)) (by ((simp only [heap_alloc_get, heap_size_alloc, if_true]) <;> ((repeat' split) <;> first | rfl | omega))) hb2); have HL2 := Lib.hid (blkStay (b := w.heap.size + 1) (o := flObj st) (by ((simp only [heap_alloc_get, heap_size_alloc, if_true]) <;> ((repeat' split) <;> first | rfl | omega))) hb2); have HH2 := Lib.hid (blkStay (b := w.heap.size + 1 + 1) (o := flObj sh) (by ((simp only [heap_alloc_get, heap_size_alloc, if_true]) <;> ((repeat' split) <;> first | rfl | omega))) hb2); have HS2 := Lib.hid (blkStay (b := w.heap.size + 1 + 1 + 1) (o := fldO 0 0 0 0 (.slice none 0 0)) (by ((simp only [heap_alloc_get, heap_size_alloc, if_true]) <;> ((repeat' split) <;> first | rfl | omega))) hb2); have hB2 : Below w.heap.size w w2 := Below.trans (by repeat (first | exact Below.refl _ _ | refine Below.alloc ?_ (by first | omega | (simp; done) | (simp; omega)) _ | refine Below.setCell ?_ (by first | omega | (simp; done) | (simp; omega)) _ | refine Below.drew ?_)) (Below.mono hb2 (by first | omega | (simp; done) | (simp; omega))); obtain ⟨cL, fL, zL⟩ := blkC HL2.out; obtain ⟨cH, fH, zH⟩ := blkC HH2.out; clear hb2) | (go_at_call 108; refine (CS.out _ _ (heap_alloc_new _ _)).mono ?_; rintro e w3 ⟨rfl, hw3⟩; have hb23 : Below w2.heap.size w2 w3 := (by rw [← hw3]; exact (by repeat (first | exact Below.refl _ _ | refine Below.alloc ?_ (by first | omega | (simp; done) | (simp; omega)) _ | refine Below.setCell ?_ (by first | omega | (simp; done) | (simp; omega)) _ | refine Below.drew ?_))); clear hw3 cL fL zL cH fH zH; have HF3 := Lib.hid (blkStay HF2.out hb23); have HL3 := Lib.hid (blkStay HL2.out hb23); have HH3 := Lib.hid (blkStay HH2.out hb23); have HS3 := Lib.hid (blkStay HS2.out hb23); have hB3 := hB2.trans (hb23.mono hB2.size); clear hb23 hB2 HF2 HL2 HH2 HS2; obtain ⟨cF, fF, zF⟩ := blkC HF3.out; obtain ⟨cL, fL, zL⟩ := blkC HL3.out; obtain ⟨cH, fH, zH⟩ := blkC HH3.out; obtain ⟨cS, fS, zS⟩ := blkC HS3.out))
    refine bodyPost_ret (v := .tuple #[fldV 0 0 0 0 (.slice none 0 0), .int .i64 er]) (by simp [results, Try.results31, go_sem, cS]) rfl ?_
    exact .inl ⟨HZ.out, rfl, set5_below hB3 _ _ _ _ _ _ (by omega)⟩
end Go.Proofs.Ytjjhhnoeiglnhab
