/- Cut of the program and of the reference. -/
import Derived.Test.YtgkpkpbigmcapaaCut2
import Derived.Test.YtgkpkpbigmcapaaReg4
namespace Go.Proofs.Ytgkpkpbigmcapaa
open Go.RowKit Fl
set_option linter.unusedVariables false

/-- The error of Cut of a right field. -/
def cutE (X Y W H X' Y' W' H' : Int) : Int := if checkR X' Y' W' H' = 0 then (if insideB X' Y' W' H' X Y W H then 0 else 5) else checkR X' Y' W' H'

set_option maxHeartbeats 2000000 in
theorem cut_bad (X Y : Int) (W H n b cap : Nat) (v : Nat → Nat) (X' Y' W1 H1 er : Int) (w : World) (h0 : checkR X Y W H = 0) (hn : n = W * H) (hc : FlAt w b 0 n v) (hh : allB n (fun i => hgtB (v i)) = true) (he : cutE X Y W H X' Y' W1 H1 = er) (hz : er ≠ 0) :
    Calls Try.prog 20 #[fldV X Y W H (.slice (some ⟨b, 0, none⟩) n cap), reg X' Y' W1 H1] w fun e w' => e = .returned (.tuple #[fldV 0 0 0 0 (.slice none 0 0), .int .i64 er]) ∧ Below w.heap.size w w' := by
  obtain ⟨b1, b2, b3, b4, b5, b6, b7, b8, b9⟩ := checkR_zero h0
  have h1 : 1 ≤ n := by
    have := Nat.mul_pos (by omega : 0 < W) (by omega : 0 < H)
    omega
  have hlt : b < w.heap.size := World.block_lt_of_cell? w _ (hc 0 h1)
  have CK := Lib.hid (fun W' (hb : Below w.heap.size w W') => check_ok X Y W H n b cap v W' h0 hn (flAt_congr hc (hb.block _ hlt)) hh)
  have RC := Lib.hid (fun w => checkRegion_any X' Y' W1 H1 w)
  unfold cutE at he
  by_cases h0' : checkR X' Y' W1 H1 = 0
  · obtain ⟨c1, c2, c3, c4, c5, c6, c7, c8, c9⟩ := checkR_zero h0'
    have IN := Lib.hid (fun w => inside_any X' Y' W1 H1 X Y W H w (by omega) (by omega) (by omega) (by omega) (by omega) (by omega) (by omega) (by omega) (by omega) (by omega) (by omega) (by omega) (by omega) (by omega) (by omega) (by omega))
    rw [if_pos h0'] at he
    rw [h0'] at RC
    cases hi : insideB X' Y' W1 H1 X Y W H with
    | true => rw [hi] at he; simp at he; omega
    | false =>
      rw [hi] at he IN
      simp at he
      subst he
      clear hc hn h0 hh h0' hi hz b1 b2 b3 b4 b5 b6 b7 b8 b9 c1 c2 c3 c4 c5 c6 c7 c8 c9 h1 hlt
      go_enter Try.func20, Try.ntmps20
      go_wp2_with (first | (go_at_call 64; refine (CK.out _ (by repeat (first | exact Below.refl _ _ | refine Below.alloc ?_ (by first | omega | (simp; done) | (simp; omega)) _ | refine Below.setCell ?_ (by first | omega | (simp; done) | (simp; omega)) _ | refine Below.drew ?_))).mono ?_; rintro e w2 ⟨rfl, hb2⟩; have HF2 := Lib.hid (blkStay (b := w.heap.size) (o := fldO X Y W H (.slice (some ⟨b, 0, none⟩) n cap)) (by ((simp only [heap_alloc_get, heap_size_alloc, if_true]) <;> ((repeat' split) <;> first | rfl | omega))) hb2); have HR2 := Lib.hid (blkStay (b := w.heap.size + 1) (o := regObj X' Y' W1 H1) (by ((simp only [heap_alloc_get, heap_size_alloc, if_true]) <;> ((repeat' split) <;> first | rfl | omega))) hb2); have HS2 := Lib.hid (blkStay (b := w.heap.size + 1 + 1) (o := fldO 0 0 0 0 (.slice none 0 0)) (by ((simp only [heap_alloc_get, heap_size_alloc, if_true]) <;> ((repeat' split) <;> first | rfl | omega))) hb2); have hB2 : Below w.heap.size w w2 := Below.trans (by repeat (first | exact Below.refl _ _ | refine Below.alloc ?_ (by first | omega | (simp; done) | (simp; omega)) _ | refine Below.setCell ?_ (by first | omega | (simp; done) | (simp; omega)) _ | refine Below.drew ?_)) (Below.mono hb2 (by first | omega | (simp; done) | (simp; omega))); obtain ⟨cF, fF, zF⟩ := blkC HF2.out; obtain ⟨cR, fR, zR⟩ := blkC HR2.out; clear hb2) | (go_at_call 47; refine (RC.out _).mono ?_; rintro e w3 ⟨rfl, hw3⟩; have hb23 : Below w2.heap.size w2 w3 := (by rw [hw3]; exact (by repeat (first | exact Below.refl _ _ | refine Below.alloc ?_ (by first | omega | (simp; done) | (simp; omega)) _ | refine Below.setCell ?_ (by first | omega | (simp; done) | (simp; omega)) _ | refine Below.drew ?_))); clear hw3 cR fR zR cF fF zF; have HF3 := Lib.hid (blkStay HF2.out hb23); have HR3 := Lib.hid (blkStay HR2.out hb23); have HS3 := Lib.hid (blkStay HS2.out hb23); have hB3 := hB2.trans (hb23.mono hB2.size); clear hb23 hB2 HF2 HR2 HS2; obtain ⟨cR, fR, zR⟩ := blkC HR3.out; obtain ⟨cF, fF, zF⟩ := blkC HF3.out; obtain ⟨cS, fS, zS⟩ := blkC HS3.out) | (go_at_call 65; refine (IN.out _).mono ?_; rintro e w4 ⟨rfl, hb4⟩; have hB4 := hB3.trans (hb4.mono hB3.size); have HS4 := Lib.hid (blkStay HS3.out hb4); clear cS fS zS; obtain ⟨cS, fS, zS⟩ := blkC HS4.out))
      refine bodyPost_ret (v := .tuple #[fldV 0 0 0 0 (.slice none 0 0), .int .i64 5]) (by simp [results, Try.results20, go_sem, cS]) rfl ?_
      exact ⟨rfl, set5_below hB4 _ _ _ _ _ _ (by omega)⟩
  · rw [if_neg h0'] at he
    rw [he] at RC
    have hzb : (er != 0) = true := by simp [hz]
    clear hc hn h0 hh h0' hz b1 b2 b3 b4 b5 b6 b7 b8 b9 h1 hlt he
    go_enter Try.func20, Try.ntmps20
    go_wp2_with (first | (go_at_call 64; refine (CK.out _ (by repeat (first | exact Below.refl _ _ | refine Below.alloc ?_ (by first | omega | (simp; done) | (simp; omega)) _ | refine Below.setCell ?_ (by first | omega | (simp; done) | (simp; omega)) _ | refine Below.drew ?_))).mono ?_; rintro e w2 ⟨rfl, hb2⟩; have HF2 := Lib.hid (blkStay (b := w.heap.size) (o := fldO X Y W H (.slice (some ⟨b, 0, none⟩) n cap)) (by ((simp only [heap_alloc_get, heap_size_alloc, if_true]) <;> ((repeat' split) <;> first | rfl | omega))) hb2); have HR2 := Lib.hid (blkStay (b := w.heap.size + 1) (o := regObj X' Y' W1 H1) (by ((simp only [heap_alloc_get, heap_size_alloc, if_true]) <;> ((repeat' split) <;> first | rfl | omega))) hb2); have HS2 := Lib.hid (blkStay (b := w.heap.size + 1 + 1) (o := fldO 0 0 0 0 (.slice none 0 0)) (by ((simp only [heap_alloc_get, heap_size_alloc, if_true]) <;> ((repeat' split) <;> first | rfl | omega))) hb2); have hB2 : Below w.heap.size w w2 := Below.trans (by repeat (first | exact Below.refl _ _ | refine Below.alloc ?_ (by first | omega | (simp; done) | (simp; omega)) _ | refine Below.setCell ?_ (by first | omega | (simp; done) | (simp; omega)) _ | refine Below.drew ?_)) (Below.mono hb2 (by first | omega | (simp; done) | (simp; omega))); obtain ⟨cR, fR, zR⟩ := blkC HR2.out; clear hb2) | (go_at_call 47; refine (RC.out _).mono ?_; rintro e w3 ⟨rfl, hw3⟩; have hb23 : Below w2.heap.size w2 w3 := (by rw [hw3]; exact (by repeat (first | exact Below.refl _ _ | refine Below.alloc ?_ (by first | omega | (simp; done) | (simp; omega)) _ | refine Below.setCell ?_ (by first | omega | (simp; done) | (simp; omega)) _ | refine Below.drew ?_))); clear hw3 cR fR zR; have HS3 := Lib.hid (blkStay HS2.out hb23); have hB3 := hB2.trans (hb23.mono hB2.size); clear hb23 hB2 HF2 HR2 HS2; obtain ⟨cS, fS, zS⟩ := blkC HS3.out))
    refine bodyPost_ret (v := .tuple #[fldV 0 0 0 0 (.slice none 0 0), .int .i64 er]) (by simp [results, Try.results20, go_sem, cS]) rfl ?_
    exact ⟨rfl, set5_below hB3 _ _ _ _ _ _ (by omega)⟩

set_option maxHeartbeats 2000000 in
theorem cut_ok (X Y : Int) (W H n b cap : Nat) (v : Nat → Nat) (X' Y' : Int) (W1 H1 n1 : Nat) (w : World) (h0 : checkR X Y W H = 0) (hn : n = W * H) (hc : FlAt w b 0 n v) (hh : allB n (fun i => hgtB (v i)) = true) (he : cutE X Y W H X' Y' W1 H1 = 0) (hn1 : n1 = H1 * W1) :
    Calls Try.prog 20 #[fldV X Y W H (.slice (some ⟨b, 0, none⟩) n cap), reg X' Y' W1 H1] w (MadePost w X' Y' W1 H1 n1 (cutF v X Y W X' Y' W1)) := by
  obtain ⟨b1, b2, b3, b4, b5, b6, b7, b8, b9⟩ := checkR_zero h0
  have h1 : 1 ≤ n := by
    have := Nat.mul_pos (by omega : 0 < W) (by omega : 0 < H)
    omega
  have hlt : b < w.heap.size := World.block_lt_of_cell? w _ (hc 0 h1)
  have en : ((W : Int) * (H : Int)) = (n : Int) := by rw [hn]; simp
  have hn2 : n ≤ 65536 := by omega
  unfold cutE at he
  by_cases h0' : checkR X' Y' W1 H1 = 0
  · obtain ⟨c1, c2, c3, c4, c5, c6, c7, c8, c9⟩ := checkR_zero h0'
    rw [if_pos h0'] at he
    cases hi : insideB X' Y' W1 H1 X Y W H with
    | false => rw [hi] at he; simp at he
    | true =>
      obtain ⟨i1, i2, i3, i4⟩ := insideB_iff.1 hi
      have CK := Lib.hid (fun W' (hb : Below w.heap.size w W') => check_ok X Y W H n b cap v W' h0 hn (flAt_congr hc (hb.block _ hlt)) hh)
      have RC := Lib.hid (fun w => checkRegion_any X' Y' W1 H1 w)
      rw [h0'] at RC
      have IN := Lib.hid (fun w => inside_any X' Y' W1 H1 X Y W H w (by omega) (by omega) (by omega) (by omega) (by omega) (by omega) (by omega) (by omega) (by omega) (by omega) (by omega) (by omega) (by omega) (by omega) (by omega) (by omega))
      rw [hi] at IN
      have en1 : ((W1 : Int) * (H1 : Int)) = (n1 : Int) := by rw [hn1, Nat.mul_comm]; simp
      have BP := Lib.hid (fun W' p (hk : W'.heap[p]? = some (fldO X Y W H (.slice (some ⟨b, 0, none⟩) n cap))) (hb : Below w.heap.size w W') => byPlace_any X' Y' W1 H1 n1 67 #[.pointer (some ⟨p, 0, none⟩)] (cutF v X Y W X' Y' W1) W' enters_Cut1 (cut1_any X Y W H n b cap v p X' Y' W1 H1 W' hk (flAt_congr hc (hb.block _ hlt)) h1 hn2 (by omega) (by omega) (by omega) (by omega) (by omega) (by omega) (by omega) (by rw [hn]; exact Nat.mul_comm _ _) (by omega) i1 i2 i3 i4) (by omega) (by omega) (by omega) (by omega) (by omega) (by omega) (by omega) (by omega) hn1 (by omega))
      clear hc hn h0 hh h0' hi he b1 b2 b3 b4 b5 b6 b7 b8 b9 c1 c2 c3 c4 c5 c6 c7 c8 c9 h1 hlt en hn2 en1 i1 i2 i3 i4 hn1
      go_enter Try.func20, Try.ntmps20
      go_wp2_with (first | (go_at_call 64; refine (CK.out _ (by repeat (first | exact Below.refl _ _ | refine Below.alloc ?_ (by first | omega | (simp; done) | (simp; omega)) _ | refine Below.setCell ?_ (by first | omega | (simp; done) | (simp; omega)) _ | refine Below.drew ?_))).mono ?_; rintro e w2 ⟨rfl, hb2⟩; have HF2 := Lib.hid (blkStay (b := w.heap.size) (o := fldO X Y W H (.slice (some ⟨b, 0, none⟩) n cap)) (by ((simp only [heap_alloc_get, heap_size_alloc, if_true]) <;> ((repeat' split) <;> first | rfl | omega))) hb2); have HR2 := Lib.hid (blkStay (b := w.heap.size + 1) (o := regObj X' Y' W1 H1) (by ((simp only [heap_alloc_get, heap_size_alloc, if_true]) <;> ((repeat' split) <;> first | rfl | omega))) hb2); have HS2 := Lib.hid (blkStay (b := w.heap.size + 1 + 1) (o := fldO 0 0 0 0 (.slice none 0 0)) (by ((simp only [heap_alloc_get, heap_size_alloc, if_true]) <;> ((repeat' split) <;> first | rfl | omega))) hb2); have hB2 : Below w.heap.size w w2 := Below.trans (by repeat (first | exact Below.refl _ _ | refine Below.alloc ?_ (by first | omega | (simp; done) | (simp; omega)) _ | refine Below.setCell ?_ (by first | omega | (simp; done) | (simp; omega)) _ | refine Below.drew ?_)) (Below.mono hb2 (by first | omega | (simp; done) | (simp; omega))); obtain ⟨cF, fF, zF⟩ := blkC HF2.out; obtain ⟨cR, fR, zR⟩ := blkC HR2.out; clear hb2) | (go_at_call 47; refine (RC.out _).mono ?_; rintro e w3 ⟨rfl, hw3⟩; have hb23 : Below w2.heap.size w2 w3 := (by rw [hw3]; exact (by repeat (first | exact Below.refl _ _ | refine Below.alloc ?_ (by first | omega | (simp; done) | (simp; omega)) _ | refine Below.setCell ?_ (by first | omega | (simp; done) | (simp; omega)) _ | refine Below.drew ?_))); clear hw3 cR fR zR cF fF zF; have HF3 := Lib.hid (blkStay HF2.out hb23); have HR3 := Lib.hid (blkStay HR2.out hb23); have HS3 := Lib.hid (blkStay HS2.out hb23); have hB3 := hB2.trans (hb23.mono hB2.size); clear hb23 hB2 HF2 HR2 HS2; obtain ⟨cR, fR, zR⟩ := blkC HR3.out; obtain ⟨cF, fF, zF⟩ := blkC HF3.out; obtain ⟨cS, fS, zS⟩ := blkC HS3.out) | (go_at_call 65; refine (IN.out _).mono ?_; rintro e w4 ⟨rfl, hb4⟩; have hB4 := hB3.trans (hb4.mono hB3.size); have HS4 := Lib.hid (blkStay HS3.out hb4); have HF4 := Lib.hid (blkStay HF3.out hb4); have HR4 := Lib.hid (blkStay HR3.out hb4); clear cS fS zS cR fR zR cF fF zF; obtain ⟨cR, fR, zR⟩ := blkC HR4.out; obtain ⟨cF, fF, zF⟩ := blkC HF4.out))
      refine (BP.out w4 w.heap.size HF4.out hB4).mono ?_
      intro e w5 hmade
      rcases hmade with ⟨hall, b', cap', rfl, hb', hlt', hrow, hbel⟩ | ⟨hall, rfl, hbel⟩
      · have hS := Lib.hid (blkStay HS4.out hbel)
        obtain ⟨cS, fS, zS⟩ := blkC hS.out
        go_wp2
        refine bodyPost_ret (v := .tuple #[fldV X' Y' W1 H1 (.slice (some ⟨b', 0, none⟩) n1 cap'), .int .i64 0]) (by simp [results, Try.results20, go_sem, cS]) rfl ?_
        have z4 := hB4.size
        have zS4 := (blkC HS4.out).2.2
        exact .inl ⟨hall, b', cap', rfl, by omega, by rw [set5_size]; exact hlt', flAt_congr hrow (set5_heap w5 _ _ _ _ _ _ _ (by omega)), set5_below (hB4.trans (hbel.mono z4)) _ _ _ _ _ _ (by omega)⟩
      · have hS := Lib.hid (blkStay HS4.out hbel)
        obtain ⟨cS, fS, zS⟩ := blkC hS.out
        go_wp2
        refine bodyPost_ret (v := .tuple #[fldV 0 0 0 0 (.slice none 0 0), .int .i64 3]) (by simp [results, Try.results20, go_sem, cS]) rfl ?_
        exact .inr ⟨hall, rfl, set5_below (hB4.trans (hbel.mono hB4.size)) _ _ _ _ _ _ (by omega)⟩
  · rw [if_neg h0'] at he; exact absurd he h0'
end Go.Proofs.Ytgkpkpbigmcapaa
