/- Dither of the program and of the reference, of a right field. -/
import Derived.Test.YtjjhhnoeiglnhaaDth3
import Derived.Test.YtjjhhnoeiglnhaaScl2
namespace Go.Proofs.Ytjjhhnoeiglnhaa
open Go.RowKit Fl
set_option linter.unusedVariables false

theorem dth_wf {n : Nat} {v : Nat → Nat} {st : Nat} {sd X Y : Int} {W : Nat} (hh : allB n (fun i => hgtB (v i)) = true) (hs : StepOk st) : wf32 n (dthF v st sd X Y W) := by
  intro i hi
  obtain ⟨q, d, c, j, r, D⟩ := dth_parts (hashI sd (X + ((i % W : Nat) : Int)) (Y + ((i / W : Nat) : Int)) 8) (allB_iff.1 hh i hi) hs
  unfold dthF; rw [D.w]; exact D.lt

set_option maxHeartbeats 2000000 in
theorem dither_any (X Y : Int) (W H n b cap : Nat) (v : Nat → Nat) (sd : Int) (st : Nat) (w : World) (h0 : checkR X Y W H = 0) (hn : n = W * H) (hc : FlAt w b 0 n v) (hh : allB n (fun i => hgtB (v i)) = true) :
    Calls Try.prog 52 #[fldV X Y W H (.slice (some ⟨b, 0, none⟩) n cap), .int .u32 sd, .float .f32 st] w (ScPost w X Y W H n (dthF v st sd X Y W) (wiE st 981467136 1149239296)) := by
  obtain ⟨b1, b2, b3, b4, b5, b6, b7, b8, b9⟩ := checkR_zero h0
  have en : ((W : Int) * (H : Int)) = (n : Int) := by rw [hn]; simp
  have hn2 : n ≤ 65536 := by omega
  have hnn : n = H * W := by rw [hn]; exact Nat.mul_comm _ _
  have h1 : 1 ≤ n := by
    have := Nat.mul_pos (by omega : 0 < W) (by omega : 0 < H)
    omega
  have hlt : b < w.heap.size := World.block_lt_of_cell? w _ (hc 0 h1)
  have CK := Lib.hid (fun W' (hb : Below w.heap.size w W') => check_ok X Y W H n b cap v W' h0 hn (flAt_congr hc (hb.block _ hlt)) hh)
  have CW := Lib.hid (fun w => checkWithin_any st 981467136 1149239296 w)
  by_cases hz : wiE st 981467136 1149239296 = 0
  · have hs := step_ok hz
    have MK := Lib.hid (fun W' p (hk : DCaps W' X Y W H n b cap v p st sd) => make_ok X Y W H n 118 _ (dthF v st sd X Y W) W' enters_Dither1 (dither1_any X Y W H n b cap v p st sd W' hk hn2 hh hs (by omega) (by omega) (by omega) (by omega) (by omega) (by omega) (by omega) hnn) h0 hnn)
    rw [hz] at CW
    have HC := Lib.hid hc
    have HZ := Lib.hid hz
    clear hc hn h0 hh en hz b5 hs hnn
    go_enter Try.func52, Try.ntmps52
    go_wp2_with (first | (go_at_call 82; refine (CK.out _ (by repeat (first | exact Below.refl _ _ | refine Below.alloc ?_ (by first | omega | (simp; done) | (simp; omega)) _ | refine Below.setCell ?_ (by first | omega | (simp; done) | (simp; omega)) _ | refine Below.drew ?_))).mono ?_; rintro e w2 ⟨rfl, hb2⟩; have HF2 := Lib.hid (blkStay (b := w.heap.size) (o := fldO X Y W H (.slice (some ⟨b, 0, none⟩) n cap)) (by ((simp only [heap_alloc_get, heap_size_alloc, if_true]) <;> ((repeat' split) <;> first | rfl | omega))) hb2); have HM2 := Lib.hid (blkStay (b := w.heap.size + 1) (o := u32Obj sd) (by ((simp only [heap_alloc_get, heap_size_alloc, if_true]) <;> ((repeat' split) <;> first | rfl | omega))) hb2); have HC2 := Lib.hid (blkStay (b := w.heap.size + 1 + 1) (o := flObj st) (by ((simp only [heap_alloc_get, heap_size_alloc, if_true]) <;> ((repeat' split) <;> first | rfl | omega))) hb2); have HS2 := Lib.hid (blkStay (b := w.heap.size + 1 + 1 + 1) (o := fldO 0 0 0 0 (.slice none 0 0)) (by ((simp only [heap_alloc_get, heap_size_alloc, if_true]) <;> ((repeat' split) <;> first | rfl | omega))) hb2); have hB2 : Below w.heap.size w w2 := Below.trans (by repeat (first | exact Below.refl _ _ | refine Below.alloc ?_ (by first | omega | (simp; done) | (simp; omega)) _ | refine Below.setCell ?_ (by first | omega | (simp; done) | (simp; omega)) _ | refine Below.drew ?_)) (Below.mono hb2 (by first | omega | (simp; done) | (simp; omega))); obtain ⟨cF, fF, zF⟩ := blkC HF2.out; obtain ⟨cM, fM, zM⟩ := blkC HM2.out; obtain ⟨cC, fC, zC⟩ := blkC HC2.out; clear hb2) | (go_at_call 114; refine (CW.out _).mono ?_; rintro e w3 ⟨rfl, rfl⟩))
    have K2 : DCaps w2 X Y W H n b cap v w.heap.size st sd := ⟨HF2.out, HM2.out, HC2.out, flAt_congr HC.out (hB2.block _ hlt)⟩
    refine (MK.out _ w.heap.size (K2.stay h1 (by repeat (first | exact Below.refl _ _ | refine Below.alloc ?_ (by first | omega | (simp; done) | (simp; omega)) _ | refine Below.setCell ?_ (by first | omega | (simp; done) | (simp; omega)) _ | refine Below.drew ?_)))).mono ?_
    intro e w4 hmade
    rcases hmade with ⟨hall, b', cap', rfl, hb', hlt', hrow, hbel⟩ | ⟨hall, rfl, hbel⟩
    · have hb24 : Below w2.heap.size w2 w4 := Below.trans (by repeat (first | exact Below.refl _ _ | refine Below.alloc ?_ (by first | omega | (simp; done) | (simp; omega)) _ | refine Below.setCell ?_ (by first | omega | (simp; done) | (simp; omega)) _ | refine Below.drew ?_)) (Below.mono hbel (by first | exact Nat.le_refl _ | simp))
      obtain ⟨cS, fS, zS⟩ := blkC (blkStay HS2.out hb24)
      go_wp2
      refine bodyPost_ret (v := .tuple #[fldV X Y W H (.slice (some ⟨b', 0, none⟩) n cap'), .int .i64 0]) (by simp [results, Try.results52, go_sem, cS]) rfl ?_
      have z2 := hB2.size
      exact .inr ⟨HZ.out, .inl ⟨hall, b', cap', rfl, by omega, by rw [set5_size]; exact hlt', flAt_congr hrow (set5_heap w4 _ _ _ _ _ _ _ (by have := HS2.out; have := (blkC this).2.2; omega)), set5_below (hB2.trans (hb24.mono z2)) _ _ _ _ _ _ (by omega)⟩⟩
    · have hb24 : Below w2.heap.size w2 w4 := Below.trans (by repeat (first | exact Below.refl _ _ | refine Below.alloc ?_ (by first | omega | (simp; done) | (simp; omega)) _ | refine Below.setCell ?_ (by first | omega | (simp; done) | (simp; omega)) _ | refine Below.drew ?_)) (Below.mono hbel (by first | exact Nat.le_refl _ | simp))
      obtain ⟨cS, fS, zS⟩ := blkC (blkStay HS2.out hb24)
      go_wp2
      refine bodyPost_ret (v := .tuple #[fldV 0 0 0 0 (.slice none 0 0), .int .i64 3]) (by simp [results, Try.results52, go_sem, cS]) rfl ?_
      have z2 := hB2.size
      exact .inr ⟨HZ.out, .inr ⟨hall, rfl, set5_below (hB2.trans (hb24.mono z2)) _ _ _ _ _ _ (by omega)⟩⟩
  · have hzb : (wiE st 981467136 1149239296 != 0) = true := by simp [hz]
    have HZ := Lib.hid hz
    generalize wiE st 981467136 1149239296 = er at *
    clear hc hn h0 hh en hz b5 hnn
    go_enter Try.func52, Try.ntmps52
    go_wp2_with (first | (go_at_call 82; refine (CK.out _ (by repeat (first | exact Below.refl _ _ | refine Below.alloc ?_ (by first | omega | (simp; done) | (simp; omega)) _ | refine Below.setCell ?_ (by first | omega | (simp; done) | (simp; omega)) _ | refine Below.drew ?_))).mono ?_; rintro e w2 ⟨rfl, hb2⟩; have HF2 := Lib.hid (blkStay (b := w.heap.size) (o := fldO X Y W H (.slice (some ⟨b, 0, none⟩) n cap)) (by ((simp only [heap_alloc_get, heap_size_alloc, if_true]) <;> ((repeat' split) <;> first | rfl | omega))) hb2); have HC2 := Lib.hid (blkStay (b := w.heap.size + 1 + 1) (o := flObj st) (by ((simp only [heap_alloc_get, heap_size_alloc, if_true]) <;> ((repeat' split) <;> first | rfl | omega))) hb2); have HS2 := Lib.hid (blkStay (b := w.heap.size + 1 + 1 + 1) (o := fldO 0 0 0 0 (.slice none 0 0)) (by ((simp only [heap_alloc_get, heap_size_alloc, if_true]) <;> ((repeat' split) <;> first | rfl | omega))) hb2); have hB2 : Below w.heap.size w w2 := Below.trans (by repeat (first | exact Below.refl _ _ | refine Below.alloc ?_ (by first | omega | (simp; done) | (simp; omega)) _ | refine Below.setCell ?_ (by first | omega | (simp; done) | (simp; omega)) _ | refine Below.drew ?_)) (Below.mono hb2 (by first | omega | (simp; done) | (simp; omega))); obtain ⟨cF, fF, zF⟩ := blkC HF2.out; obtain ⟨cC, fC, zC⟩ := blkC HC2.out; obtain ⟨cS, fS, zS⟩ := blkC HS2.out; clear hb2) | (go_at_call 114; refine (CW.out _).mono ?_; rintro e w3 ⟨rfl, rfl⟩))
    refine bodyPost_ret (v := .tuple #[fldV 0 0 0 0 (.slice none 0 0), .int .i64 er]) (by simp [results, Try.results52, go_sem, cS]) rfl ?_
    exact .inl ⟨HZ.out, rfl, set5_below hB2 _ _ _ _ _ _ (by omega)⟩
end Go.Proofs.Ytjjhhnoeiglnhaa
