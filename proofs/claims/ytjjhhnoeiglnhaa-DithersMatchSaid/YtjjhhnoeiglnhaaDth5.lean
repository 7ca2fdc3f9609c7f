/- Dither of the reference, of a right field. -/
import Derived.Test.YtjjhhnoeiglnhaaDth4
import Derived.Test.YtjjhhnoeiglnhaaEasLaw
import Derived.Test.YtjjhhnoeiglnhaaWithin
namespace Go.Proofs.Ytjjhhnoeiglnhaa
open Go.RowKit Fl
set_option linter.unusedVariables false

set_option maxHeartbeats 2000000 in
theorem rdither_any (X Y : Int) (W H n b cap : Nat) (v : Nat → Nat) (sd : Int) (st : Nat) (w : World) (h0 : checkR X Y W H = 0) (hn : n = W * H) (hc : FlAt w b 0 n v) (hh : allB n (fun i => hgtB (v i)) = true) (hst : st < 4294967296) :
    Calls Try.prog 53 #[fldV X Y W H (.slice (some ⟨b, 0, none⟩) n cap), .int .u32 sd, .float .f32 st] w (ScPost w X Y W H n (dthF v st sd X Y W) (wiE st 981467136 1149239296)) := by
  obtain ⟨b1, b2, b3, b4, b5, b6, b7, b8, b9⟩ := checkR_zero h0
  have en : ((W : Int) * (H : Int)) = (n : Int) := by rw [hn]; simp
  have hn2 : n ≤ 65536 := by omega
  have hnn : n = H * W := by rw [hn]; exact Nat.mul_comm _ _
  have h1 : 1 ≤ n := by
    have := Nat.mul_pos (by omega : 0 < W) (by omega : 0 < H)
    omega
  have hlt : b < w.heap.size := World.block_lt_of_cell? w _ (hc 0 h1)
  have HT := Lib.hid (fun bb w => refHeight_of st hst bb w)
  rcases step_cases st with ⟨hk, he⟩ | ⟨h2, he, c1⟩ | ⟨h2, he, c1, c2⟩ | ⟨h2, he, c1, c2⟩
  · rw [he]
    generalize fldE 1 (fun _ => st) = er at *
    have hzb : (er != 0) = true := by rcases hk with rfl | rfl <;> rfl
    have HZ := Lib.hid (show er ≠ 0 by rcases hk with rfl | rfl <;> decide)
    clear hc hn h0 hh en b5 hnn he hk
    go_enter Try.func53, Try.ntmps53
    go_wp2_with (first | (go_at_call 44; refine (HT.out _ _ (by ((simp only [heap_alloc_get, heap_size_alloc, if_true]) <;> ((repeat' split) <;> first | rfl | omega)))).mono ?_; rintro e w2 ⟨rfl, rfl⟩))
    refine bodyPost_ret (v := .tuple #[fldV 0 0 0 0 (.slice none 0 0), .int .i64 er]) (by simp [results, Try.results53, go_sem]) rfl ?_
    exact .inl ⟨HZ.out, rfl, (by repeat (first | exact Below.refl _ _ | refine Below.alloc ?_ (by first | omega | (simp; done) | (simp; omega)) _ | refine Below.setCell ?_ (by first | omega | (simp; done) | (simp; omega)) _ | refine Below.drew ?_))⟩
  · rw [he]
    rw [h2] at HT
    clear hc hn h0 hh en b5 hnn he h2
    go_enter Try.func53, Try.ntmps53
    go_wp2_with (first | (go_at_call 44; refine (HT.out _ _ (by ((simp only [heap_alloc_get, heap_size_alloc, if_true]) <;> ((repeat' split) <;> first | rfl | omega)))).mono ?_; rintro e w2 ⟨rfl, rfl⟩))
    refine bodyPost_ret (v := .tuple #[fldV 0 0 0 0 (.slice none 0 0), .int .i64 3]) (by simp [results, Try.results53, go_sem]) rfl ?_
    exact .inl ⟨by decide, rfl, (by repeat (first | exact Below.refl _ _ | refine Below.alloc ?_ (by first | omega | (simp; done) | (simp; omega)) _ | refine Below.setCell ?_ (by first | omega | (simp; done) | (simp; omega)) _ | refine Below.drew ?_))⟩
  · rw [he]
    rw [h2] at HT
    clear hc hn h0 hh en b5 hnn he h2
    go_enter Try.func53, Try.ntmps53
    go_wp2_with (first | (go_at_call 44; refine (HT.out _ _ (by ((simp only [heap_alloc_get, heap_size_alloc, if_true]) <;> ((repeat' split) <;> first | rfl | omega)))).mono ?_; rintro e w2 ⟨rfl, rfl⟩))
    refine bodyPost_ret (v := .tuple #[fldV 0 0 0 0 (.slice none 0 0), .int .i64 3]) (by simp [results, Try.results53, go_sem]) rfl ?_
    exact .inl ⟨by decide, rfl, (by repeat (first | exact Below.refl _ _ | refine Below.alloc ?_ (by first | omega | (simp; done) | (simp; omega)) _ | refine Below.setCell ?_ (by first | omega | (simp; done) | (simp; omega)) _ | refine Below.drew ?_))⟩
  · have hs := step_ok he
    have BY := Lib.hid (fun W' p (hk : DCaps W' X Y W H n b cap v p st sd) => made_any X Y W H n 120 _ (dthF v st sd X Y W) W' enters_rDither1 (rdither1_any X Y W H n b cap v p st sd W' hk hn2 hh hs (by omega) (by omega) (by omega) (by omega) (by omega) (by omega) (by omega) hnn) (dth_wf hh hs) (by omega) (by omega) (by omega) (by omega) (by omega) (by omega) (by omega) (by omega) hnn)
    rw [he]
    rw [h2] at HT
    have HC := Lib.hid hc
    clear hc hn h0 hh en b5 hs hnn he h2
    go_enter Try.func53, Try.ntmps53
    go_wp2_with (first | (go_at_call 44; refine (HT.out _ _ (by ((simp only [heap_alloc_get, heap_size_alloc, if_true]) <;> ((repeat' split) <;> first | rfl | omega)))).mono ?_; rintro e w2 ⟨rfl, hw3⟩; have hw2 : Below w.heap.size w w2 := (by rw [← hw3]; exact (by repeat (first | exact Below.refl _ _ | refine Below.alloc ?_ (by first | omega | (simp; done) | (simp; omega)) _ | refine Below.setCell ?_ (by first | omega | (simp; done) | (simp; omega)) _ | refine Below.drew ?_))); have HF2 := Lib.hid (show w2.heap[w.heap.size]? = some (fldO X Y W H (.slice (some ⟨b, 0, none⟩) n cap)) by rw [← hw3]; ((simp only [heap_alloc_get, heap_size_alloc, if_true]) <;> ((repeat' split) <;> first | rfl | omega))); have HM2 := Lib.hid (show w2.heap[w.heap.size + 1]? = some (u32Obj sd) by rw [← hw3]; ((simp only [heap_alloc_get, heap_size_alloc, if_true]) <;> ((repeat' split) <;> first | rfl | omega))); have HC2 := Lib.hid (show w2.heap[w.heap.size + 1 + 1]? = some (flObj st) by rw [← hw3]; ((simp only [heap_alloc_get, heap_size_alloc, if_true]) <;> ((repeat' split) <;> first | rfl | omega))); have HS2 := Lib.hid (show w2.heap[w.heap.size + 1 + 1 + 1]? = some (fldO 0 0 0 0 (.slice none 0 0)) by rw [← hw3]; ((simp only [heap_alloc_get, heap_size_alloc, if_true]) <;> ((repeat' split) <;> first | rfl | omega))); have hB2 := hw2; obtain ⟨cF, fF, zF⟩ := blkC HF2.out; obtain ⟨cC, fC, zC⟩ := blkC HC2.out; obtain ⟨cS, fS, zS⟩ := blkC HS2.out; clear hw3 hw2))
    have K2 : DCaps w2 X Y W H n b cap v w.heap.size st sd := ⟨HF2.out, HM2.out, HC2.out, flAt_congr HC.out (hB2.block _ hlt)⟩
    clear cS fS zS
    refine (BY.out _ w.heap.size (K2.stay h1 (by repeat (first | exact Below.refl _ _ | refine Below.alloc ?_ (by first | omega | (simp; done) | (simp; omega)) _ | refine Below.setCell ?_ (by first | omega | (simp; done) | (simp; omega)) _ | refine Below.drew ?_)))).mono ?_
    intro e w4 hmade
    rcases hmade with ⟨hall, b', cap', rfl, hb', hlt', hrow, hbel⟩ | ⟨hall, rfl, hbel⟩
    · have hb24 : Below w2.heap.size w2 w4 := Below.trans (by repeat (first | exact Below.refl _ _ | refine Below.alloc ?_ (by first | omega | (simp; done) | (simp; omega)) _ | refine Below.setCell ?_ (by first | omega | (simp; done) | (simp; omega)) _ | refine Below.drew ?_)) (Below.mono hbel (by first | exact Nat.le_refl _ | simp))
      obtain ⟨cS, fS, zS⟩ := blkC (blkStay HS2.out hb24)
      go_wp2
      refine bodyPost_ret (v := .tuple #[fldV X Y W H (.slice (some ⟨b', 0, none⟩) n cap'), .int .i64 0]) (by simp [results, Try.results53, go_sem, cS]) rfl ?_
      have z2 := hB2.size
      exact .inr ⟨rfl, .inl ⟨hall, b', cap', rfl, by omega, by rw [set5_size]; exact hlt', flAt_congr hrow (set5_heap w4 _ _ _ _ _ _ _ (by have := HS2.out; have := (blkC this).2.2; omega)), set5_below (hB2.trans (hb24.mono z2)) _ _ _ _ _ _ (by omega)⟩⟩
    · have hb24 : Below w2.heap.size w2 w4 := Below.trans (by repeat (first | exact Below.refl _ _ | refine Below.alloc ?_ (by first | omega | (simp; done) | (simp; omega)) _ | refine Below.setCell ?_ (by first | omega | (simp; done) | (simp; omega)) _ | refine Below.drew ?_)) (Below.mono hbel (by first | exact Nat.le_refl _ | simp))
      obtain ⟨cS, fS, zS⟩ := blkC (blkStay HS2.out hb24)
      go_wp2
      refine bodyPost_ret (v := .tuple #[fldV 0 0 0 0 (.slice none 0 0), .int .i64 3]) (by simp [results, Try.results53, go_sem, cS]) rfl ?_
      have z2 := hB2.size
      exact .inr ⟨rfl, .inr ⟨hall, rfl, set5_below (hB2.trans (hb24.mono z2)) _ _ _ _ _ _ (by omega)⟩⟩
end Go.Proofs.Ytjjhhnoeiglnhaa
