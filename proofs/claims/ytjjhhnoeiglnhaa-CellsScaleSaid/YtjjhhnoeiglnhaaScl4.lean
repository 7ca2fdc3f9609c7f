/- The reference's Clamp. -/
import Derived.Test.YtjjhhnoeiglnhaaScl3
namespace Go.Proofs.Ytjjhhnoeiglnhaa
open Go.RowKit Fl
set_option linter.unusedVariables false

set_option maxHeartbeats 2000000 in
theorem rclamp_any (X Y : Int) (W H n b cap : Nat) (v : Nat → Nat) (m c : Nat) (w : World) (h0 : checkR X Y W H = 0) (hn : n = W * H) (hc : FlAt w b 0 n v) (hh : allB n (fun i => hgtB (v i)) = true) (hvw : wf32 n v) (hm32 : m < 4294967296) (hc32 : c < 4294967296) :
    Calls Try.prog 30 #[fldV X Y W H (.slice (some ⟨b, 0, none⟩) n cap), .float .f32 m, .float .f32 c] w (ClPost w X Y W H n (fun i => clpW (v i) m c) (fldE 2 (two m c)) (FloatKind.f32.format.order m c == some .gt)) := by
  obtain ⟨b1, b2, b3, b4, b5, b6, b7, b8, b9⟩ := checkR_zero h0
  have en : ((W : Int) * (H : Int)) = (n : Int) := by rw [hn]; simp
  have hn2 : n ≤ 65536 := by omega
  have h1 : 1 ≤ n := by
    have := Nat.mul_pos (by omega : 0 < W) (by omega : 0 < H)
    omega
  have hlt : b < w.heap.size := World.block_lt_of_cell? w _ (hc 0 h1)
  have CS := Lib.hid (fun bb W' (hb : W'.heap[bb]? = some (.cells #[.float .f32 m, .float .f32 c] 37)) => refHeight_row bb 0 2 2 (two m c) (by omega) W' (flAt_two hb) (two_wf hm32 hc32))
  have hwf : wf32 n (fun i => clpW (v i) m c) := fun i hi => clp_lt (hvw i hi) hm32 hc32
  by_cases hz : fldE 2 (two m c) = 0
  · rw [hz] at CS
    cases hgt : (FloatKind.f32.format.order m c == some .gt) with
    | true =>
      have HZ := Lib.hid hz
      clear hc hn h0 hh en hz b5 hvw hwf
      go_enter Try.func30, Try.ntmps30
      go_wp2_with (first | (go_at_call 44; refine (CS.out _ _ (by ((simp only [heap_alloc_get, heap_size_alloc, if_true]) <;> ((repeat' split) <;> first | rfl | omega)))).mono ?_; rintro e w2 ⟨rfl, hw3⟩; have hw2 : Below w.heap.size w w2 := (by rw [← hw3]; exact (by repeat (first | exact Below.refl _ _ | refine Below.alloc ?_ (by first | omega | (simp; done) | (simp; omega)) _ | refine Below.setCell ?_ (by first | omega | (simp; done) | (simp; omega)) _ | refine Below.drew ?_))); have HF2 := Lib.hid (show w2.heap[w.heap.size]? = some (fldO X Y W H (.slice (some ⟨b, 0, none⟩) n cap)) by rw [← hw3]; ((simp only [heap_alloc_get, heap_size_alloc, if_true]) <;> ((repeat' split) <;> first | rfl | omega))); have HM2 := Lib.hid (show w2.heap[w.heap.size + 1]? = some (flObj m) by rw [← hw3]; ((simp only [heap_alloc_get, heap_size_alloc, if_true]) <;> ((repeat' split) <;> first | rfl | omega))); have HC2 := Lib.hid (show w2.heap[w.heap.size + 1 + 1]? = some (flObj c) by rw [← hw3]; ((simp only [heap_alloc_get, heap_size_alloc, if_true]) <;> ((repeat' split) <;> first | rfl | omega))); have HS2 := Lib.hid (show w2.heap[w.heap.size + 1 + 1 + 1]? = some (fldO 0 0 0 0 (.slice none 0 0)) by rw [← hw3]; ((simp only [heap_alloc_get, heap_size_alloc, if_true]) <;> ((repeat' split) <;> first | rfl | omega))); have hB2 := hw2; obtain ⟨cF, fF, zF⟩ := blkC HF2.out; obtain ⟨cM, fM, zM⟩ := blkC HM2.out; obtain ⟨cC, fC, zC⟩ := blkC HC2.out; obtain ⟨cS, fS, zS⟩ := blkC HS2.out; clear hw3))
      refine bodyPost_ret (v := .tuple #[fldV 0 0 0 0 (.slice none 0 0), .int .i64 8]) (by simp [results, Try.results30, go_sem, cS]) rfl ?_
      exact .inr (.inl ⟨HZ.out, rfl, rfl, set5_below hB2 _ _ _ _ _ _ (by omega)⟩)
    | false =>
    have BY := Lib.hid (fun W' p (hk : Caps W' X Y W H n b cap v p m c) => made_any X Y W H n 93 _ (fun i => clpW (v i) m c) W' enters_rClamp1 (rclamp1_any X Y W H n b cap v p m c W' hk hn2 (by omega) (by omega) (by omega) (by omega) (by omega) (by omega) (by omega) (by rw [hn]; exact Nat.mul_comm _ _) h1) hwf (by omega) (by omega) (by omega) (by omega) (by omega) (by omega) (by omega) (by omega) (by rw [hn]; exact Nat.mul_comm _ _))
    have HC := Lib.hid hc
    have HZ := Lib.hid hz
    clear hc hn h0 hh en hz b5 hvw hwf
    go_enter Try.func30, Try.ntmps30
    go_wp2_with (first | (go_at_call 44; refine (CS.out _ _ (by ((simp only [heap_alloc_get, heap_size_alloc, if_true]) <;> ((repeat' split) <;> first | rfl | omega)))).mono ?_; rintro e w2 ⟨rfl, hw3⟩; have hw2 : Below w.heap.size w w2 := (by rw [← hw3]; exact (by repeat (first | exact Below.refl _ _ | refine Below.alloc ?_ (by first | omega | (simp; done) | (simp; omega)) _ | refine Below.setCell ?_ (by first | omega | (simp; done) | (simp; omega)) _ | refine Below.drew ?_))); have HF2 := Lib.hid (show w2.heap[w.heap.size]? = some (fldO X Y W H (.slice (some ⟨b, 0, none⟩) n cap)) by rw [← hw3]; ((simp only [heap_alloc_get, heap_size_alloc, if_true]) <;> ((repeat' split) <;> first | rfl | omega))); have HM2 := Lib.hid (show w2.heap[w.heap.size + 1]? = some (flObj m) by rw [← hw3]; ((simp only [heap_alloc_get, heap_size_alloc, if_true]) <;> ((repeat' split) <;> first | rfl | omega))); have HC2 := Lib.hid (show w2.heap[w.heap.size + 1 + 1]? = some (flObj c) by rw [← hw3]; ((simp only [heap_alloc_get, heap_size_alloc, if_true]) <;> ((repeat' split) <;> first | rfl | omega))); have HS2 := Lib.hid (show w2.heap[w.heap.size + 1 + 1 + 1]? = some (fldO 0 0 0 0 (.slice none 0 0)) by rw [← hw3]; ((simp only [heap_alloc_get, heap_size_alloc, if_true]) <;> ((repeat' split) <;> first | rfl | omega))); have hB2 := hw2; obtain ⟨cF, fF, zF⟩ := blkC HF2.out; obtain ⟨cM, fM, zM⟩ := blkC HM2.out; obtain ⟨cC, fC, zC⟩ := blkC HC2.out; obtain ⟨cS, fS, zS⟩ := blkC HS2.out; clear hw3))
    have K2 : Caps w2 X Y W H n b cap v w.heap.size m c := ⟨HF2.out, HM2.out, HC2.out, flAt_congr HC.out (hB2.block _ hlt)⟩
    clear cS fS zS
    refine (BY.out _ w.heap.size (K2.stay h1 (by repeat (first | exact Below.refl _ _ | refine Below.alloc ?_ (by first | omega | (simp; done) | (simp; omega)) _ | refine Below.setCell ?_ (by first | omega | (simp; done) | (simp; omega)) _ | refine Below.drew ?_)))).mono ?_
    intro e w4 hmade
    rcases hmade with ⟨hall, b', cap', rfl, hb', hlt', hrow, hbel⟩ | ⟨hall, rfl, hbel⟩
    · have hb24 : Below w2.heap.size w2 w4 := Below.trans (by repeat (first | exact Below.refl _ _ | refine Below.alloc ?_ (by first | omega | (simp; done) | (simp; omega)) _ | refine Below.setCell ?_ (by first | omega | (simp; done) | (simp; omega)) _ | refine Below.drew ?_)) (Below.mono hbel (by first | exact Nat.le_refl _ | simp))
      obtain ⟨cS, fS, zS⟩ := blkC (blkStay HS2.out hb24)
      go_wp2
      refine bodyPost_ret (v := .tuple #[fldV X Y W H (.slice (some ⟨b', 0, none⟩) n cap'), .int .i64 0]) (by simp [results, Try.results30, go_sem, cS]) rfl ?_
      have z2 := hB2.size
      exact .inr (.inr ⟨HZ.out, rfl, .inl ⟨hall, b', cap', rfl, by omega, by rw [set5_size]; exact hlt', flAt_congr hrow (set5_heap w4 _ _ _ _ _ _ _ (by have := HS2.out; have := (blkC this).2.2; omega)), set5_below (hB2.trans (hb24.mono z2)) _ _ _ _ _ _ (by omega)⟩⟩)
    · have hb24 : Below w2.heap.size w2 w4 := Below.trans (by repeat (first | exact Below.refl _ _ | refine Below.alloc ?_ (by first | omega | (simp; done) | (simp; omega)) _ | refine Below.setCell ?_ (by first | omega | (simp; done) | (simp; omega)) _ | refine Below.drew ?_)) (Below.mono hbel (by first | exact Nat.le_refl _ | simp))
      obtain ⟨cS, fS, zS⟩ := blkC (blkStay HS2.out hb24)
      go_wp2
      refine bodyPost_ret (v := .tuple #[fldV 0 0 0 0 (.slice none 0 0), .int .i64 3]) (by simp [results, Try.results30, go_sem, cS]) rfl ?_
      have z2 := hB2.size
      exact .inr (.inr ⟨HZ.out, rfl, .inr ⟨hall, rfl, set5_below (hB2.trans (hb24.mono z2)) _ _ _ _ _ _ (by omega)⟩⟩)
  · have hzb : (fldE 2 (two m c) != 0) = true := by simp [hz]
    have HZ := Lib.hid hz
    clear hc hn h0 hh en hz b5 hvw hwf
    go_enter Try.func30, Try.ntmps30
    go_wp2_with (first | (go_at_call 44; refine (CS.out _ _ (by ((simp only [heap_alloc_get, heap_size_alloc, if_true]) <;> ((repeat' split) <;> first | rfl | omega)))).mono ?_; rintro e w2 ⟨rfl, hw3⟩; have hw2 : Below w.heap.size w w2 := (by rw [← hw3]; exact (by repeat (first | exact Below.refl _ _ | refine Below.alloc ?_ (by first | omega | (simp; done) | (simp; omega)) _ | refine Below.setCell ?_ (by first | omega | (simp; done) | (simp; omega)) _ | refine Below.drew ?_))); have HF2 := Lib.hid (show w2.heap[w.heap.size]? = some (fldO X Y W H (.slice (some ⟨b, 0, none⟩) n cap)) by rw [← hw3]; ((simp only [heap_alloc_get, heap_size_alloc, if_true]) <;> ((repeat' split) <;> first | rfl | omega))); have HM2 := Lib.hid (show w2.heap[w.heap.size + 1]? = some (flObj m) by rw [← hw3]; ((simp only [heap_alloc_get, heap_size_alloc, if_true]) <;> ((repeat' split) <;> first | rfl | omega))); have HC2 := Lib.hid (show w2.heap[w.heap.size + 1 + 1]? = some (flObj c) by rw [← hw3]; ((simp only [heap_alloc_get, heap_size_alloc, if_true]) <;> ((repeat' split) <;> first | rfl | omega))); have HS2 := Lib.hid (show w2.heap[w.heap.size + 1 + 1 + 1]? = some (fldO 0 0 0 0 (.slice none 0 0)) by rw [← hw3]; ((simp only [heap_alloc_get, heap_size_alloc, if_true]) <;> ((repeat' split) <;> first | rfl | omega))); have hB2 := hw2; obtain ⟨cF, fF, zF⟩ := blkC HF2.out; obtain ⟨cM, fM, zM⟩ := blkC HM2.out; obtain ⟨cC, fC, zC⟩ := blkC HC2.out; obtain ⟨cS, fS, zS⟩ := blkC HS2.out; clear hw3))
    refine bodyPost_ret (v := .tuple #[fldV 0 0 0 0 (.slice none 0 0), .int .i64 (fldE 2 (two m c))]) (by simp [results, Try.results30, go_sem, cS]) rfl ?_
    exact .inl ⟨HZ.out, rfl, set5_below hB2 _ _ _ _ _ _ (by omega)⟩

end Go.Proofs.Ytjjhhnoeiglnhaa
