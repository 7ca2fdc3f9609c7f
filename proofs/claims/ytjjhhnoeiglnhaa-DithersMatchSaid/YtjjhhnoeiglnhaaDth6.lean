/- Speckle of the program and of the reference, of a right region. -/
import Derived.Test.YtjjhhnoeiglnhaaDth5
namespace Go.Proofs.Ytjjhhnoeiglnhaa
open Go.RowKit Fl
set_option linter.unusedVariables false

theorem unit_cases (st : Nat) : WithinCases st 0 1065353216 := by
  have hp := one_pos
  exact within_cases (st := st) vS_zero vS_one (by rw [vTop_one]; generalize one = O at *; omega) (by rw [vTop_one]; generalize one = O at *; omega)

set_option maxHeartbeats 1000000 in
theorem share_any (st : Nat) (hst : st < 4294967296) (w : World) :
    Calls Try.prog 123 #[.float .f32 st, .float .f32 1065353216] w fun e w' => e = .returned (.int .i64 (wiE st 0 1065353216)) ∧ w.alloc (flObj st) = w' := by
  have HT := Lib.hid (fun bb w => refHeight_of st hst bb w)
  rcases unit_cases st with ⟨hk, he⟩ | ⟨h2, he, c1⟩ | ⟨h2, he, c1, c2⟩ | ⟨h2, he, c1, c2⟩
  · rw [he]
    generalize fldE 1 (fun _ => st) = er at *
    have hzb : (er != 0) = true := by rcases hk with rfl | rfl <;> rfl
    clear he hk
    go_enter Try.func123, Try.ntmps123
    go_wp2_with (first | (go_at_call 44; refine (HT.out _ _ (by ((simp only [heap_alloc_get, if_true]) <;> ((repeat' split) <;> first | rfl | omega)))).mono ?_; rintro e w2 ⟨rfl, rfl⟩))
    go_ret
    exact ⟨rfl, rfl⟩
  all_goals
    rw [he]
    rw [h2] at HT
    clear he h2
    go_enter Try.func123, Try.ntmps123
    go_wp2_with (first | (go_at_call 44; refine (HT.out _ _ (by ((simp only [heap_alloc_get, if_true]) <;> ((repeat' split) <;> first | rfl | omega)))).mono ?_; rintro e w2 ⟨rfl, rfl⟩))
    go_ret
    exact ⟨rfl, rfl⟩

theorem spk_wf (n : Nat) (st : Nat) (sd X Y : Int) (W : Nat) : wf32 n (spkF st sd X Y W) := by
  intro i hi
  unfold spkF spkW
  split <;> decide

set_option maxHeartbeats 2000000 in
theorem speckle_any (X Y : Int) (W H n : Nat) (sd : Int) (st : Nat) (w : World) (h0 : checkR X Y W H = 0) (hn : n = W * H) :
    Calls Try.prog 54 #[reg X Y W H, .int .u32 sd, .float .f32 st] w (ScPost w X Y W H n (spkF st sd X Y W) (wiE st 0 1065353216)) := by
  obtain ⟨b1, b2, b3, b4, b5, b6, b7, b8, b9⟩ := checkR_zero h0
  have hnn : n = H * W := by rw [hn]; exact Nat.mul_comm _ _
  have RC := Lib.hid (fun w => checkRegion_any X Y W H w)
  have CW := Lib.hid (fun w => checkWithin_any st 0 1065353216 w)
  have MK := Lib.hid (fun W' p (hk : SCaps W' p st sd) => make_ok X Y W H n 122 _ (spkF st sd X Y W) W' enters_Speckle1 (speckle1_any X Y W H n p st sd W' hk (by omega) hnn) h0 hnn)
  rw [h0] at RC
  by_cases hz : wiE st 0 1065353216 = 0
  · rw [hz] at CW
    have HZ := Lib.hid hz
    clear hn h0 hz b1 b2 b3 b4 b5 b6 b7 b8 b9 hnn
    go_enter Try.func54, Try.ntmps54
    go_wp2_with (first | (go_at_call 16; refine (RC.out _).mono ?_; rintro e w2 ⟨rfl, hw2⟩; have hB2 : Below w.heap.size w w2 := (by rw [hw2]; exact (by repeat (first | exact Below.refl _ _ | refine Below.alloc ?_ (by first | omega | (simp; done) | (simp; omega)) _ | refine Below.setCell ?_ (by first | omega | (simp; done) | (simp; omega)) _ | refine Below.drew ?_))); have HF2 := Lib.hid (show w2.heap[w.heap.size]? = some (regObj X Y W H) by rw [hw2]; ((simp only [heap_alloc_get, heap_size_alloc, if_true]) <;> ((repeat' split) <;> first | rfl | omega))); have HM2 := Lib.hid (show w2.heap[w.heap.size + 1]? = some (u32Obj sd) by rw [hw2]; ((simp only [heap_alloc_get, heap_size_alloc, if_true]) <;> ((repeat' split) <;> first | rfl | omega))); have HC2 := Lib.hid (show w2.heap[w.heap.size + 1 + 1]? = some (flObj st) by rw [hw2]; ((simp only [heap_alloc_get, heap_size_alloc, if_true]) <;> ((repeat' split) <;> first | rfl | omega))); have HS2 := Lib.hid (show w2.heap[w.heap.size + 1 + 1 + 1]? = some (fldO 0 0 0 0 (.slice none 0 0)) by rw [hw2]; ((simp only [heap_alloc_get, heap_size_alloc, if_true]) <;> ((repeat' split) <;> first | rfl | omega))); clear hw2; obtain ⟨cF, fF, zF⟩ := blkC HF2.out; obtain ⟨cC, fC, zC⟩ := blkC HC2.out) | (go_at_call 114; refine (CW.out _).mono ?_; rintro e w3 ⟨rfl, rfl⟩))
    have K2 : SCaps w2 (w.heap.size + 1) st sd := ⟨HM2.out, HC2.out⟩
    refine (MK.out _ (w.heap.size + 1) (K2.stay (by repeat (first | exact Below.refl _ _ | refine Below.alloc ?_ (by first | omega | (simp; done) | (simp; omega)) _ | refine Below.setCell ?_ (by first | omega | (simp; done) | (simp; omega)) _ | refine Below.drew ?_)))).mono ?_
    intro e w4 hmade
    rcases hmade with ⟨hall, b', cap', rfl, hb', hlt', hrow, hbel⟩ | ⟨hall, rfl, hbel⟩
    · have hb24 : Below w2.heap.size w2 w4 := Below.trans (by repeat (first | exact Below.refl _ _ | refine Below.alloc ?_ (by first | omega | (simp; done) | (simp; omega)) _ | refine Below.setCell ?_ (by first | omega | (simp; done) | (simp; omega)) _ | refine Below.drew ?_)) (Below.mono hbel (by first | exact Nat.le_refl _ | simp))
      obtain ⟨cS, fS, zS⟩ := blkC (blkStay HS2.out hb24)
      go_wp2
      refine bodyPost_ret (v := .tuple #[fldV X Y W H (.slice (some ⟨b', 0, none⟩) n cap'), .int .i64 0]) (by simp [results, Try.results54, go_sem, cS]) rfl ?_
      have z2 := hB2.size
      exact .inr ⟨HZ.out, .inl ⟨hall, b', cap', rfl, by omega, by rw [set5_size]; exact hlt', flAt_congr hrow (set5_heap w4 _ _ _ _ _ _ _ (by have := HS2.out; have := (blkC this).2.2; omega)), set5_below (hB2.trans (hb24.mono z2)) _ _ _ _ _ _ (by omega)⟩⟩
    · have hb24 : Below w2.heap.size w2 w4 := Below.trans (by repeat (first | exact Below.refl _ _ | refine Below.alloc ?_ (by first | omega | (simp; done) | (simp; omega)) _ | refine Below.setCell ?_ (by first | omega | (simp; done) | (simp; omega)) _ | refine Below.drew ?_)) (Below.mono hbel (by first | exact Nat.le_refl _ | simp))
      obtain ⟨cS, fS, zS⟩ := blkC (blkStay HS2.out hb24)
      go_wp2
      refine bodyPost_ret (v := .tuple #[fldV 0 0 0 0 (.slice none 0 0), .int .i64 3]) (by simp [results, Try.results54, go_sem, cS]) rfl ?_
      have z2 := hB2.size
      exact .inr ⟨HZ.out, .inr ⟨hall, rfl, set5_below (hB2.trans (hb24.mono z2)) _ _ _ _ _ _ (by omega)⟩⟩
  · have hzb : (wiE st 0 1065353216 != 0) = true := by simp [hz]
    have HZ := Lib.hid hz
    generalize wiE st 0 1065353216 = er at *
    clear hn h0 hz b1 b2 b3 b4 b5 b6 b7 b8 b9 hnn MK
    go_enter Try.func54, Try.ntmps54
    go_wp2_with (first | (go_at_call 16; refine (RC.out _).mono ?_; rintro e w2 ⟨rfl, hw2⟩; have hB2 : Below w.heap.size w w2 := (by rw [hw2]; exact (by repeat (first | exact Below.refl _ _ | refine Below.alloc ?_ (by first | omega | (simp; done) | (simp; omega)) _ | refine Below.setCell ?_ (by first | omega | (simp; done) | (simp; omega)) _ | refine Below.drew ?_))); have HC2 := Lib.hid (show w2.heap[w.heap.size + 1 + 1]? = some (flObj st) by rw [hw2]; ((simp only [heap_alloc_get, heap_size_alloc, if_true]) <;> ((repeat' split) <;> first | rfl | omega))); have HS2 := Lib.hid (show w2.heap[w.heap.size + 1 + 1 + 1]? = some (fldO 0 0 0 0 (.slice none 0 0)) by rw [hw2]; ((simp only [heap_alloc_get, heap_size_alloc, if_true]) <;> ((repeat' split) <;> first | rfl | omega))); clear hw2; obtain ⟨cC, fC, zC⟩ := blkC HC2.out; obtain ⟨cS, fS, zS⟩ := blkC HS2.out) | (go_at_call 114; refine (CW.out _).mono ?_; rintro e w3 ⟨rfl, rfl⟩))
    refine bodyPost_ret (v := .tuple #[fldV 0 0 0 0 (.slice none 0 0), .int .i64 er]) (by simp [results, Try.results54, go_sem, cS]) rfl ?_
    exact .inl ⟨HZ.out, rfl, set5_below hB2 _ _ _ _ _ _ (by omega)⟩

set_option maxHeartbeats 2000000 in
theorem rspeckle_any (X Y : Int) (W H n : Nat) (sd : Int) (st : Nat) (w : World) (h0 : checkR X Y W H = 0) (hn : n = W * H) (hst : st < 4294967296) :
    Calls Try.prog 55 #[reg X Y W H, .int .u32 sd, .float .f32 st] w (ScPost w X Y W H n (spkF st sd X Y W) (wiE st 0 1065353216)) := by
  obtain ⟨b1, b2, b3, b4, b5, b6, b7, b8, b9⟩ := checkR_zero h0
  have hnn : n = H * W := by rw [hn]; exact Nat.mul_comm _ _
  have RC := Lib.hid (fun w => refCheckRegion_any X Y W H w)
  have CW := Lib.hid (fun w => share_any st hst w)
  have MK := Lib.hid (fun W' p (hk : SCaps W' p st sd) => made_any X Y W H n 124 _ (spkF st sd X Y W) W' enters_rSpeckle1 (rspeckle1_any X Y W H n p st sd W' hk (by omega) hnn) (spk_wf n st sd X Y W) (by omega) (by omega) (by omega) (by omega) (by omega) (by omega) (by omega) (by omega) hnn)
  rw [h0] at RC
  by_cases hz : wiE st 0 1065353216 = 0
  · rw [hz] at CW
    have HZ := Lib.hid hz
    clear hn h0 hz b1 b2 b3 b4 b5 b6 b7 b8 b9 hnn hst
    go_enter Try.func55, Try.ntmps55
    go_wp2_with (first | (go_at_call 17; refine (RC.out _).mono ?_; rintro e w2 ⟨rfl, hw2⟩; have hB2 : Below w.heap.size w w2 := (by rw [hw2]; exact (by repeat (first | exact Below.refl _ _ | refine Below.alloc ?_ (by first | omega | (simp; done) | (simp; omega)) _ | refine Below.setCell ?_ (by first | omega | (simp; done) | (simp; omega)) _ | refine Below.drew ?_))); have HF2 := Lib.hid (show w2.heap[w.heap.size]? = some (regObj X Y W H) by rw [hw2]; ((simp only [heap_alloc_get, heap_size_alloc, if_true]) <;> ((repeat' split) <;> first | rfl | omega))); have HM2 := Lib.hid (show w2.heap[w.heap.size + 1]? = some (u32Obj sd) by rw [hw2]; ((simp only [heap_alloc_get, heap_size_alloc, if_true]) <;> ((repeat' split) <;> first | rfl | omega))); have HC2 := Lib.hid (show w2.heap[w.heap.size + 1 + 1]? = some (flObj st) by rw [hw2]; ((simp only [heap_alloc_get, heap_size_alloc, if_true]) <;> ((repeat' split) <;> first | rfl | omega))); have HS2 := Lib.hid (show w2.heap[w.heap.size + 1 + 1 + 1]? = some (fldO 0 0 0 0 (.slice none 0 0)) by rw [hw2]; ((simp only [heap_alloc_get, heap_size_alloc, if_true]) <;> ((repeat' split) <;> first | rfl | omega))); clear hw2; obtain ⟨cF, fF, zF⟩ := blkC HF2.out; obtain ⟨cC, fC, zC⟩ := blkC HC2.out) | (go_at_call 123; refine (CW.out _).mono ?_; rintro e w3 ⟨rfl, rfl⟩))
    have K2 : SCaps w2 (w.heap.size + 1) st sd := ⟨HM2.out, HC2.out⟩
    refine (MK.out _ (w.heap.size + 1) (K2.stay (by repeat (first | exact Below.refl _ _ | refine Below.alloc ?_ (by first | omega | (simp; done) | (simp; omega)) _ | refine Below.setCell ?_ (by first | omega | (simp; done) | (simp; omega)) _ | refine Below.drew ?_)))).mono ?_
    intro e w4 hmade
    rcases hmade with ⟨hall, b', cap', rfl, hb', hlt', hrow, hbel⟩ | ⟨hall, rfl, hbel⟩
    · have hb24 : Below w2.heap.size w2 w4 := Below.trans (by repeat (first | exact Below.refl _ _ | refine Below.alloc ?_ (by first | omega | (simp; done) | (simp; omega)) _ | refine Below.setCell ?_ (by first | omega | (simp; done) | (simp; omega)) _ | refine Below.drew ?_)) (Below.mono hbel (by first | exact Nat.le_refl _ | simp))
      obtain ⟨cS, fS, zS⟩ := blkC (blkStay HS2.out hb24)
      have HB := Lib.hid (show w2.heap.size ≤ b' by (simp only [heap_size_alloc] at hb'; omega))
      clear hb'
      go_wp2
      refine bodyPost_ret (v := .tuple #[fldV X Y W H (.slice (some ⟨b', 0, none⟩) n cap'), .int .i64 0]) (by simp [results, Try.results55, go_sem, cS]) rfl ?_
      have z2 := hB2.size
      have hb' := HB.out
      exact .inr ⟨HZ.out, .inl ⟨hall, b', cap', rfl, by omega, by rw [set5_size]; exact hlt', flAt_congr hrow (set5_heap w4 _ _ _ _ _ _ _ (by have := HS2.out; have := (blkC this).2.2; omega)), set5_below (hB2.trans (hb24.mono z2)) _ _ _ _ _ _ (by omega)⟩⟩
    · have hb24 : Below w2.heap.size w2 w4 := Below.trans (by repeat (first | exact Below.refl _ _ | refine Below.alloc ?_ (by first | omega | (simp; done) | (simp; omega)) _ | refine Below.setCell ?_ (by first | omega | (simp; done) | (simp; omega)) _ | refine Below.drew ?_)) (Below.mono hbel (by first | exact Nat.le_refl _ | simp))
      obtain ⟨cS, fS, zS⟩ := blkC (blkStay HS2.out hb24)
      go_wp2
      refine bodyPost_ret (v := .tuple #[fldV 0 0 0 0 (.slice none 0 0), .int .i64 3]) (by simp [results, Try.results55, go_sem, cS]) rfl ?_
      have z2 := hB2.size
      exact .inr ⟨HZ.out, .inr ⟨hall, rfl, set5_below (hB2.trans (hb24.mono z2)) _ _ _ _ _ _ (by omega)⟩⟩
  · have hzb : (wiE st 0 1065353216 != 0) = true := by simp [hz]
    have HZ := Lib.hid hz
    generalize wiE st 0 1065353216 = er at *
    clear hn h0 hz b1 b2 b3 b4 b5 b6 b7 b8 b9 hnn MK hst
    go_enter Try.func55, Try.ntmps55
    go_wp2_with (first | (go_at_call 17; refine (RC.out _).mono ?_; rintro e w2 ⟨rfl, hw2⟩; have hB2 : Below w.heap.size w w2 := (by rw [hw2]; exact (by repeat (first | exact Below.refl _ _ | refine Below.alloc ?_ (by first | omega | (simp; done) | (simp; omega)) _ | refine Below.setCell ?_ (by first | omega | (simp; done) | (simp; omega)) _ | refine Below.drew ?_))); have HC2 := Lib.hid (show w2.heap[w.heap.size + 1 + 1]? = some (flObj st) by rw [hw2]; ((simp only [heap_alloc_get, heap_size_alloc, if_true]) <;> ((repeat' split) <;> first | rfl | omega))); have HS2 := Lib.hid (show w2.heap[w.heap.size + 1 + 1 + 1]? = some (fldO 0 0 0 0 (.slice none 0 0)) by rw [hw2]; ((simp only [heap_alloc_get, heap_size_alloc, if_true]) <;> ((repeat' split) <;> first | rfl | omega))); clear hw2; obtain ⟨cC, fC, zC⟩ := blkC HC2.out; obtain ⟨cS, fS, zS⟩ := blkC HS2.out) | (go_at_call 123; refine (CW.out _).mono ?_; rintro e w3 ⟨rfl, hw3⟩; have hb23 : Below w2.heap.size w2 w3 := (by rw [← hw3]; exact (Below.refl _ _).alloc (Nat.le_refl _) _); clear hw3; obtain ⟨cS3, fS3, zS3⟩ := blkC (blkStay HS2.out hb23)))
    refine bodyPost_ret (v := .tuple #[fldV 0 0 0 0 (.slice none 0 0), .int .i64 er]) (by simp [results, Try.results55, go_sem, cS3]) rfl ?_
    exact .inl ⟨HZ.out, rfl, set5_below (hB2.trans (hb23.mono hB2.size)) _ _ _ _ _ _ (by omega)⟩
end Go.Proofs.Ytjjhhnoeiglnhaa
