/- Paste of the program and of the reference. -/
import Derived.Test.YtgkpkpbigmcapaaCut6
namespace Go.Proofs.Ytgkpkpbigmcapaa
open Go.RowKit Fl
set_option linter.unusedVariables false

theorem comR_regC (x y w h x' y' w' h' : Int) : ∃ a b c d : Int, comR x y w h x' y' w' h' = reg a b c d := by
  unfold comR; split <;> exact ⟨_, _, _, _, rfl⟩
theorem com_parts {X Y X2 Y2 : Int} {W H W2 H2 : Nat} (h0 : checkR X Y W H = 0) (h02 : checkR X2 Y2 W2 H2 = 0) (h : comB X Y W H X2 Y2 W2 H2 = true) :
    ∃ c1 c2 c3 c4 : Int, comR X Y W H X2 Y2 W2 H2 = reg c1 c2 c3 c4 ∧ -1073741824 ≤ c1 ∧ c1 ≤ 1073741824 ∧ -1073741824 ≤ c2 ∧ c2 ≤ 1073741824 ∧ 1 ≤ c3 ∧ c3 ≤ 1073741824 ∧ 1 ≤ c4 ∧ c4 ≤ 1073741824 ∧
      ∀ x y, X ≤ x → x < X + W → Y ≤ y → y < Y + H → insideB x y 1 1 c1 c2 c3 c4 = insideB x y 1 1 X2 Y2 W2 H2 := by
  obtain ⟨b1, b2, b3, b4, b5, b6, b7, b8, b9⟩ := checkR_zero h0
  obtain ⟨d1, d2, d3, d4, d5, d6, d7, d8, d9⟩ := checkR_zero h02
  obtain ⟨e1, e2⟩ := comB_iff.1 h
  have hc : comR X Y W H X2 Y2 W2 H2 = reg (maxI X X2) (maxI Y Y2) (minI (X + W) (X2 + W2) - maxI X X2) (minI (Y + H) (Y2 + H2) - maxI Y Y2) := by unfold comR; rw [if_pos h]
  obtain ⟨m1, m2, m3⟩ := maxI_le X X2
  obtain ⟨m4, m5, m6⟩ := maxI_le Y Y2
  obtain ⟨m7, m8, m9⟩ := minI_le (X + W) (X2 + W2)
  obtain ⟨n1, n2, n3⟩ := minI_le (Y + H) (Y2 + H2)
  refine ⟨_, _, _, _, hc, by omega, by omega, by omega, by omega, by omega, by omega, by omega, by omega, fun x y x1 x2 y1 y2 => ?_⟩
  rw [Bool.eq_iff_iff, insideB_iff, insideB_iff]
  omega

set_option maxHeartbeats 4000000 in
set_option maxRecDepth 100000 in
theorem paste_no (X Y : Int) (W H n b cap : Nat) (v : Nat → Nat) (X2 Y2 : Int) (W2 H2 n2 b2 cap2 : Nat) (v2 : Nat → Nat) (w : World) (h0 : checkR X Y W H = 0) (hn : n = W * H) (hc : FlAt w b 0 n v) (hh : allB n (fun i => hgtB (v i)) = true)
    (h02 : checkR X2 Y2 W2 H2 = 0) (hn2 : n2 = W2 * H2) (hc2 : FlAt w b2 0 n2 v2) (hh2 : allB n2 (fun i => hgtB (v2 i)) = true) (hcm : comB X Y W H X2 Y2 W2 H2 = false) :
    Calls Try.prog 24 #[fldV X Y W H (.slice (some ⟨b, 0, none⟩) n cap), fldV X2 Y2 W2 H2 (.slice (some ⟨b2, 0, none⟩) n2 cap2)] w fun e w' => e = .returned (.tuple #[fldV 0 0 0 0 (.slice none 0 0), .int .i64 5]) ∧ Below w.heap.size w w' := by
  have pos : ∀ {A B : Nat} {X Y : Int}, checkR X Y A B = 0 → 1 ≤ A * B := fun h => Nat.mul_pos (by obtain ⟨a, _⟩ := checkR_zero h; omega) (by obtain ⟨_, _, a, _⟩ := checkR_zero h; omega)
  have hlt : b < w.heap.size := World.block_lt_of_cell? w _ (hc 0 (by rw [hn]; exact pos h0))
  have hlt2 : b2 < w.heap.size := World.block_lt_of_cell? w _ (hc2 0 (by rw [hn2]; exact pos h02))
  have CF := Lib.hid (fun W' p (hb : Below w.heap.size w W') hp => checkFields_two X Y W H n b cap v X2 Y2 W2 H2 n2 b2 cap2 v2 p W' h0 hn (flAt_congr hc (hb.block _ hlt)) hh h02 hn2 (flAt_congr hc2 (hb.block _ hlt2)) hh2 hp)
  obtain ⟨b1, b2', b3, b4, b5, b6, b7, b8, b9⟩ := checkR_zero h0
  obtain ⟨d1, d2, d3, d4, d5, d6, d7, d8, d9⟩ := checkR_zero h02
  have CM := Lib.hid (fun w => common_any X Y W H X2 Y2 W2 H2 w (by omega) (by omega) (by omega) (by omega) (by omega) (by omega) (by omega) (by omega) (by omega) (by omega) (by omega) (by omega) (by omega) (by omega) (by omega) (by omega))
  obtain ⟨c1, c2, c3, c4, hR⟩ := comR_regC X Y W H X2 Y2 W2 H2
  rw [hR, hcm] at CM
  clear h0 hn hc hh h02 hn2 hc2 hh2 hcm hlt hlt2 pos b1 b2' b3 b4 b5 b6 b7 b8 b9 d1 d2 d3 d4 d5 d6 d7 d8 d9 hR
  go_enter Try.func24, Try.ntmps24
  go_wp2_with (first | (go_at_call 49; refine (CF.out _ _ (by repeat (first | exact Below.refl _ _ | refine Below.alloc ?_ (by first | omega | (simp; done) | (simp; omega)) _ | refine Below.setCell ?_ (by first | omega | (simp; done) | (simp; omega)) _ | refine Below.drew ?_)) (by (first | (rw [heap_alloc_get, if_pos rfl]; done) | ((simp only [heap_alloc_get, heap_size_alloc, if_true]) <;> ((repeat' split) <;> first | rfl | omega))))).mono ?_; rintro e w2 ⟨rfl, hb2⟩; have HF2 := Lib.hid (blkStay (b := w.heap.size) (o := fldO X Y W H (.slice (some ⟨b, 0, none⟩) n cap)) (by (first | (rw [heap_alloc_get, if_pos rfl]; done) | ((simp only [heap_alloc_get, heap_size_alloc, if_true]) <;> ((repeat' split) <;> first | rfl | omega)))) hb2); have HG2 := Lib.hid (blkStay (b := w.heap.size + 1) (o := fldO X2 Y2 W2 H2 (.slice (some ⟨b2, 0, none⟩) n2 cap2)) (by (first | (rw [heap_alloc_get, if_pos rfl]; done) | ((simp only [heap_alloc_get, heap_size_alloc, if_true]) <;> ((repeat' split) <;> first | rfl | omega)))) hb2); have HS2 := Lib.hid (blkStay (b := w.heap.size + 1 + 1) (o := fldO 0 0 0 0 (.slice none 0 0)) (by (first | (rw [heap_alloc_get, if_pos rfl]; done) | ((simp only [heap_alloc_get, heap_size_alloc, if_true]) <;> ((repeat' split) <;> first | rfl | omega)))) hb2); have hB2 : Below w.heap.size w w2 := Below.trans (by repeat (first | exact Below.refl _ _ | refine Below.alloc ?_ (by first | omega | (simp; done) | (simp; omega)) _ | refine Below.setCell ?_ (by first | omega | (simp; done) | (simp; omega)) _ | refine Below.drew ?_)) (Below.mono hb2 (by first | omega | (simp; done) | (simp; omega))); obtain ⟨cF, fF, zF⟩ := blkC HF2.out; obtain ⟨cG, fG, zG⟩ := blkC HG2.out; clear hb2) | (go_at_call 72; refine (CM.out _).mono ?_; rintro e w3 ⟨rfl, hb3⟩; have hB3 := hB2.trans (hb3.mono hB2.size); have HS3 := Lib.hid (blkStay HS2.out hb3); clear cF fF zF cG fG zG; obtain ⟨cS, fS, zS⟩ := blkC HS3.out))
  have H6 : ((set5 w3 (w.heap.size + 1 + 1) (.int .i64 0) (.int .i64 0) (.int .i64 0) (.int .i64 0) (.slice none 0 0)).alloc (regObj c1 c2 c3 c4)).heap[w.heap.size + 1 + 1]? = some (fldO 0 0 0 0 (.slice none 0 0)) := (heap_alloc_old _ _ (by rw [set5_size]; exact zS)).trans (set5_self _ _ _ _ _ HS3.out)
  obtain ⟨c6, _, _⟩ := blkC H6
  dsimp only [set5] at c6
  refine bodyPost_ret (v := .tuple #[fldV 0 0 0 0 (.slice none 0 0), .int .i64 5]) (by simp [results, Try.results24, go_sem, c6]) rfl ?_
  exact ⟨rfl, (set5_below hB3 _ _ _ _ _ _ (by omega)).alloc (by rw [set5_size]; exact hB3.size) _⟩

set_option maxHeartbeats 4000000 in
set_option maxRecDepth 100000 in
theorem paste_ok (X Y : Int) (W H n b cap : Nat) (v : Nat → Nat) (X2 Y2 : Int) (W2 H2 n2 b2 cap2 : Nat) (v2 : Nat → Nat) (w : World) (h0 : checkR X Y W H = 0) (hn : n = W * H) (hc : FlAt w b 0 n v) (hh : allB n (fun i => hgtB (v i)) = true)
    (h02 : checkR X2 Y2 W2 H2 = 0) (hn2 : n2 = W2 * H2) (hc2 : FlAt w b2 0 n2 v2) (hh2 : allB n2 (fun i => hgtB (v2 i)) = true) (hcm : comB X Y W H X2 Y2 W2 H2 = true) :
    Calls Try.prog 24 #[fldV X Y W H (.slice (some ⟨b, 0, none⟩) n cap), fldV X2 Y2 W2 H2 (.slice (some ⟨b2, 0, none⟩) n2 cap2)] w (MadePost w X Y W H n (pstF v v2 X Y W X2 Y2 W2 H2)) := by
  have pos : ∀ {A B : Nat} {X Y : Int}, checkR X Y A B = 0 → 1 ≤ A * B := fun h => Nat.mul_pos (by obtain ⟨a, _⟩ := checkR_zero h; omega) (by obtain ⟨_, _, a, _⟩ := checkR_zero h; omega)
  have hlt : b < w.heap.size := World.block_lt_of_cell? w _ (hc 0 (by rw [hn]; exact pos h0))
  have hlt2 : b2 < w.heap.size := World.block_lt_of_cell? w _ (hc2 0 (by rw [hn2]; exact pos h02))
  have CF := Lib.hid (fun W' p (hb : Below w.heap.size w W') hp => checkFields_two X Y W H n b cap v X2 Y2 W2 H2 n2 b2 cap2 v2 p W' h0 hn (flAt_congr hc (hb.block _ hlt)) hh h02 hn2 (flAt_congr hc2 (hb.block _ hlt2)) hh2 hp)
  obtain ⟨b1, b2', b3, b4, b5, b6, b7, b8, b9⟩ := checkR_zero h0
  obtain ⟨d1, d2, d3, d4, d5, d6, d7, d8, d9⟩ := checkR_zero h02
  have CM := Lib.hid (fun w => common_any X Y W H X2 Y2 W2 H2 w (by omega) (by omega) (by omega) (by omega) (by omega) (by omega) (by omega) (by omega) (by omega) (by omega) (by omega) (by omega) (by omega) (by omega) (by omega) (by omega))
  obtain ⟨c1, c2, c3, c4, hR, k1, k2, k3, k4, k5, k6, k7, k8, hcom⟩ := com_parts h0 h02 hcm
  have en : ((W : Int) * (H : Int)) = (n : Int) := by rw [hn]; simp
  have hnm : n = H * W := by rw [hn]; exact Nat.mul_comm _ _
  have hnm2 : n2 = H2 * W2 := by rw [hn2]; exact Nat.mul_comm _ _
  have BP := Lib.hid (fun W' p q r (hb : Below w.heap.size w W') (hp : W'.heap[p]? = some (fldO X Y W H (.slice (some ⟨b, 0, none⟩) n cap))) (hq : W'.heap[q]? = some (fldO X2 Y2 W2 H2 (.slice (some ⟨b2, 0, none⟩) n2 cap2))) (hr : W'.heap[r]? = some (regObj c1 c2 c3 c4)) =>
    byPlace_any X Y W H n 73 #[.pointer (some ⟨p, 0, none⟩), .pointer (some ⟨r, 0, none⟩), .pointer (some ⟨q, 0, none⟩)] (pstF v v2 X Y W X2 Y2 W2 H2) W' enters_Paste1
      (paste1_any X Y W H n b cap v X2 Y2 W2 H2 n2 b2 cap2 v2 p q r c1 c2 c3 c4 W' ⟨hp, hq, flAt_congr hc (hb.block _ hlt), flAt_congr hc2 (hb.block _ hlt2)⟩ hr h0 h02 hnm hnm2 k1 k2 k3 k4 k5 k6 k7 k8 hcom) (by omega) (by omega) (by omega) (by omega) (by omega) (by omega) (by omega) (by omega) hnm (by omega))
  rw [hR, hcm] at CM
  clear h0 hn hc hh h02 hn2 hc2 hh2 hcm hlt hlt2 pos b1 b2' b3 b4 b5 b6 b7 b8 b9 d1 d2 d3 d4 d5 d6 d7 d8 d9 hR k1 k2 k3 k4 k5 k6 k7 k8 hcom en hnm hnm2
  go_enter Try.func24, Try.ntmps24
  go_wp2_with (first | (go_at_call 49; refine (CF.out _ _ (by repeat (first | exact Below.refl _ _ | refine Below.alloc ?_ (by first | omega | (simp; done) | (simp; omega)) _ | refine Below.setCell ?_ (by first | omega | (simp; done) | (simp; omega)) _ | refine Below.drew ?_)) (by (first | (rw [heap_alloc_get, if_pos rfl]; done) | ((simp only [heap_alloc_get, heap_size_alloc, if_true]) <;> ((repeat' split) <;> first | rfl | omega))))).mono ?_; rintro e w2 ⟨rfl, hb2⟩; have HF2 := Lib.hid (blkStay (b := w.heap.size) (o := fldO X Y W H (.slice (some ⟨b, 0, none⟩) n cap)) (by (first | (rw [heap_alloc_get, if_pos rfl]; done) | ((simp only [heap_alloc_get, heap_size_alloc, if_true]) <;> ((repeat' split) <;> first | rfl | omega)))) hb2); have HG2 := Lib.hid (blkStay (b := w.heap.size + 1) (o := fldO X2 Y2 W2 H2 (.slice (some ⟨b2, 0, none⟩) n2 cap2)) (by (first | (rw [heap_alloc_get, if_pos rfl]; done) | ((simp only [heap_alloc_get, heap_size_alloc, if_true]) <;> ((repeat' split) <;> first | rfl | omega)))) hb2); have HS2 := Lib.hid (blkStay (b := w.heap.size + 1 + 1) (o := fldO 0 0 0 0 (.slice none 0 0)) (by (first | (rw [heap_alloc_get, if_pos rfl]; done) | ((simp only [heap_alloc_get, heap_size_alloc, if_true]) <;> ((repeat' split) <;> first | rfl | omega)))) hb2); have hB2 : Below w.heap.size w w2 := Below.trans (by repeat (first | exact Below.refl _ _ | refine Below.alloc ?_ (by first | omega | (simp; done) | (simp; omega)) _ | refine Below.setCell ?_ (by first | omega | (simp; done) | (simp; omega)) _ | refine Below.drew ?_)) (Below.mono hb2 (by first | omega | (simp; done) | (simp; omega))); obtain ⟨cF, fF, zF⟩ := blkC HF2.out; obtain ⟨cG, fG, zG⟩ := blkC HG2.out; clear hb2) | (go_at_call 72; refine (CM.out _).mono ?_; rintro e w3 ⟨rfl, hb3⟩; have hB3 := hB2.trans (hb3.mono hB2.size); have HS3 := Lib.hid (blkStay HS2.out hb3); have HF3 := Lib.hid (blkStay HF2.out hb3); have HG3 := Lib.hid (blkStay HG2.out hb3); clear cF fF zF cG fG zG hb3; obtain ⟨cF, fF, zF⟩ := blkC HF3.out))
  have HR4 := Lib.hid (heap_alloc_new w3 (regObj c1 c2 c3 c4))
  have hB4 := hB3.alloc hB3.size (regObj c1 c2 c3 c4)
  have zF3 := (blkC HF3.out).2.2
  have zG3 := (blkC HG3.out).2.2
  have zS3 := (blkC HS3.out).2.2
  have HF4 := Lib.hid ((heap_alloc_old w3 (regObj c1 c2 c3 c4) zF3).trans HF3.out)
  have HG4 := Lib.hid ((heap_alloc_old w3 (regObj c1 c2 c3 c4) zG3).trans HG3.out)
  have HS4 := Lib.hid ((heap_alloc_old w3 (regObj c1 c2 c3 c4) zS3).trans HS3.out)
  refine (BP.out _ w.heap.size (w.heap.size + 1) w3.heap.size hB4 HF4.out HG4.out HR4.out).mono ?_
  intro e w5 hmade
  have z4 := hB4.size
  have zS4 := (blkC HS4.out).2.2
  rcases hmade with ⟨hall, b', cap', rfl, hb', hlt', hrow, hbel⟩ | ⟨hall, rfl, hbel⟩
  · have hS := Lib.hid (blkStay HS4.out hbel)
    obtain ⟨cS, fS, zS⟩ := blkC hS.out
    go_wp2
    refine bodyPost_ret (v := .tuple #[fldV X Y W H (.slice (some ⟨b', 0, none⟩) n cap'), .int .i64 0]) (by simp [results, Try.results24, go_sem, cS]) rfl ?_
    exact .inl ⟨hall, b', cap', rfl, by omega, by rw [set5_size]; exact hlt', flAt_congr hrow (set5_heap w5 _ _ _ _ _ _ _ (by omega)), set5_below (hB4.trans (hbel.mono z4)) _ _ _ _ _ _ (by omega)⟩
  · have hS := Lib.hid (blkStay HS4.out hbel)
    obtain ⟨cS, fS, zS⟩ := blkC hS.out
    go_wp2
    refine bodyPost_ret (v := .tuple #[fldV 0 0 0 0 (.slice none 0 0), .int .i64 3]) (by simp [results, Try.results24, go_sem, cS]) rfl ?_
    exact .inr ⟨hall, rfl, set5_below (hB4.trans (hbel.mono z4)) _ _ _ _ _ _ (by omega)⟩

theorem pstF_hgt {vf vg : Nat → Nat} {X Y : Int} {W H n : Nat} {X2 Y2 : Int} {W2 H2 n2 : Nat} (hf : allB n (fun i => hgtB (vf i)) = true) (hg : allB n2 (fun i => hgtB (vg i)) = true) (hW2 : 1 ≤ W2) (hn2 : n2 = H2 * W2) : allB n (fun i => hgtB (pstF vf vg X Y W X2 Y2 W2 H2 i)) = true :=
  allB_iff.2 fun i hi => by
    unfold pstF
    split
    · rename_i c
      obtain ⟨g1, g2, g3, g4⟩ := insideB_iff.1 c
      exact allB_iff.1 hg _ (num_lt hW2 g1 (by omega) (by omega) (subN_of rfl rfl g1 g2) hn2)
    · exact allB_iff.1 hf i hi
theorem pstF_wf {vf vg : Nat → Nat} {X Y : Int} {W H n : Nat} {X2 Y2 : Int} {W2 H2 n2 : Nat} (hf : wf32 n vf) (hg : wf32 n2 vg) (hW2 : 1 ≤ W2) (hn2 : n2 = H2 * W2) : wf32 n (pstF vf vg X Y W X2 Y2 W2 H2) := fun i hi => by
    unfold pstF
    split
    · rename_i c
      obtain ⟨g1, g2, g3, g4⟩ := insideB_iff.1 c
      exact hg _ (num_lt hW2 g1 (by omega) (by omega) (subN_of rfl rfl g1 g2) hn2)
    · exact hf i hi

set_option maxHeartbeats 2000000 in
theorem rpaste_ok (X Y : Int) (W H n b cap : Nat) (v : Nat → Nat) (X2 Y2 : Int) (W2 H2 n2 b2 cap2 : Nat) (v2 : Nat → Nat) (w : World) (h0 : checkR X Y W H = 0) (hn : n = W * H) (hc : FlAt w b 0 n v) (hh : allB n (fun i => hgtB (v i)) = true) (hw1 : wf32 n v)
    (h02 : checkR X2 Y2 W2 H2 = 0) (hn2 : n2 = W2 * H2) (hc2 : FlAt w b2 0 n2 v2) (hh2 : allB n2 (fun i => hgtB (v2 i)) = true) (hw2 : wf32 n2 v2) :
    Calls Try.prog 26 #[fldV X Y W H (.slice (some ⟨b, 0, none⟩) n cap), fldV X2 Y2 W2 H2 (.slice (some ⟨b2, 0, none⟩) n2 cap2)] w (OnePost w X Y W H n (pstF v v2 X Y W X2 Y2 W2 H2)) := by
  have pos : ∀ {A B : Nat} {X Y : Int}, checkR X Y A B = 0 → 1 ≤ A * B := fun h => Nat.mul_pos (by obtain ⟨a, _⟩ := checkR_zero h; omega) (by obtain ⟨_, _, a, _⟩ := checkR_zero h; omega)
  have hlt : b < w.heap.size := World.block_lt_of_cell? w _ (hc 0 (by rw [hn]; exact pos h0))
  have hlt2 : b2 < w.heap.size := World.block_lt_of_cell? w _ (hc2 0 (by rw [hn2]; exact pos h02))
  obtain ⟨b1, b2', b3, b4, b5, b6, b7, b8, b9⟩ := checkR_zero h0
  obtain ⟨d1, d2, d3, d4, d5, d6, d7, d8, d9⟩ := checkR_zero h02
  have hnm : n = H * W := by rw [hn]; exact Nat.mul_comm _ _
  have hnm2 : n2 = H2 * W2 := by rw [hn2]; exact Nat.mul_comm _ _
  have hall' := Lib.hid (pstF_hgt (X := X) (Y := Y) (W := W) (H := H) (X2 := X2) (Y2 := Y2) hh hh2 (by omega) hnm2)
  have MP := Lib.hid (fun W' p q (hb : Below w.heap.size w W') (hp : W'.heap[p]? = some (fldO X Y W H (.slice (some ⟨b, 0, none⟩) n cap))) (hq : W'.heap[q]? = some (fldO X2 Y2 W2 H2 (.slice (some ⟨b2, 0, none⟩) n2 cap2))) =>
    made_any X Y W H n 75 #[.pointer (some ⟨q, 0, none⟩), .pointer (some ⟨p, 0, none⟩)] (pstF v v2 X Y W X2 Y2 W2 H2) W' enters_rPaste1
      (rpaste1_any X Y W H n b cap v X2 Y2 W2 H2 n2 b2 cap2 v2 p q W' ⟨hp, hq, flAt_congr hc (hb.block _ hlt), flAt_congr hc2 (hb.block _ hlt2)⟩ h0 h02 hnm hnm2) (pstF_wf (H := H) hw1 hw2 (by omega) hnm2) (by omega) (by omega) (by omega) (by omega) (by omega) (by omega) (by omega) (by omega) hnm)
  clear h0 hn hc hh h02 hn2 hc2 hh2 hlt hlt2 pos b1 b2' b3 b4 b5 b6 b7 b8 b9 d1 d2 d3 d4 d5 d6 d7 d8 d9 hnm hnm2 hw1 hw2
  go_enter Try.func26, Try.ntmps26
  go_wp2_with fail
  refine (MP.out _ w.heap.size (w.heap.size + 1) (by repeat (first | exact Below.refl _ _ | refine Below.alloc ?_ (by first | omega | (simp; done) | (simp; omega)) _ | refine Below.setCell ?_ (by first | omega | (simp; done) | (simp; omega)) _ | refine Below.drew ?_)) (by (first | (rw [heap_alloc_get, if_pos rfl]; done) | ((simp only [heap_alloc_get, heap_size_alloc, if_true]) <;> ((repeat' split) <;> first | rfl | omega)))) (by (first | (rw [heap_alloc_get, if_pos rfl]; done) | ((simp only [heap_alloc_get, heap_size_alloc, if_true]) <;> ((repeat' split) <;> first | rfl | omega))))).mono ?_
  intro e w5 hmade
  rcases hmade with ⟨hall, b', cap', rfl, hb', hlt', hrow, hbel⟩ | ⟨hall, rfl, hbel⟩
  · have hS := Lib.hid (blkStay (b := w.heap.size + 1 + 1) (o := fldO 0 0 0 0 (.slice none 0 0)) (by (first | (rw [heap_alloc_get, if_pos rfl]; done) | ((simp only [heap_alloc_get, heap_size_alloc, if_true]) <;> ((repeat' split) <;> first | rfl | omega)))) hbel)
    have hB : Below w.heap.size w w5 := Below.trans (by repeat (first | exact Below.refl _ _ | refine Below.alloc ?_ (by first | omega | (simp; done) | (simp; omega)) _ | refine Below.setCell ?_ (by first | omega | (simp; done) | (simp; omega)) _ | refine Below.drew ?_)) (Below.mono hbel (by simp; try omega))
    obtain ⟨cS, fS, zS⟩ := blkC hS.out
    have HB := Lib.hid hb'
    clear hb'
    go_wp2
    have H6 : ((set5 w5 (w.heap.size + 1 + 1) (.int .i64 X) (.int .i64 Y) (.int .i64 W) (.int .i64 H) (.slice (some ⟨b', 0, none⟩) n cap')).alloc (fldO X Y W H (.slice (some ⟨b', 0, none⟩) n cap'))).heap[w.heap.size + 1 + 1]? = some (fldO X Y W H (.slice (some ⟨b', 0, none⟩) n cap')) := (heap_alloc_old _ _ (by rw [set5_size]; exact zS)).trans (set5_self _ _ _ _ _ hS.out)
    obtain ⟨c6, _, _⟩ := blkC H6
    dsimp only [set5] at c6
    refine bodyPost_ret (v := fldV X Y W H (.slice (some ⟨b', 0, none⟩) n cap')) (by simp [results, Try.results26, go_sem, c6]) rfl ?_
    have hb' := HB.out
    simp only [heap_size_alloc] at hb'
    have hlt6 : b' < (set5 w5 (w.heap.size + 1 + 1) (.int .i64 X) (.int .i64 Y) (.int .i64 W) (.int .i64 H) (.slice (some ⟨b', 0, none⟩) n cap')).heap.size := by rw [set5_size]; exact hlt'
    exact ⟨b', cap', rfl, by omega, by rw [heap_size_alloc]; exact Nat.lt_succ_of_lt hlt6, flAt_congr (flAt_congr hrow (set5_heap w5 _ _ _ _ _ _ _ (by omega))) (heap_alloc_old _ _ hlt6), (set5_below hB _ _ _ _ _ _ (by omega)).alloc (by rw [set5_size]; exact hB.size) _⟩
  · exact absurd hall (by rw [hall'.out]; simp)
end Go.Proofs.Ytgkpkpbigmcapaa
