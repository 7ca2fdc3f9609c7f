/- Stamp of the reference, of a right field. -/
import Derived.Test.YtjjhhnoeiglnhabBru6
namespace Go.Proofs.Ytjjhhnoeiglnhab
open Go.RowKit Fl
set_option linter.unusedVariables false

set_option maxHeartbeats 4000000 in
set_option maxRecDepth 100000 in
theorem rstamp1_any (X Y : Int) (W H n b cap : Nat) (v : Nat → Nat) (p : Nat) (k X' Y' R : Int) (h : Nat) (w : World) (kF : w.heap[p]? = some (fldO X Y W H (.slice (some ⟨b, 0, none⟩) n cap))) (k1 : w.heap[p + 1]? = some (bruObj k X' Y' R h)) (hc : FlAt w b 0 n v)
    (hh : allB n (fun i => hgtB (v i)) = true) (K : BruOk k X' Y' R h) (h0 : checkR X Y W H = 0) (hnn : n = H * W) :
    Clos2 125 #[.pointer (some ⟨p, 0, none⟩), .pointer (some ⟨p + 1, 0, none⟩)] X Y W H (staF v k X' Y' R h X Y W) w := by
  intro x y i w2 h1 h2 h3 h4 h5 hb
  obtain ⟨b1, b2, b3, b4, b5, b6, b7, b8, b9⟩ := checkR_zero h0
  have hn : n ≤ 65536 := by
    have : ((W : Int) * (H : Int)) = (n : Int) := by rw [hnn, Nat.mul_comm]; simp
    omega
  have hi' : i < n := num_lt (by omega) h1 h2 h4 h5 hnn
  have hrow := flAt_congr hc (hb.block b (World.block_lt_of_cell? w _ (hc i hi')))
  have z1 := World.block_lt_of_cell? w2 _ (hrow i hi')
  have AT := Lib.hid (fun W' (hb : Below w2.heap.size w2 W') => refAt_any X Y W H n b cap i v x y W' (by omega) (by omega) (by omega) (by omega) (by omega) (by omega) (by omega) h1 h2 h3 h4 h5 hi' hn (flAt_congr hrow (hb.block _ z1)))
  have WT := Lib.hid (fun w => rweight_any k X' Y' R h x y w K.k1 K.k3 K.X1 K.X2 K.Y1 K.Y2 K.r1 K.r2 (by omega) (by omega) (by omega) (by omega))
  obtain ⟨ex, ey⟩ := place_of (show 1 ≤ W by omega) h1 h2 h3 h5
  unfold staF
  rw [ex, ey]
  have n0 : 0 ≤ sqD x y X' Y' := by
    obtain ⟨a0, a1⟩ := side_sq (d := x - X') (by have := K.X1; have := K.X2; omega) (by have := K.X1; have := K.X2; omega)
    obtain ⟨b0, b1⟩ := side_sq (d := y - Y') (by have := K.Y1; have := K.Y2; omega) (by have := K.Y1; have := K.Y2; omega)
    unfold sqD; omega
  obtain ⟨d, hd, d0, d1⟩ := wei_in (k := k) n0 K.r1 K.r2
  obtain ⟨m, r, e1, s1, e2, s2, e3, _⟩ := sta_parts (allB_iff.1 hh i hi') K.hg hd d0 d1
  rw [e3]
  have ML := Lib.hid (fun w => refMul_any 20 h _ m s1 e1 w)
  have AD := Lib.hid (fun w => refAdd_any 21 (v i) m r s2 e2 w)
  generalize weiW k (sqD x y X' Y') R = q at *
  have GF := Lib.hid (blkStay kF hb)
  have G1 := Lib.hid (blkStay k1 hb)
  obtain ⟨cF, fF, zF⟩ := blkC GF.out
  obtain ⟨c1, f1, z2⟩ := blkC G1.out
  clear hb h1 h2 h3 h4 h5 b1 b2 b3 b4 b5 b6 b7 b8 b9 hnn hh h0 hi' hn hrow kF k1 hc K n0 hd d0 d1 s1 e1 s2 e2 e3 ex ey
  go_enter Try.func125, Try.ntmps125
  go_wp2
  go_region_held3 (fun w' => (∀ o, w'.cell? ⟨p, o, none⟩ = #[.int .i64 X, .int .i64 Y, .int .i64 W, .int .i64 H, .slice (some ⟨b, 0, none⟩) n cap][o]?) ∧ (∀ o, w'.cell? ⟨p + 1, o, none⟩ = #[.int .i64 k, .int .i64 X', .int .i64 Y', .int .i64 R, .float .f32 h][o]?) ∧ Below w2.heap.size w2 w') (first | exact ⟨(blkC (blkStay GF.out hb9)).1, (blkC (blkStay G1.out hb9)).1, hb9⟩ | exact ⟨(blkC (blkStay GF.out (by repeat (first | exact Below.refl _ _ | refine Below.alloc ?_ (by first | omega | (simp; done) | (simp; omega)) _ | refine Below.setCell ?_ (by first | omega | (simp; done) | (simp; omega)) _ | refine Below.drew ?_)))).1, (blkC (blkStay G1.out (by repeat (first | exact Below.refl _ _ | refine Below.alloc ?_ (by first | omega | (simp; done) | (simp; omega)) _ | refine Below.setCell ?_ (by first | omega | (simp; done) | (simp; omega)) _ | refine Below.drew ?_)))).1, (by repeat (first | exact Below.refl _ _ | refine Below.alloc ?_ (by first | omega | (simp; done) | (simp; omega)) _ | refine Below.setCell ?_ (by first | omega | (simp; done) | (simp; omega)) _ | refine Below.drew ?_))⟩) (first | (go_at_call 67; (with_reducible refine Calls.mono (AT.out _ ?_) ?_); exact (by repeat (first | exact Below.refl _ _ | refine Below.alloc ?_ (by first | omega | (simp; done) | (simp; omega)) _ | refine Below.setCell ?_ (by first | omega | (simp; done) | (simp; omega)) _ | refine Below.drew ?_)); rintro e w' ⟨rfl, rfl⟩) | (go_at_call 40; (with_reducible refine Calls.mono (WT.out _) ?_); rintro e w' ⟨rfl, hb8⟩; have hb9 : Below w2.heap.size w2 w' := Below.trans (by repeat (first | exact Below.refl _ _ | refine Below.alloc ?_ (by first | omega | (simp; done) | (simp; omega)) _ | refine Below.setCell ?_ (by first | omega | (simp; done) | (simp; omega)) _ | refine Below.drew ?_)) (Below.mono hb8 (by first | exact Nat.le_refl _ | (simp; done) | (simp; omega))); clear hb8) | (go_at_call 81; refine (ML.out _).mono ?_; rintro e w' ⟨rfl, rfl⟩) | (go_at_call 80; refine (AD.out _).mono ?_; rintro e w' ⟨rfl, rfl⟩))
  rename_i wh hHeld
  go_wp2
  go_ret
  exact ⟨rfl, hHeld.2.2⟩

theorem sta_wf {n : Nat} {v : Nat → Nat} {k X Y R : Int} {h : Nat} {X' Y' : Int} {W' : Nat} (hh : allB n (fun i => hgtB (v i)) = true) (K : BruOk k X Y R h) : wf32 n (staF v k X Y R h X' Y' W') := by
  intro i hi
  unfold staF
  have n0 : 0 ≤ sqD (X' + ((i % W' : Nat) : Int)) (Y' + ((i / W' : Nat) : Int)) X Y := by
    unfold sqD
    have sq : ∀ d : Int, 0 ≤ d * d := fun d => by rw [← Int.natAbs_mul_self' d]; exact Int.mul_nonneg (Int.natCast_nonneg _) (Int.natCast_nonneg _)
    have := sq (X' + ((i % W' : Nat) : Int) - X)
    have := sq (Y' + ((i / W' : Nat) : Int) - Y)
    omega
  obtain ⟨d, hd, d0, d1⟩ := wei_in (k := k) n0 K.r1 K.r2
  obtain ⟨m, r, _, _, _, _, e3, lt⟩ := sta_parts (allB_iff.1 hh i hi) K.hg hd d0 d1
  rw [e3]; exact lt

set_option maxHeartbeats 2000000 in
theorem rstamp_any (X Y : Int) (W H n b cap : Nat) (v : Nat → Nat) (k X' Y' R : Int) (h : Nat) (w : World) (h0 : checkR X Y W H = 0) (hn : n = W * H) (hc : FlAt w b 0 n v) (hh : allB n (fun i => hgtB (v i)) = true) (hl : h < 4294967296) :
    Calls Try.prog 38 #[fldV X Y W H (.slice (some ⟨b, 0, none⟩) n cap), bru k X' Y' R h] w (ScPost w X Y W H n (staF v k X' Y' R h X Y W) (bruE k X' Y' R h)) := by
  obtain ⟨b1, b2, b3, b4, b5, b6, b7, b8, b9⟩ := checkR_zero h0
  have hnn : n = H * W := by rw [hn]; exact Nat.mul_comm _ _
  have h1 : 1 ≤ n := by rw [hn]; exact Nat.mul_pos (by omega) (by omega)
  have hlt : b < w.heap.size := World.block_lt_of_cell? w _ (hc 0 h1)
  have CB := Lib.hid (fun w => refCheckBrush_any k X' Y' R h hl w)
  by_cases hz : bruE k X' Y' R h = 0
  · have K := bru_ok hz
    have BY := Lib.hid (fun W' p (kF : W'.heap[p]? = some (fldO X Y W H (.slice (some ⟨b, 0, none⟩) n cap))) (k1 : W'.heap[p + 1]? = some (bruObj k X' Y' R h)) (hc' : FlAt W' b 0 n v) =>
      made_any X Y W H n 125 #[.pointer (some ⟨p, 0, none⟩), .pointer (some ⟨p + 1, 0, none⟩)] (staF v k X' Y' R h X Y W) W' enters_rStamp1
        (rstamp1_any X Y W H n b cap v p k X' Y' R h W' kF k1 hc' hh K h0 hnn) (sta_wf hh K) (by omega) (by omega) (by omega) (by omega) (by omega) (by omega) (by omega) (by omega) hnn)
    rw [hz] at CB ⊢
    have HC := Lib.hid hc
    clear hc hn h0 hh hz b1 b2 b3 b4 b5 b6 b7 b8 b9 hnn K
    go_enter Try.func38, Try.ntmps38
    go_wp2_with (first | (go_at_call 33; refine (CB.out _).mono ?_; rintro e w2 ⟨rfl, hb2⟩; have HF2 := Lib.hid (blkStay (b := w.heap.size) (o := fldO X Y W H (.slice (some ⟨b, 0, none⟩) n cap)) (by ((simp only [heap_alloc_get, heap_size_alloc, if_true]) <;> ((repeat' split) <;> first | rfl | omega))) hb2); have HL2 := Lib.hid (blkStay (b := w.heap.size + 1) (o := bruObj k X' Y' R h) (by ((simp only [heap_alloc_get, heap_size_alloc, if_true]) <;> ((repeat' split) <;> first | rfl | omega))) hb2); have HS2 := Lib.hid (blkStay (b := w.heap.size + 1 + 1) (o := fldO 0 0 0 0 (.slice none 0 0)) (by ((simp only [heap_alloc_get, heap_size_alloc, if_true]) <;> ((repeat' split) <;> first | rfl | omega))) hb2); have hB2 : Below w.heap.size w w2 := Below.trans (by repeat (first | exact Below.refl _ _ | refine Below.alloc ?_ (by first | omega | (simp; done) | (simp; omega)) _ | refine Below.setCell ?_ (by first | omega | (simp; done) | (simp; omega)) _ | refine Below.drew ?_)) (Below.mono hb2 (by first | omega | (simp; done) | (simp; omega))); obtain ⟨cF, fF, zF⟩ := blkC HF2.out; clear hb2))
    refine (BY.out _ w.heap.size HF2.out HL2.out (flAt_congr HC.out (hB2.block _ hlt))).mono ?_
    intro e w4 hmade
    clear cF fF zF
    rcases hmade with ⟨hall, b', cap', rfl, hb', hlt', hrow, hbel⟩ | ⟨hall, rfl, hbel⟩
    · obtain ⟨cS, fS, zS4⟩ := blkC (blkStay HS2.out hbel)
      have zS2 := (blkC HS2.out).2.2
      have HB := Lib.hid hb'
      clear hb'
      go_wp2
      refine bodyPost_ret (v := .tuple #[fldV X Y W H (.slice (some ⟨b', 0, none⟩) n cap'), .int .i64 0]) (by simp [results, Try.results38, go_sem, cS]) rfl ?_
      have z2 := hB2.size
      have hb' := HB.out
      exact .inr ⟨rfl, .inl ⟨hall, b', cap', rfl, by omega, by rw [set5_size]; exact hlt', flAt_congr hrow (set5_heap w4 _ _ _ _ _ _ _ (by omega)), set5_below (hB2.trans (hbel.mono z2)) _ _ _ _ _ _ (by omega)⟩⟩
    · obtain ⟨cS, fS, zS4⟩ := blkC (blkStay HS2.out hbel)
      go_wp2
      refine bodyPost_ret (v := .tuple #[fldV 0 0 0 0 (.slice none 0 0), .int .i64 3]) (by simp [results, Try.results38, go_sem, cS]) rfl ?_
      have z2 := hB2.size
      exact .inr ⟨rfl, .inr ⟨hall, rfl, set5_below (hB2.trans (hbel.mono z2)) _ _ _ _ _ _ (by omega)⟩⟩
  · have hzb : (bruE k X' Y' R h != 0) = true := by simp [hz]
    have HZ := Lib.hid hz
    generalize bruE k X' Y' R h = er at *
    clear hc hn h0 hh hz b1 b2 b3 b4 b5 b6 b7 b8 b9 hnn
    go_enter Try.func38, Try.ntmps38
    go_wp2_with (first | (go_at_call 33; refine (CB.out _).mono ?_; rintro e w2 ⟨rfl, hb2⟩; have HS2 := Lib.hid (blkStay (b := w.heap.size + 1 + 1) (o := fldO 0 0 0 0 (.slice none 0 0)) (by ((simp only [heap_alloc_get, heap_size_alloc, if_true]) <;> ((repeat' split) <;> first | rfl | omega))) hb2); have hB2 : Below w.heap.size w w2 := Below.trans (by repeat (first | exact Below.refl _ _ | refine Below.alloc ?_ (by first | omega | (simp; done) | (simp; omega)) _ | refine Below.setCell ?_ (by first | omega | (simp; done) | (simp; omega)) _ | refine Below.drew ?_)) (Below.mono hb2 (by first | omega | (simp; done) | (simp; omega))); obtain ⟨cS, fS, zS⟩ := blkC HS2.out; clear hb2))
    refine bodyPost_ret (v := .tuple #[fldV 0 0 0 0 (.slice none 0 0), .int .i64 er]) (by simp [results, Try.results38, go_sem, cS]) rfl ?_
    exact .inl ⟨HZ.out, rfl, set5_below hB2 _ _ _ _ _ _ (by omega)⟩
end Go.Proofs.Ytjjhhnoeiglnhab
