/- Lemmas and contracts for the proof that the last text of this claim holds. -/
import Derived.Test.YtmbiohopcfglcaaFauJD

/- Stamp of the reference, of a right field. -/
namespace Go.Proofs.Ytmbiohopcfglcaa
open Go.RowKit Fl
set_option linter.unusedVariables false

set_option maxHeartbeats 4000000 in
set_option maxRecDepth 100000 in
theorem rstamp1_any (X Y : Int) (W H n b cap : Nat) (v : Nat → Nat) (p : Nat) (k X' Y' R : Int) (h : Nat) (w : World) (kF : w.heap[p]? = some (fldO X Y W H (.slice (some ⟨b, 0, none⟩) n cap))) (k1 : w.heap[p + 1]? = some (bruObj k X' Y' R h)) (hc : FlAt w b 0 n v)
    (hh : allB n (fun i => hgtB (v i)) = true) (K : BruOk k X' Y' R h) (h0 : checkR X Y W H = 0) (hnn : n = H * W) :
    Clos2 94 #[.pointer (some ⟨p, 0, none⟩), .pointer (some ⟨p + 1, 0, none⟩)] X Y W H (staF v k X' Y' R h X Y W) w := by
  intro x y i w2 h1 h2 h3 h4 h5 hb
  obtain ⟨b1, b2, b3, b4, b5, b6, b7, b8, b9⟩ := checkR_zero h0
  have hn : n ≤ 65536 := by
    have : ((W : Int) * (H : Int)) = (n : Int) := by rw [hnn, Nat.mul_comm]; simp
    omega
  have hi' : i < n := num_lt (by omega) h1 h2 h4 h5 hnn
  have hrow := flAt_congr hc (hb.block b (World.block_lt_of_cell? w _ (hc i hi')))
  have z1 := World.block_lt_of_cell? w2 _ (hrow i hi')
  have AT := Lib.hid (fun W' (hb : Below w2.heap.size w2 W') => refAt_any X Y W H n b cap i v x y W' (by omega) (by omega) (by omega) (by omega) (by omega) (by omega) (by omega) h1 h2 h3 h4 h5 hi' hn (flAt_congr hrow (hb.block _ z1)))
  have WT := Lib.hid (fun w => rweight_any k X' Y' R h x y w K.k1 K.k3 K.X1 K.X2 K.Y1 K.Y2 K.r1 K.r2 (by omega) (by omega) (by omega) (by omega))
  obtain ⟨ex, ey⟩ := place_of (show 1 ≤ W by omega) h1 h2 h3 h5
  unfold staF
  rw [ex, ey]
  have n0 : 0 ≤ sqD x y X' Y' := by
    obtain ⟨a0, a1⟩ := side_sq (d := x - X') (by have := K.X1; have := K.X2; omega) (by have := K.X1; have := K.X2; omega)
    obtain ⟨b0, b1⟩ := side_sq (d := y - Y') (by have := K.Y1; have := K.Y2; omega) (by have := K.Y1; have := K.Y2; omega)
    unfold sqD; omega
  obtain ⟨d, hd, d0, d1⟩ := wei_in (k := k) n0 K.r1 K.r2
  obtain ⟨m, r, e1, s1, e2, s2, e3, _⟩ := sta_parts (allB_iff.1 hh i hi') K.hg hd d0 d1
  rw [e3]
  have ML := Lib.hid (fun w => refMul_any 20 h _ m s1 e1 w)
  have AD := Lib.hid (fun w => refAdd_any 21 (v i) m r s2 e2 w)
  generalize weiW k (sqD x y X' Y') R = q at *
  have GF := Lib.hid (blkStay kF hb)
  have G1 := Lib.hid (blkStay k1 hb)
  obtain ⟨cF, fF, zF⟩ := blkC GF.out
  obtain ⟨c1, f1, z2⟩ := blkC G1.out
  clear hb h1 h2 h3 h4 h5 b1 b2 b3 b4 b5 b6 b7 b8 b9 hnn hh h0 hi' hn hrow kF k1 hc K n0 hd d0 d1 s1 e1 s2 e2 e3 ex ey
  go_enter Try.func94, Try.ntmps94
  go_wp2
  go_region_held3 (fun w' => (∀ o, w'.cell? ⟨p, o, none⟩ = #[.int .i64 X, .int .i64 Y, .int .i64 W, .int .i64 H, .slice (some ⟨b, 0, none⟩) n cap][o]?) ∧ (∀ o, w'.cell? ⟨p + 1, o, none⟩ = #[.int .i64 k, .int .i64 X', .int .i64 Y', .int .i64 R, .float .f32 h][o]?) ∧ Below w2.heap.size w2 w') (first | exact ⟨(blkC (blkStay GF.out hb9)).1, (blkC (blkStay G1.out hb9)).1, hb9⟩ | exact ⟨(blkC (blkStay GF.out (by repeat (first | exact Below.refl _ _ | refine Below.alloc ?_ (by first | omega | (simp; done) | (simp; omega)) _ | refine Below.setCell ?_ (by first | omega | (simp; done) | (simp; omega)) _ | refine Below.drew ?_)))).1, (blkC (blkStay G1.out (by repeat (first | exact Below.refl _ _ | refine Below.alloc ?_ (by first | omega | (simp; done) | (simp; omega)) _ | refine Below.setCell ?_ (by first | omega | (simp; done) | (simp; omega)) _ | refine Below.drew ?_)))).1, (by repeat (first | exact Below.refl _ _ | refine Below.alloc ?_ (by first | omega | (simp; done) | (simp; omega)) _ | refine Below.setCell ?_ (by first | omega | (simp; done) | (simp; omega)) _ | refine Below.drew ?_))⟩) (first | (go_at_call 96; (with_reducible refine Calls.mono (AT.out _ ?_) ?_); exact (by repeat (first | exact Below.refl _ _ | refine Below.alloc ?_ (by first | omega | (simp; done) | (simp; omega)) _ | refine Below.setCell ?_ (by first | omega | (simp; done) | (simp; omega)) _ | refine Below.drew ?_)); rintro e w' ⟨rfl, rfl⟩) | (go_at_call 25; (with_reducible refine Calls.mono (WT.out _) ?_); rintro e w' ⟨rfl, hb8⟩; have hb9 : Below w2.heap.size w2 w' := Below.trans (by repeat (first | exact Below.refl _ _ | refine Below.alloc ?_ (by first | omega | (simp; done) | (simp; omega)) _ | refine Below.setCell ?_ (by first | omega | (simp; done) | (simp; omega)) _ | refine Below.drew ?_)) (Below.mono hb8 (by first | exact Nat.le_refl _ | (simp; done) | (simp; omega))); clear hb8) | (go_at_call 97; refine (ML.out _).mono ?_; rintro e w' ⟨rfl, rfl⟩) | (go_at_call 95; refine (AD.out _).mono ?_; rintro e w' ⟨rfl, rfl⟩))
  rename_i wh hHeld
  go_wp2
  go_ret
  exact ⟨rfl, hHeld.2.2⟩

theorem sta_wf {n : Nat} {v : Nat → Nat} {k X Y R : Int} {h : Nat} {X' Y' : Int} {W' : Nat} (hh : allB n (fun i => hgtB (v i)) = true) (K : BruOk k X Y R h) : wf32 n (staF v k X Y R h X' Y' W') := by
  intro i hi
  unfold staF
  have n0 : 0 ≤ sqD (X' + ((i % W' : Nat) : Int)) (Y' + ((i / W' : Nat) : Int)) X Y := by
    unfold sqD
    have sq : ∀ d : Int, 0 ≤ d * d := fun d => by rw [← Int.natAbs_mul_self' d]; exact Int.mul_nonneg (Int.natCast_nonneg _) (Int.natCast_nonneg _)
    have := sq (X' + ((i % W' : Nat) : Int) - X)
    have := sq (Y' + ((i / W' : Nat) : Int) - Y)
    omega
  obtain ⟨d, hd, d0, d1⟩ := wei_in (k := k) n0 K.r1 K.r2
  obtain ⟨m, r, _, _, _, _, e3, lt⟩ := sta_parts (allB_iff.1 hh i hi) K.hg hd d0 d1
  rw [e3]; exact lt

set_option maxHeartbeats 2000000 in
theorem rstamp_any (X Y : Int) (W H n b cap : Nat) (v : Nat → Nat) (k X' Y' R : Int) (h : Nat) (w : World) (h0 : checkR X Y W H = 0) (hn : n = W * H) (hc : FlAt w b 0 n v) (hh : allB n (fun i => hgtB (v i)) = true) (hl : h < 4294967296) :
    Calls Try.prog 21 #[fldV X Y W H (.slice (some ⟨b, 0, none⟩) n cap), bru k X' Y' R h] w (ScPost w X Y W H n (staF v k X' Y' R h X Y W) (bruE k X' Y' R h)) := by
  obtain ⟨b1, b2, b3, b4, b5, b6, b7, b8, b9⟩ := checkR_zero h0
  have hnn : n = H * W := by rw [hn]; exact Nat.mul_comm _ _
  have h1 : 1 ≤ n := by rw [hn]; exact Nat.mul_pos (by omega) (by omega)
  have hlt : b < w.heap.size := World.block_lt_of_cell? w _ (hc 0 h1)
  have CB := Lib.hid (fun w => refCheckBrush_any k X' Y' R h hl w)
  by_cases hz : bruE k X' Y' R h = 0
  · have K := bru_ok hz
    have BY := Lib.hid (fun W' p (kF : W'.heap[p]? = some (fldO X Y W H (.slice (some ⟨b, 0, none⟩) n cap))) (k1 : W'.heap[p + 1]? = some (bruObj k X' Y' R h)) (hc' : FlAt W' b 0 n v) =>
      made_any X Y W H n 94 #[.pointer (some ⟨p, 0, none⟩), .pointer (some ⟨p + 1, 0, none⟩)] (staF v k X' Y' R h X Y W) W' enters_rStamp1
        (rstamp1_any X Y W H n b cap v p k X' Y' R h W' kF k1 hc' hh K h0 hnn) (sta_wf hh K) (by omega) (by omega) (by omega) (by omega) (by omega) (by omega) (by omega) (by omega) hnn)
    rw [hz] at CB ⊢
    have HC := Lib.hid hc
    clear hc hn h0 hh hz b1 b2 b3 b4 b5 b6 b7 b8 b9 hnn K
    go_enter Try.func21, Try.ntmps21
    go_wp2_with (first | (go_at_call 15; refine (CB.out _).mono ?_; rintro e w2 ⟨rfl, hb2⟩; have HF2 := Lib.hid (blkStay (b := w.heap.size) (o := fldO X Y W H (.slice (some ⟨b, 0, none⟩) n cap)) (by ((simp only [heap_alloc_get, heap_size_alloc, if_true]) <;> ((repeat' split) <;> first | rfl | omega))) hb2); have HL2 := Lib.hid (blkStay (b := w.heap.size + 1) (o := bruObj k X' Y' R h) (by ((simp only [heap_alloc_get, heap_size_alloc, if_true]) <;> ((repeat' split) <;> first | rfl | omega))) hb2); have HS2 := Lib.hid (blkStay (b := w.heap.size + 1 + 1) (o := fldO 0 0 0 0 (.slice none 0 0)) (by ((simp only [heap_alloc_get, heap_size_alloc, if_true]) <;> ((repeat' split) <;> first | rfl | omega))) hb2); have hB2 : Below w.heap.size w w2 := Below.trans (by repeat (first | exact Below.refl _ _ | refine Below.alloc ?_ (by first | omega | (simp; done) | (simp; omega)) _ | refine Below.setCell ?_ (by first | omega | (simp; done) | (simp; omega)) _ | refine Below.drew ?_)) (Below.mono hb2 (by first | omega | (simp; done) | (simp; omega))); obtain ⟨cF, fF, zF⟩ := blkC HF2.out; clear hb2))
    refine (BY.out _ w.heap.size HF2.out HL2.out (flAt_congr HC.out (hB2.block _ hlt))).mono ?_
    intro e w4 hmade
    clear cF fF zF
    rcases hmade with ⟨hall, b', cap', rfl, hb', hlt', hrow, hbel⟩ | ⟨hall, rfl, hbel⟩
    · obtain ⟨cS, fS, zS4⟩ := blkC (blkStay HS2.out hbel)
      have zS2 := (blkC HS2.out).2.2
      have HB := Lib.hid hb'
      clear hb'
      go_wp2
      refine bodyPost_ret (v := .tuple #[fldV X Y W H (.slice (some ⟨b', 0, none⟩) n cap'), .int .i64 0]) (by simp [results, Try.results21, go_sem, cS]) rfl ?_
      have z2 := hB2.size
      have hb' := HB.out
      exact .inr ⟨rfl, .inl ⟨hall, b', cap', rfl, by omega, by rw [set5_size]; exact hlt', flAt_congr hrow (set5_heap w4 _ _ _ _ _ _ _ (by omega)), set5_below (hB2.trans (hbel.mono z2)) _ _ _ _ _ _ (by omega)⟩⟩
    · obtain ⟨cS, fS, zS4⟩ := blkC (blkStay HS2.out hbel)
      go_wp2
      refine bodyPost_ret (v := .tuple #[fldV 0 0 0 0 (.slice none 0 0), .int .i64 3]) (by simp [results, Try.results21, go_sem, cS]) rfl ?_
      have z2 := hB2.size
      exact .inr ⟨rfl, .inr ⟨hall, rfl, set5_below (hB2.trans (hbel.mono z2)) _ _ _ _ _ _ (by omega)⟩⟩
  · have hzb : (bruE k X' Y' R h != 0) = true := by simp [hz]
    have HZ := Lib.hid hz
    generalize bruE k X' Y' R h = er at *
    clear hc hn h0 hh hz b1 b2 b3 b4 b5 b6 b7 b8 b9 hnn
    go_enter Try.func21, Try.ntmps21
    go_wp2_with (first | (go_at_call 15; refine (CB.out _).mono ?_; rintro e w2 ⟨rfl, hb2⟩; have HS2 := Lib.hid (blkStay (b := w.heap.size + 1 + 1) (o := fldO 0 0 0 0 (.slice none 0 0)) (by ((simp only [heap_alloc_get, heap_size_alloc, if_true]) <;> ((repeat' split) <;> first | rfl | omega))) hb2); have hB2 : Below w.heap.size w w2 := Below.trans (by repeat (first | exact Below.refl _ _ | refine Below.alloc ?_ (by first | omega | (simp; done) | (simp; omega)) _ | refine Below.setCell ?_ (by first | omega | (simp; done) | (simp; omega)) _ | refine Below.drew ?_)) (Below.mono hb2 (by first | omega | (simp; done) | (simp; omega))); obtain ⟨cS, fS, zS⟩ := blkC HS2.out; clear hb2))
    refine bodyPost_ret (v := .tuple #[fldV 0 0 0 0 (.slice none 0 0), .int .i64 er]) (by simp [results, Try.results21, go_sem, cS]) rfl ?_
    exact .inl ⟨HZ.out, rfl, set5_below hB2 _ _ _ _ _ _ (by omega)⟩
end Go.Proofs.Ytmbiohopcfglcaa

/- What the reference's folds make of a cell; the first error of a list. -/
namespace Go.Proofs.Ytmbiohopcfglcaa
open Go.RowKit Fl
set_option linter.unusedVariables false

theorem enters_rFolds1 : Enters 136 := by intro args W; simp [callFunc, Try.func136, Try.f136]

set_option maxHeartbeats 4000000 in
set_option maxRecDepth 100000 in
theorem rFolds1_any (X Y : Int) (W H m b cap : Nat) (v : Nat → Nat) (a : Option Addr) (n lcap : Nat) (A B P : Nat → Int) (h : Nat → Nat) (p q : Nat) (w : World) (hp : w.heap[p]? = some (fldO X Y W H (.slice (some ⟨b, 0, none⟩) m cap))) (hq : w.heap[q]? = some (folsO a n lcap)) (hc : FlAt w b 0 m v)
    (hh : allB m (fun i => hgtB (v i)) = true) (L : FolL w a n A B P h) (hn : n ≤ 100) (K : ∀ i, i < n → FolOk (A i) (B i) (P i) (h i)) (h0 : checkR X Y W H = 0) (hnn : m = H * W) :
    Clos2 136 #[.pointer (some ⟨p, 0, none⟩), .pointer (some ⟨q, 0, none⟩)] X Y W H (fun i => accW (v i) (folF A B P h (X + ((i % W : Nat) : Int)) (Y + ((i / W : Nat) : Int))) n) w := by
  intro x y i w2 h1 h2 h3 h4 h5 hb
  obtain ⟨b1, b2, b3, b4, b5, b6, b7, b8, b9⟩ := checkR_zero h0
  have hm : m ≤ 65536 := by
    have : ((W : Int) * (H : Int)) = (m : Int) := by rw [hnn, Nat.mul_comm]; simp
    omega
  have hi' : i < m := num_lt (by omega) h1 h2 h4 h5 hnn
  have hv := allB_iff.1 hh i hi'
  have hrow := flAt_congr hc (hb.block b (World.block_lt_of_cell? w _ (hc i hi')))
  have AT := Lib.hid (fun W' (hb : Below w2.heap.size w2 W') => refAt_any X Y W H m b cap i v x y W' (by omega) (by omega) (by omega) (by omega) (by omega) (by omega) (by omega) h1 h2 h3 h4 h5 hi' hm (flAt_congr hrow (hb.block _ (World.block_lt_of_cell? w2 _ (hrow i hi')))))
  obtain ⟨ex, ey⟩ := place_of (show 1 ≤ W by omega) h1 h2 h3 h5
  simp only [ex, ey]
  have LI := Lib.hid (fun i (hi : i < n) w => rlift_any (A i) (B i) (P i) (h i) x y w (K i hi) (by omega) (by omega) (by omega) (by omega))
  have ST := Lib.hid (fun j (hj : j < n) => acc_step (hgt_bd hv) hn hj (folF_bd (x := x) (y := y) K))
  have hsf := fun (w : World) (a : Addr) (m : Mode) (k : FloatKind) (b : Nat) => run_store_float (P := Try.prog) (w := w) (a := a) (m := m) k b
  have HL := Lib.hid (L.stay hb)
  have GF := Lib.hid (blkStay hp hb)
  have GQ := Lib.hid (blkStay hq hb)
  obtain ⟨cF, fF, zF⟩ := blkC GF.out
  have zQ := (blkC GQ.out).2.2
  obtain ⟨F, hF⟩ : ∃ F, folF A B P h x y = F := ⟨_, rfl⟩
  have FF := Lib.hid (show ∀ i, lifW (folK (A i) (B i) (P i) x y) (P i) (h i) = F i from fun i => by rw [← hF]; rfl)
  rw [hF] at ST ⊢
  generalize v i = vi at *
  clear hb h1 h2 h3 h4 h5 b1 b2 b3 b4 b5 b6 b7 b8 b9 hnn hh h0 hi' hm hrow hp hq hc K L hv ex ey hF
  go_enter Try.func136, Try.ntmps136
  go_wp2_with (first | (go_at_call 96; refine (AT.out _ (by repeat (first | exact Below.refl _ _ | refine Below.alloc ?_ (by first | omega | (simp; done) | (simp; omega)) _ | refine Below.setCell ?_ (by first | omega | (simp; done) | (simp; omega)) _ | refine Below.drew ?_))).mono ?_; rintro e w3 ⟨rfl, hw3⟩; have hb3 : Below w2.heap.size w2 w3 := (by rw [← hw3]; exact (by repeat (first | exact Below.refl _ _ | refine Below.alloc ?_ (by first | omega | (simp; done) | (simp; omega)) _ | refine Below.setCell ?_ (by first | omega | (simp; done) | (simp; omega)) _ | refine Below.drew ?_))); have HB3 := Lib.hid hb3; clear cF fF zF; clear hw3; obtain ⟨cQ, fQ, zQ3⟩ := blkC (blkStay GQ.out hb3); clear hb3))
  go_loopw [7, 16] (fun u i wr => ∃ j : Nat, j ≤ n ∧ u = .float .f32 (accW vi F j) ∧ i = .int .i64 j ∧ Below w2.heap.size w2 wr) (fun _ i _ => n - (intOf i).toNat)
  case atStart => exact ⟨0, by omega, rfl, rfl, HB3.out⟩
  case round =>
    obtain ⟨j, hj, rfl, rfl, hb⟩ := hrel
    by_cases c : j < n
    · have HB := Lib.hid hb
      rcases HL.out.stay hb with z | ⟨b, off, rfl, l⟩
      · omega
      obtain ⟨l0, l1, l2, l3⟩ := l j c
      obtain ⟨r, r1, rs, er, _⟩ := ST.out j c
      have AD := Lib.hid (fun w => refAdd_any _ (accW vi F j) (F j) r rs r1 w)
      have L1 := Lib.hid (fun w => LI.out j c w)
      rw [FF.out j] at L1
      have ER := Lib.hid er
      generalize accW vi F j = u at *
      clear l er hb r1 rs cQ fQ zQ3
      go_wp2_with (first | (go_at_call 137; refine (L1.out _).mono ?_; rintro e' w4 ⟨rfl, hb4⟩; have hB4 : Below wr.heap.size wr w4 := Below.trans (by repeat (first | exact Below.refl _ _ | refine Below.alloc ?_ (by first | omega | (simp; done) | (simp; omega)) _ | refine Below.setCell ?_ (by first | omega | (simp; done) | (simp; omega)) _ | refine Below.drew ?_)) (Below.mono hb4 (by simp)); have HB4 := Lib.hid (HB.out.trans (hB4.mono HB.out.size)); clear hb4 hB4) | (go_at_call 95; refine (AD.out _).mono ?_; rintro e' w' ⟨rfl, rfl⟩))
      go_roundw
      case rel => exact ⟨j + 1, by omega, by rw [ER.out], by go_num, HB4.out⟩
      case measure => simp [intOf]; omega
    · have : j = n := by omega
      subst this
      go_wp2
      go_ret
      exact ⟨rfl, hb⟩
end Go.Proofs.Ytmbiohopcfglcaa

/- Contracts: what a fault throws, of both sides. -/
namespace Go.Proofs.Ytmbiohopcfglcaa
open Go.RowKit Fl
set_option linter.unusedVariables false

/-- Where a place lies beside its fault. -/
def fauK (A B C x y : Int) : Int := A * x + B * y + C
theorem fauK_in {A B C x y : Int} (a : A.natAbs ≤ 1000) (b : B.natAbs ≤ 1000) (c1 : -1099511627776 ≤ C) (c2 : C ≤ 1099511627776) (x1 : -8388608 ≤ x) (x2 : x ≤ 8388608) (y1 : -8388608 ≤ y) (y2 : y ≤ 8388608) : (fauK A B C x y).natAbs ≤ 4398046511104 := by
  have := part_bd a x1 x2
  have := part_bd b y1 y2
  unfold fauK; omega

set_option maxHeartbeats 4000000 in
set_option maxRecDepth 100000 in
theorem throw_any (A B C D : Int) (h : Nat) (x y : Int) (w : World) (K : FauOk A B C D h) (x1 : -8388608 ≤ x) (x2 : x ≤ 8388608) (y1 : -8388608 ≤ y) (y2 : y ≤ 8388608) :
    Calls Try.prog 129 #[fau A B C D h, .int .i64 x, .int .i64 y] w fun e w' => e = .returned (.float .f32 (thrW (fauK A B C x y) (lenW A B 0) D h)) ∧ Below w.heap.size w w' := by
  obtain ⟨d, u, c1, c2, H⟩ := thr_parts (T := h) (fauK_in K.a1 K.b1 K.c1 K.c2 x1 x2 y1 y2) (len_in K.a1 K.b1 K.sq) K.p1 K.p2 K.hh
  have u1 := part_bd K.a1 x1 x2
  have u2 := part_bd K.b1 y1 y2
  have k1 := K.c1
  have k2 := K.c2
  have LE := Lib.hid (fun bb w (hb : w.heap[bb]? = some (dir2Obj A B)) => length2_any A B bb w hb K.a1 K.b1 K.sq)
  obtain ⟨a, ha⟩ : ∃ a, A * x = a := ⟨_, rfl⟩
  obtain ⟨b, hb⟩ : ∃ b, B * y = b := ⟨_, rfl⟩
  have w1 : wrap64 (A * x) = a := by rw [← ha]; exact IntWalk.wrap64_in _ ⟨by omega, by omega⟩
  have w2 : wrap64 (B * y) = b := by rw [← hb]; exact IntWalk.wrap64_in _ ⟨by omega, by omega⟩
  have w1' : IntKind.i64.wrap (A * x) = a := by rw [← ha]; exact IntWalk.i64_in _ (by omega)
  have w2' : IntKind.i64.wrap (B * y) = b := by rw [← hb]; exact IntWalk.i64_in _ (by omega)
  rw [ha] at u1
  rw [hb] at u2
  obtain ⟨n, hn⟩ : ∃ n, a + b = n := ⟨_, rfl⟩
  have w3 : wrap64 (a + b) = n := by rw [← hn]; exact IntWalk.wrap64_in _ ⟨by omega, by omega⟩
  have w3' : IntKind.i64.wrap (a + b) = n := by rw [← hn]; exact IntWalk.i64_in _ (by omega)
  obtain ⟨k, hk⟩ : ∃ k, n + C = k := ⟨_, rfl⟩
  have w4 : wrap64 (n + C) = k := by rw [← hk]; exact IntWalk.wrap64_in _ ⟨by omega, by omega⟩
  have w4' : IntKind.i64.wrap (n + C) = k := by rw [← hk]; exact IntWalk.i64_in _ (by omega)
  have ek : fauK A B C x y = k := by unfold fauK; rw [ha, hb, hn, hk]
  have D1 := K.p1
  have D2 := K.p2
  have w5 : wrap64 (D * 2) = D * 2 := IntWalk.wrap64_in _ ⟨by omega, by omega⟩
  have w5' : IntKind.i64.wrap (D * 2) = D * 2 := IntWalk.i64_in _ (by omega)
  rw [ek] at H ⊢
  have e1 := fun (W : World) => run_float_arith (P := Try.prog) W .quo 22 .f32 _ _ d H.d1
  have ng := run_neg_f32
  have g1 := H.g1
  have g2 := H.g2
  have uw := H.uw
  have mid := H.mid
  unfold thrW
  rw [H.dw, uw, g1, g2]
  generalize lenW A B 0 = M at *
  have GB := Lib.hid (show (w.alloc (fauObj A B C D h)).heap[w.heap.size]? = some (fauObj A B C D h) from heap_alloc_new _ _)
  have zB : w.heap.size < (w.alloc (fauObj A B C D h)).heap.size := by simp
  have B0 : Below w.heap.size w (w.alloc (fauObj A B C D h)) := (Below.refl _ _).alloc (Nat.le_refl _) _
  clear H ha hb hn hk ek K x1 x2 y1 y2 u1 u2 k1 k2
  have goal : ∀ (v : Nat), (c1 = true → v = h) → (c1 = false → c2 = true → v = 0) → (c1 = false → c2 = false → v = midW d D h) → Calls Try.prog 129 #[fau A B C D h, .int .i64 x, .int .i64 y] w fun e w' => e = .returned (.float .f32 v) ∧ Below w.heap.size w w' := by
    intro v v1 v2 v3
    cases c1 with
    | true =>
      have := v1 rfl
      subst this
      clear v1 v2 v3 mid
      go_enter Try.func129, Try.ntmps129
      go_wp2
      go_region_held3 (fun w' => (∀ o, w'.cell? ⟨w.heap.size, o, none⟩ = #[.int .i64 A, .int .i64 B, .int .i64 C, .int .i64 D, .float .f32 v][o]?) ∧ Below (w.alloc (fauObj A B C D v)).heap.size (w.alloc (fauObj A B C D v)) w') (first | exact ⟨(blkC (blkStay GB.out hb9)).1, hb9⟩ | exact ⟨(blkC (blkStay GB.out (by repeat (first | exact Below.refl _ _ | refine Below.alloc ?_ (by first | omega | (simp; done) | (simp; omega)) _ | refine Below.setCell ?_ (by first | omega | (simp; done) | (simp; omega)) _ | refine Below.drew ?_)))).1, (by repeat (first | exact Below.refl _ _ | refine Below.alloc ?_ (by first | omega | (simp; done) | (simp; omega)) _ | refine Below.setCell ?_ (by first | omega | (simp; done) | (simp; omega)) _ | refine Below.drew ?_))⟩) (first | (go_at_call 117; (with_reducible refine Calls.mono (LE.out _ _ ?_) ?_); (exact blkDrew (by (first | (rw [heap_alloc_get, if_pos rfl]; done) | ((simp only [heap_alloc_get, heap_size_alloc, if_true]) <;> ((repeat' split) <;> first | rfl | omega))))); rintro e w' ⟨rfl, rfl⟩))
      rename_i wh hHeld
      go_wp2
      go_ret
      exact ⟨rfl, B0.trans (hHeld.2.mono B0.size)⟩
    | false =>
      cases c2 with
      | true =>
        have := v2 rfl rfl
        subst this
        clear v1 v2 v3 mid
        go_enter Try.func129, Try.ntmps129
        go_wp2
        go_region_held3 (fun w' => (∀ o, w'.cell? ⟨w.heap.size, o, none⟩ = #[.int .i64 A, .int .i64 B, .int .i64 C, .int .i64 D, .float .f32 h][o]?) ∧ Below (w.alloc (fauObj A B C D h)).heap.size (w.alloc (fauObj A B C D h)) w') (first | exact ⟨(blkC (blkStay GB.out hb9)).1, hb9⟩ | exact ⟨(blkC (blkStay GB.out (by repeat (first | exact Below.refl _ _ | refine Below.alloc ?_ (by first | omega | (simp; done) | (simp; omega)) _ | refine Below.setCell ?_ (by first | omega | (simp; done) | (simp; omega)) _ | refine Below.drew ?_)))).1, (by repeat (first | exact Below.refl _ _ | refine Below.alloc ?_ (by first | omega | (simp; done) | (simp; omega)) _ | refine Below.setCell ?_ (by first | omega | (simp; done) | (simp; omega)) _ | refine Below.drew ?_))⟩) (first | (go_at_call 117; (with_reducible refine Calls.mono (LE.out _ _ ?_) ?_); (exact blkDrew (by (first | (rw [heap_alloc_get, if_pos rfl]; done) | ((simp only [heap_alloc_get, heap_size_alloc, if_true]) <;> ((repeat' split) <;> first | rfl | omega))))); rintro e w' ⟨rfl, rfl⟩))
        rename_i wh hHeld
        go_wp2
        go_ret
        exact ⟨rfl, B0.trans (hHeld.2.mono B0.size)⟩
      | false =>
        obtain ⟨s, z, q, p, q', r', e, r, m⟩ := mid rfl rfl
        have := v3 rfl rfl
        rw [m.w] at this
        subst this
        have e2 := fun (W : World) => run_float_arith (P := Try.prog) W .add 22 .f32 d u s m.s1
        have e3 := fun (W : World) => run_float_arith (P := Try.prog) W .quo 22 .f32 s z q m.q1
        have e4 := fun (W : World) => run_float_arith (P := Try.prog) W .mul 22 .f32 h e v m.r1
        have SE := Lib.hid (fun w => sease_any q p q' r' e m.ea m.wi w)
        rw [m.ea.w] at SE
        have xw := m.xw
        clear v1 v2 v3 mid m
        go_enter Try.func129, Try.ntmps129
        go_wp2
        go_region_held3 (fun w' => (∀ o, w'.cell? ⟨w.heap.size, o, none⟩ = #[.int .i64 A, .int .i64 B, .int .i64 C, .int .i64 D, .float .f32 h][o]?) ∧ Below (w.alloc (fauObj A B C D h)).heap.size (w.alloc (fauObj A B C D h)) w') (first | exact ⟨(blkC (blkStay GB.out hb9)).1, hb9⟩ | exact ⟨(blkC (blkStay GB.out (by repeat (first | exact Below.refl _ _ | refine Below.alloc ?_ (by first | omega | (simp; done) | (simp; omega)) _ | refine Below.setCell ?_ (by first | omega | (simp; done) | (simp; omega)) _ | refine Below.drew ?_)))).1, (by repeat (first | exact Below.refl _ _ | refine Below.alloc ?_ (by first | omega | (simp; done) | (simp; omega)) _ | refine Below.setCell ?_ (by first | omega | (simp; done) | (simp; omega)) _ | refine Below.drew ?_))⟩) (first | (go_at_call 117; (with_reducible refine Calls.mono (LE.out _ _ ?_) ?_); (exact blkDrew (by (first | (rw [heap_alloc_get, if_pos rfl]; done) | ((simp only [heap_alloc_get, heap_size_alloc, if_true]) <;> ((repeat' split) <;> first | rfl | omega))))); rintro e w' ⟨rfl, rfl⟩))
        rename_i wh hHeld
        obtain ⟨cB, hB2⟩ := hHeld
        go_wp2
        go_quiet (first | (go_at_call 188; exact (SE.out _).mono fun _ _ h => ⟨h.1, _, h.2.symm⟩))
        go_wp2
        go_ret
        exact ⟨rfl, (B0.trans (hB2.mono B0.size)).trans ((below_drewN _ _).mono (B0.trans (hB2.mono B0.size)).size)⟩
  refine goal _ (fun z => by rw [if_pos z]) (fun z z' => by rw [if_neg (by rw [z]; simp), if_pos z']) (fun z z' => by rw [if_neg (by rw [z]; simp), if_neg (by rw [z']; simp)])

set_option maxHeartbeats 4000000 in
set_option maxRecDepth 100000 in
theorem rthrow_any (A B C D : Int) (h : Nat) (x y : Int) (w : World) (K : FauOk A B C D h) (x1 : -8388608 ≤ x) (x2 : x ≤ 8388608) (y1 : -8388608 ≤ y) (y2 : y ≤ 8388608) :
    Calls Try.prog 131 #[fau A B C D h, .int .i64 x, .int .i64 y] w fun e w' => e = .returned (.float .f32 (thrW (fauK A B C x y) (lenW A B 0) D h)) ∧ Below w.heap.size w w' := by
  obtain ⟨d, u, c1, c2, H⟩ := thr_parts (T := h) (fauK_in K.a1 K.b1 K.c1 K.c2 x1 x2 y1 y2) (len_in K.a1 K.b1 K.sq) K.p1 K.p2 K.hh
  obtain ⟨⟨X, Z, cc, RT⟩, _⟩ := dir_len K.a1 K.b1 (by decide : (0 : Int).natAbs ≤ 1000) K.sq
  have u1 := part_bd K.a1 x1 x2
  have u2 := part_bd K.b1 y1 y2
  have k1 := K.c1
  have k2 := K.c2
  have s1 := sq_small K.a1
  have s2 := sq_small K.b1
  obtain ⟨a2, ha2⟩ : ∃ a, A * A = a := ⟨_, rfl⟩
  obtain ⟨b2, hb2⟩ : ∃ b, B * B = b := ⟨_, rfl⟩
  have esq : sq3 A B 0 = a2 + b2 := by unfold sq3; rw [ha2, hb2]; simp
  rw [ha2] at s1
  rw [hb2] at s2
  have q1 : wrap64 (A * A) = a2 := by rw [ha2]; exact IntWalk.wrap64_in _ ⟨by omega, by omega⟩
  have q2 : wrap64 (B * B) = b2 := by rw [hb2]; exact IntWalk.wrap64_in _ ⟨by omega, by omega⟩
  have q3 : wrap64 (a2 + b2) = a2 + b2 := IntWalk.wrap64_in _ ⟨by omega, by omega⟩
  have q1' : IntKind.i64.wrap (A * A) = a2 := by rw [ha2]; exact IntWalk.i64_in _ (by omega)
  have q2' : IntKind.i64.wrap (B * B) = b2 := by rw [hb2]; exact IntWalk.i64_in _ (by omega)
  have q3' : IntKind.i64.wrap (a2 + b2) = a2 + b2 := IntWalk.i64_in _ (by omega)
  obtain ⟨a, ha⟩ : ∃ a, A * x = a := ⟨_, rfl⟩
  obtain ⟨b, hb⟩ : ∃ b, B * y = b := ⟨_, rfl⟩
  have w1 : wrap64 (A * x) = a := by rw [← ha]; exact IntWalk.wrap64_in _ ⟨by omega, by omega⟩
  have w2 : wrap64 (B * y) = b := by rw [← hb]; exact IntWalk.wrap64_in _ ⟨by omega, by omega⟩
  rw [ha] at u1
  rw [hb] at u2
  obtain ⟨n, hn⟩ : ∃ n, a + b = n := ⟨_, rfl⟩
  have w3 : wrap64 (a + b) = n := by rw [← hn]; exact IntWalk.wrap64_in _ ⟨by omega, by omega⟩
  obtain ⟨k, hk⟩ : ∃ k, n + C = k := ⟨_, rfl⟩
  have w4 : wrap64 (n + C) = k := by rw [← hk]; exact IntWalk.wrap64_in _ ⟨by omega, by omega⟩
  have ek : fauK A B C x y = k := by unfold fauK; rw [ha, hb, hn, hk]
  rw [ek] at H ⊢
  have RO := Lib.hid (fun w => refRoot_any RT w)
  have DV := Lib.hid (fun w => refDiv_any 42 _ _ d H.d2 H.d1 w)
  rw [esq] at RO
  have eM : lenW A B 0 = rootW (floatOfInt .f32 (a2 + b2)) := by unfold lenW; rw [esq]
  rw [eM] at DV
  have ng := run_neg_f32
  have g1 := H.g1
  have g2 := H.g2
  have uw := H.uw
  have mid := H.mid
  have hz := H.z
  unfold thrW
  rw [H.dw, uw, g1, g2]
  generalize rootW (floatOfInt .f32 (a2 + b2)) = M at *
  clear H RT ha hb hn hk ek K x1 x2 y1 y2 u1 u2 k1 k2 esq eM s1 s2 ha2 hb2
  have CU := Lib.hid (show ∀ w, Calls Try.prog 104 #[.int .i64 D] w fun e w' => e = .returned (.float .f32 u) ∧ w = w' from fun w => by rw [← uw]; exact refConv_any D w)
  have CK := Lib.hid (fun w => refConv_any k w)
  have CS := Lib.hid (fun w => refConv_any (a2 + b2) w)
  have goal : ∀ (v : Nat), (c1 = true → v = h) → (c1 = false → c2 = true → v = 0) → (c1 = false → c2 = false → v = midW d D h) → Calls Try.prog 131 #[fau A B C D h, .int .i64 x, .int .i64 y] w fun e w' => e = .returned (.float .f32 v) ∧ Below w.heap.size w w' := by
    intro v v1 v2 v3
    have hD : (D = 0 ∧ k < 0) ∨ (D = 0 ∧ ¬ k < 0) ∨ D ≠ 0 := by omega
    rcases hD with ⟨z1, z2⟩ | ⟨z1, z2⟩ | zD
    · obtain ⟨e1, e2⟩ := hz z1 z2
      have := v2 e1 e2
      subst this z1
      have kn : decide (k < 0) = true := by simpa using z2
      clear v1 v2 v3 mid hz g1 g2 z2
      go_enter Try.func131, Try.ntmps131
      go_wp2
      go_quiet (first | (go_at_call 104; (with_reducible refine (CU.out _).mono ?_); exact fun _ _ h => ⟨h.1, _, h.2.symm⟩) | (go_at_call 104; (with_reducible refine (CK.out _).mono ?_); exact fun _ _ h => ⟨h.1, _, h.2.symm⟩) | (go_at_call 104; (with_reducible refine (CS.out _).mono ?_); exact fun _ _ h => ⟨h.1, _, h.2.symm⟩) | (go_at_call 103; exact (RO.out _).mono fun _ _ h => ⟨h.1, _, h.2.symm⟩) | (go_at_call 102; exact (DV.out _).mono fun _ _ h => ⟨h.1, _, h.2.symm⟩))
      go_wp2
      go_ret
      exact ⟨rfl, drewBox _ _ _ rfl⟩
    · subst z1
      have kn : decide (k < 0) = false := by simpa using z2
      clear z2 hz
      cases c1 with
      | true =>
        have := v1 rfl
        subst this
        clear v1 v2 v3 mid
        go_enter Try.func131, Try.ntmps131
        go_wp2
        go_quiet (first | (go_at_call 104; (with_reducible refine (CU.out _).mono ?_); exact fun _ _ h => ⟨h.1, _, h.2.symm⟩) | (go_at_call 104; (with_reducible refine (CK.out _).mono ?_); exact fun _ _ h => ⟨h.1, _, h.2.symm⟩) | (go_at_call 104; (with_reducible refine (CS.out _).mono ?_); exact fun _ _ h => ⟨h.1, _, h.2.symm⟩) | (go_at_call 103; exact (RO.out _).mono fun _ _ h => ⟨h.1, _, h.2.symm⟩) | (go_at_call 102; exact (DV.out _).mono fun _ _ h => ⟨h.1, _, h.2.symm⟩))
        go_wp2
        go_ret
        exact ⟨rfl, drewBox _ _ _ rfl⟩
      | false =>
        cases c2 with
        | true =>
          have := v2 rfl rfl
          subst this
          clear v1 v2 v3 mid
          go_enter Try.func131, Try.ntmps131
          go_wp2
          go_quiet (first | (go_at_call 104; (with_reducible refine (CU.out _).mono ?_); exact fun _ _ h => ⟨h.1, _, h.2.symm⟩) | (go_at_call 104; (with_reducible refine (CK.out _).mono ?_); exact fun _ _ h => ⟨h.1, _, h.2.symm⟩) | (go_at_call 104; (with_reducible refine (CS.out _).mono ?_); exact fun _ _ h => ⟨h.1, _, h.2.symm⟩) | (go_at_call 103; exact (RO.out _).mono fun _ _ h => ⟨h.1, _, h.2.symm⟩) | (go_at_call 102; exact (DV.out _).mono fun _ _ h => ⟨h.1, _, h.2.symm⟩))
          go_wp2
          go_ret
          exact ⟨rfl, drewBox _ _ _ rfl⟩
        | false =>
          obtain ⟨s, z, q, p, q', r', e, r, m⟩ := mid rfl rfl
          have := v3 rfl rfl
          rw [m.w] at this
          subst this
          have AD := Lib.hid (fun w => refAdd_any 43 _ _ s m.s2 m.s1 w)
          have M1 := Lib.hid (fun w => refMul_any 26 _ _ z m.x2 m.x1 w)
          have DW := Lib.hid (fun w => refDiv_any 0 _ _ q m.q2 m.q1 w)
          have SE := Lib.hid (fun w => refEase_any q p q' r' e m.ea w)
          have M2 := Lib.hid (fun w => refMul_any 20 _ _ v m.r2 m.r1 w)
          rw [m.ea.w] at SE
          clear v1 v2 v3 mid m
          go_enter Try.func131, Try.ntmps131
          go_wp2
          go_quiet (first | (go_at_call 104; (with_reducible refine (CU.out _).mono ?_); exact fun _ _ h => ⟨h.1, _, h.2.symm⟩) | (go_at_call 104; (with_reducible refine (CK.out _).mono ?_); exact fun _ _ h => ⟨h.1, _, h.2.symm⟩) | (go_at_call 104; (with_reducible refine (CS.out _).mono ?_); exact fun _ _ h => ⟨h.1, _, h.2.symm⟩) | (go_at_call 103; exact (RO.out _).mono fun _ _ h => ⟨h.1, _, h.2.symm⟩) | (go_at_call 102; exact (DV.out _).mono fun _ _ h => ⟨h.1, _, h.2.symm⟩))
          go_wp2
          go_quiet (first | (go_at_call 95; exact (AD.out _).mono fun _ _ h => ⟨h.1, _, h.2.symm⟩) | (go_at_call 97; (with_reducible refine (M1.out _).mono ?_); exact fun _ _ h => ⟨h.1, _, h.2.symm⟩) | (go_at_call 97; (with_reducible refine (M2.out _).mono ?_); exact fun _ _ h => ⟨h.1, _, h.2.symm⟩) | (go_at_call 102; exact (DW.out _).mono fun _ _ h => ⟨h.1, _, h.2.symm⟩) | (go_at_call 189; exact (SE.out _).mono fun _ _ h => ⟨h.1, _, h.2.symm⟩))
          go_wp2
          go_ret
          exact ⟨rfl, drewBox2 _ _ _ _ rfl⟩
    · have dn : (D == 0) = false := by simpa using zD
      clear hz
      cases c1 with
      | true =>
        have := v1 rfl
        subst this
        clear v1 v2 v3 mid
        go_enter Try.func131, Try.ntmps131
        go_wp2
        go_quiet (first | (go_at_call 104; (with_reducible refine (CU.out _).mono ?_); exact fun _ _ h => ⟨h.1, _, h.2.symm⟩) | (go_at_call 104; (with_reducible refine (CK.out _).mono ?_); exact fun _ _ h => ⟨h.1, _, h.2.symm⟩) | (go_at_call 104; (with_reducible refine (CS.out _).mono ?_); exact fun _ _ h => ⟨h.1, _, h.2.symm⟩) | (go_at_call 103; exact (RO.out _).mono fun _ _ h => ⟨h.1, _, h.2.symm⟩) | (go_at_call 102; exact (DV.out _).mono fun _ _ h => ⟨h.1, _, h.2.symm⟩))
        go_wp2
        go_ret
        exact ⟨rfl, drewBox _ _ _ rfl⟩
      | false =>
        cases c2 with
        | true =>
          have := v2 rfl rfl
          subst this
          clear v1 v2 v3 mid
          go_enter Try.func131, Try.ntmps131
          go_wp2
          go_quiet (first | (go_at_call 104; (with_reducible refine (CU.out _).mono ?_); exact fun _ _ h => ⟨h.1, _, h.2.symm⟩) | (go_at_call 104; (with_reducible refine (CK.out _).mono ?_); exact fun _ _ h => ⟨h.1, _, h.2.symm⟩) | (go_at_call 104; (with_reducible refine (CS.out _).mono ?_); exact fun _ _ h => ⟨h.1, _, h.2.symm⟩) | (go_at_call 103; exact (RO.out _).mono fun _ _ h => ⟨h.1, _, h.2.symm⟩) | (go_at_call 102; exact (DV.out _).mono fun _ _ h => ⟨h.1, _, h.2.symm⟩))
          go_wp2
          go_ret
          exact ⟨rfl, drewBox _ _ _ rfl⟩
        | false =>
          obtain ⟨s, z, q, p, q', r', e, r, m⟩ := mid rfl rfl
          have := v3 rfl rfl
          rw [m.w] at this
          subst this
          have AD := Lib.hid (fun w => refAdd_any 43 _ _ s m.s2 m.s1 w)
          have M1 := Lib.hid (fun w => refMul_any 26 _ _ z m.x2 m.x1 w)
          have DW := Lib.hid (fun w => refDiv_any 0 _ _ q m.q2 m.q1 w)
          have SE := Lib.hid (fun w => refEase_any q p q' r' e m.ea w)
          have M2 := Lib.hid (fun w => refMul_any 20 _ _ v m.r2 m.r1 w)
          rw [m.ea.w] at SE
          clear v1 v2 v3 mid m
          go_enter Try.func131, Try.ntmps131
          go_wp2
          go_quiet (first | (go_at_call 104; (with_reducible refine (CU.out _).mono ?_); exact fun _ _ h => ⟨h.1, _, h.2.symm⟩) | (go_at_call 104; (with_reducible refine (CK.out _).mono ?_); exact fun _ _ h => ⟨h.1, _, h.2.symm⟩) | (go_at_call 104; (with_reducible refine (CS.out _).mono ?_); exact fun _ _ h => ⟨h.1, _, h.2.symm⟩) | (go_at_call 103; exact (RO.out _).mono fun _ _ h => ⟨h.1, _, h.2.symm⟩) | (go_at_call 102; exact (DV.out _).mono fun _ _ h => ⟨h.1, _, h.2.symm⟩))
          go_wp2
          go_quiet (first | (go_at_call 95; exact (AD.out _).mono fun _ _ h => ⟨h.1, _, h.2.symm⟩) | (go_at_call 97; (with_reducible refine (M1.out _).mono ?_); exact fun _ _ h => ⟨h.1, _, h.2.symm⟩) | (go_at_call 97; (with_reducible refine (M2.out _).mono ?_); exact fun _ _ h => ⟨h.1, _, h.2.symm⟩) | (go_at_call 102; exact (DW.out _).mono fun _ _ h => ⟨h.1, _, h.2.symm⟩) | (go_at_call 189; exact (SE.out _).mono fun _ _ h => ⟨h.1, _, h.2.symm⟩))
          go_wp2
          go_ret
          exact ⟨rfl, drewBox2 _ _ _ _ rfl⟩
  refine goal _ (fun z => by rw [if_pos z]) (fun z z' => by rw [if_neg (by rw [z]; simp), if_pos z']) (fun z z' => by rw [if_neg (by rw [z]; simp), if_neg (by rw [z']; simp)])
end Go.Proofs.Ytmbiohopcfglcaa

/- A list of faults; what its faults make of a cell, of both sides. -/
namespace Go.Proofs.Ytmbiohopcfglcaa
open Go.RowKit Fl
set_option linter.unusedVariables false

/-- The cells of a list of faults. -/
def FausAt (w : World) (b off n : Nat) (A B C D : Nat → Int) (h : Nat → Nat) : Prop :=
  ∀ i, i < n → w.cell? ⟨b, off + i * 5, none⟩ = some (.int .i64 (A i)) ∧ w.cell? ⟨b, off + i * 5 + 1, none⟩ = some (.int .i64 (B i)) ∧ w.cell? ⟨b, off + i * 5 + 2, none⟩ = some (.int .i64 (C i)) ∧ w.cell? ⟨b, off + i * 5 + 3, none⟩ = some (.int .i64 (D i)) ∧ w.cell? ⟨b, off + i * 5 + 4, none⟩ = some (.float .f32 (h i))
/-- A list of n faults: empty, or known cell by cell. -/
def FauL (w : World) (a : Option Addr) (n : Nat) (A B C D : Nat → Int) (h : Nat → Nat) : Prop := n = 0 ∨ ∃ b off, a = some ⟨b, off, none⟩ ∧ FausAt w b off n A B C D h

theorem FausAt.stay {w w' : World} {b off n : Nat} {A B C D : Nat → Int} {h : Nat → Nat} (L : FausAt w b off n A B C D h) (hb : Below w.heap.size w w') : FausAt w' b off n A B C D h := fun i hi => by
  obtain ⟨l0, l1, l2, l3, l4⟩ := L i hi
  have z : b < w.heap.size := World.block_lt_of_cell? w _ l0
  exact ⟨(Below.cell (p := ⟨b, off + i * 5, none⟩) hb z).trans l0, (Below.cell (p := ⟨b, off + i * 5 + 1, none⟩) hb z).trans l1, (Below.cell (p := ⟨b, off + i * 5 + 2, none⟩) hb z).trans l2, (Below.cell (p := ⟨b, off + i * 5 + 3, none⟩) hb z).trans l3, (Below.cell (p := ⟨b, off + i * 5 + 4, none⟩) hb z).trans l4⟩
theorem FauL.stay {w w' : World} {a : Option Addr} {n : Nat} {A B C D : Nat → Int} {h : Nat → Nat} (L : FauL w a n A B C D h) (hb : Below w.heap.size w w') : FauL w' a n A B C D h :=
  L.imp id fun ⟨b, off, e, l⟩ => ⟨b, off, e, l.stay hb⟩

/-- What the faults of a list throw at a place. -/
def fauF (A B C D : Nat → Int) (h : Nat → Nat) (x y : Int) (i : Nat) : Nat := thrW (fauK (A i) (B i) (C i) x y) (lenW (A i) (B i) 0) (D i) (h i)
theorem fauF_bd {A B C D : Nat → Int} {h : Nat → Nat} {x y : Int} {n : Nat} (K : ∀ i, i < n → FauOk (A i) (B i) (C i) (D i) (h i)) (x1 : -8388608 ≤ x) (x2 : x ≤ 8388608) (y1 : -8388608 ≤ y) (y2 : y ≤ 8388608) : ∀ i, i < n → Bd 20 (fauF A B C D h x y i) := fun i hi =>
  thr_bd (fauK_in (K i hi).a1 (K i hi).b1 (K i hi).c1 (K i hi).c2 x1 x2 y1 y2) (len_in (K i hi).a1 (K i hi).b1 (K i hi).sq) (K i hi).p1 (K i hi).p2 (K i hi).hh

abbrev fausV (a : Option Addr) (n cap : Nat) : Value := .slice a n cap
abbrev fausO (a : Option Addr) (n cap : Nat) : Obj := .cells #[.slice a n cap] 53
abbrev throwO : Obj := .cells #[.func (.func 129) #[] #[]] 149

theorem enters_bentFault1 : Enters 198 := by intro args W; simp [callFunc, Try.func198, Try.f198]

set_option maxHeartbeats 2000000 in
set_option maxRecDepth 100000 in
theorem bentFault1_any (a : Option Addr) (n cap : Nat) (A B C D : Nat → Int) (h : Nat → Nat) (v : Nat) (x y : Int) (p q : Nat) (w : World) (hp : w.heap[p]? = some (fausO a n cap)) (hq : w.heap[q]? = some throwO) (L : FauL w a n A B C D h) (hn : n ≤ 100)
    (K : ∀ i, i < n → FauOk (A i) (B i) (C i) (D i) (h i)) (hv : hgtB v = true) (x1 : -8388608 ≤ x) (x2 : x ≤ 8388608) (y1 : -8388608 ≤ y) (y2 : y ≤ 8388608) :
    Calls Try.prog 198 #[.float .f32 v, .int .i64 x, .int .i64 y, .pointer (some ⟨p, 0, none⟩), .pointer (some ⟨q, 0, none⟩)] w fun e w' => e = .returned (.float .f32 (accW v (fauF A B C D h x y) n)) ∧ Below w.heap.size w w' := by
  have hsf := fun (w : World) (a : Addr) (m : Mode) (k : FloatKind) (b : Nat) => run_store_float (P := Try.prog) (w := w) (a := a) (m := m) k b
  have LI := Lib.hid (fun i (hi : i < n) w => throw_any (A i) (B i) (C i) (D i) (h i) x y w (K i hi) x1 x2 y1 y2)
  have ST := Lib.hid (fun j (hj : j < n) => acc_step (hgt_bd hv) hn hj (fauF_bd (x := x) (y := y) K x1 x2 y1 y2))
  have HL := Lib.hid L
  have HQ := Lib.hid hq
  obtain ⟨cP, fP, zP⟩ := blkC hp
  have zQ := (blkC hq).2.2
  obtain ⟨F, hF⟩ : ∃ F, fauF A B C D h x y = F := ⟨_, rfl⟩
  have FF := Lib.hid (show ∀ i, thrW (fauK (A i) (B i) (C i) x y) (lenW (A i) (B i) 0) (D i) (h i) = F i from fun i => by rw [← hF]; rfl)
  rw [hF] at ST ⊢
  clear hp hq L K hv hF x1 x2 y1 y2
  go_enter Try.func198, Try.ntmps198
  go_wp2
  go_loopw [0, 13] (fun u i wr => ∃ j : Nat, j ≤ n ∧ u = .float .f32 (accW v F j) ∧ i = .int .i64 j ∧ Below w.heap.size w wr) (fun _ i _ => n - (intOf i).toNat)
  case atStart => exact ⟨0, by omega, rfl, rfl, Below.refl _ _⟩
  case round =>
    obtain ⟨j, hj, rfl, rfl, hb⟩ := hrel
    by_cases c : j < n
    · have HB := Lib.hid hb
      rcases HL.out.stay hb with z | ⟨b, off, rfl, l⟩
      · omega
      obtain ⟨l0, l1, l2, l3, l4⟩ := l j c
      obtain ⟨r, r1, _, er, _⟩ := ST.out j c
      have e1 := fun (W : World) => run_float_arith (P := Try.prog) W .add 22 .f32 (accW v F j) (F j) r r1
      have L1 := Lib.hid (fun w => LI.out j c w)
      rw [FF.out j] at L1
      have ER := Lib.hid er
      obtain ⟨cQ, fQ, zQ2⟩ := blkC (blkStay HQ.out hb)
      generalize accW v F j = u at *
      clear l er hb r1
      go_wp2_with (first | (go_at_call 129; refine (L1.out _).mono ?_; rintro e' w4 ⟨rfl, hb4⟩; have hB4 : Below wr.heap.size wr w4 := Below.trans (by repeat (first | exact Below.refl _ _ | refine Below.alloc ?_ (by first | omega | (simp; done) | (simp; omega)) _ | refine Below.setCell ?_ (by first | omega | (simp; done) | (simp; omega)) _ | refine Below.drew ?_)) (Below.mono hb4 (by simp)); have HB4 := Lib.hid (HB.out.trans (hB4.mono HB.out.size)); clear hb4 hB4))
      go_roundw
      case rel => exact ⟨j + 1, by omega, by rw [ER.out], by go_num, HB4.out⟩
      case measure => simp [intOf]; omega
    · have : j = n := by omega
      subst this
      go_wp2
      go_ret
      exact ⟨rfl, hb⟩
end Go.Proofs.Ytmbiohopcfglcaa

/- What the reference's faults make of a cell. -/
namespace Go.Proofs.Ytmbiohopcfglcaa
open Go.RowKit Fl
set_option linter.unusedVariables false

theorem enters_rFaults1 : Enters 130 := by intro args W; simp [callFunc, Try.func130, Try.f130]

set_option maxHeartbeats 4000000 in
set_option maxRecDepth 100000 in
theorem rFaults1_any (X Y : Int) (W H m b cap : Nat) (v : Nat → Nat) (a : Option Addr) (n lcap : Nat) (A B C D : Nat → Int) (h : Nat → Nat) (p q : Nat) (w : World) (hp : w.heap[p]? = some (fldO X Y W H (.slice (some ⟨b, 0, none⟩) m cap))) (hq : w.heap[q]? = some (fausO a n lcap)) (hc : FlAt w b 0 m v)
    (hh : allB m (fun i => hgtB (v i)) = true) (L : FauL w a n A B C D h) (hn : n ≤ 100) (K : ∀ i, i < n → FauOk (A i) (B i) (C i) (D i) (h i)) (h0 : checkR X Y W H = 0) (hnn : m = H * W) :
    Clos2 130 #[.pointer (some ⟨p, 0, none⟩), .pointer (some ⟨q, 0, none⟩)] X Y W H (fun i => accW (v i) (fauF A B C D h (X + ((i % W : Nat) : Int)) (Y + ((i / W : Nat) : Int))) n) w := by
  intro x y i w2 h1 h2 h3 h4 h5 hb
  obtain ⟨b1, b2, b3, b4, b5, b6, b7, b8, b9⟩ := checkR_zero h0
  have hm : m ≤ 65536 := by
    have : ((W : Int) * (H : Int)) = (m : Int) := by rw [hnn, Nat.mul_comm]; simp
    omega
  have hi' : i < m := num_lt (by omega) h1 h2 h4 h5 hnn
  have hv := allB_iff.1 hh i hi'
  have hrow := flAt_congr hc (hb.block b (World.block_lt_of_cell? w _ (hc i hi')))
  have AT := Lib.hid (fun W' (hb : Below w2.heap.size w2 W') => refAt_any X Y W H m b cap i v x y W' (by omega) (by omega) (by omega) (by omega) (by omega) (by omega) (by omega) h1 h2 h3 h4 h5 hi' hm (flAt_congr hrow (hb.block _ (World.block_lt_of_cell? w2 _ (hrow i hi')))))
  obtain ⟨ex, ey⟩ := place_of (show 1 ≤ W by omega) h1 h2 h3 h5
  simp only [ex, ey]
  have LI := Lib.hid (fun i (hi : i < n) w => rthrow_any (A i) (B i) (C i) (D i) (h i) x y w (K i hi) (by omega) (by omega) (by omega) (by omega))
  have ST := Lib.hid (fun j (hj : j < n) => acc_step (hgt_bd hv) hn hj (fauF_bd (x := x) (y := y) K (by omega) (by omega) (by omega) (by omega)))
  have hsf := fun (w : World) (a : Addr) (m : Mode) (k : FloatKind) (b : Nat) => run_store_float (P := Try.prog) (w := w) (a := a) (m := m) k b
  have HL := Lib.hid (L.stay hb)
  have GF := Lib.hid (blkStay hp hb)
  have GQ := Lib.hid (blkStay hq hb)
  obtain ⟨cF, fF, zF⟩ := blkC GF.out
  have zQ := (blkC GQ.out).2.2
  obtain ⟨F, hF⟩ : ∃ F, fauF A B C D h x y = F := ⟨_, rfl⟩
  have FF := Lib.hid (show ∀ i, thrW (fauK (A i) (B i) (C i) x y) (lenW (A i) (B i) 0) (D i) (h i) = F i from fun i => by rw [← hF]; rfl)
  rw [hF] at ST ⊢
  generalize v i = vi at *
  clear hb h1 h2 h3 h4 h5 b1 b2 b3 b4 b5 b6 b7 b8 b9 hnn hh h0 hi' hm hrow hp hq hc K L hv ex ey hF
  go_enter Try.func130, Try.ntmps130
  go_wp2_with (first | (go_at_call 96; refine (AT.out _ (by repeat (first | exact Below.refl _ _ | refine Below.alloc ?_ (by first | omega | (simp; done) | (simp; omega)) _ | refine Below.setCell ?_ (by first | omega | (simp; done) | (simp; omega)) _ | refine Below.drew ?_))).mono ?_; rintro e w3 ⟨rfl, hw3⟩; have hb3 : Below w2.heap.size w2 w3 := (by rw [← hw3]; exact (by repeat (first | exact Below.refl _ _ | refine Below.alloc ?_ (by first | omega | (simp; done) | (simp; omega)) _ | refine Below.setCell ?_ (by first | omega | (simp; done) | (simp; omega)) _ | refine Below.drew ?_))); have HB3 := Lib.hid hb3; clear cF fF zF; clear hw3; obtain ⟨cQ, fQ, zQ3⟩ := blkC (blkStay GQ.out hb3); clear hb3))
  go_loopw [7, 16] (fun u i wr => ∃ j : Nat, j ≤ n ∧ u = .float .f32 (accW vi F j) ∧ i = .int .i64 j ∧ Below w2.heap.size w2 wr) (fun _ i _ => n - (intOf i).toNat)
  case atStart => exact ⟨0, by omega, rfl, rfl, HB3.out⟩
  case round =>
    obtain ⟨j, hj, rfl, rfl, hb⟩ := hrel
    by_cases c : j < n
    · have HB := Lib.hid hb
      rcases HL.out.stay hb with z | ⟨b, off, rfl, l⟩
      · omega
      obtain ⟨l0, l1, l2, l3, l4⟩ := l j c
      obtain ⟨r, r1, rs, er, _⟩ := ST.out j c
      have AD := Lib.hid (fun w => refAdd_any _ (accW vi F j) (F j) r rs r1 w)
      have L1 := Lib.hid (fun w => LI.out j c w)
      rw [FF.out j] at L1
      have ER := Lib.hid er
      generalize accW vi F j = u at *
      clear l er hb r1 rs cQ fQ zQ3
      go_wp2_with (first | (go_at_call 131; refine (L1.out _).mono ?_; rintro e' w4 ⟨rfl, hb4⟩; have hB4 : Below wr.heap.size wr w4 := Below.trans (by repeat (first | exact Below.refl _ _ | refine Below.alloc ?_ (by first | omega | (simp; done) | (simp; omega)) _ | refine Below.setCell ?_ (by first | omega | (simp; done) | (simp; omega)) _ | refine Below.drew ?_)) (Below.mono hb4 (by simp)); have HB4 := Lib.hid (HB.out.trans (hB4.mono HB.out.size)); clear hb4 hB4) | (go_at_call 95; refine (AD.out _).mono ?_; rintro e' w' ⟨rfl, rfl⟩))
      go_roundw
      case rel => exact ⟨j + 1, by omega, by rw [ER.out], by go_num, HB4.out⟩
      case measure => simp [intOf]; omega
    · have : j = n := by omega
      subst this
      go_wp2
      go_ret
      exact ⟨rfl, hb⟩
end Go.Proofs.Ytmbiohopcfglcaa

/- Folds of the program, of a right field. -/
namespace Go.Proofs.Ytmbiohopcfglcaa
open Go.RowKit Fl
set_option linter.unusedVariables false

/-- What the folds of a list make of a field. -/
def bndF (v : Nat → Nat) (A B P : Nat → Int) (h : Nat → Nat) (n : Nat) (X Y : Int) (W : Nat) (i : Nat) : Nat := accW (v i) (folF A B P h (X + ((i % W : Nat) : Int)) (Y + ((i / W : Nat) : Int))) n
/-- The error of a list of n, er being the first one of its folds. -/
def bndE (n : Nat) (er : Int) : Int := if 100 < n then 4 else er

set_option maxHeartbeats 4000000 in
set_option maxRecDepth 100000 in
theorem bentFold_any (X Y : Int) (W H m b cap : Nat) (v : Nat → Nat) (a : Option Addr) (n lcap : Nat) (A B P : Nat → Int) (h : Nat → Nat) (er : Int) (w : World) (h0 : checkR X Y W H = 0) (hm : m = W * H) (hc : FlAt w b 0 m v) (hh : allB m (fun i => hgtB (v i)) = true)
    (L : FolL w a n A B P h) (hl : n ≤ 9223372036854775807) (E : LstE n (fun i => folE (A i) (B i) (P i) (h i)) er) :
    Calls Try.prog 134 #[fldV X Y W H (.slice (some ⟨b, 0, none⟩) m cap), .slice a n lcap, .func (.func 46) #[] #[], .func (.func 135) #[] #[]] w (ScPost w X Y W H m (bndF v A B P h n X Y W) (bndE n er)) := by
  obtain ⟨b1, b2, b3, b4, b5, b6, b7, b8, b9⟩ := checkR_zero h0
  have hnn : m = H * W := by rw [hm]; exact Nat.mul_comm _ _
  have h1 : 1 ≤ m := by rw [hm]; exact Nat.mul_pos (by omega) (by omega)
  have hlt : b < w.heap.size := World.block_lt_of_cell? w _ (hc 0 h1)
  have CK := Lib.hid (fun W' (hb : Below w.heap.size w W') => check_ok X Y W H m b cap v W' h0 hm (flAt_congr hc (hb.block _ hlt)) hh)
  have hsf := fun (w : World) (a : Addr) (m : Mode) (k : FloatKind) (b : Nat) => run_store_float (P := Try.prog) (w := w) (a := a) (m := m) k b
  unfold bndE
  by_cases cn : 100 < n
  · rw [if_pos cn]
    have cn' : decide ((100 : Int) < (n : Int)) = true := by simp; omega
    clear hc hh h0 hm hnn h1 b1 b2 b3 b4 b5 b6 b7 b8 b9 E L cn
    go_enter Try.func134, Try.ntmps134
    go_wp2_with (first | (go_at_call 90; refine (CK.out _ (by repeat (first | exact Below.refl _ _ | refine Below.alloc ?_ (by first | omega | (simp; done) | (simp; omega)) _ | refine Below.setCell ?_ (by first | omega | (simp; done) | (simp; omega)) _ | refine Below.drew ?_))).mono ?_; rintro e w2 ⟨rfl, hb2⟩; have HL2 := Lib.hid (blkStay (b := w.heap.size + 1) (o := folsO a n lcap) (by (first | (rw [heap_alloc_get, if_pos rfl]; done) | ((simp only [heap_alloc_get, heap_size_alloc, if_true]) <;> ((repeat' split) <;> first | rfl | omega)))) hb2); have HS2 := Lib.hid (blkStay (b := w.heap.size + 1 + 1 + 1) (o := fldO 0 0 0 0 (.slice none 0 0)) (by (first | (rw [heap_alloc_get, if_pos rfl]; done) | ((simp only [heap_alloc_get, heap_size_alloc, if_true]) <;> ((repeat' split) <;> first | rfl | omega)))) hb2); have hB2 : Below w.heap.size w w2 := Below.trans (by repeat (first | exact Below.refl _ _ | refine Below.alloc ?_ (by first | omega | (simp; done) | (simp; omega)) _ | refine Below.setCell ?_ (by first | omega | (simp; done) | (simp; omega)) _ | refine Below.drew ?_)) (Below.mono hb2 (by first | omega | (simp; done) | (simp; omega))); obtain ⟨cL, fL, zL⟩ := blkC HL2.out; obtain ⟨cS, fS, zS⟩ := blkC HS2.out; clear hb2))
    refine bodyPost_ret (v := .tuple #[fldV 0 0 0 0 (.slice none 0 0), .int .i64 4]) (by simp [results, Try.results134, go_sem, cS]) rfl ?_
    exact .inl ⟨by decide, rfl, set5_below hB2 _ _ _ _ _ _ (by omega)⟩
  · rw [if_neg cn]
    have cn' : decide ((100 : Int) < (n : Int)) = false := by simp; omega
    have hn : n ≤ 100 := by omega
    have HC := Lib.hid hc
    have HL := Lib.hid L
    have EE := Lib.hid E
    have CF := Lib.hid (fun i w => checkFold_any (A i) (B i) (P i) (h i) w)
    have RM := Lib.hid (fun (hz : ∀ i, i < n → folE (A i) (B i) (P i) (h i) = 0) W' p (k1 : W'.heap[p + 1]? = some (folsO a n lcap)) (k2 : W'.heap[p + 1 + 1]? = some liftO) (hc' : FlAt W' b 0 m v) (L' : FolL W' a n A B P h) =>
      remade_any X Y W H m b cap v (bndF v A B P h n X Y W) 199 #[.pointer (some ⟨p + 1, 0, none⟩), .pointer (some ⟨p + 1 + 1, 0, none⟩)] W' enters_bentFold1
        (fun x y i W'' h1 h2 h3 h4 h5 hb => (bentFold1_any a n lcap A B P h (v i) x y (p + 1) (p + 1 + 1) W'' (blkStay k1 hb) (blkStay k2 hb) (L'.stay hb) hn (fun i hi => fol_ok (hz i hi)) (allB_iff.1 hh i (num_lt (by omega) h1 h2 h4 h5 hnn)) (by omega) (by omega) (by omega) (by omega)).mono fun e W3 h => ⟨by
          obtain ⟨ex, ey⟩ := place_of (show 1 ≤ W by omega) h1 h2 h3 h5
          unfold bndF; rw [ex, ey]; exact h.1, h.2⟩) h0 hnn hc')
    clear hc hh h0 hm hnn h1 b1 b2 b3 b4 b5 b6 b7 b8 b9 E L cn hl
    go_enter Try.func134, Try.ntmps134
    go_wp2_with (first | (go_at_call 90; refine (CK.out _ (by repeat (first | exact Below.refl _ _ | refine Below.alloc ?_ (by first | omega | (simp; done) | (simp; omega)) _ | refine Below.setCell ?_ (by first | omega | (simp; done) | (simp; omega)) _ | refine Below.drew ?_))).mono ?_; rintro e w2 ⟨rfl, hb2⟩; have HF2 := Lib.hid (blkStay (b := w.heap.size) (o := fldO X Y W H (.slice (some ⟨b, 0, none⟩) m cap)) (by (first | (rw [heap_alloc_get, if_pos rfl]; done) | ((simp only [heap_alloc_get, heap_size_alloc, if_true]) <;> ((repeat' split) <;> first | rfl | omega)))) hb2); have HL2 := Lib.hid (blkStay (b := w.heap.size + 1) (o := folsO a n lcap) (by (first | (rw [heap_alloc_get, if_pos rfl]; done) | ((simp only [heap_alloc_get, heap_size_alloc, if_true]) <;> ((repeat' split) <;> first | rfl | omega)))) hb2); have HT2 := Lib.hid (blkStay (b := w.heap.size + 1 + 1) (o := liftO) (by (first | (rw [heap_alloc_get, if_pos rfl]; done) | ((simp only [heap_alloc_get, heap_size_alloc, if_true]) <;> ((repeat' split) <;> first | rfl | omega)))) hb2); have HS2 := Lib.hid (blkStay (b := w.heap.size + 1 + 1 + 1) (o := fldO 0 0 0 0 (.slice none 0 0)) (by (first | (rw [heap_alloc_get, if_pos rfl]; done) | ((simp only [heap_alloc_get, heap_size_alloc, if_true]) <;> ((repeat' split) <;> first | rfl | omega)))) hb2); have hB2 : Below w.heap.size w w2 := Below.trans (by repeat (first | exact Below.refl _ _ | refine Below.alloc ?_ (by first | omega | (simp; done) | (simp; omega)) _ | refine Below.setCell ?_ (by first | omega | (simp; done) | (simp; omega)) _ | refine Below.drew ?_)) (Below.mono hb2 (by first | omega | (simp; done) | (simp; omega))); obtain ⟨cL, fL, zL⟩ := blkC HL2.out; clear hb2))
    have HB2 := Lib.hid hB2
    have zS2 := (blkC HS2.out).2.2
    clear hB2
    go_loopw [26] (fun i wr => ∃ j : Nat, j ≤ n ∧ i = .int .i64 j ∧ (∀ i, i < j → folE (A i) (B i) (P i) (h i) = 0) ∧ Below w2.heap.size w2 wr) (fun i _ => n - (intOf i).toNat)
    case atStart => exact ⟨0, by omega, rfl, fun i hi => by omega, Below.refl _ _⟩
    case round =>
      obtain ⟨j, hj, rfl, hz, hb⟩ := hrel
      have HZ := Lib.hid hz
      have HB := Lib.hid hb
      clear cL fL zL hz
      by_cases c : j < n
      · rcases HL.out.stay (HB2.out.trans (hb.mono HB2.out.size)) with z | ⟨b', off, rfl, l⟩
        · omega
        obtain ⟨l0, l1, l2, l3⟩ := l j c
        have C1 := Lib.hid (fun w => CF.out j w)
        obtain ⟨ej, hej⟩ : ∃ ej, folE (A j) (B j) (P j) (h j) = ej := ⟨_, rfl⟩
        rw [hej] at C1
        have HE := Lib.hid hej
        clear l hb hej
        by_cases c0 : ej = 0
        · subst c0
          go_wp2_with (first | (go_at_call 46; refine (C1.out _).mono ?_; rintro e' w4 ⟨rfl, hb4⟩; have hB4 : Below wr.heap.size wr w4 := Below.trans (by repeat (first | exact Below.refl _ _ | refine Below.alloc ?_ (by first | omega | (simp; done) | (simp; omega)) _ | refine Below.setCell ?_ (by first | omega | (simp; done) | (simp; omega)) _ | refine Below.drew ?_)) (Below.mono hb4 (by simp)); have HB4 := Lib.hid (HB.out.trans (hB4.mono HB.out.size)); clear hb4 hB4))
          go_roundw
          case rel => exact ⟨j + 1, by omega, by go_num, (fun i hi => by
            rcases Nat.lt_or_ge i j with q | q
            · exact HZ.out i q
            · rw [show i = j by omega]; exact HE.out), HB4.out⟩
          case measure => simp [intOf]; omega
        · have cz : (ej != 0) = true := by simp [c0]
          have C0 := Lib.hid c0
          clear c0
          go_wp2_with (first | (go_at_call 46; refine (C1.out _).mono ?_; rintro e' w4 ⟨rfl, hb4⟩; have hB4 : Below wr.heap.size wr w4 := Below.trans (by repeat (first | exact Below.refl _ _ | refine Below.alloc ?_ (by first | omega | (simp; done) | (simp; omega)) _ | refine Below.setCell ?_ (by first | omega | (simp; done) | (simp; omega)) _ | refine Below.drew ?_)) (Below.mono hb4 (by simp)); have HB4 := Lib.hid (HB.out.trans (hB4.mono HB.out.size)); clear hb4 hB4; obtain ⟨cS, fS, zS⟩ := blkC (blkStay HS2.out HB4.out)))
          refine bodyPost_ret (v := .tuple #[fldV 0 0 0 0 (.slice none 0 0), .int .i64 ej]) (by simp [results, Try.results134, go_sem, cS]) rfl ?_
          have e := EE.out.at HZ.out c (by show folE (A j) (B j) (P j) (h j) ≠ 0; rw [HE.out]; exact C0.out)
          have e' : ej = er := by rw [← HE.out]; exact e
          have z2 := HB2.out.size
          exact .inl ⟨by rw [← e']; exact C0.out, by rw [e'], set5_below (HB2.out.trans (HB4.out.mono z2)) _ _ _ _ _ _ (by omega)⟩
      · have : j = n := by omega
        subst this
        have e0 := EE.out.zero HZ.out
        subst e0
        obtain ⟨cF, fF, zF⟩ := blkC (blkStay HF2.out hb)
        have hb2 := HB2.out.trans (hb.mono HB2.out.size)
        have RX := Lib.hid (RM.out HZ.out wr w.heap.size (blkStay HL2.out hb) (blkStay HT2.out hb) (flAt_congr HC.out (hb2.block _ hlt)) (HL.out.stay hb2))
        have HS := Lib.hid (blkStay HS2.out hb)
        have HX := Lib.hid hb2
        clear hb hb2
        go_wp2_with fail
        clear cF fF zF
        refine RX.out.mono ?_
        intro e w4 hmade
        rcases hmade with ⟨hall, b', cap', rfl, hb', hlt', hrow, hbel⟩ | ⟨hall, rfl, hbel⟩
        · obtain ⟨cS, fS, zS4⟩ := blkC (blkStay HS.out hbel)
          have zS3 := (blkC HS.out).2.2
          have HB' := Lib.hid hb'
          clear hb'
          go_wp2
          refine bodyPost_ret (v := .tuple #[fldV X Y W H (.slice (some ⟨b', 0, none⟩) m cap'), .int .i64 0]) (by simp [results, Try.results134, go_sem, cS]) rfl ?_
          have z3 := HX.out.size
          have hb' := HB'.out
          exact .inr ⟨rfl, .inl ⟨hall, b', cap', rfl, by omega, by rw [set5_size]; exact hlt', flAt_congr hrow (set5_heap w4 _ _ _ _ _ _ _ (by omega)), set5_below (HX.out.trans (hbel.mono z3)) _ _ _ _ _ _ (by omega)⟩⟩
        · obtain ⟨cS, fS, zS4⟩ := blkC (blkStay HS.out hbel)
          go_wp2
          refine bodyPost_ret (v := .tuple #[fldV 0 0 0 0 (.slice none 0 0), .int .i64 3]) (by simp [results, Try.results134, go_sem, cS]) rfl ?_
          have z3 := HX.out.size
          exact .inr ⟨rfl, .inr ⟨hall, rfl, set5_below (HX.out.trans (hbel.mono z3)) _ _ _ _ _ _ (by omega)⟩⟩

set_option maxHeartbeats 1000000 in
theorem folds_any (X Y : Int) (W H m b cap : Nat) (v : Nat → Nat) (a : Option Addr) (n lcap : Nat) (A B P : Nat → Int) (h : Nat → Nat) (er : Int) (w : World) (h0 : checkR X Y W H = 0) (hm : m = W * H) (hc : FlAt w b 0 m v) (hh : allB m (fun i => hgtB (v i)) = true)
    (L : FolL w a n A B P h) (hl : n ≤ 9223372036854775807) (E : LstE n (fun i => folE (A i) (B i) (P i) (h i)) er) :
    Calls Try.prog 42 #[fldV X Y W H (.slice (some ⟨b, 0, none⟩) m cap), .slice a n lcap] w (ScPost w X Y W H m (bndF v A B P h n X Y W) (bndE n er)) := by
  have h1 : 1 ≤ m := by
    obtain ⟨b1, b2, b3, b4, b5, b6, b7, b8, b9⟩ := checkR_zero h0
    rw [hm]; exact Nat.mul_pos (by omega) (by omega)
  have hlt : b < w.heap.size := World.block_lt_of_cell? w _ (hc 0 h1)
  have BT := Lib.hid (fun W' (hb : Below w.heap.size w W') => bentFold_any X Y W H m b cap v a n lcap A B P h er W' h0 hm (flAt_congr hc (hb.block _ hlt)) hh (L.stay hb) hl E)
  generalize bndF v A B P h n X Y W = F at *
  generalize bndE n er = er' at *
  clear h0 hm hc hh L hl E h1 hlt
  go_enter Try.func42, Try.ntmps42
  go_wp2_with fail
  refine (BT.out _ (by repeat (first | exact Below.refl _ _ | refine Below.alloc ?_ (by first | omega | (simp; done) | (simp; omega)) _ | refine Below.setCell ?_ (by first | omega | (simp; done) | (simp; omega)) _ | refine Below.drew ?_))).mono ?_
  intro e w4 hp
  rcases hp with ⟨ne, rfl, hbel⟩ | ⟨rfl, ⟨hall, b', cap', rfl, hb', hlt', hrow, hbel⟩ | ⟨hall, rfl, hbel⟩⟩
  · have hS := Lib.hid (blkStay (b := w.heap.size + 1) (o := fldO 0 0 0 0 (.slice none 0 0)) (by (first | (rw [heap_alloc_get, if_pos rfl]; done) | ((simp only [heap_alloc_get, heap_size_alloc, if_true]) <;> ((repeat' split) <;> first | rfl | omega)))) hbel)
    have hB : Below w.heap.size w w4 := Below.trans (by repeat (first | exact Below.refl _ _ | refine Below.alloc ?_ (by first | omega | (simp; done) | (simp; omega)) _ | refine Below.setCell ?_ (by first | omega | (simp; done) | (simp; omega)) _ | refine Below.drew ?_)) (Below.mono hbel (by simp; omega))
    obtain ⟨cS, fS, zS⟩ := blkC hS.out
    go_wp2
    refine bodyPost_ret (v := .tuple #[fldV 0 0 0 0 (.slice none 0 0), .int .i64 er']) (by simp [results, Try.results42, go_sem, cS]) rfl ?_
    exact .inl ⟨ne, rfl, set5_below hB _ _ _ _ _ _ (by omega)⟩
  · have hS := Lib.hid (blkStay (b := w.heap.size + 1) (o := fldO 0 0 0 0 (.slice none 0 0)) (by (first | (rw [heap_alloc_get, if_pos rfl]; done) | ((simp only [heap_alloc_get, heap_size_alloc, if_true]) <;> ((repeat' split) <;> first | rfl | omega)))) hbel)
    have hB : Below w.heap.size w w4 := Below.trans (by repeat (first | exact Below.refl _ _ | refine Below.alloc ?_ (by first | omega | (simp; done) | (simp; omega)) _ | refine Below.setCell ?_ (by first | omega | (simp; done) | (simp; omega)) _ | refine Below.drew ?_)) (Below.mono hbel (by simp; omega))
    obtain ⟨cS, fS, zS⟩ := blkC hS.out
    have HB := Lib.hid hb'
    clear hb'
    go_wp2
    refine bodyPost_ret (v := .tuple #[fldV X Y W H (.slice (some ⟨b', 0, none⟩) m cap'), .int .i64 0]) (by simp [results, Try.results42, go_sem, cS]) rfl ?_
    have hb' := HB.out
    simp only [heap_size_alloc] at hb'
    exact .inr ⟨rfl, .inl ⟨hall, b', cap', rfl, by omega, by rw [set5_size]; exact hlt', flAt_congr hrow (set5_heap w4 _ _ _ _ _ _ _ (by omega)), set5_below hB _ _ _ _ _ _ (by omega)⟩⟩
  · have hS := Lib.hid (blkStay (b := w.heap.size + 1) (o := fldO 0 0 0 0 (.slice none 0 0)) (by (first | (rw [heap_alloc_get, if_pos rfl]; done) | ((simp only [heap_alloc_get, heap_size_alloc, if_true]) <;> ((repeat' split) <;> first | rfl | omega)))) hbel)
    have hB : Below w.heap.size w w4 := Below.trans (by repeat (first | exact Below.refl _ _ | refine Below.alloc ?_ (by first | omega | (simp; done) | (simp; omega)) _ | refine Below.setCell ?_ (by first | omega | (simp; done) | (simp; omega)) _ | refine Below.drew ?_)) (Below.mono hbel (by simp; omega))
    obtain ⟨cS, fS, zS⟩ := blkC hS.out
    go_wp2
    refine bodyPost_ret (v := .tuple #[fldV 0 0 0 0 (.slice none 0 0), .int .i64 3]) (by simp [results, Try.results42, go_sem, cS]) rfl ?_
    exact .inr ⟨rfl, .inr ⟨hall, rfl, set5_below hB _ _ _ _ _ _ (by omega)⟩⟩
end Go.Proofs.Ytmbiohopcfglcaa

/- Faults of the program, of a right field. -/
namespace Go.Proofs.Ytmbiohopcfglcaa
open Go.RowKit Fl
set_option linter.unusedVariables false

/-- What the faults of a list make of a field. -/
def bnuF (v : Nat → Nat) (A B C D : Nat → Int) (h : Nat → Nat) (n : Nat) (X Y : Int) (W : Nat) (i : Nat) : Nat := accW (v i) (fauF A B C D h (X + ((i % W : Nat) : Int)) (Y + ((i / W : Nat) : Int))) n
set_option maxHeartbeats 4000000 in
set_option maxRecDepth 100000 in
theorem bentFault_any (X Y : Int) (W H m b cap : Nat) (v : Nat → Nat) (a : Option Addr) (n lcap : Nat) (A B C D : Nat → Int) (h : Nat → Nat) (er : Int) (w : World) (h0 : checkR X Y W H = 0) (hm : m = W * H) (hc : FlAt w b 0 m v) (hh : allB m (fun i => hgtB (v i)) = true)
    (L : FauL w a n A B C D h) (hl : n ≤ 9223372036854775807) (E : LstE n (fun i => fauE (A i) (B i) (C i) (D i) (h i)) er) :
    Calls Try.prog 128 #[fldV X Y W H (.slice (some ⟨b, 0, none⟩) m cap), .slice a n lcap, .func (.func 40) #[] #[], .func (.func 129) #[] #[]] w (ScPost w X Y W H m (bnuF v A B C D h n X Y W) (bndE n er)) := by
  obtain ⟨b1, b2, b3, b4, b5, b6, b7, b8, b9⟩ := checkR_zero h0
  have hnn : m = H * W := by rw [hm]; exact Nat.mul_comm _ _
  have h1 : 1 ≤ m := by rw [hm]; exact Nat.mul_pos (by omega) (by omega)
  have hlt : b < w.heap.size := World.block_lt_of_cell? w _ (hc 0 h1)
  have CK := Lib.hid (fun W' (hb : Below w.heap.size w W') => check_ok X Y W H m b cap v W' h0 hm (flAt_congr hc (hb.block _ hlt)) hh)
  have hsf := fun (w : World) (a : Addr) (m : Mode) (k : FloatKind) (b : Nat) => run_store_float (P := Try.prog) (w := w) (a := a) (m := m) k b
  unfold bndE
  by_cases cn : 100 < n
  · rw [if_pos cn]
    have cn' : decide ((100 : Int) < (n : Int)) = true := by simp; omega
    clear hc hh h0 hm hnn h1 b1 b2 b3 b4 b5 b6 b7 b8 b9 E L cn
    go_enter Try.func128, Try.ntmps128
    go_wp2_with (first | (go_at_call 90; refine (CK.out _ (by repeat (first | exact Below.refl _ _ | refine Below.alloc ?_ (by first | omega | (simp; done) | (simp; omega)) _ | refine Below.setCell ?_ (by first | omega | (simp; done) | (simp; omega)) _ | refine Below.drew ?_))).mono ?_; rintro e w2 ⟨rfl, hb2⟩; have HL2 := Lib.hid (blkStay (b := w.heap.size + 1) (o := fausO a n lcap) (by (first | (rw [heap_alloc_get, if_pos rfl]; done) | ((simp only [heap_alloc_get, heap_size_alloc, if_true]) <;> ((repeat' split) <;> first | rfl | omega)))) hb2); have HS2 := Lib.hid (blkStay (b := w.heap.size + 1 + 1 + 1) (o := fldO 0 0 0 0 (.slice none 0 0)) (by (first | (rw [heap_alloc_get, if_pos rfl]; done) | ((simp only [heap_alloc_get, heap_size_alloc, if_true]) <;> ((repeat' split) <;> first | rfl | omega)))) hb2); have hB2 : Below w.heap.size w w2 := Below.trans (by repeat (first | exact Below.refl _ _ | refine Below.alloc ?_ (by first | omega | (simp; done) | (simp; omega)) _ | refine Below.setCell ?_ (by first | omega | (simp; done) | (simp; omega)) _ | refine Below.drew ?_)) (Below.mono hb2 (by first | omega | (simp; done) | (simp; omega))); obtain ⟨cL, fL, zL⟩ := blkC HL2.out; obtain ⟨cS, fS, zS⟩ := blkC HS2.out; clear hb2))
    refine bodyPost_ret (v := .tuple #[fldV 0 0 0 0 (.slice none 0 0), .int .i64 4]) (by simp [results, Try.results128, go_sem, cS]) rfl ?_
    exact .inl ⟨by decide, rfl, set5_below hB2 _ _ _ _ _ _ (by omega)⟩
  · rw [if_neg cn]
    have cn' : decide ((100 : Int) < (n : Int)) = false := by simp; omega
    have hn : n ≤ 100 := by omega
    have HC := Lib.hid hc
    have HL := Lib.hid L
    have EE := Lib.hid E
    have CF := Lib.hid (fun i w => checkFault_any (A i) (B i) (C i) (D i) (h i) w)
    have RM := Lib.hid (fun (hz : ∀ i, i < n → fauE (A i) (B i) (C i) (D i) (h i) = 0) W' p (k1 : W'.heap[p + 1]? = some (fausO a n lcap)) (k2 : W'.heap[p + 1 + 1]? = some throwO) (hc' : FlAt W' b 0 m v) (L' : FauL W' a n A B C D h) =>
      remade_any X Y W H m b cap v (bnuF v A B C D h n X Y W) 198 #[.pointer (some ⟨p + 1, 0, none⟩), .pointer (some ⟨p + 1 + 1, 0, none⟩)] W' enters_bentFault1
        (fun x y i W'' h1 h2 h3 h4 h5 hb => (bentFault1_any a n lcap A B C D h (v i) x y (p + 1) (p + 1 + 1) W'' (blkStay k1 hb) (blkStay k2 hb) (L'.stay hb) hn (fun i hi => fau_ok (hz i hi)) (allB_iff.1 hh i (num_lt (by omega) h1 h2 h4 h5 hnn)) (by omega) (by omega) (by omega) (by omega)).mono fun e W3 h => ⟨by
          obtain ⟨ex, ey⟩ := place_of (show 1 ≤ W by omega) h1 h2 h3 h5
          unfold bnuF; rw [ex, ey]; exact h.1, h.2⟩) h0 hnn hc')
    clear hc hh h0 hm hnn h1 b1 b2 b3 b4 b5 b6 b7 b8 b9 E L cn hl
    go_enter Try.func128, Try.ntmps128
    go_wp2_with (first | (go_at_call 90; refine (CK.out _ (by repeat (first | exact Below.refl _ _ | refine Below.alloc ?_ (by first | omega | (simp; done) | (simp; omega)) _ | refine Below.setCell ?_ (by first | omega | (simp; done) | (simp; omega)) _ | refine Below.drew ?_))).mono ?_; rintro e w2 ⟨rfl, hb2⟩; have HF2 := Lib.hid (blkStay (b := w.heap.size) (o := fldO X Y W H (.slice (some ⟨b, 0, none⟩) m cap)) (by (first | (rw [heap_alloc_get, if_pos rfl]; done) | ((simp only [heap_alloc_get, heap_size_alloc, if_true]) <;> ((repeat' split) <;> first | rfl | omega)))) hb2); have HL2 := Lib.hid (blkStay (b := w.heap.size + 1) (o := fausO a n lcap) (by (first | (rw [heap_alloc_get, if_pos rfl]; done) | ((simp only [heap_alloc_get, heap_size_alloc, if_true]) <;> ((repeat' split) <;> first | rfl | omega)))) hb2); have HT2 := Lib.hid (blkStay (b := w.heap.size + 1 + 1) (o := throwO) (by (first | (rw [heap_alloc_get, if_pos rfl]; done) | ((simp only [heap_alloc_get, heap_size_alloc, if_true]) <;> ((repeat' split) <;> first | rfl | omega)))) hb2); have HS2 := Lib.hid (blkStay (b := w.heap.size + 1 + 1 + 1) (o := fldO 0 0 0 0 (.slice none 0 0)) (by (first | (rw [heap_alloc_get, if_pos rfl]; done) | ((simp only [heap_alloc_get, heap_size_alloc, if_true]) <;> ((repeat' split) <;> first | rfl | omega)))) hb2); have hB2 : Below w.heap.size w w2 := Below.trans (by repeat (first | exact Below.refl _ _ | refine Below.alloc ?_ (by first | omega | (simp; done) | (simp; omega)) _ | refine Below.setCell ?_ (by first | omega | (simp; done) | (simp; omega)) _ | refine Below.drew ?_)) (Below.mono hb2 (by first | omega | (simp; done) | (simp; omega))); obtain ⟨cL, fL, zL⟩ := blkC HL2.out; clear hb2))
    have HB2 := Lib.hid hB2
    have zS2 := (blkC HS2.out).2.2
    clear hB2
    go_loopw [26] (fun i wr => ∃ j : Nat, j ≤ n ∧ i = .int .i64 j ∧ (∀ i, i < j → fauE (A i) (B i) (C i) (D i) (h i) = 0) ∧ Below w2.heap.size w2 wr) (fun i _ => n - (intOf i).toNat)
    case atStart => exact ⟨0, by omega, rfl, fun i hi => by omega, Below.refl _ _⟩
    case round =>
      obtain ⟨j, hj, rfl, hz, hb⟩ := hrel
      have HZ := Lib.hid hz
      have HB := Lib.hid hb
      clear cL fL zL hz
      by_cases c : j < n
      · rcases HL.out.stay (HB2.out.trans (hb.mono HB2.out.size)) with z | ⟨b', off, rfl, l⟩
        · omega
        obtain ⟨l0, l1, l2, l3, l4⟩ := l j c
        have C1 := Lib.hid (fun w => CF.out j w)
        obtain ⟨ej, hej⟩ : ∃ ej, fauE (A j) (B j) (C j) (D j) (h j) = ej := ⟨_, rfl⟩
        rw [hej] at C1
        have HE := Lib.hid hej
        clear l hb hej
        by_cases c0 : ej = 0
        · subst c0
          go_wp2_with (first | (go_at_call 40; refine (C1.out _).mono ?_; rintro e' w4 ⟨rfl, hb4⟩; have hB4 : Below wr.heap.size wr w4 := Below.trans (by repeat (first | exact Below.refl _ _ | refine Below.alloc ?_ (by first | omega | (simp; done) | (simp; omega)) _ | refine Below.setCell ?_ (by first | omega | (simp; done) | (simp; omega)) _ | refine Below.drew ?_)) (Below.mono hb4 (by simp)); have HB4 := Lib.hid (HB.out.trans (hB4.mono HB.out.size)); clear hb4 hB4))
          go_roundw
          case rel => exact ⟨j + 1, by omega, by go_num, (fun i hi => by
            rcases Nat.lt_or_ge i j with q | q
            · exact HZ.out i q
            · rw [show i = j by omega]; exact HE.out), HB4.out⟩
          case measure => simp [intOf]; omega
        · have cz : (ej != 0) = true := by simp [c0]
          have C0 := Lib.hid c0
          clear c0
          go_wp2_with (first | (go_at_call 40; refine (C1.out _).mono ?_; rintro e' w4 ⟨rfl, hb4⟩; have hB4 : Below wr.heap.size wr w4 := Below.trans (by repeat (first | exact Below.refl _ _ | refine Below.alloc ?_ (by first | omega | (simp; done) | (simp; omega)) _ | refine Below.setCell ?_ (by first | omega | (simp; done) | (simp; omega)) _ | refine Below.drew ?_)) (Below.mono hb4 (by simp)); have HB4 := Lib.hid (HB.out.trans (hB4.mono HB.out.size)); clear hb4 hB4; obtain ⟨cS, fS, zS⟩ := blkC (blkStay HS2.out HB4.out)))
          refine bodyPost_ret (v := .tuple #[fldV 0 0 0 0 (.slice none 0 0), .int .i64 ej]) (by simp [results, Try.results128, go_sem, cS]) rfl ?_
          have e := EE.out.at HZ.out c (by show fauE (A j) (B j) (C j) (D j) (h j) ≠ 0; rw [HE.out]; exact C0.out)
          have e' : ej = er := by rw [← HE.out]; exact e
          have z2 := HB2.out.size
          exact .inl ⟨by rw [← e']; exact C0.out, by rw [e'], set5_below (HB2.out.trans (HB4.out.mono z2)) _ _ _ _ _ _ (by omega)⟩
      · have : j = n := by omega
        subst this
        have e0 := EE.out.zero HZ.out
        subst e0
        obtain ⟨cF, fF, zF⟩ := blkC (blkStay HF2.out hb)
        have hb2 := HB2.out.trans (hb.mono HB2.out.size)
        have RX := Lib.hid (RM.out HZ.out wr w.heap.size (blkStay HL2.out hb) (blkStay HT2.out hb) (flAt_congr HC.out (hb2.block _ hlt)) (HL.out.stay hb2))
        have HS := Lib.hid (blkStay HS2.out hb)
        have HX := Lib.hid hb2
        clear hb hb2
        go_wp2_with fail
        clear cF fF zF
        refine RX.out.mono ?_
        intro e w4 hmade
        rcases hmade with ⟨hall, b', cap', rfl, hb', hlt', hrow, hbel⟩ | ⟨hall, rfl, hbel⟩
        · obtain ⟨cS, fS, zS4⟩ := blkC (blkStay HS.out hbel)
          have zS3 := (blkC HS.out).2.2
          have HB' := Lib.hid hb'
          clear hb'
          go_wp2
          refine bodyPost_ret (v := .tuple #[fldV X Y W H (.slice (some ⟨b', 0, none⟩) m cap'), .int .i64 0]) (by simp [results, Try.results128, go_sem, cS]) rfl ?_
          have z3 := HX.out.size
          have hb' := HB'.out
          exact .inr ⟨rfl, .inl ⟨hall, b', cap', rfl, by omega, by rw [set5_size]; exact hlt', flAt_congr hrow (set5_heap w4 _ _ _ _ _ _ _ (by omega)), set5_below (HX.out.trans (hbel.mono z3)) _ _ _ _ _ _ (by omega)⟩⟩
        · obtain ⟨cS, fS, zS4⟩ := blkC (blkStay HS.out hbel)
          go_wp2
          refine bodyPost_ret (v := .tuple #[fldV 0 0 0 0 (.slice none 0 0), .int .i64 3]) (by simp [results, Try.results128, go_sem, cS]) rfl ?_
          have z3 := HX.out.size
          exact .inr ⟨rfl, .inr ⟨hall, rfl, set5_below (HX.out.trans (hbel.mono z3)) _ _ _ _ _ _ (by omega)⟩⟩

set_option maxHeartbeats 1000000 in
theorem faults_any (X Y : Int) (W H m b cap : Nat) (v : Nat → Nat) (a : Option Addr) (n lcap : Nat) (A B C D : Nat → Int) (h : Nat → Nat) (er : Int) (w : World) (h0 : checkR X Y W H = 0) (hm : m = W * H) (hc : FlAt w b 0 m v) (hh : allB m (fun i => hgtB (v i)) = true)
    (L : FauL w a n A B C D h) (hl : n ≤ 9223372036854775807) (E : LstE n (fun i => fauE (A i) (B i) (C i) (D i) (h i)) er) :
    Calls Try.prog 35 #[fldV X Y W H (.slice (some ⟨b, 0, none⟩) m cap), .slice a n lcap] w (ScPost w X Y W H m (bnuF v A B C D h n X Y W) (bndE n er)) := by
  have h1 : 1 ≤ m := by
    obtain ⟨b1, b2, b3, b4, b5, b6, b7, b8, b9⟩ := checkR_zero h0
    rw [hm]; exact Nat.mul_pos (by omega) (by omega)
  have hlt : b < w.heap.size := World.block_lt_of_cell? w _ (hc 0 h1)
  have BT := Lib.hid (fun W' (hb : Below w.heap.size w W') => bentFault_any X Y W H m b cap v a n lcap A B C D h er W' h0 hm (flAt_congr hc (hb.block _ hlt)) hh (L.stay hb) hl E)
  generalize bnuF v A B C D h n X Y W = F at *
  generalize bndE n er = er' at *
  clear h0 hm hc hh L hl E h1 hlt
  go_enter Try.func35, Try.ntmps35
  go_wp2_with fail
  refine (BT.out _ (by repeat (first | exact Below.refl _ _ | refine Below.alloc ?_ (by first | omega | (simp; done) | (simp; omega)) _ | refine Below.setCell ?_ (by first | omega | (simp; done) | (simp; omega)) _ | refine Below.drew ?_))).mono ?_
  intro e w4 hp
  rcases hp with ⟨ne, rfl, hbel⟩ | ⟨rfl, ⟨hall, b', cap', rfl, hb', hlt', hrow, hbel⟩ | ⟨hall, rfl, hbel⟩⟩
  · have hS := Lib.hid (blkStay (b := w.heap.size + 1) (o := fldO 0 0 0 0 (.slice none 0 0)) (by (first | (rw [heap_alloc_get, if_pos rfl]; done) | ((simp only [heap_alloc_get, heap_size_alloc, if_true]) <;> ((repeat' split) <;> first | rfl | omega)))) hbel)
    have hB : Below w.heap.size w w4 := Below.trans (by repeat (first | exact Below.refl _ _ | refine Below.alloc ?_ (by first | omega | (simp; done) | (simp; omega)) _ | refine Below.setCell ?_ (by first | omega | (simp; done) | (simp; omega)) _ | refine Below.drew ?_)) (Below.mono hbel (by simp; omega))
    obtain ⟨cS, fS, zS⟩ := blkC hS.out
    go_wp2
    refine bodyPost_ret (v := .tuple #[fldV 0 0 0 0 (.slice none 0 0), .int .i64 er']) (by simp [results, Try.results35, go_sem, cS]) rfl ?_
    exact .inl ⟨ne, rfl, set5_below hB _ _ _ _ _ _ (by omega)⟩
  · have hS := Lib.hid (blkStay (b := w.heap.size + 1) (o := fldO 0 0 0 0 (.slice none 0 0)) (by (first | (rw [heap_alloc_get, if_pos rfl]; done) | ((simp only [heap_alloc_get, heap_size_alloc, if_true]) <;> ((repeat' split) <;> first | rfl | omega)))) hbel)
    have hB : Below w.heap.size w w4 := Below.trans (by repeat (first | exact Below.refl _ _ | refine Below.alloc ?_ (by first | omega | (simp; done) | (simp; omega)) _ | refine Below.setCell ?_ (by first | omega | (simp; done) | (simp; omega)) _ | refine Below.drew ?_)) (Below.mono hbel (by simp; omega))
    obtain ⟨cS, fS, zS⟩ := blkC hS.out
    have HB := Lib.hid hb'
    clear hb'
    go_wp2
    refine bodyPost_ret (v := .tuple #[fldV X Y W H (.slice (some ⟨b', 0, none⟩) m cap'), .int .i64 0]) (by simp [results, Try.results35, go_sem, cS]) rfl ?_
    have hb' := HB.out
    simp only [heap_size_alloc] at hb'
    exact .inr ⟨rfl, .inl ⟨hall, b', cap', rfl, by omega, by rw [set5_size]; exact hlt', flAt_congr hrow (set5_heap w4 _ _ _ _ _ _ _ (by omega)), set5_below hB _ _ _ _ _ _ (by omega)⟩⟩
  · have hS := Lib.hid (blkStay (b := w.heap.size + 1) (o := fldO 0 0 0 0 (.slice none 0 0)) (by (first | (rw [heap_alloc_get, if_pos rfl]; done) | ((simp only [heap_alloc_get, heap_size_alloc, if_true]) <;> ((repeat' split) <;> first | rfl | omega)))) hbel)
    have hB : Below w.heap.size w w4 := Below.trans (by repeat (first | exact Below.refl _ _ | refine Below.alloc ?_ (by first | omega | (simp; done) | (simp; omega)) _ | refine Below.setCell ?_ (by first | omega | (simp; done) | (simp; omega)) _ | refine Below.drew ?_)) (Below.mono hbel (by simp; omega))
    obtain ⟨cS, fS, zS⟩ := blkC hS.out
    go_wp2
    refine bodyPost_ret (v := .tuple #[fldV 0 0 0 0 (.slice none 0 0), .int .i64 3]) (by simp [results, Try.results35, go_sem, cS]) rfl ?_
    exact .inr ⟨rfl, .inr ⟨hall, rfl, set5_below hB _ _ _ _ _ _ (by omega)⟩⟩
end Go.Proofs.Ytmbiohopcfglcaa

/- Folds of the reference, of a right field; Lift of both sides. -/
namespace Go.Proofs.Ytmbiohopcfglcaa
open Go.RowKit Fl
set_option linter.unusedVariables false

theorem bnd_wf {m n : Nat} {v : Nat → Nat} {A B P : Nat → Int} {h : Nat → Nat} {X Y : Int} {W : Nat} (hh : allB m (fun i => hgtB (v i)) = true) (wv : wf32 m v) (hn : n ≤ 100) (K : ∀ i, i < n → FolOk (A i) (B i) (P i) (h i)) : wf32 m (bndF v A B P h n X Y W) := by
  intro i hi
  exact acc_lt (hgt_bd (allB_iff.1 hh i hi)) (wv i hi) hn (folF_bd K)

set_option maxHeartbeats 4000000 in
set_option maxRecDepth 100000 in
theorem rfolds_any (X Y : Int) (W H m b cap : Nat) (v : Nat → Nat) (a : Option Addr) (n lcap : Nat) (A B P : Nat → Int) (h : Nat → Nat) (er : Int) (w : World) (h0 : checkR X Y W H = 0) (hm : m = W * H) (hc : FlAt w b 0 m v) (hh : allB m (fun i => hgtB (v i)) = true) (wv : wf32 m v)
    (L : FolL w a n A B P h) (hl : n ≤ 9223372036854775807) (wh : wf32 n h) (E : LstE n (fun i => folE (A i) (B i) (P i) (h i)) er) :
    Calls Try.prog 43 #[fldV X Y W H (.slice (some ⟨b, 0, none⟩) m cap), .slice a n lcap] w (ScPost w X Y W H m (bndF v A B P h n X Y W) (bndE n er)) := by
  obtain ⟨b1, b2, b3, b4, b5, b6, b7, b8, b9⟩ := checkR_zero h0
  have hnn : m = H * W := by rw [hm]; exact Nat.mul_comm _ _
  have h1 : 1 ≤ m := by rw [hm]; exact Nat.mul_pos (by omega) (by omega)
  have hlt : b < w.heap.size := World.block_lt_of_cell? w _ (hc 0 h1)
  have hsf := fun (w : World) (a : Addr) (m : Mode) (k : FloatKind) (b : Nat) => run_store_float (P := Try.prog) (w := w) (a := a) (m := m) k b
  unfold bndE
  by_cases cn : 100 < n
  · rw [if_pos cn]
    have cn' : decide ((100 : Int) < (n : Int)) = true := by simp; omega
    clear hc hh h0 hm hnn h1 b1 b2 b3 b4 b5 b6 b7 b8 b9 E L cn wv wh hlt
    go_enter Try.func43, Try.ntmps43
    go_wp2
    refine bodyPost_ret (v := .tuple #[fldV 0 0 0 0 (.slice none 0 0), .int .i64 4]) (by simp [results, Try.results43, go_sem]) rfl ?_
    exact .inl ⟨by decide, rfl, (by repeat (first | exact Below.refl _ _ | refine Below.alloc ?_ (by first | omega | (simp; done) | (simp; omega)) _ | refine Below.setCell ?_ (by first | omega | (simp; done) | (simp; omega)) _ | refine Below.drew ?_))⟩
  · rw [if_neg cn]
    have cn' : decide ((100 : Int) < (n : Int)) = false := by simp; omega
    have hn : n ≤ 100 := by omega
    have HC := Lib.hid hc
    have HL := Lib.hid L
    have EE := Lib.hid E
    have CF := Lib.hid (fun i (hi : i < n) w => refCheckFold_any (A i) (B i) (P i) (h i) (wh i hi) w)
    have BY := Lib.hid (fun (hz : ∀ i, i < n → folE (A i) (B i) (P i) (h i) = 0) W' p (kF : W'.heap[p]? = some (fldO X Y W H (.slice (some ⟨b, 0, none⟩) m cap))) (k1 : W'.heap[p + 1]? = some (folsO a n lcap)) (hc' : FlAt W' b 0 m v) (L' : FolL W' a n A B P h) =>
      made_any X Y W H m 136 #[.pointer (some ⟨p, 0, none⟩), .pointer (some ⟨p + 1, 0, none⟩)] (bndF v A B P h n X Y W) W' enters_rFolds1
        (rFolds1_any X Y W H m b cap v a n lcap A B P h p (p + 1) W' kF k1 hc' hh L' hn (fun i hi => fol_ok (hz i hi)) h0 hnn) (bnd_wf hh wv hn (fun i hi => fol_ok (hz i hi))) (by omega) (by omega) (by omega) (by omega) (by omega) (by omega) (by omega) (by omega) hnn)
    have A0 := Lib.hid (show Below w.heap.size w (((w.alloc (fldO X Y W H (.slice (some ⟨b, 0, none⟩) m cap))).alloc (folsO a n lcap)).alloc (fldO 0 0 0 0 (.slice none 0 0))) from (by repeat (first | exact Below.refl _ _ | refine Below.alloc ?_ (by first | omega | (simp; done) | (simp; omega)) _ | refine Below.setCell ?_ (by first | omega | (simp; done) | (simp; omega)) _ | refine Below.drew ?_)))
    have HF0 := Lib.hid (show (((w.alloc (fldO X Y W H (.slice (some ⟨b, 0, none⟩) m cap))).alloc (folsO a n lcap)).alloc (fldO 0 0 0 0 (.slice none 0 0))).heap[w.heap.size]? = some (fldO X Y W H (.slice (some ⟨b, 0, none⟩) m cap)) by (first | (rw [heap_alloc_get, if_pos rfl]; done) | ((simp only [heap_alloc_get, heap_size_alloc, if_true]) <;> ((repeat' split) <;> first | rfl | omega))))
    have HL0 := Lib.hid (show (((w.alloc (fldO X Y W H (.slice (some ⟨b, 0, none⟩) m cap))).alloc (folsO a n lcap)).alloc (fldO 0 0 0 0 (.slice none 0 0))).heap[w.heap.size + 1]? = some (folsO a n lcap) by (first | (rw [heap_alloc_get, if_pos rfl]; done) | ((simp only [heap_alloc_get, heap_size_alloc, if_true]) <;> ((repeat' split) <;> first | rfl | omega))))
    have HS0 := Lib.hid (show (((w.alloc (fldO X Y W H (.slice (some ⟨b, 0, none⟩) m cap))).alloc (folsO a n lcap)).alloc (fldO 0 0 0 0 (.slice none 0 0))).heap[w.heap.size + 1 + 1]? = some (fldO 0 0 0 0 (.slice none 0 0)) by (first | (rw [heap_alloc_get, if_pos rfl]; done) | ((simp only [heap_alloc_get, heap_size_alloc, if_true]) <;> ((repeat' split) <;> first | rfl | omega))))
    clear hc hh h0 hm hnn h1 b1 b2 b3 b4 b5 b6 b7 b8 b9 E L cn hl wv wh
    go_enter Try.func43, Try.ntmps43
    go_wp2
    generalize ((w.alloc (fldO X Y W H (.slice (some ⟨b, 0, none⟩) m cap))).alloc (folsO a n lcap)).alloc (fldO 0 0 0 0 (.slice none 0 0)) = w2 at *
    go_loopw [15] (fun i wr => ∃ j : Nat, j ≤ n ∧ i = .int .i64 j ∧ (∀ i, i < j → folE (A i) (B i) (P i) (h i) = 0) ∧ Below w2.heap.size w2 wr) (fun i _ => n - (intOf i).toNat)
    case atStart => exact ⟨0, by omega, rfl, fun i hi => by omega, Below.refl _ _⟩
    case round =>
      obtain ⟨j, hj, rfl, hz, hb⟩ := hrel
      have HZ := Lib.hid hz
      have HB := Lib.hid hb
      clear hz
      by_cases c : j < n
      · rcases HL.out.stay (A0.out.trans (hb.mono A0.out.size)) with z | ⟨b', off, rfl, l⟩
        · omega
        obtain ⟨l0, l1, l2, l3⟩ := l j c
        have C1 := Lib.hid (fun w => CF.out j c w)
        obtain ⟨ej, hej⟩ : ∃ ej, folE (A j) (B j) (P j) (h j) = ej := ⟨_, rfl⟩
        rw [hej] at C1
        have HE := Lib.hid hej
        clear l hb hej
        by_cases c0 : ej = 0
        · subst c0
          go_wp2_with (first | (go_at_call 47; refine (C1.out _).mono ?_; rintro e' w4 ⟨rfl, hb4⟩; have hB4 : Below wr.heap.size wr w4 := Below.trans (by repeat (first | exact Below.refl _ _ | refine Below.alloc ?_ (by first | omega | (simp; done) | (simp; omega)) _ | refine Below.setCell ?_ (by first | omega | (simp; done) | (simp; omega)) _ | refine Below.drew ?_)) (Below.mono hb4 (by simp)); have HB4 := Lib.hid (HB.out.trans (hB4.mono HB.out.size)); clear hb4 hB4))
          go_roundw
          case rel => exact ⟨j + 1, by omega, by go_num, (fun i hi => by
            rcases Nat.lt_or_ge i j with q | q
            · exact HZ.out i q
            · rw [show i = j by omega]; exact HE.out), HB4.out⟩
          case measure => simp [intOf]; omega
        · have cz : (ej != 0) = true := by simp [c0]
          have C0 := Lib.hid c0
          clear c0
          go_wp2_with (first | (go_at_call 47; refine (C1.out _).mono ?_; rintro e' w4 ⟨rfl, hb4⟩; have hB4 : Below wr.heap.size wr w4 := Below.trans (by repeat (first | exact Below.refl _ _ | refine Below.alloc ?_ (by first | omega | (simp; done) | (simp; omega)) _ | refine Below.setCell ?_ (by first | omega | (simp; done) | (simp; omega)) _ | refine Below.drew ?_)) (Below.mono hb4 (by simp)); have HB4 := Lib.hid (HB.out.trans (hB4.mono HB.out.size)); clear hb4 hB4; obtain ⟨cS, fS, zS⟩ := blkC (blkStay HS0.out HB4.out)))
          refine bodyPost_ret (v := .tuple #[fldV 0 0 0 0 (.slice none 0 0), .int .i64 ej]) (by simp [results, Try.results43, go_sem, cS]) rfl ?_
          have e := EE.out.at HZ.out c (by show folE (A j) (B j) (P j) (h j) ≠ 0; rw [HE.out]; exact C0.out)
          have e' : ej = er := by rw [← HE.out]; exact e
          have z2 := A0.out.size; have zS2 := (blkC HS0.out).2.2
          exact .inl ⟨by rw [← e']; exact C0.out, by rw [e'], set5_below (A0.out.trans (HB4.out.mono z2)) _ _ _ _ _ _ (by omega)⟩
      · have : j = n := by omega
        subst this
        have e0 := EE.out.zero HZ.out
        subst e0
        obtain ⟨cF, fF, zF⟩ := blkC (blkStay HF0.out hb)
        have hb2 := A0.out.trans (hb.mono A0.out.size)
        have RX := Lib.hid (BY.out HZ.out wr w.heap.size (blkStay HF0.out hb) (blkStay HL0.out hb) (flAt_congr HC.out (hb2.block _ hlt)) (HL.out.stay hb2))
        have HS := Lib.hid (blkStay HS0.out hb)
        have HX := Lib.hid hb2
        clear hb hb2
        go_wp2_with fail
        clear cF fF zF
        refine RX.out.mono ?_
        intro e w4 hmade
        rcases hmade with ⟨hall, b', cap', rfl, hb', hlt', hrow, hbel⟩ | ⟨hall, rfl, hbel⟩
        · obtain ⟨cS, fS, zS4⟩ := blkC (blkStay HS.out hbel)
          have zS3 := (blkC HS.out).2.2
          have HB' := Lib.hid hb'
          clear hb'
          go_wp2
          refine bodyPost_ret (v := .tuple #[fldV X Y W H (.slice (some ⟨b', 0, none⟩) m cap'), .int .i64 0]) (by simp [results, Try.results43, go_sem, cS]) rfl ?_
          have z3 := HX.out.size
          have hb' := HB'.out
          exact .inr ⟨rfl, .inl ⟨hall, b', cap', rfl, by omega, by rw [set5_size]; exact hlt', flAt_congr hrow (set5_heap w4 _ _ _ _ _ _ _ (by omega)), set5_below (HX.out.trans (hbel.mono z3)) _ _ _ _ _ _ (by omega)⟩⟩
        · obtain ⟨cS, fS, zS4⟩ := blkC (blkStay HS.out hbel)
          go_wp2
          refine bodyPost_ret (v := .tuple #[fldV 0 0 0 0 (.slice none 0 0), .int .i64 3]) (by simp [results, Try.results43, go_sem, cS]) rfl ?_
          have z3 := HX.out.size
          exact .inr ⟨rfl, .inr ⟨hall, rfl, set5_below (HX.out.trans (hbel.mono z3)) _ _ _ _ _ _ (by omega)⟩⟩


/-- Lift's error and value. -/
def lifE (A B P : Int) (h : Nat) (x y : Int) : Int := if folE A B P h = 0 then plcE x y else folE A B P h
def lifV (A B P : Int) (h : Nat) (x y : Int) : Nat := if lifE A B P h x y = 0 then lifW (folK A B P x y) P h else 0

set_option maxHeartbeats 1000000 in
set_option maxRecDepth 100000 in
theorem liftX_any (A B P : Int) (h : Nat) (x y : Int) (w : World) :
    Calls Try.prog 44 #[fol A B P h, .int .i64 x, .int .i64 y] w fun e w' => e = .returned (.tuple #[.float .f32 (lifV A B P h x y), .int .i64 (lifE A B P h x y)]) ∧ Below w.heap.size w w' := by
  have CF := Lib.hid (fun w => checkFold_any A B P h w)
  have CP := Lib.hid (fun w => checkPlace_any x y w)
  unfold lifV lifE
  by_cases c : folE A B P h = 0
  · have K := fol_ok c
    rw [c] at CF
    rw [if_pos c]
    rcases plcE_cases x y with d | d
    · obtain ⟨p1, p2, p3, p4⟩ := plc_ok d
      have LI := Lib.hid (fun w => lift_any A B P h x y w K (by omega) (by omega) (by omega) (by omega))
      rw [d] at CP
      rw [d, if_pos rfl]
      generalize lifW (folK A B P x y) P h = r at *
      clear c K d p1 p2 p3 p4
      go_enter Try.func44, Try.ntmps44
      go_wp2_with (first | (go_at_call 46; refine (CF.out _).mono ?_; rintro e w2 ⟨rfl, hb2⟩; have HB2 := Lib.hid (blkStay (b := w.heap.size) (o := folObj A B P h) (by (first | (rw [heap_alloc_get, if_pos rfl]; done) | ((simp only [heap_alloc_get, heap_size_alloc, if_true]) <;> ((repeat' split) <;> first | rfl | omega)))) hb2); have hB2 : Below w.heap.size w w2 := Below.trans (by repeat (first | exact Below.refl _ _ | refine Below.alloc ?_ (by first | omega | (simp; done) | (simp; omega)) _ | refine Below.setCell ?_ (by first | omega | (simp; done) | (simp; omega)) _ | refine Below.drew ?_)) (Below.mono hb2 (by simp)); clear hb2; obtain ⟨cB, fB, zB⟩ := blkC HB2.out) | (go_at_call 86; refine (CP.out _).mono ?_; rintro e w' ⟨rfl, rfl⟩) | (go_at_call 135; refine (LI.out _).mono ?_; rintro e w3 ⟨rfl, hb3⟩; have hB3 := hB2.trans (hb3.mono hB2.size)))
      go_ret2
      exact ⟨rfl, hB3⟩
    · rw [d] at CP
      rw [d, if_neg (by decide)]
      clear c K d
      go_enter Try.func44, Try.ntmps44
      go_wp2_with (first | (go_at_call 46; refine (CF.out _).mono ?_; rintro e w2 ⟨rfl, hb2⟩; have HB2 := Lib.hid (blkStay (b := w.heap.size) (o := folObj A B P h) (by (first | (rw [heap_alloc_get, if_pos rfl]; done) | ((simp only [heap_alloc_get, heap_size_alloc, if_true]) <;> ((repeat' split) <;> first | rfl | omega)))) hb2); have hB2 : Below w.heap.size w w2 := Below.trans (by repeat (first | exact Below.refl _ _ | refine Below.alloc ?_ (by first | omega | (simp; done) | (simp; omega)) _ | refine Below.setCell ?_ (by first | omega | (simp; done) | (simp; omega)) _ | refine Below.drew ?_)) (Below.mono hb2 (by simp)); clear hb2; obtain ⟨cB, fB, zB⟩ := blkC HB2.out) | (go_at_call 86; refine (CP.out _).mono ?_; rintro e w' ⟨rfl, rfl⟩))
      go_ret2
      exact ⟨rfl, hB2⟩
  · rw [if_neg c, if_neg c]
    have cz : (folE A B P h != 0) = true := by simp [c]
    generalize folE A B P h = er at *
    clear c
    go_enter Try.func44, Try.ntmps44
    go_wp2_with (first | (go_at_call 46; refine (CF.out _).mono ?_; rintro e w2 ⟨rfl, hb2⟩; have hB2 : Below w.heap.size w w2 := Below.trans (by repeat (first | exact Below.refl _ _ | refine Below.alloc ?_ (by first | omega | (simp; done) | (simp; omega)) _ | refine Below.setCell ?_ (by first | omega | (simp; done) | (simp; omega)) _ | refine Below.drew ?_)) (Below.mono hb2 (by simp)); clear hb2))
    go_ret2
    exact ⟨rfl, hB2⟩


set_option maxHeartbeats 1000000 in
theorem rplaceError_any (x y : Int) (w : World) :
    Calls Try.prog 132 #[.int .i64 x, .int .i64 y, .int .i64 1] w fun e w' => e = .returned (.int .i64 (plcE x y)) ∧ w = w' := by
  go_enter Try.func132, Try.ntmps132
  go_wp2
  all_goals go_ret
  all_goals refine ⟨ret_int (Eq.symm ?_), rfl⟩
  all_goals unfold plcE
  all_goals first
    | (rw [if_neg (by rw [withinB_iff, withinB_iff]; omega)])
    | (rw [if_pos (by rw [withinB_iff, withinB_iff]; omega)])

set_option maxHeartbeats 1000000 in
set_option maxRecDepth 100000 in
theorem rliftX_any (A B P : Int) (h : Nat) (x y : Int) (w : World) (hh : h < 4294967296) :
    Calls Try.prog 45 #[fol A B P h, .int .i64 x, .int .i64 y] w fun e w' => e = .returned (.tuple #[.float .f32 (lifV A B P h x y), .int .i64 (lifE A B P h x y)]) ∧ Below w.heap.size w w' := by
  have CF := Lib.hid (fun w => refCheckFold_any A B P h hh w)
  have CP := Lib.hid (fun w => rplaceError_any x y w)
  unfold lifV lifE
  by_cases c : folE A B P h = 0
  · have K := fol_ok c
    rw [c] at CF
    rw [if_pos c]
    rcases plcE_cases x y with d | d
    · obtain ⟨p1, p2, p3, p4⟩ := plc_ok d
      have LI := Lib.hid (fun w => rlift_any A B P h x y w K (by omega) (by omega) (by omega) (by omega))
      rw [d] at CP
      rw [d, if_pos rfl]
      generalize lifW (folK A B P x y) P h = r at *
      clear c K d p1 p2 p3 p4
      go_enter Try.func45, Try.ntmps45
      go_wp2_with (first | (go_at_call 47; refine (CF.out _).mono ?_; rintro e w2 ⟨rfl, hb2⟩; have HB2 := Lib.hid (blkStay (b := w.heap.size) (o := folObj A B P h) (by (first | (rw [heap_alloc_get, if_pos rfl]; done) | ((simp only [heap_alloc_get, heap_size_alloc, if_true]) <;> ((repeat' split) <;> first | rfl | omega)))) hb2); have hB2 : Below w.heap.size w w2 := Below.trans (by repeat (first | exact Below.refl _ _ | refine Below.alloc ?_ (by first | omega | (simp; done) | (simp; omega)) _ | refine Below.setCell ?_ (by first | omega | (simp; done) | (simp; omega)) _ | refine Below.drew ?_)) (Below.mono hb2 (by simp)); clear hb2; obtain ⟨cB, fB, zB⟩ := blkC HB2.out) | (go_at_call 132; refine (CP.out _).mono ?_; rintro e w' ⟨rfl, rfl⟩) | (go_at_call 137; refine (LI.out _).mono ?_; rintro e w3 ⟨rfl, hb3⟩; have hB3 := hB2.trans (hb3.mono hB2.size)))
      go_ret2
      exact ⟨rfl, hB3⟩
    · rw [d] at CP
      rw [d, if_neg (by decide)]
      clear c K d
      go_enter Try.func45, Try.ntmps45
      go_wp2_with (first | (go_at_call 47; refine (CF.out _).mono ?_; rintro e w2 ⟨rfl, hb2⟩; have HB2 := Lib.hid (blkStay (b := w.heap.size) (o := folObj A B P h) (by (first | (rw [heap_alloc_get, if_pos rfl]; done) | ((simp only [heap_alloc_get, heap_size_alloc, if_true]) <;> ((repeat' split) <;> first | rfl | omega)))) hb2); have hB2 : Below w.heap.size w w2 := Below.trans (by repeat (first | exact Below.refl _ _ | refine Below.alloc ?_ (by first | omega | (simp; done) | (simp; omega)) _ | refine Below.setCell ?_ (by first | omega | (simp; done) | (simp; omega)) _ | refine Below.drew ?_)) (Below.mono hb2 (by simp)); clear hb2; obtain ⟨cB, fB, zB⟩ := blkC HB2.out) | (go_at_call 132; refine (CP.out _).mono ?_; rintro e w' ⟨rfl, rfl⟩))
      go_ret2
      exact ⟨rfl, hB2⟩
  · rw [if_neg c, if_neg c]
    have cz : (folE A B P h != 0) = true := by simp [c]
    generalize folE A B P h = er at *
    clear c
    go_enter Try.func45, Try.ntmps45
    go_wp2_with (first | (go_at_call 47; refine (CF.out _).mono ?_; rintro e w2 ⟨rfl, hb2⟩; have hB2 : Below w.heap.size w w2 := Below.trans (by repeat (first | exact Below.refl _ _ | refine Below.alloc ?_ (by first | omega | (simp; done) | (simp; omega)) _ | refine Below.setCell ?_ (by first | omega | (simp; done) | (simp; omega)) _ | refine Below.drew ?_)) (Below.mono hb2 (by simp)); clear hb2))
    go_ret2
    exact ⟨rfl, hB2⟩

end Go.Proofs.Ytmbiohopcfglcaa

/- Faults of the reference, of a right field; Throw of both sides. -/
namespace Go.Proofs.Ytmbiohopcfglcaa
open Go.RowKit Fl
set_option linter.unusedVariables false

theorem bnu_wf {m n : Nat} {v : Nat → Nat} {A B C D : Nat → Int} {h : Nat → Nat} {X Y : Int} {W H : Nat} (h0 : checkR X Y W H = 0) (hm : m = W * H) (hh : allB m (fun i => hgtB (v i)) = true) (wv : wf32 m v) (hn : n ≤ 100) (K : ∀ i, i < n → FauOk (A i) (B i) (C i) (D i) (h i)) : wf32 m (bnuF v A B C D h n X Y W) := by
  intro i hi
  obtain ⟨b1, b2, b3, b4, b5, b6, b7, b8, b9⟩ := checkR_zero h0
  have e1 : i % W < W := Nat.mod_lt _ (by omega)
  have e2 : i / W < H := Nat.div_lt_of_lt_mul (by rw [← hm]; exact hi)
  have fin : ∀ p q : Nat, p < W → q < H → accW (v i) (fauF A B C D h (X + (p : Int)) (Y + (q : Int))) n < 4294967296 := fun p q hp hq =>
    acc_lt (hgt_bd (allB_iff.1 hh i hi)) (wv i hi) hn (fauF_bd K (by omega) (by omega) (by omega) (by omega))
  exact fin _ _ e1 e2

set_option maxHeartbeats 4000000 in
set_option maxRecDepth 100000 in
theorem rfaults_any (X Y : Int) (W H m b cap : Nat) (v : Nat → Nat) (a : Option Addr) (n lcap : Nat) (A B C D : Nat → Int) (h : Nat → Nat) (er : Int) (w : World) (h0 : checkR X Y W H = 0) (hm : m = W * H) (hc : FlAt w b 0 m v) (hh : allB m (fun i => hgtB (v i)) = true) (wv : wf32 m v)
    (L : FauL w a n A B C D h) (hl : n ≤ 9223372036854775807) (wh : wf32 n h) (E : LstE n (fun i => fauE (A i) (B i) (C i) (D i) (h i)) er) :
    Calls Try.prog 36 #[fldV X Y W H (.slice (some ⟨b, 0, none⟩) m cap), .slice a n lcap] w (ScPost w X Y W H m (bnuF v A B C D h n X Y W) (bndE n er)) := by
  obtain ⟨b1, b2, b3, b4, b5, b6, b7, b8, b9⟩ := checkR_zero h0
  have hnn : m = H * W := by rw [hm]; exact Nat.mul_comm _ _
  have h1 : 1 ≤ m := by rw [hm]; exact Nat.mul_pos (by omega) (by omega)
  have hlt : b < w.heap.size := World.block_lt_of_cell? w _ (hc 0 h1)
  have hsf := fun (w : World) (a : Addr) (m : Mode) (k : FloatKind) (b : Nat) => run_store_float (P := Try.prog) (w := w) (a := a) (m := m) k b
  unfold bndE
  by_cases cn : 100 < n
  · rw [if_pos cn]
    have cn' : decide ((100 : Int) < (n : Int)) = true := by simp; omega
    clear hc hh h0 hm hnn h1 b1 b2 b3 b4 b5 b6 b7 b8 b9 E L cn wv wh hlt
    go_enter Try.func36, Try.ntmps36
    go_wp2
    refine bodyPost_ret (v := .tuple #[fldV 0 0 0 0 (.slice none 0 0), .int .i64 4]) (by simp [results, Try.results36, go_sem]) rfl ?_
    exact .inl ⟨by decide, rfl, (by repeat (first | exact Below.refl _ _ | refine Below.alloc ?_ (by first | omega | (simp; done) | (simp; omega)) _ | refine Below.setCell ?_ (by first | omega | (simp; done) | (simp; omega)) _ | refine Below.drew ?_))⟩
  · rw [if_neg cn]
    have cn' : decide ((100 : Int) < (n : Int)) = false := by simp; omega
    have hn : n ≤ 100 := by omega
    have HC := Lib.hid hc
    have HL := Lib.hid L
    have EE := Lib.hid E
    have CF := Lib.hid (fun i (hi : i < n) w => refCheckFault_any (A i) (B i) (C i) (D i) (h i) (wh i hi) w)
    have BY := Lib.hid (fun (hz : ∀ i, i < n → fauE (A i) (B i) (C i) (D i) (h i) = 0) W' p (kF : W'.heap[p]? = some (fldO X Y W H (.slice (some ⟨b, 0, none⟩) m cap))) (k1 : W'.heap[p + 1]? = some (fausO a n lcap)) (hc' : FlAt W' b 0 m v) (L' : FauL W' a n A B C D h) =>
      made_any X Y W H m 130 #[.pointer (some ⟨p, 0, none⟩), .pointer (some ⟨p + 1, 0, none⟩)] (bnuF v A B C D h n X Y W) W' enters_rFaults1
        (rFaults1_any X Y W H m b cap v a n lcap A B C D h p (p + 1) W' kF k1 hc' hh L' hn (fun i hi => fau_ok (hz i hi)) h0 hnn) (bnu_wf h0 hm hh wv hn (fun i hi => fau_ok (hz i hi))) (by omega) (by omega) (by omega) (by omega) (by omega) (by omega) (by omega) (by omega) hnn)
    have A0 := Lib.hid (show Below w.heap.size w (((w.alloc (fldO X Y W H (.slice (some ⟨b, 0, none⟩) m cap))).alloc (fausO a n lcap)).alloc (fldO 0 0 0 0 (.slice none 0 0))) from (by repeat (first | exact Below.refl _ _ | refine Below.alloc ?_ (by first | omega | (simp; done) | (simp; omega)) _ | refine Below.setCell ?_ (by first | omega | (simp; done) | (simp; omega)) _ | refine Below.drew ?_)))
    have HF0 := Lib.hid (show (((w.alloc (fldO X Y W H (.slice (some ⟨b, 0, none⟩) m cap))).alloc (fausO a n lcap)).alloc (fldO 0 0 0 0 (.slice none 0 0))).heap[w.heap.size]? = some (fldO X Y W H (.slice (some ⟨b, 0, none⟩) m cap)) by (first | (rw [heap_alloc_get, if_pos rfl]; done) | ((simp only [heap_alloc_get, heap_size_alloc, if_true]) <;> ((repeat' split) <;> first | rfl | omega))))
    have HL0 := Lib.hid (show (((w.alloc (fldO X Y W H (.slice (some ⟨b, 0, none⟩) m cap))).alloc (fausO a n lcap)).alloc (fldO 0 0 0 0 (.slice none 0 0))).heap[w.heap.size + 1]? = some (fausO a n lcap) by (first | (rw [heap_alloc_get, if_pos rfl]; done) | ((simp only [heap_alloc_get, heap_size_alloc, if_true]) <;> ((repeat' split) <;> first | rfl | omega))))
    have HS0 := Lib.hid (show (((w.alloc (fldO X Y W H (.slice (some ⟨b, 0, none⟩) m cap))).alloc (fausO a n lcap)).alloc (fldO 0 0 0 0 (.slice none 0 0))).heap[w.heap.size + 1 + 1]? = some (fldO 0 0 0 0 (.slice none 0 0)) by (first | (rw [heap_alloc_get, if_pos rfl]; done) | ((simp only [heap_alloc_get, heap_size_alloc, if_true]) <;> ((repeat' split) <;> first | rfl | omega))))
    clear hc hh h0 hm hnn h1 b1 b2 b3 b4 b5 b6 b7 b8 b9 E L cn hl wv wh
    go_enter Try.func36, Try.ntmps36
    go_wp2
    generalize ((w.alloc (fldO X Y W H (.slice (some ⟨b, 0, none⟩) m cap))).alloc (fausO a n lcap)).alloc (fldO 0 0 0 0 (.slice none 0 0)) = w2 at *
    go_loopw [15] (fun i wr => ∃ j : Nat, j ≤ n ∧ i = .int .i64 j ∧ (∀ i, i < j → fauE (A i) (B i) (C i) (D i) (h i) = 0) ∧ Below w2.heap.size w2 wr) (fun i _ => n - (intOf i).toNat)
    case atStart => exact ⟨0, by omega, rfl, fun i hi => by omega, Below.refl _ _⟩
    case round =>
      obtain ⟨j, hj, rfl, hz, hb⟩ := hrel
      have HZ := Lib.hid hz
      have HB := Lib.hid hb
      clear hz
      by_cases c : j < n
      · rcases HL.out.stay (A0.out.trans (hb.mono A0.out.size)) with z | ⟨b', off, rfl, l⟩
        · omega
        obtain ⟨l0, l1, l2, l3, l4⟩ := l j c
        have C1 := Lib.hid (fun w => CF.out j c w)
        obtain ⟨ej, hej⟩ : ∃ ej, fauE (A j) (B j) (C j) (D j) (h j) = ej := ⟨_, rfl⟩
        rw [hej] at C1
        have HE := Lib.hid hej
        clear l hb hej
        by_cases c0 : ej = 0
        · subst c0
          go_wp2_with (first | (go_at_call 41; refine (C1.out _).mono ?_; rintro e' w4 ⟨rfl, hb4⟩; have hB4 : Below wr.heap.size wr w4 := Below.trans (by repeat (first | exact Below.refl _ _ | refine Below.alloc ?_ (by first | omega | (simp; done) | (simp; omega)) _ | refine Below.setCell ?_ (by first | omega | (simp; done) | (simp; omega)) _ | refine Below.drew ?_)) (Below.mono hb4 (by simp)); have HB4 := Lib.hid (HB.out.trans (hB4.mono HB.out.size)); clear hb4 hB4))
          go_roundw
          case rel => exact ⟨j + 1, by omega, by go_num, (fun i hi => by
            rcases Nat.lt_or_ge i j with q | q
            · exact HZ.out i q
            · rw [show i = j by omega]; exact HE.out), HB4.out⟩
          case measure => simp [intOf]; omega
        · have cz : (ej != 0) = true := by simp [c0]
          have C0 := Lib.hid c0
          clear c0
          go_wp2_with (first | (go_at_call 41; refine (C1.out _).mono ?_; rintro e' w4 ⟨rfl, hb4⟩; have hB4 : Below wr.heap.size wr w4 := Below.trans (by repeat (first | exact Below.refl _ _ | refine Below.alloc ?_ (by first | omega | (simp; done) | (simp; omega)) _ | refine Below.setCell ?_ (by first | omega | (simp; done) | (simp; omega)) _ | refine Below.drew ?_)) (Below.mono hb4 (by simp)); have HB4 := Lib.hid (HB.out.trans (hB4.mono HB.out.size)); clear hb4 hB4; obtain ⟨cS, fS, zS⟩ := blkC (blkStay HS0.out HB4.out)))
          refine bodyPost_ret (v := .tuple #[fldV 0 0 0 0 (.slice none 0 0), .int .i64 ej]) (by simp [results, Try.results36, go_sem, cS]) rfl ?_
          have e := EE.out.at HZ.out c (by show fauE (A j) (B j) (C j) (D j) (h j) ≠ 0; rw [HE.out]; exact C0.out)
          have e' : ej = er := by rw [← HE.out]; exact e
          have z2 := A0.out.size; have zS2 := (blkC HS0.out).2.2
          exact .inl ⟨by rw [← e']; exact C0.out, by rw [e'], set5_below (A0.out.trans (HB4.out.mono z2)) _ _ _ _ _ _ (by omega)⟩
      · have : j = n := by omega
        subst this
        have e0 := EE.out.zero HZ.out
        subst e0
        obtain ⟨cF, fF, zF⟩ := blkC (blkStay HF0.out hb)
        have hb2 := A0.out.trans (hb.mono A0.out.size)
        have RX := Lib.hid (BY.out HZ.out wr w.heap.size (blkStay HF0.out hb) (blkStay HL0.out hb) (flAt_congr HC.out (hb2.block _ hlt)) (HL.out.stay hb2))
        have HS := Lib.hid (blkStay HS0.out hb)
        have HX := Lib.hid hb2
        clear hb hb2
        go_wp2_with fail
        clear cF fF zF
        refine RX.out.mono ?_
        intro e w4 hmade
        rcases hmade with ⟨hall, b', cap', rfl, hb', hlt', hrow, hbel⟩ | ⟨hall, rfl, hbel⟩
        · obtain ⟨cS, fS, zS4⟩ := blkC (blkStay HS.out hbel)
          have zS3 := (blkC HS.out).2.2
          have HB' := Lib.hid hb'
          clear hb'
          go_wp2
          refine bodyPost_ret (v := .tuple #[fldV X Y W H (.slice (some ⟨b', 0, none⟩) m cap'), .int .i64 0]) (by simp [results, Try.results36, go_sem, cS]) rfl ?_
          have z3 := HX.out.size
          have hb' := HB'.out
          exact .inr ⟨rfl, .inl ⟨hall, b', cap', rfl, by omega, by rw [set5_size]; exact hlt', flAt_congr hrow (set5_heap w4 _ _ _ _ _ _ _ (by omega)), set5_below (HX.out.trans (hbel.mono z3)) _ _ _ _ _ _ (by omega)⟩⟩
        · obtain ⟨cS, fS, zS4⟩ := blkC (blkStay HS.out hbel)
          go_wp2
          refine bodyPost_ret (v := .tuple #[fldV 0 0 0 0 (.slice none 0 0), .int .i64 3]) (by simp [results, Try.results36, go_sem, cS]) rfl ?_
          have z3 := HX.out.size
          exact .inr ⟨rfl, .inr ⟨hall, rfl, set5_below (HX.out.trans (hbel.mono z3)) _ _ _ _ _ _ (by omega)⟩⟩


/-- Throw's error and value. -/
def thrE (A B C D : Int) (h : Nat) (x y : Int) : Int := if fauE A B C D h = 0 then plcE x y else fauE A B C D h
def thrV (A B C D : Int) (h : Nat) (x y : Int) : Nat := if thrE A B C D h x y = 0 then thrW (fauK A B C x y) (lenW A B 0) D h else 0

set_option maxHeartbeats 1000000 in
set_option maxRecDepth 100000 in
theorem throwX_any (A B C D : Int) (h : Nat) (x y : Int) (w : World) :
    Calls Try.prog 37 #[fau A B C D h, .int .i64 x, .int .i64 y] w fun e w' => e = .returned (.tuple #[.float .f32 (thrV A B C D h x y), .int .i64 (thrE A B C D h x y)]) ∧ Below w.heap.size w w' := by
  have CF := Lib.hid (fun w => checkFault_any A B C D h w)
  have CP := Lib.hid (fun w => checkPlace_any x y w)
  unfold thrV thrE
  by_cases c : fauE A B C D h = 0
  · have K := fau_ok c
    rw [c] at CF
    rw [if_pos c]
    rcases plcE_cases x y with d | d
    · obtain ⟨p1, p2, p3, p4⟩ := plc_ok d
      have LI := Lib.hid (fun w => throw_any A B C D h x y w K (by omega) (by omega) (by omega) (by omega))
      rw [d] at CP
      rw [d, if_pos rfl]
      generalize thrW (fauK A B C x y) (lenW A B 0) D h = r at *
      clear c K d p1 p2 p3 p4
      go_enter Try.func37, Try.ntmps37
      go_wp2_with (first | (go_at_call 40; refine (CF.out _).mono ?_; rintro e w2 ⟨rfl, hb2⟩; have HB2 := Lib.hid (blkStay (b := w.heap.size) (o := fauObj A B C D h) (by (first | (rw [heap_alloc_get, if_pos rfl]; done) | ((simp only [heap_alloc_get, heap_size_alloc, if_true]) <;> ((repeat' split) <;> first | rfl | omega)))) hb2); have hB2 : Below w.heap.size w w2 := Below.trans (by repeat (first | exact Below.refl _ _ | refine Below.alloc ?_ (by first | omega | (simp; done) | (simp; omega)) _ | refine Below.setCell ?_ (by first | omega | (simp; done) | (simp; omega)) _ | refine Below.drew ?_)) (Below.mono hb2 (by simp)); clear hb2; obtain ⟨cB, fB, zB⟩ := blkC HB2.out) | (go_at_call 86; refine (CP.out _).mono ?_; rintro e w' ⟨rfl, rfl⟩) | (go_at_call 129; refine (LI.out _).mono ?_; rintro e w3 ⟨rfl, hb3⟩; have hB3 := hB2.trans (hb3.mono hB2.size)))
      go_ret2
      exact ⟨rfl, hB3⟩
    · rw [d] at CP
      rw [d, if_neg (by decide)]
      clear c K d
      go_enter Try.func37, Try.ntmps37
      go_wp2_with (first | (go_at_call 40; refine (CF.out _).mono ?_; rintro e w2 ⟨rfl, hb2⟩; have HB2 := Lib.hid (blkStay (b := w.heap.size) (o := fauObj A B C D h) (by (first | (rw [heap_alloc_get, if_pos rfl]; done) | ((simp only [heap_alloc_get, heap_size_alloc, if_true]) <;> ((repeat' split) <;> first | rfl | omega)))) hb2); have hB2 : Below w.heap.size w w2 := Below.trans (by repeat (first | exact Below.refl _ _ | refine Below.alloc ?_ (by first | omega | (simp; done) | (simp; omega)) _ | refine Below.setCell ?_ (by first | omega | (simp; done) | (simp; omega)) _ | refine Below.drew ?_)) (Below.mono hb2 (by simp)); clear hb2; obtain ⟨cB, fB, zB⟩ := blkC HB2.out) | (go_at_call 86; refine (CP.out _).mono ?_; rintro e w' ⟨rfl, rfl⟩))
      go_ret2
      exact ⟨rfl, hB2⟩
  · rw [if_neg c, if_neg c]
    have cz : (fauE A B C D h != 0) = true := by simp [c]
    generalize fauE A B C D h = er at *
    clear c
    go_enter Try.func37, Try.ntmps37
    go_wp2_with (first | (go_at_call 40; refine (CF.out _).mono ?_; rintro e w2 ⟨rfl, hb2⟩; have hB2 : Below w.heap.size w w2 := Below.trans (by repeat (first | exact Below.refl _ _ | refine Below.alloc ?_ (by first | omega | (simp; done) | (simp; omega)) _ | refine Below.setCell ?_ (by first | omega | (simp; done) | (simp; omega)) _ | refine Below.drew ?_)) (Below.mono hb2 (by simp)); clear hb2))
    go_ret2
    exact ⟨rfl, hB2⟩


set_option maxHeartbeats 1000000 in
set_option maxRecDepth 100000 in
theorem rthrowX_any (A B C D : Int) (h : Nat) (x y : Int) (w : World) (hh : h < 4294967296) :
    Calls Try.prog 38 #[fau A B C D h, .int .i64 x, .int .i64 y] w fun e w' => e = .returned (.tuple #[.float .f32 (thrV A B C D h x y), .int .i64 (thrE A B C D h x y)]) ∧ Below w.heap.size w w' := by
  have CF := Lib.hid (fun w => refCheckFault_any A B C D h hh w)
  have CP := Lib.hid (fun w => rplaceError_any x y w)
  unfold thrV thrE
  by_cases c : fauE A B C D h = 0
  · have K := fau_ok c
    rw [c] at CF
    rw [if_pos c]
    rcases plcE_cases x y with d | d
    · obtain ⟨p1, p2, p3, p4⟩ := plc_ok d
      have LI := Lib.hid (fun w => rthrow_any A B C D h x y w K (by omega) (by omega) (by omega) (by omega))
      rw [d] at CP
      rw [d, if_pos rfl]
      generalize thrW (fauK A B C x y) (lenW A B 0) D h = r at *
      clear c K d p1 p2 p3 p4
      go_enter Try.func38, Try.ntmps38
      go_wp2_with (first | (go_at_call 41; refine (CF.out _).mono ?_; rintro e w2 ⟨rfl, hb2⟩; have HB2 := Lib.hid (blkStay (b := w.heap.size) (o := fauObj A B C D h) (by (first | (rw [heap_alloc_get, if_pos rfl]; done) | ((simp only [heap_alloc_get, heap_size_alloc, if_true]) <;> ((repeat' split) <;> first | rfl | omega)))) hb2); have hB2 : Below w.heap.size w w2 := Below.trans (by repeat (first | exact Below.refl _ _ | refine Below.alloc ?_ (by first | omega | (simp; done) | (simp; omega)) _ | refine Below.setCell ?_ (by first | omega | (simp; done) | (simp; omega)) _ | refine Below.drew ?_)) (Below.mono hb2 (by simp)); clear hb2; obtain ⟨cB, fB, zB⟩ := blkC HB2.out) | (go_at_call 132; refine (CP.out _).mono ?_; rintro e w' ⟨rfl, rfl⟩) | (go_at_call 131; refine (LI.out _).mono ?_; rintro e w3 ⟨rfl, hb3⟩; have hB3 := hB2.trans (hb3.mono hB2.size)))
      go_ret2
      exact ⟨rfl, hB3⟩
    · rw [d] at CP
      rw [d, if_neg (by decide)]
      clear c K d
      go_enter Try.func38, Try.ntmps38
      go_wp2_with (first | (go_at_call 41; refine (CF.out _).mono ?_; rintro e w2 ⟨rfl, hb2⟩; have HB2 := Lib.hid (blkStay (b := w.heap.size) (o := fauObj A B C D h) (by (first | (rw [heap_alloc_get, if_pos rfl]; done) | ((simp only [heap_alloc_get, heap_size_alloc, if_true]) <;> ((repeat' split) <;> first | rfl | omega)))) hb2); have hB2 : Below w.heap.size w w2 := Below.trans (by repeat (first | exact Below.refl _ _ | refine Below.alloc ?_ (by first | omega | (simp; done) | (simp; omega)) _ | refine Below.setCell ?_ (by first | omega | (simp; done) | (simp; omega)) _ | refine Below.drew ?_)) (Below.mono hb2 (by simp)); clear hb2; obtain ⟨cB, fB, zB⟩ := blkC HB2.out) | (go_at_call 132; refine (CP.out _).mono ?_; rintro e w' ⟨rfl, rfl⟩))
      go_ret2
      exact ⟨rfl, hB2⟩
  · rw [if_neg c, if_neg c]
    have cz : (fauE A B C D h != 0) = true := by simp [c]
    generalize fauE A B C D h = er at *
    clear c
    go_enter Try.func38, Try.ntmps38
    go_wp2_with (first | (go_at_call 41; refine (CF.out _).mono ?_; rintro e w2 ⟨rfl, hb2⟩; have hB2 : Below w.heap.size w w2 := Below.trans (by repeat (first | exact Below.refl _ _ | refine Below.alloc ?_ (by first | omega | (simp; done) | (simp; omega)) _ | refine Below.setCell ?_ (by first | omega | (simp; done) | (simp; omega)) _ | refine Below.drew ?_)) (Below.mono hb2 (by simp)); clear hb2))
    go_ret2
    exact ⟨rfl, hB2⟩

end Go.Proofs.Ytmbiohopcfglcaa

/- Select of both sides, of a right field. -/
namespace Go.Proofs.Ytmbiohopcfglcaa
open Go.RowKit Fl
set_option linter.unusedVariables false

/-- Three singles, as a list. -/
def three (a b c : Nat) (i : Nat) : Nat := if i = 0 then a else if i = 1 then b else c
theorem flAt_three {w : World} {k a b c : Nat} (h : w.heap[k]? = some (.cells #[.float .f32 a, .float .f32 b, .float .f32 c] 22)) : FlAt w k 0 3 (three a b c) := by
  intro i hi
  rw [Nat.zero_add, (blkC h).1 i]
  have : i = 0 ∨ i = 1 ∨ i = 2 := by omega
  rcases this with rfl | rfl | rfl <;> rfl
theorem three_hgt {a b c : Nat} (h : fldE 3 (three a b c) = 0) : hgtB a = true ∧ hgtB b = true ∧ hgtB c = true := by
  have := allB_iff.1 (fldE_zero.1 h)
  exact ⟨this 0 (by omega), this 1 (by omega), this 2 (by omega)⟩
theorem three_wf {a b c : Nat} (ha : a < 4294967296) (hb : b < 4294967296) (hc : c < 4294967296) : wf32 3 (three a b c) := by
  intro i hi
  have : i = 0 ∨ i = 1 ∨ i = 2 := by omega
  rcases this with rfl | rfl | rfl <;> assumption

/-- The error of Select's singles. -/
def selE (lo hi so : Nat) : Int := if fldE 3 (three lo hi so) = 0 then (if (FloatKind.f32.format.order lo hi == some .gt) = true then 8 else if (FloatKind.f32.format.order so 0 == some .lt) = true then 3 else 0) else fldE 3 (three lo hi so)

theorem enters_Select1 : Enters 105 := by intro args W; simp [callFunc, Try.func105, Try.f105]
theorem enters_rSelect1 : Enters 108 := by intro args W; simp [callFunc, Try.func108, Try.f108]

set_option maxHeartbeats 2000000 in
theorem select_any (X Y : Int) (W H n b cap : Nat) (v : Nat → Nat) (lo hi so : Nat) (w : World) (h0 : checkR X Y W H = 0) (hn : n = W * H) (hc : FlAt w b 0 n v) (hh : allB n (fun i => hgtB (v i)) = true) :
    Calls Try.prog 27 #[fldV X Y W H (.slice (some ⟨b, 0, none⟩) n cap), .float .f32 lo, .float .f32 hi, .float .f32 so] w (ScPost w X Y W H n (fun i => selW (v i) lo hi so) (selE lo hi so)) := by
  obtain ⟨b1, b2, b3, b4, b5, b6, b7, b8, b9⟩ := checkR_zero h0
  have hnn : n = H * W := by rw [hn]; exact Nat.mul_comm _ _
  have h1 : 1 ≤ n := by rw [hn]; exact Nat.mul_pos (by omega) (by omega)
  have hlt : b < w.heap.size := World.block_lt_of_cell? w _ (hc 0 h1)
  have CK := Lib.hid (fun W' (hb : Below w.heap.size w W') => check_ok X Y W H n b cap v W' h0 hn (flAt_congr hc (hb.block _ hlt)) hh)
  have CS := Lib.hid (fun bb W' (hb : W'.heap[bb]? = some (.cells #[.float .f32 lo, .float .f32 hi, .float .f32 so] 22)) => CheckHeights_row bb 0 3 3 (three lo hi so) (by omega) W' (flAt_three hb))
  unfold selE
  by_cases hz : fldE 3 (three lo hi so) = 0
  · obtain ⟨g1, g2, g3⟩ := three_hgt hz
    rw [if_pos hz]
    rw [hz] at CS
    have HC := Lib.hid hc
    cases c1 : (FloatKind.f32.format.order lo hi == some .gt) with
    | true =>
      rw [if_pos rfl]
      clear hc hn h0 hh hz b1 b2 b3 b4 b5 b6 b7 b8 b9 hnn g1 g2 g3
      go_enter Try.func27, Try.ntmps27
      go_wp2_with (first | (go_at_call 90; refine (CK.out _ (by repeat (first | exact Below.refl _ _ | refine Below.alloc ?_ (by first | omega | (simp; done) | (simp; omega)) _ | refine Below.setCell ?_ (by first | omega | (simp; done) | (simp; omega)) _ | refine Below.drew ?_))).mono ?_; rintro e w2 ⟨rfl, hb2⟩; have HF2 := Lib.hid (blkStay (b := w.heap.size) (o := fldO X Y W H (.slice (some ⟨b, 0, none⟩) n cap)) (by ((simp only [heap_alloc_get, heap_size_alloc, if_true]) <;> ((repeat' split) <;> first | rfl | omega))) hb2); have HL2 := Lib.hid (blkStay (b := w.heap.size + 1) (o := flObj lo) (by ((simp only [heap_alloc_get, heap_size_alloc, if_true]) <;> ((repeat' split) <;> first | rfl | omega))) hb2); have HH2 := Lib.hid (blkStay (b := w.heap.size + 1 + 1) (o := flObj hi) (by ((simp only [heap_alloc_get, heap_size_alloc, if_true]) <;> ((repeat' split) <;> first | rfl | omega))) hb2); have HO2 := Lib.hid (blkStay (b := w.heap.size + 1 + 1 + 1) (o := flObj so) (by ((simp only [heap_alloc_get, heap_size_alloc, if_true]) <;> ((repeat' split) <;> first | rfl | omega))) hb2); have HS2 := Lib.hid (blkStay (b := w.heap.size + 1 + 1 + 1 + 1) (o := fldO 0 0 0 0 (.slice none 0 0)) (by ((simp only [heap_alloc_get, heap_size_alloc, if_true]) <;> ((repeat' split) <;> first | rfl | omega))) hb2); have hB2 : Below w.heap.size w w2 := Below.trans (by repeat (first | exact Below.refl _ _ | refine Below.alloc ?_ (by first | omega | (simp; done) | (simp; omega)) _ | refine Below.setCell ?_ (by first | omega | (simp; done) | (simp; omega)) _ | refine Below.drew ?_)) (Below.mono hb2 (by first | omega | (simp; done) | (simp; omega))); obtain ⟨cL, fL, zL⟩ := blkC HL2.out; obtain ⟨cH, fH, zH⟩ := blkC HH2.out; obtain ⟨cO, fO, zO⟩ := blkC HO2.out; clear hb2) | (go_at_call 88; refine (CS.out _ _ (heap_alloc_new _ _)).mono ?_; rintro e w3 ⟨rfl, hw3⟩; have hb23 : Below w2.heap.size w2 w3 := (by rw [← hw3]; exact (by repeat (first | exact Below.refl _ _ | refine Below.alloc ?_ (by first | omega | (simp; done) | (simp; omega)) _ | refine Below.setCell ?_ (by first | omega | (simp; done) | (simp; omega)) _ | refine Below.drew ?_))); clear hw3 cL fL zL cH fH zH cO fO zO; have HF3 := Lib.hid (blkStay HF2.out hb23); have HL3 := Lib.hid (blkStay HL2.out hb23); have HH3 := Lib.hid (blkStay HH2.out hb23); have HO3 := Lib.hid (blkStay HO2.out hb23); have HS3 := Lib.hid (blkStay HS2.out hb23); have hB3 := hB2.trans (hb23.mono hB2.size); clear hb23 hB2 HF2 HL2 HH2 HO2 HS2; obtain ⟨cF, fF, zF⟩ := blkC HF3.out; obtain ⟨cL, fL, zL⟩ := blkC HL3.out; obtain ⟨cH, fH, zH⟩ := blkC HH3.out; obtain ⟨cO, fO, zO⟩ := blkC HO3.out; obtain ⟨cS, fS, zS⟩ := blkC HS3.out))
      refine bodyPost_ret (v := .tuple #[fldV 0 0 0 0 (.slice none 0 0), .int .i64 8]) (by simp [results, Try.results27, go_sem, cS]) rfl ?_
      exact .inl ⟨by decide, rfl, set5_below hB3 _ _ _ _ _ _ (by omega)⟩
    | false =>
      cases c2 : (FloatKind.f32.format.order so 0 == some .lt) with
      | true =>
        rw [if_neg (by simp), if_pos rfl]
        clear hc hn h0 hh hz b1 b2 b3 b4 b5 b6 b7 b8 b9 hnn g1 g2 g3
        go_enter Try.func27, Try.ntmps27
        go_wp2_with (first | (go_at_call 90; refine (CK.out _ (by repeat (first | exact Below.refl _ _ | refine Below.alloc ?_ (by first | omega | (simp; done) | (simp; omega)) _ | refine Below.setCell ?_ (by first | omega | (simp; done) | (simp; omega)) _ | refine Below.drew ?_))).mono ?_; rintro e w2 ⟨rfl, hb2⟩; have HF2 := Lib.hid (blkStay (b := w.heap.size) (o := fldO X Y W H (.slice (some ⟨b, 0, none⟩) n cap)) (by ((simp only [heap_alloc_get, heap_size_alloc, if_true]) <;> ((repeat' split) <;> first | rfl | omega))) hb2); have HL2 := Lib.hid (blkStay (b := w.heap.size + 1) (o := flObj lo) (by ((simp only [heap_alloc_get, heap_size_alloc, if_true]) <;> ((repeat' split) <;> first | rfl | omega))) hb2); have HH2 := Lib.hid (blkStay (b := w.heap.size + 1 + 1) (o := flObj hi) (by ((simp only [heap_alloc_get, heap_size_alloc, if_true]) <;> ((repeat' split) <;> first | rfl | omega))) hb2); have HO2 := Lib.hid (blkStay (b := w.heap.size + 1 + 1 + 1) (o := flObj so) (by ((simp only [heap_alloc_get, heap_size_alloc, if_true]) <;> ((repeat' split) <;> first | rfl | omega))) hb2); have HS2 := Lib.hid (blkStay (b := w.heap.size + 1 + 1 + 1 + 1) (o := fldO 0 0 0 0 (.slice none 0 0)) (by ((simp only [heap_alloc_get, heap_size_alloc, if_true]) <;> ((repeat' split) <;> first | rfl | omega))) hb2); have hB2 : Below w.heap.size w w2 := Below.trans (by repeat (first | exact Below.refl _ _ | refine Below.alloc ?_ (by first | omega | (simp; done) | (simp; omega)) _ | refine Below.setCell ?_ (by first | omega | (simp; done) | (simp; omega)) _ | refine Below.drew ?_)) (Below.mono hb2 (by first | omega | (simp; done) | (simp; omega))); obtain ⟨cL, fL, zL⟩ := blkC HL2.out; obtain ⟨cH, fH, zH⟩ := blkC HH2.out; obtain ⟨cO, fO, zO⟩ := blkC HO2.out; clear hb2) | (go_at_call 88; refine (CS.out _ _ (heap_alloc_new _ _)).mono ?_; rintro e w3 ⟨rfl, hw3⟩; have hb23 : Below w2.heap.size w2 w3 := (by rw [← hw3]; exact (by repeat (first | exact Below.refl _ _ | refine Below.alloc ?_ (by first | omega | (simp; done) | (simp; omega)) _ | refine Below.setCell ?_ (by first | omega | (simp; done) | (simp; omega)) _ | refine Below.drew ?_))); clear hw3 cL fL zL cH fH zH cO fO zO; have HF3 := Lib.hid (blkStay HF2.out hb23); have HL3 := Lib.hid (blkStay HL2.out hb23); have HH3 := Lib.hid (blkStay HH2.out hb23); have HO3 := Lib.hid (blkStay HO2.out hb23); have HS3 := Lib.hid (blkStay HS2.out hb23); have hB3 := hB2.trans (hb23.mono hB2.size); clear hb23 hB2 HF2 HL2 HH2 HO2 HS2; obtain ⟨cF, fF, zF⟩ := blkC HF3.out; obtain ⟨cL, fL, zL⟩ := blkC HL3.out; obtain ⟨cH, fH, zH⟩ := blkC HH3.out; obtain ⟨cO, fO, zO⟩ := blkC HO3.out; obtain ⟨cS, fS, zS⟩ := blkC HS3.out))
        refine bodyPost_ret (v := .tuple #[fldV 0 0 0 0 (.slice none 0 0), .int .i64 3]) (by simp [results, Try.results27, go_sem, cS]) rfl ?_
        exact .inl ⟨by decide, rfl, set5_below hB3 _ _ _ _ _ _ (by omega)⟩
      | false =>
        rw [if_neg (by simp), if_neg (by simp)]
        have RM := Lib.hid (fun W' p (k1 : W'.heap[p + 1]? = some (flObj lo)) (k2 : W'.heap[p + 1 + 1]? = some (flObj hi)) (k3 : W'.heap[p + 1 + 1 + 1]? = some (flObj so)) (hc' : FlAt W' b 0 n v) =>
          remade_any X Y W H n b cap v (fun i => selW (v i) lo hi so) 105 #[.pointer (some ⟨p + 1, 0, none⟩), .pointer (some ⟨p + 1 + 1 + 1, 0, none⟩), .pointer (some ⟨p + 1 + 1, 0, none⟩)] W' enters_Select1
            (fun x y i W'' h1 h2 h3 h4 h5 hb => (sel1_any (v i) lo hi so x y (p + 1) (p + 1 + 1) (p + 1 + 1 + 1) W'' (blkStay k1 hb) (blkStay k2 hb) (blkStay k3 hb) (allB_iff.1 hh i (num_lt (by omega) h1 h2 h4 h5 hnn)) g1 g2 g3).mono fun e W3 h => ⟨h.1, by rw [← h.2]; exact Below.refl _ _⟩) h0 hnn hc')
        clear hc hn h0 hh hz b1 b2 b3 b4 b5 b6 b7 b8 b9 hnn g1 g2 g3
        go_enter Try.func27, Try.ntmps27
        go_wp2_with (first | (go_at_call 90; refine (CK.out _ (by repeat (first | exact Below.refl _ _ | refine Below.alloc ?_ (by first | omega | (simp; done) | (simp; omega)) _ | refine Below.setCell ?_ (by first | omega | (simp; done) | (simp; omega)) _ | refine Below.drew ?_))).mono ?_; rintro e w2 ⟨rfl, hb2⟩; have HF2 := Lib.hid (blkStay (b := w.heap.size) (o := fldO X Y W H (.slice (some ⟨b, 0, none⟩) n cap)) (by ((simp only [heap_alloc_get, heap_size_alloc, if_true]) <;> ((repeat' split) <;> first | rfl | omega))) hb2); have HL2 := Lib.hid (blkStay (b := w.heap.size + 1) (o := flObj lo) (by ((simp only [heap_alloc_get, heap_size_alloc, if_true]) <;> ((repeat' split) <;> first | rfl | omega))) hb2); have HH2 := Lib.hid (blkStay (b := w.heap.size + 1 + 1) (o := flObj hi) (by ((simp only [heap_alloc_get, heap_size_alloc, if_true]) <;> ((repeat' split) <;> first | rfl | omega))) hb2); have HO2 := Lib.hid (blkStay (b := w.heap.size + 1 + 1 + 1) (o := flObj so) (by ((simp only [heap_alloc_get, heap_size_alloc, if_true]) <;> ((repeat' split) <;> first | rfl | omega))) hb2); have HS2 := Lib.hid (blkStay (b := w.heap.size + 1 + 1 + 1 + 1) (o := fldO 0 0 0 0 (.slice none 0 0)) (by ((simp only [heap_alloc_get, heap_size_alloc, if_true]) <;> ((repeat' split) <;> first | rfl | omega))) hb2); have hB2 : Below w.heap.size w w2 := Below.trans (by repeat (first | exact Below.refl _ _ | refine Below.alloc ?_ (by first | omega | (simp; done) | (simp; omega)) _ | refine Below.setCell ?_ (by first | omega | (simp; done) | (simp; omega)) _ | refine Below.drew ?_)) (Below.mono hb2 (by first | omega | (simp; done) | (simp; omega))); obtain ⟨cL, fL, zL⟩ := blkC HL2.out; obtain ⟨cH, fH, zH⟩ := blkC HH2.out; obtain ⟨cO, fO, zO⟩ := blkC HO2.out; clear hb2) | (go_at_call 88; refine (CS.out _ _ (heap_alloc_new _ _)).mono ?_; rintro e w3 ⟨rfl, hw3⟩; have hb23 : Below w2.heap.size w2 w3 := (by rw [← hw3]; exact (by repeat (first | exact Below.refl _ _ | refine Below.alloc ?_ (by first | omega | (simp; done) | (simp; omega)) _ | refine Below.setCell ?_ (by first | omega | (simp; done) | (simp; omega)) _ | refine Below.drew ?_))); clear hw3 cL fL zL cH fH zH cO fO zO; have HF3 := Lib.hid (blkStay HF2.out hb23); have HL3 := Lib.hid (blkStay HL2.out hb23); have HH3 := Lib.hid (blkStay HH2.out hb23); have HO3 := Lib.hid (blkStay HO2.out hb23); have HS3 := Lib.hid (blkStay HS2.out hb23); have hB3 := hB2.trans (hb23.mono hB2.size); clear hb23 hB2 HF2 HL2 HH2 HO2 HS2; obtain ⟨cF, fF, zF⟩ := blkC HF3.out; obtain ⟨cL, fL, zL⟩ := blkC HL3.out; obtain ⟨cH, fH, zH⟩ := blkC HH3.out; obtain ⟨cO, fO, zO⟩ := blkC HO3.out; obtain ⟨cS, fS, zS⟩ := blkC HS3.out))
        clear cS fS cF fF zF
        refine (RM.out _ w.heap.size HL3.out HH3.out HO3.out (flAt_congr HC.out (hB3.block _ hlt))).mono ?_
        intro e w4 hmade
        rcases hmade with ⟨hall, b', cap', rfl, hb', hlt', hrow, hbel⟩ | ⟨hall, rfl, hbel⟩
        · obtain ⟨cS, fS, zS4⟩ := blkC (blkStay HS3.out hbel)
          have HB := Lib.hid hb'
          clear hb'
          go_wp2
          refine bodyPost_ret (v := .tuple #[fldV X Y W H (.slice (some ⟨b', 0, none⟩) n cap'), .int .i64 0]) (by simp [results, Try.results27, go_sem, cS]) rfl ?_
          have z3 := hB3.size
          have hb' := HB.out
          exact .inr ⟨rfl, .inl ⟨hall, b', cap', rfl, by omega, by rw [set5_size]; exact hlt', flAt_congr hrow (set5_heap w4 _ _ _ _ _ _ _ (by omega)), set5_below (hB3.trans (hbel.mono z3)) _ _ _ _ _ _ (by omega)⟩⟩
        · obtain ⟨cS, fS, zS4⟩ := blkC (blkStay HS3.out hbel)
          go_wp2
          refine bodyPost_ret (v := .tuple #[fldV 0 0 0 0 (.slice none 0 0), .int .i64 3]) (by simp [results, Try.results27, go_sem, cS]) rfl ?_
          have z3 := hB3.size
          exact .inr ⟨rfl, .inr ⟨hall, rfl, set5_below (hB3.trans (hbel.mono z3)) _ _ _ _ _ _ (by omega)⟩⟩
  · have hzb : (fldE 3 (three lo hi so) != 0) = true := by simp [hz]
    rw [if_neg hz]
    have HZ := Lib.hid hz
    generalize fldE 3 (three lo hi so) = er at *
    clear hc hn h0 hh hz b1 b2 b3 b4 b5 b6 b7 b8 b9 hnn
    go_enter Try.func27, Try.ntmps27
    go_wp2_with (first | (go_at_call 90; refine (CK.out _ (by repeat (first | exact Below.refl _ _ | refine Below.alloc ?_ (by first | omega | (simp; done) | (simp; omega)) _ | refine Below.setCell ?_ (by first | omega | (simp; done) | (simp; omega)) _ | refine Below.drew ?_))).mono ?_; rintro e w2 ⟨rfl, hb2⟩; have HF2 := Lib.hid (blkStay (b := w.heap.size) (o := fldO X Y W H (.slice (some ⟨b, 0, none⟩) n cap)) (by ((simp only [heap_alloc_get, heap_size_alloc, if_true]) <;> ((repeat' split) <;> first | rfl | omega))) hb2); have HL2 := Lib.hid (blkStay (b := w.heap.size + 1) (o := flObj lo) (by ((simp only [heap_alloc_get, heap_size_alloc, if_true]) <;> ((repeat' split) <;> first | rfl | omega))) hb2); have HH2 := Lib.hid (blkStay (b := w.heap.size + 1 + 1) (o := flObj hi) (by ((simp only [heap_alloc_get, heap_size_alloc, if_true]) <;> ((repeat' split) <;> first | rfl | omega))) hb2); have HO2 := Lib.hid (blkStay (b := w.heap.size + 1 + 1 + 1) (o := flObj so) (by ((simp only [heap_alloc_get, heap_size_alloc, if_true]) <;> ((repeat' split) <;> first | rfl | omega))) hb2); have HS2 := Lib.hid (blkStay (b := w.heap.size + 1 + 1 + 1 + 1) (o := fldO 0 0 0 0 (.slice none 0 0)) (by ((simp only [heap_alloc_get, heap_size_alloc, if_true]) <;> ((repeat' split) <;> first | rfl | omega))) hb2); have hB2 : Below w.heap.size w w2 := Below.trans (by repeat (first | exact Below.refl _ _ | refine Below.alloc ?_ (by first | omega | (simp; done) | (simp; omega)) _ | refine Below.setCell ?_ (by first | omega | (simp; done) | (simp; omega)) _ | refine Below.drew ?_)) (Below.mono hb2 (by first | omega | (simp; done) | (simp; omega))); obtain ⟨cL, fL, zL⟩ := blkC HL2.out; obtain ⟨cH, fH, zH⟩ := blkC HH2.out; obtain ⟨cO, fO, zO⟩ := blkC HO2.out; clear hb2) | (go_at_call 88; refine (CS.out _ _ (heap_alloc_new _ _)).mono ?_; rintro e w3 ⟨rfl, hw3⟩; have hb23 : Below w2.heap.size w2 w3 := (by rw [← hw3]; exact (by repeat (first | exact Below.refl _ _ | refine Below.alloc ?_ (by first | omega | (simp; done) | (simp; omega)) _ | refine Below.setCell ?_ (by first | omega | (simp; done) | (simp; omega)) _ | refine Below.drew ?_))); clear hw3 cL fL zL cH fH zH cO fO zO; have HF3 := Lib.hid (blkStay HF2.out hb23); have HL3 := Lib.hid (blkStay HL2.out hb23); have HH3 := Lib.hid (blkStay HH2.out hb23); have HO3 := Lib.hid (blkStay HO2.out hb23); have HS3 := Lib.hid (blkStay HS2.out hb23); have hB3 := hB2.trans (hb23.mono hB2.size); clear hb23 hB2 HF2 HL2 HH2 HO2 HS2; obtain ⟨cF, fF, zF⟩ := blkC HF3.out; obtain ⟨cL, fL, zL⟩ := blkC HL3.out; obtain ⟨cH, fH, zH⟩ := blkC HH3.out; obtain ⟨cO, fO, zO⟩ := blkC HO3.out; obtain ⟨cS, fS, zS⟩ := blkC HS3.out))
    refine bodyPost_ret (v := .tuple #[fldV 0 0 0 0 (.slice none 0 0), .int .i64 er]) (by simp [results, Try.results27, go_sem, cS]) rfl ?_
    exact .inl ⟨HZ.out, rfl, set5_below hB3 _ _ _ _ _ _ (by omega)⟩
end Go.Proofs.Ytmbiohopcfglcaa

/- Select of the reference, of a right field. -/
namespace Go.Proofs.Ytmbiohopcfglcaa
open Go.RowKit Fl
set_option linter.unusedVariables false

set_option maxHeartbeats 1000000 in
theorem selectError_any (lo hi so : Nat) (hl : lo < 4294967296) (hh : hi < 4294967296) (hs : so < 4294967296) (w : World) :
    Calls Try.prog 107 #[.float .f32 lo, .float .f32 hi, .float .f32 so] w fun e w' => e = .returned (.int .i64 (selE lo hi so)) ∧ Below w.heap.size w w' := by
  have HT := Lib.hid (fun bb W' (hb : W'.heap[bb]? = some (.cells #[.float .f32 lo, .float .f32 hi, .float .f32 so] 22)) => refHeight_row bb 0 3 3 (three lo hi so) (by omega) W' (flAt_three hb) (three_wf hl hh hs))
  unfold selE
  by_cases hz : fldE 3 (three lo hi so) = 0
  · rw [if_pos hz]
    rw [hz] at HT
    clear hz hl hh hs
    cases c1 : (FloatKind.f32.format.order lo hi == some .gt) with
    | true =>
      rw [if_pos rfl]
      go_enter Try.func107, Try.ntmps107
      go_wp2_with (first | (go_at_call 84; refine (HT.out _ _ (heap_alloc_new _ _)).mono ?_; rintro e w2 ⟨rfl, rfl⟩))
      go_ret
      exact ⟨rfl, (by repeat (first | exact Below.refl _ _ | refine Below.alloc ?_ (by first | omega | (simp; done) | (simp; omega)) _ | refine Below.setCell ?_ (by first | omega | (simp; done) | (simp; omega)) _ | refine Below.drew ?_))⟩
    | false =>
      rw [if_neg (by simp)]
      cases c2 : (FloatKind.f32.format.order so 0 == some .lt) with
      | true =>
        rw [if_pos rfl]
        go_enter Try.func107, Try.ntmps107
        go_wp2_with (first | (go_at_call 84; refine (HT.out _ _ (heap_alloc_new _ _)).mono ?_; rintro e w2 ⟨rfl, rfl⟩))
        go_ret
        exact ⟨rfl, (by repeat (first | exact Below.refl _ _ | refine Below.alloc ?_ (by first | omega | (simp; done) | (simp; omega)) _ | refine Below.setCell ?_ (by first | omega | (simp; done) | (simp; omega)) _ | refine Below.drew ?_))⟩
      | false =>
        rw [if_neg (by simp)]
        go_enter Try.func107, Try.ntmps107
        go_wp2_with (first | (go_at_call 84; refine (HT.out _ _ (heap_alloc_new _ _)).mono ?_; rintro e w2 ⟨rfl, rfl⟩))
        go_ret
        exact ⟨rfl, (by repeat (first | exact Below.refl _ _ | refine Below.alloc ?_ (by first | omega | (simp; done) | (simp; omega)) _ | refine Below.setCell ?_ (by first | omega | (simp; done) | (simp; omega)) _ | refine Below.drew ?_))⟩
  · rw [if_neg hz]
    have hzb : (fldE 3 (three lo hi so) != 0) = true := by simp [hz]
    generalize fldE 3 (three lo hi so) = er at *
    clear hz hl hh hs
    go_enter Try.func107, Try.ntmps107
    go_wp2_with (first | (go_at_call 84; refine (HT.out _ _ (heap_alloc_new _ _)).mono ?_; rintro e w2 ⟨rfl, rfl⟩))
    go_ret
    exact ⟨rfl, (by repeat (first | exact Below.refl _ _ | refine Below.alloc ?_ (by first | omega | (simp; done) | (simp; omega)) _ | refine Below.setCell ?_ (by first | omega | (simp; done) | (simp; omega)) _ | refine Below.drew ?_))⟩

set_option maxHeartbeats 4000000 in
set_option maxRecDepth 100000 in
theorem rsel1_any (X Y : Int) (W H n b cap : Nat) (v : Nat → Nat) (p lo hi so : Nat) (w : World) (kF : w.heap[p]? = some (fldO X Y W H (.slice (some ⟨b, 0, none⟩) n cap))) (k1 : w.heap[p + 1]? = some (flObj lo)) (k2 : w.heap[p + 1 + 1]? = some (flObj hi)) (k3 : w.heap[p + 1 + 1 + 1]? = some (flObj so)) (hc : FlAt w b 0 n v)
    (hh : allB n (fun i => hgtB (v i)) = true) (g1 : hgtB lo = true) (g2 : hgtB hi = true) (g3 : hgtB so = true) (h0 : checkR X Y W H = 0) (hnn : n = H * W) :
    Clos2 108 #[.pointer (some ⟨p, 0, none⟩), .pointer (some ⟨p + 1, 0, none⟩), .pointer (some ⟨p + 1 + 1, 0, none⟩), .pointer (some ⟨p + 1 + 1 + 1, 0, none⟩)] X Y W H (fun i => selW (v i) lo hi so) w := by
  intro x y i w2 h1 h2 h3 h4 h5 hb
  obtain ⟨b1, b2, b3, b4, b5, b6, b7, b8, b9⟩ := checkR_zero h0
  have hn : n ≤ 65536 := by
    have : ((W : Int) * (H : Int)) = (n : Int) := by rw [hnn, Nat.mul_comm]; simp
    omega
  have hi' : i < n := num_lt (by omega) h1 h2 h4 h5 hnn
  have hrow := flAt_congr hc (hb.block b (World.block_lt_of_cell? w _ (hc i hi')))
  have z1 := World.block_lt_of_cell? w2 _ (hrow i hi')
  have AT := Lib.hid (fun W' (hb : Below w2.heap.size w2 W') => refAt_any X Y W H n b cap i v x y W' (by omega) (by omega) (by omega) (by omega) (by omega) (by omega) (by omega) h1 h2 h3 h4 h5 hi' hn (flAt_congr hrow (hb.block _ z1)))
  have SL := Lib.hid (fun w => selected_any (v i) lo hi so w (allB_iff.1 hh i hi') g1 g2 g3)
  have GF := Lib.hid (blkStay kF hb)
  have G1 := Lib.hid (blkStay k1 hb)
  have G2 := Lib.hid (blkStay k2 hb)
  have G3 := Lib.hid (blkStay k3 hb)
  obtain ⟨cF, fF, zF⟩ := blkC GF.out
  obtain ⟨c1, f1, z2⟩ := blkC G1.out
  obtain ⟨c2, f2, z3⟩ := blkC G2.out
  obtain ⟨c3, f3, z4⟩ := blkC G3.out
  show Calls _ _ _ _ fun e w' => e = .returned (.float .f32 (selW (v i) lo hi so)) ∧ _
  generalize selW (v i) lo hi so = r at *
  clear hb h1 h2 h3 h4 h5 b1 b2 b3 b4 b5 b6 b7 b8 b9 hnn hh h0 hi' hn hrow kF k1 k2 k3 hc
  go_enter Try.func108, Try.ntmps108
  go_wp2
  go_region_held3 (fun w' => (∀ o, w'.cell? ⟨p, o, none⟩ = #[.int .i64 X, .int .i64 Y, .int .i64 W, .int .i64 H, .slice (some ⟨b, 0, none⟩) n cap][o]?) ∧ (∀ o, w'.cell? ⟨p + 1, o, none⟩ = #[.float .f32 lo][o]?) ∧ (∀ o, w'.cell? ⟨p + 1 + 1, o, none⟩ = #[.float .f32 hi][o]?) ∧ (∀ o, w'.cell? ⟨p + 1 + 1 + 1, o, none⟩ = #[.float .f32 so][o]?) ∧ Below w2.heap.size w2 w') (first | exact ⟨(blkC (blkStay GF.out (by repeat (first | exact Below.refl _ _ | refine Below.alloc ?_ (by first | omega | (simp; done) | (simp; omega)) _ | refine Below.setCell ?_ (by first | omega | (simp; done) | (simp; omega)) _ | refine Below.drew ?_)))).1, (blkC (blkStay G1.out (by repeat (first | exact Below.refl _ _ | refine Below.alloc ?_ (by first | omega | (simp; done) | (simp; omega)) _ | refine Below.setCell ?_ (by first | omega | (simp; done) | (simp; omega)) _ | refine Below.drew ?_)))).1, (blkC (blkStay G2.out (by repeat (first | exact Below.refl _ _ | refine Below.alloc ?_ (by first | omega | (simp; done) | (simp; omega)) _ | refine Below.setCell ?_ (by first | omega | (simp; done) | (simp; omega)) _ | refine Below.drew ?_)))).1, (blkC (blkStay G3.out (by repeat (first | exact Below.refl _ _ | refine Below.alloc ?_ (by first | omega | (simp; done) | (simp; omega)) _ | refine Below.setCell ?_ (by first | omega | (simp; done) | (simp; omega)) _ | refine Below.drew ?_)))).1, (by repeat (first | exact Below.refl _ _ | refine Below.alloc ?_ (by first | omega | (simp; done) | (simp; omega)) _ | refine Below.setCell ?_ (by first | omega | (simp; done) | (simp; omega)) _ | refine Below.drew ?_))⟩) (first | (go_at_call 96; (with_reducible refine Calls.mono (AT.out _ ?_) ?_); exact (by repeat (first | exact Below.refl _ _ | refine Below.alloc ?_ (by first | omega | (simp; done) | (simp; omega)) _ | refine Below.setCell ?_ (by first | omega | (simp; done) | (simp; omega)) _ | refine Below.drew ?_)); rintro e w' ⟨rfl, rfl⟩) | (go_at_call 109; refine (SL.out _).mono ?_; rintro e w' ⟨rfl, rfl⟩))
  rename_i wh hHeld
  go_wp2
  go_ret
  exact ⟨rfl, hHeld.2.2.2.2⟩

set_option maxHeartbeats 2000000 in
theorem rselect_any (X Y : Int) (W H n b cap : Nat) (v : Nat → Nat) (lo hi so : Nat) (w : World) (h0 : checkR X Y W H = 0) (hn : n = W * H) (hc : FlAt w b 0 n v) (hh : allB n (fun i => hgtB (v i)) = true) (hl' : lo < 4294967296) (hh' : hi < 4294967296) (hs' : so < 4294967296) :
    Calls Try.prog 28 #[fldV X Y W H (.slice (some ⟨b, 0, none⟩) n cap), .float .f32 lo, .float .f32 hi, .float .f32 so] w (ScPost w X Y W H n (fun i => selW (v i) lo hi so) (selE lo hi so)) := by
  obtain ⟨b1, b2, b3, b4, b5, b6, b7, b8, b9⟩ := checkR_zero h0
  have hnn : n = H * W := by rw [hn]; exact Nat.mul_comm _ _
  have h1 : 1 ≤ n := by rw [hn]; exact Nat.mul_pos (by omega) (by omega)
  have hlt : b < w.heap.size := World.block_lt_of_cell? w _ (hc 0 h1)
  have SE := Lib.hid (fun w => selectError_any lo hi so hl' hh' hs' w)
  by_cases hz : selE lo hi so = 0
  · have hz3 : fldE 3 (three lo hi so) = 0 := by
      unfold selE at hz
      by_cases q : fldE 3 (three lo hi so) = 0
      · exact q
      · rw [if_neg q] at hz; exact hz
    obtain ⟨g1, g2, g3⟩ := three_hgt hz3
    have BY := Lib.hid (fun W' p (kF : W'.heap[p]? = some (fldO X Y W H (.slice (some ⟨b, 0, none⟩) n cap))) (k1 : W'.heap[p + 1]? = some (flObj lo)) (k2 : W'.heap[p + 1 + 1]? = some (flObj hi)) (k3 : W'.heap[p + 1 + 1 + 1]? = some (flObj so)) (hc' : FlAt W' b 0 n v) =>
      made_any X Y W H n 108 #[.pointer (some ⟨p, 0, none⟩), .pointer (some ⟨p + 1, 0, none⟩), .pointer (some ⟨p + 1 + 1, 0, none⟩), .pointer (some ⟨p + 1 + 1 + 1, 0, none⟩)] (fun i => selW (v i) lo hi so) W' enters_rSelect1
        (rsel1_any X Y W H n b cap v p lo hi so W' kF k1 k2 k3 hc' hh g1 g2 g3 h0 hnn) (fun i hi' => sel_lt (allB_iff.1 hh i hi') g1 g2 g3) (by omega) (by omega) (by omega) (by omega) (by omega) (by omega) (by omega) (by omega) hnn)
    rw [hz] at SE ⊢
    have HC := Lib.hid hc
    clear hc hn h0 hh hz hz3 b1 b2 b3 b4 b5 b6 b7 b8 b9 hnn g1 g2 g3 hl' hh' hs'
    go_enter Try.func28, Try.ntmps28
    go_wp2_with (first | (go_at_call 107; refine (SE.out _).mono ?_; rintro e w2 ⟨rfl, hb2⟩; have HF2 := Lib.hid (blkStay (b := w.heap.size) (o := fldO X Y W H (.slice (some ⟨b, 0, none⟩) n cap)) (by ((simp only [heap_alloc_get, heap_size_alloc, if_true]) <;> ((repeat' split) <;> first | rfl | omega))) hb2); have HL2 := Lib.hid (blkStay (b := w.heap.size + 1) (o := flObj lo) (by ((simp only [heap_alloc_get, heap_size_alloc, if_true]) <;> ((repeat' split) <;> first | rfl | omega))) hb2); have HH2 := Lib.hid (blkStay (b := w.heap.size + 1 + 1) (o := flObj hi) (by ((simp only [heap_alloc_get, heap_size_alloc, if_true]) <;> ((repeat' split) <;> first | rfl | omega))) hb2); have HO2 := Lib.hid (blkStay (b := w.heap.size + 1 + 1 + 1) (o := flObj so) (by ((simp only [heap_alloc_get, heap_size_alloc, if_true]) <;> ((repeat' split) <;> first | rfl | omega))) hb2); have HS2 := Lib.hid (blkStay (b := w.heap.size + 1 + 1 + 1 + 1) (o := fldO 0 0 0 0 (.slice none 0 0)) (by ((simp only [heap_alloc_get, heap_size_alloc, if_true]) <;> ((repeat' split) <;> first | rfl | omega))) hb2); have hB2 : Below w.heap.size w w2 := Below.trans (by repeat (first | exact Below.refl _ _ | refine Below.alloc ?_ (by first | omega | (simp; done) | (simp; omega)) _ | refine Below.setCell ?_ (by first | omega | (simp; done) | (simp; omega)) _ | refine Below.drew ?_)) (Below.mono hb2 (by first | omega | (simp; done) | (simp; omega))); obtain ⟨cF, fF, zF⟩ := blkC HF2.out; clear hb2))
    refine (BY.out _ w.heap.size HF2.out HL2.out HH2.out HO2.out (flAt_congr HC.out (hB2.block _ hlt))).mono ?_
    intro e w4 hmade
    clear cF fF zF
    rcases hmade with ⟨hall, b', cap', rfl, hb', hlt', hrow, hbel⟩ | ⟨hall, rfl, hbel⟩
    · obtain ⟨cS, fS, zS4⟩ := blkC (blkStay HS2.out hbel)
      have zS2 := (blkC HS2.out).2.2
      have HB := Lib.hid hb'
      clear hb'
      go_wp2
      refine bodyPost_ret (v := .tuple #[fldV X Y W H (.slice (some ⟨b', 0, none⟩) n cap'), .int .i64 0]) (by simp [results, Try.results28, go_sem, cS]) rfl ?_
      have z2 := hB2.size
      have hb' := HB.out
      exact .inr ⟨rfl, .inl ⟨hall, b', cap', rfl, by omega, by rw [set5_size]; exact hlt', flAt_congr hrow (set5_heap w4 _ _ _ _ _ _ _ (by omega)), set5_below (hB2.trans (hbel.mono z2)) _ _ _ _ _ _ (by omega)⟩⟩
    · obtain ⟨cS, fS, zS4⟩ := blkC (blkStay HS2.out hbel)
      go_wp2
      refine bodyPost_ret (v := .tuple #[fldV 0 0 0 0 (.slice none 0 0), .int .i64 3]) (by simp [results, Try.results28, go_sem, cS]) rfl ?_
      have z2 := hB2.size
      exact .inr ⟨rfl, .inr ⟨hall, rfl, set5_below (hB2.trans (hbel.mono z2)) _ _ _ _ _ _ (by omega)⟩⟩
  · have hzb : (selE lo hi so != 0) = true := by simp [hz]
    have HZ := Lib.hid hz
    generalize selE lo hi so = er at *
    clear hc hn h0 hh hz b1 b2 b3 b4 b5 b6 b7 b8 b9 hnn hl' hh' hs'
    go_enter Try.func28, Try.ntmps28
    go_wp2_with (first | (go_at_call 107; refine (SE.out _).mono ?_; rintro e w2 ⟨rfl, hb2⟩; have HS2 := Lib.hid (blkStay (b := w.heap.size + 1 + 1 + 1 + 1) (o := fldO 0 0 0 0 (.slice none 0 0)) (by ((simp only [heap_alloc_get, heap_size_alloc, if_true]) <;> ((repeat' split) <;> first | rfl | omega))) hb2); have hB2 : Below w.heap.size w w2 := Below.trans (by repeat (first | exact Below.refl _ _ | refine Below.alloc ?_ (by first | omega | (simp; done) | (simp; omega)) _ | refine Below.setCell ?_ (by first | omega | (simp; done) | (simp; omega)) _ | refine Below.drew ?_)) (Below.mono hb2 (by first | omega | (simp; done) | (simp; omega))); obtain ⟨cS, fS, zS⟩ := blkC HS2.out; clear hb2))
    refine bodyPost_ret (v := .tuple #[fldV 0 0 0 0 (.slice none 0 0), .int .i64 er]) (by simp [results, Try.results28, go_sem, cS]) rfl ?_
    exact .inl ⟨HZ.out, rfl, set5_below hB2 _ _ _ _ _ _ (by omega)⟩
end Go.Proofs.Ytmbiohopcfglcaa
