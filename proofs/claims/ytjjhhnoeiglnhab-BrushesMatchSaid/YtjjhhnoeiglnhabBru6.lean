/- Stamp of both sides, of a right field. -/
import Derived.Test.YtjjhhnoeiglnhabBru5
import Derived.Test.YtjjhhnoeiglnhabRem
import Derived.Test.YtjjhhnoeiglnhabRes
namespace Go.Proofs.Ytjjhhnoeiglnhab
open Go.RowKit Fl
set_option linter.unusedVariables false

theorem enters_Stamp1 : Enters 124 := by intro args W; simp [callFunc, Try.func124, Try.f124]
theorem enters_rStamp1 : Enters 125 := by intro args W; simp [callFunc, Try.func125, Try.f125]

/-- Stamp of one value. -/
def staW (v h q : Nat) : Nat := addW v (mulW h q)
theorem sta_parts {v h q : Nat} {d : Int} (hv : hgtB v = true) (hh : hgtB h = true) (hq : vS q = some d) (d0 : 0 ≤ d) (d1 : d ≤ (one : Int)) :
    ∃ m r, floatBits .mul .f32 h q = some m ∧ Same2 .mul 20 h q ∧ floatBits .add .f32 v m = some r ∧ Same2 .add 21 v m ∧ staW v h q = r ∧ r < 4294967296 := by
  have s1 : Same2 .mul (20 + 0) h q := mul_same (by omega) (hgt_bd hh) (bd_unit hq (by omega) d1)
  obtain ⟨m, e1, b1⟩ := same_ex s1
  have s2 : Same2 .add 21 v m := add_same (k := 20) (by omega) (hgt_bd hv) b1
  obtain ⟨r, e2, _⟩ := same_ex s2
  exact ⟨m, r, e1, s1, e2, s2, by unfold staW mulW addW; rw [e1]; show (floatBits .add .f32 v m).getD 0 = r; rw [e2]; rfl, add_lt e2⟩

set_option maxHeartbeats 4000000 in
set_option maxRecDepth 100000 in
theorem stamp1_any (k X Y R : Int) (h v : Nat) (x y : Int) (p : Nat) (w : World) (kB : w.heap[p]? = some (bruObj k X Y R h)) (K : BruOk k X Y R h) (hv : hgtB v = true) (x1 : -4194304 ≤ x) (x2 : x ≤ 4194304) (y1 : -4194304 ≤ y) (y2 : y ≤ 4194304) :
    Calls Try.prog 124 #[.float .f32 v, .int .i64 x, .int .i64 y, .pointer (some ⟨p, 0, none⟩)] w fun e w' => e = .returned (.float .f32 (staW v h (weiW k (sqD x y X Y) R))) ∧ Below w.heap.size w w' := by
  have n0 : 0 ≤ sqD x y X Y := by
    obtain ⟨a0, a1⟩ := side_sq (d := x - X) (by have := K.X1; have := K.X2; omega) (by have := K.X1; have := K.X2; omega)
    obtain ⟨b0, b1⟩ := side_sq (d := y - Y) (by have := K.Y1; have := K.Y2; omega) (by have := K.Y1; have := K.Y2; omega)
    unfold sqD; omega
  obtain ⟨d, hd, d0, d1⟩ := wei_in (k := k) n0 K.r1 K.r2
  obtain ⟨m, r, e1, _, e2, _, e3, _⟩ := sta_parts hv K.hg hd d0 d1
  rw [e3]
  have WT := Lib.hid (fun w => weight_any k X Y R h x y w K.k1 K.k3 K.X1 K.X2 K.Y1 K.Y2 K.r1 K.r2 x1 x2 y1 y2)
  have a1 := fun (W : World) => run_float_arith (P := Try.prog) W .mul 37 .f32 h _ m e1
  have a2 := fun (W : World) => run_float_arith (P := Try.prog) W .add 37 .f32 v m r e2
  generalize weiW k (sqD x y X Y) R = q at *
  have GB := Lib.hid kB
  obtain ⟨cB, fB, zB⟩ := blkC kB
  clear K hv x1 x2 y1 y2 n0 hd d0 d1 e1 e2 e3 kB
  go_enter Try.func124, Try.ntmps124
  go_wp2
  go_region_held3 (fun w' => (∀ o, w'.cell? ⟨p, o, none⟩ = #[.int .i64 k, .int .i64 X, .int .i64 Y, .int .i64 R, .float .f32 h][o]?) ∧ Below w.heap.size w w') (first | exact ⟨(blkC (blkStay GB.out hb9)).1, hb9⟩ | exact ⟨(blkC (blkStay GB.out (by repeat (first | exact Below.refl _ _ | refine Below.alloc ?_ (by first | omega | (simp; done) | (simp; omega)) _ | refine Below.setCell ?_ (by first | omega | (simp; done) | (simp; omega)) _ | refine Below.drew ?_)))).1, (by repeat (first | exact Below.refl _ _ | refine Below.alloc ?_ (by first | omega | (simp; done) | (simp; omega)) _ | refine Below.setCell ?_ (by first | omega | (simp; done) | (simp; omega)) _ | refine Below.drew ?_))⟩) (first | (go_at_call 123; (with_reducible refine Calls.mono (WT.out _) ?_); rintro e w' ⟨rfl, hb8⟩; have hb9 : Below w.heap.size w w' := Below.trans (by repeat (first | exact Below.refl _ _ | refine Below.alloc ?_ (by first | omega | (simp; done) | (simp; omega)) _ | refine Below.setCell ?_ (by first | omega | (simp; done) | (simp; omega)) _ | refine Below.drew ?_)) (Below.mono hb8 (by first | exact Nat.le_refl _ | (simp; done) | (simp; omega))); clear hb8))
  rename_i wh hHeld
  go_wp2
  go_ret
  exact ⟨rfl, hHeld.2⟩

/-- What Stamp makes of the cell number i of a region that begins at (X', Y') and is W' wide. -/
def staF (v : Nat → Nat) (k X Y R : Int) (h : Nat) (X' Y' : Int) (W' : Nat) (i : Nat) : Nat := staW (v i) h (weiW k (sqD (X' + ((i % W' : Nat) : Int)) (Y' + ((i / W' : Nat) : Int)) X Y) R)

set_option maxHeartbeats 2000000 in
theorem stamp_any (X Y : Int) (W H n b cap : Nat) (v : Nat → Nat) (k X' Y' R : Int) (h : Nat) (w : World) (h0 : checkR X Y W H = 0) (hn : n = W * H) (hc : FlAt w b 0 n v) (hh : allB n (fun i => hgtB (v i)) = true) :
    Calls Try.prog 37 #[fldV X Y W H (.slice (some ⟨b, 0, none⟩) n cap), bru k X' Y' R h] w (ScPost w X Y W H n (staF v k X' Y' R h X Y W) (bruE k X' Y' R h)) := by
  obtain ⟨b1, b2, b3, b4, b5, b6, b7, b8, b9⟩ := checkR_zero h0
  have hnn : n = H * W := by rw [hn]; exact Nat.mul_comm _ _
  have h1 : 1 ≤ n := by rw [hn]; exact Nat.mul_pos (by omega) (by omega)
  have hlt : b < w.heap.size := World.block_lt_of_cell? w _ (hc 0 h1)
  have CK := Lib.hid (fun W' (hb : Below w.heap.size w W') => check_ok X Y W H n b cap v W' h0 hn (flAt_congr hc (hb.block _ hlt)) hh)
  have CB := Lib.hid (fun w => checkBrush_any k X' Y' R h w)
  by_cases hz : bruE k X' Y' R h = 0
  · have K := bru_ok hz
    rw [hz] at CB ⊢
    have HC := Lib.hid hc
    have RM := Lib.hid (fun W' p (k1 : W'.heap[p + 1]? = some (bruObj k X' Y' R h)) (hc' : FlAt W' b 0 n v) =>
      remade_any X Y W H n b cap v (staF v k X' Y' R h X Y W) 124 #[.pointer (some ⟨p + 1, 0, none⟩)] W' enters_Stamp1
        (fun x y i W'' h1 h2 h3 h4 h5 hb => by
          obtain ⟨ex, ey⟩ := place_of (show 1 ≤ W by omega) h1 h2 h3 h5
          unfold staF; rw [ex, ey]
          exact stamp1_any k X' Y' R h (v i) x y (p + 1) W'' (blkStay k1 hb) K (allB_iff.1 hh i (num_lt (by omega) h1 h2 h4 h5 hnn)) (by omega) (by omega) (by omega) (by omega)) h0 hnn hc')
    clear hc hn h0 hh hz b1 b2 b3 b4 b5 b6 b7 b8 b9 hnn K
    go_enter Try.func37, Try.ntmps37
    go_wp2_with (first | (go_at_call 107; refine (CK.out _ (by repeat (first | exact Below.refl _ _ | refine Below.alloc ?_ (by first | omega | (simp; done) | (simp; omega)) _ | refine Below.setCell ?_ (by first | omega | (simp; done) | (simp; omega)) _ | refine Below.drew ?_))).mono ?_; rintro e w2 ⟨rfl, hb2⟩; have HF2 := Lib.hid (blkStay (b := w.heap.size) (o := fldO X Y W H (.slice (some ⟨b, 0, none⟩) n cap)) (by ((simp only [heap_alloc_get, heap_size_alloc, if_true]) <;> ((repeat' split) <;> first | rfl | omega))) hb2); have HL2 := Lib.hid (blkStay (b := w.heap.size + 1) (o := bruObj k X' Y' R h) (by ((simp only [heap_alloc_get, heap_size_alloc, if_true]) <;> ((repeat' split) <;> first | rfl | omega))) hb2); have HS2 := Lib.hid (blkStay (b := w.heap.size + 1 + 1) (o := fldO 0 0 0 0 (.slice none 0 0)) (by ((simp only [heap_alloc_get, heap_size_alloc, if_true]) <;> ((repeat' split) <;> first | rfl | omega))) hb2); have hB2 : Below w.heap.size w w2 := Below.trans (by repeat (first | exact Below.refl _ _ | refine Below.alloc ?_ (by first | omega | (simp; done) | (simp; omega)) _ | refine Below.setCell ?_ (by first | omega | (simp; done) | (simp; omega)) _ | refine Below.drew ?_)) (Below.mono hb2 (by first | omega | (simp; done) | (simp; omega))); obtain ⟨cL, fL, zL⟩ := blkC HL2.out; clear hb2) | (go_at_call 34; refine (CB.out _).mono ?_; rintro e w3 ⟨rfl, hb23⟩; clear cL fL zL; have HF3 := Lib.hid (blkStay HF2.out hb23); have HL3 := Lib.hid (blkStay HL2.out hb23); have HS3 := Lib.hid (blkStay HS2.out hb23); have hB3 := hB2.trans (hb23.mono hB2.size); clear hb23 hB2 HF2 HL2 HS2; obtain ⟨cF, fF, zF⟩ := blkC HF3.out; obtain ⟨cL, fL, zL⟩ := blkC HL3.out; obtain ⟨cS, fS, zS⟩ := blkC HS3.out))
    clear cS fS cF fF zF
    refine (RM.out _ w.heap.size HL3.out (flAt_congr HC.out (hB3.block _ hlt))).mono ?_
    intro e w4 hmade
    rcases hmade with ⟨hall, b', cap', rfl, hb', hlt', hrow, hbel⟩ | ⟨hall, rfl, hbel⟩
    · obtain ⟨cS, fS, zS4⟩ := blkC (blkStay HS3.out hbel)
      have HB := Lib.hid hb'
      clear hb'
      go_wp2
      refine bodyPost_ret (v := .tuple #[fldV X Y W H (.slice (some ⟨b', 0, none⟩) n cap'), .int .i64 0]) (by simp [results, Try.results37, go_sem, cS]) rfl ?_
      have z3 := hB3.size
      have hb' := HB.out
      exact .inr ⟨rfl, .inl ⟨hall, b', cap', rfl, by omega, by rw [set5_size]; exact hlt', flAt_congr hrow (set5_heap w4 _ _ _ _ _ _ _ (by omega)), set5_below (hB3.trans (hbel.mono z3)) _ _ _ _ _ _ (by omega)⟩⟩
    · obtain ⟨cS, fS, zS4⟩ := blkC (blkStay HS3.out hbel)
      go_wp2
      refine bodyPost_ret (v := .tuple #[fldV 0 0 0 0 (.slice none 0 0), .int .i64 3]) (by simp [results, Try.results37, go_sem, cS]) rfl ?_
      have z3 := hB3.size
      exact .inr ⟨rfl, .inr ⟨hall, rfl, set5_below (hB3.trans (hbel.mono z3)) _ _ _ _ _ _ (by omega)⟩⟩
  · have hzb : (bruE k X' Y' R h != 0) = true := by simp [hz]
    have HZ := Lib.hid hz
    generalize bruE k X' Y' R h = er at *
    clear hc hn h0 hh hz b1 b2 b3 b4 b5 b6 b7 b8 b9 hnn
    go_enter Try.func37, Try.ntmps37
    go_wp2_with (first | (go_at_call 107; refine (CK.out _ (by repeat (first | exact Below.refl _ _ | refine Below.alloc ?_ (by first | omega | (simp; done) | (simp; omega)) _ | refine Below.setCell ?_ (by first | omega | (simp; done) | (simp; omega)) _ | refine Below.drew ?_))).mono ?_; rintro e w2 ⟨rfl, hb2⟩; have HF2 := Lib.hid (blkStay (b := w.heap.size) (o := fldO X Y W H (.slice (some ⟨b, 0, none⟩) n cap)) (by ((simp only [heap_alloc_get, heap_size_alloc, if_true]) <;> ((repeat' split) <;> first | rfl | omega))) hb2); have HL2 := Lib.hid (blkStay (b := w.heap.size + 1) (o := bruObj k X' Y' R h) (by ((simp only [heap_alloc_get, heap_size_alloc, if_true]) <;> ((repeat' split) <;> first | rfl | omega))) hb2); have HS2 := Lib.hid (blkStay (b := w.heap.size + 1 + 1) (o := fldO 0 0 0 0 (.slice none 0 0)) (by ((simp only [heap_alloc_get, heap_size_alloc, if_true]) <;> ((repeat' split) <;> first | rfl | omega))) hb2); have hB2 : Below w.heap.size w w2 := Below.trans (by repeat (first | exact Below.refl _ _ | refine Below.alloc ?_ (by first | omega | (simp; done) | (simp; omega)) _ | refine Below.setCell ?_ (by first | omega | (simp; done) | (simp; omega)) _ | refine Below.drew ?_)) (Below.mono hb2 (by first | omega | (simp; done) | (simp; omega))); obtain ⟨cL, fL, zL⟩ := blkC HL2.out; clear hb2) | (go_at_call 34; refine (CB.out _).mono ?_; rintro e w3 ⟨rfl, hb23⟩; clear cL fL zL; have HF3 := Lib.hid (blkStay HF2.out hb23); have HL3 := Lib.hid (blkStay HL2.out hb23); have HS3 := Lib.hid (blkStay HS2.out hb23); have hB3 := hB2.trans (hb23.mono hB2.size); clear hb23 hB2 HF2 HL2 HS2; obtain ⟨cF, fF, zF⟩ := blkC HF3.out; obtain ⟨cL, fL, zL⟩ := blkC HL3.out; obtain ⟨cS, fS, zS⟩ := blkC HS3.out))
    refine bodyPost_ret (v := .tuple #[fldV 0 0 0 0 (.slice none 0 0), .int .i64 er]) (by simp [results, Try.results37, go_sem, cS]) rfl ?_
    exact .inl ⟨HZ.out, rfl, set5_below hB3 _ _ _ _ _ _ (by omega)⟩
end Go.Proofs.Ytjjhhnoeiglnhab
