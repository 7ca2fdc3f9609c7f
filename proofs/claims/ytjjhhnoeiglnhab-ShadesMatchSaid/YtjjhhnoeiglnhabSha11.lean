/- Shade of the reference, of a right field that has a rim, and a right direction. -/
import Derived.Test.YtjjhhnoeiglnhabSha10
namespace Go.Proofs.Ytjjhhnoeiglnhab
open Go.RowKit Fl
set_option linter.unusedVariables false

/-- Every value of a shade is told by its lit word. -/
theorem sha_all {X Y : Int} {W H n W2 H2 : Nat} {v : Nat → Nat} {M : Nat} {lx ly lz : Int} (hn : n = H * W) (hh : allB n (fun i => hgtB (v i)) = true) (eW : W = W2 + 2) (eH : H = H2 + 2) (w1 : 1 ≤ W2) (hM : LenOk M) (l1 : lx.natAbs ≤ 1000) (l2 : ly.natAbs ≤ 1000) (l3 : lz.natAbs ≤ 1000) (j : Nat) (hj : j < H2 * W2) :
    ∃ r a, shaF M lx ly lz v W j = shdW r ∧ vS r = some a ∧ r < 4294967296 := by
  have q1 : j % W2 < W2 := Nat.mod_lt _ (by omega)
  have q2 : j / W2 < H2 := Nat.div_lt_of_lt_mul (by rw [Nat.mul_comm]; exact hj)
  have e1 : (W - 2 : Nat) = W2 := by omega
  obtain ⟨p1, hp1⟩ : ∃ p, j % W2 = p := ⟨_, rfl⟩
  obtain ⟨p2, hp2⟩ : ∃ p, j / W2 = p := ⟨_, rfl⟩
  rw [hp1] at q1
  rw [hp2] at q2
  have hi : ((rimI W j : Nat) : Int) = ((Y + 1 + ((p2 : Nat) : Int)) - Y) * W + ((X + 1 + ((p1 : Nat) : Int)) - X) := by
    unfold rimI
    rw [e1, hp1, hp2]
    have : (((p2 + 1) * W + (p1 + 1) : Nat) : Int) = (((p2 : Nat) : Int) + 1) * W + (((p1 : Nat) : Int) + 1) := by simp
    rw [this, show (Y + 1 + ((p2 : Nat) : Int)) - Y = ((p2 : Nat) : Int) + 1 by omega, show (X + 1 + ((p1 : Nat) : Int)) - X = ((p1 : Nat) : Int) + 1 by omega]
  have I := in_cell hn (by omega) (show X + 1 + ((p1 : Nat) : Int) + 1 < X + W by omega) (by omega) (show Y + 1 + ((p2 : Nat) : Int) + 1 < Y + H by omega) hi
  obtain ⟨pp, q, u, m, a, X', Z, c, nx, ny, nz, e, f, s, d, t, r, S⟩ := sha_parts hh I hM l1 l2 l3
  obtain ⟨a', ha⟩ := S.lt.v
  exact ⟨r, a', S.w, ha, S.lt.lt⟩

set_option maxHeartbeats 4000000 in
theorem rshade_ok (X Y : Int) (W H n b cap W2 H2 : Nat) (v : Nat → Nat) (lx ly lz : Int) (w : World) (h0 : checkR X Y W H = 0) (hn : n = W * H) (hc : FlAt w b 0 n v) (hh : allB n (fun i => hgtB (v i)) = true)
    (eW : W = W2 + 2) (eH : H = H2 + 2) (w1 : 1 ≤ W2) (g1 : 1 ≤ H2) (hd : dirE lx ly lz = 0) :
    Calls Try.prog 26 #[fldV X Y W H (.slice (some ⟨b, 0, none⟩) n cap), .int .i64 lx, .int .i64 ly, .int .i64 lz] w (ScPost w (X + 1) (Y + 1) W2 H2 (H2 * W2) (shaF (lenW lx ly lz) lx ly lz v W) 0) := by
  obtain ⟨b1, b2, b3, b4, b5, _⟩ := checkR_zero h0
  have h1 : 1 ≤ n := by rw [hn]; exact Nat.mul_pos (by omega) (by omega)
  have hnn : n = H * W := by rw [hn]; exact Nat.mul_comm _ _
  have hlt : b < w.heap.size := World.block_lt_of_cell? w _ (hc 0 h1)
  obtain ⟨l1, l2, l3, lp⟩ := dir_ok hd
  obtain ⟨⟨Xr, Zr, cc, RT⟩, hM⟩ := dir_len l1 l2 l3 lp
  have iW : (W : Int) - 2 = (W2 : Int) := by omega
  have iH : (H : Int) - 2 = (H2 : Int) := by omega
  have IN := Lib.hid (fun W' => rinner_any X Y W H n b cap W' h0)
  have hi : innB W H = true := by unfold innB; simp; omega
  rw [hi, iW, iH] at IN
  simp only [if_true] at IN
  have CD := Lib.hid (fun w => lightError_any lx ly lz w)
  rw [hd] at CD
  have RO := Lib.hid (fun w => refRoot_any RT w)
  have s1 := sq_small l1
  have s2 := sq_small l2
  have s3 := sq_small l3
  have hwf : wf32 (H2 * W2) (shaF (lenW lx ly lz) lx ly lz v W) := fun j hj => by
    obtain ⟨r, a, e, _, l⟩ := sha_all (X := X) (Y := Y) hnn hh eW eH w1 hM l1 l2 l3 j hj
    rw [e]; exact shd_lt l
  unfold lenW at *
  generalize rootW (floatOfInt .f32 (sq3 lx ly lz)) = M at *
  have MK := Lib.hid (fun W' p pm (K : ShCaps W' X Y W H n b cap v p pm lx ly lz M) => made_any (X + 1) (Y + 1) W2 H2 (H2 * W2) 103 #[.pointer (some ⟨p, 0, none⟩), .pointer (some ⟨p + 1, 0, none⟩), .pointer (some ⟨p + 1 + 1, 0, none⟩), .pointer (some ⟨p + 1 + 1 + 1, 0, none⟩), .pointer (some ⟨pm, 0, none⟩)] (shaF M lx ly lz v W) W' enters_rShade1
    (by have C := rshade1_any X Y W H n b cap v p pm lx ly lz M W' K h0 hnn hh (by omega) (by omega) hM l1 l2 l3
        rw [iW, iH] at C; exact C) hwf (by omega) (by omega) (by omega) (by omega) (by omega) (by omega) (by omega) (by omega) rfl)
  have HC := Lib.hid hc
  have hsf := fun (w : World) (a : Addr) (m : Mode) (k : FloatKind) (b : Nat) => run_store_float (P := Try.prog) (w := w) (a := a) (m := m) k b
  obtain ⟨A, hA⟩ : ∃ A, lx * lx = A := ⟨_, rfl⟩
  obtain ⟨B, hB⟩ : ∃ B, ly * ly = B := ⟨_, rfl⟩
  obtain ⟨C, hC⟩ : ∃ C, lz * lz = C := ⟨_, rfl⟩
  have e3 : sq3 lx ly lz = A + B + C := by unfold sq3; rw [hA, hB, hC]
  rw [e3] at RO
  rw [hA] at s1
  rw [hB] at s2
  rw [hC] at s3
  have u1 : wrap64 (lx * lx) = A := by rw [hA]; exact IntWalk.wrap64_in _ ⟨by omega, by omega⟩
  have u2 : wrap64 (ly * ly) = B := by rw [hB]; exact IntWalk.wrap64_in _ ⟨by omega, by omega⟩
  have u3 : wrap64 (lz * lz) = C := by rw [hC]; exact IntWalk.wrap64_in _ ⟨by omega, by omega⟩
  have CV := Lib.hid (fun w => refConv_any (A + B + C) w)
  generalize shaF M lx ly lz v W = f at *
  generalize H2 * W2 = n2 at *
  clear h0 hn hnn hc hh eW eH w1 g1 hd b1 b2 b3 b4 b5 l1 l2 l3 lp hM iW iH hi h1 RT hwf hA hB hC e3
  go_enter Try.func26, Try.ntmps26
  go_wp2_with (first | (go_at_call 75; refine (IN.out _).mono ?_; rintro e w2 ⟨rfl, hb2⟩; have HF2 := Lib.hid (blkStay (b := w.heap.size) (o := fldO X Y W H (.slice (some ⟨b, 0, none⟩) n cap)) (by ((simp only [heap_alloc_get, heap_size_alloc, if_true]) <;> ((repeat' split) <;> first | rfl | omega))) hb2); have H12 := Lib.hid (blkStay (b := w.heap.size + 1) (o := inObj lx) (by ((simp only [heap_alloc_get, heap_size_alloc, if_true]) <;> ((repeat' split) <;> first | rfl | omega))) hb2); have H22 := Lib.hid (blkStay (b := w.heap.size + 1 + 1) (o := inObj ly) (by ((simp only [heap_alloc_get, heap_size_alloc, if_true]) <;> ((repeat' split) <;> first | rfl | omega))) hb2); have H32 := Lib.hid (blkStay (b := w.heap.size + 1 + 1 + 1) (o := inObj lz) (by ((simp only [heap_alloc_get, heap_size_alloc, if_true]) <;> ((repeat' split) <;> first | rfl | omega))) hb2); have HS2 := Lib.hid (blkStay (b := w.heap.size + 1 + 1 + 1 + 1) (o := fldO 0 0 0 0 (.slice none 0 0)) (by ((simp only [heap_alloc_get, heap_size_alloc, if_true]) <;> ((repeat' split) <;> first | rfl | omega))) hb2); have hB2 : Below w.heap.size w w2 := Below.trans (by repeat (first | exact Below.refl _ _ | refine Below.alloc ?_ (by first | omega | (simp; done) | (simp; omega)) _ | refine Below.setCell ?_ (by first | omega | (simp; done) | (simp; omega)) _ | refine Below.drew ?_)) (Below.mono hb2 (by first | omega | (simp; done) | (simp; omega))); clear hb2; obtain ⟨c1, f1, z1⟩ := blkC H12.out; obtain ⟨c2, f2, z2⟩ := blkC H22.out; obtain ⟨c3, f3, z3⟩ := blkC H32.out) | (go_at_call 101; refine (CD.out _).mono ?_; rintro e' w' ⟨rfl, rfl⟩) | (go_at_call 102; refine (CV.out _).mono ?_; rintro e' w' ⟨rfl, rfl⟩) | (go_at_call 79; refine (RO.out _).mono ?_; rintro e' w' ⟨rfl, rfl⟩))
  have hbA : Below w2.heap.size w2 ((w2.alloc (regObj (X + 1) (Y + 1) W2 H2)).alloc (flObj M)) := (by repeat (first | exact Below.refl _ _ | refine Below.alloc ?_ (by first | omega | (simp; done) | (simp; omega)) _ | refine Below.setCell ?_ (by first | omega | (simp; done) | (simp; omega)) _ | refine Below.drew ?_))
  have z2 := hB2.size
  refine (MK.out _ w.heap.size (w2.heap.size + 1) ⟨blkStay HF2.out hbA, blkStay H12.out hbA, blkStay H22.out hbA, blkStay H32.out hbA, by ((simp only [heap_alloc_get, heap_size_alloc, if_true]) <;> ((repeat' split) <;> first | rfl | omega)), flAt_congr HC.out ((hB2.trans (hbA.mono z2)).block _ hlt)⟩).mono ?_
  intro e w4 hmade
  rcases hmade with ⟨hall, b', cap', rfl, hb', hlt', hrow, hbel⟩ | ⟨hall, rfl, hbel⟩
  · have hb24 : Below w2.heap.size w2 w4 := hbA.trans (hbel.mono hbA.size)
    have hz5 := hbA.size
    obtain ⟨cS, fS, zS⟩ := blkC (blkStay HS2.out hb24)
    go_wp2
    refine bodyPost_ret (v := .tuple #[fldV (X + 1) (Y + 1) W2 H2 (.slice (some ⟨b', 0, none⟩) n2 cap'), .int .i64 0]) (by simp [results, Try.results26, go_sem, cS]) rfl ?_
    exact .inr ⟨rfl, .inl ⟨hall, b', cap', rfl, by omega, by rw [set5_size]; exact hlt', flAt_congr hrow (set5_heap w4 _ _ _ _ _ _ _ (by have := HS2.out; have := (blkC this).2.2; omega)), set5_below (hB2.trans (hb24.mono z2)) _ _ _ _ _ _ (by omega)⟩⟩
  · have hb24 : Below w2.heap.size w2 w4 := hbA.trans (hbel.mono hbA.size)
    obtain ⟨cS, fS, zS⟩ := blkC (blkStay HS2.out hb24)
    go_wp2
    refine bodyPost_ret (v := .tuple #[fldV 0 0 0 0 (.slice none 0 0), .int .i64 3]) (by simp [results, Try.results26, go_sem, cS]) rfl ?_
    exact .inr ⟨rfl, .inr ⟨hall, rfl, set5_below (hB2.trans (hb24.mono z2)) _ _ _ _ _ _ (by omega)⟩⟩
end Go.Proofs.Ytjjhhnoeiglnhab
