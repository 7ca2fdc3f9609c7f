/- Shade of the program, of a right field that has a rim, and a right direction. -/
import Derived.Test.YtjjhhnoeiglnhabSha9
namespace Go.Proofs.Ytjjhhnoeiglnhab
open Go.RowKit Fl
set_option linter.unusedVariables false

theorem rim_check {X Y : Int} {W H W2 H2 : Nat} (h0 : checkR X Y W H = 0) (eW : W = W2 + 2) (eH : H = H2 + 2) (w1 : 1 ≤ W2) (h1 : 1 ≤ H2) : checkR (X + 1) (Y + 1) W2 H2 = 0 := by
  obtain ⟨b1, b2, b3, b4, b5, b6, b7, b8, b9⟩ := checkR_zero h0
  have m : W2 * H2 ≤ W * H := Nat.mul_le_mul (by omega) (by omega)
  have m' : ((W2 : Int) * (H2 : Int)) ≤ (W : Int) * (H : Int) := by
    have : ((W2 * H2 : Nat) : Int) ≤ ((W * H : Nat) : Int) := Int.ofNat_le.2 m
    simpa using this
  unfold checkR
  rw [if_neg (by omega), if_neg (by omega), if_neg (by omega)]

set_option maxHeartbeats 4000000 in
theorem shade_ok (X Y : Int) (W H n b cap W2 H2 : Nat) (v : Nat → Nat) (lx ly lz : Int) (w : World) (h0 : checkR X Y W H = 0) (hn : n = W * H) (hcap : n ≤ cap) (hcp : cap ≤ 9223372036854775807) (hc : FlAt w b 0 n v) (hh : allB n (fun i => hgtB (v i)) = true)
    (eW : W = W2 + 2) (eH : H = H2 + 2) (w1 : 1 ≤ W2) (g1 : 1 ≤ H2) (hd : dirE lx ly lz = 0) :
    Calls Try.prog 25 #[fldV X Y W H (.slice (some ⟨b, 0, none⟩) n cap), .int .i64 lx, .int .i64 ly, .int .i64 lz] w (ScPost w (X + 1) (Y + 1) W2 H2 (H2 * W2) (shaF (lenW lx ly lz) lx ly lz v W) 0) := by
  obtain ⟨b1, b2, b3, b4, b5, _⟩ := checkR_zero h0
  have h1 : 1 ≤ n := by rw [hn]; exact Nat.mul_pos (by omega) (by omega)
  have hnn : n = H * W := by rw [hn]; exact Nat.mul_comm _ _
  have hlt : b < w.heap.size := World.block_lt_of_cell? w _ (hc 0 h1)
  obtain ⟨l1, l2, l3, lp⟩ := dir_ok hd
  obtain ⟨_, hM⟩ := dir_len l1 l2 l3 lp
  have iW : (W : Int) - 2 = (W2 : Int) := by omega
  have iH : (H : Int) - 2 = (H2 : Int) := by omega
  have IN := Lib.hid (fun W' (hb : Below w.heap.size w W') => inner_any X Y W H n b cap v W' h0 hn (flAt_congr hc (hb.block _ hlt)) hh)
  have hi : innB W H = true := by unfold innB; simp; omega
  rw [hi, iW, iH] at IN
  simp only [if_true] at IN
  have CD := Lib.hid (fun k w (hk : w.heap[k]? = some (dirObj lx ly lz)) => checkDir_any lx ly lz k w hk)
  rw [hd] at CD
  have LN := Lib.hid (fun k w (hk : w.heap[k]? = some (dirObj lx ly lz)) => length_any lx ly lz k w hk l1 l2 l3 lp)
  generalize lenW lx ly lz = M at *
  have MK := Lib.hid (fun W' p pm (K : ShCaps W' X Y W H n b cap v p pm lx ly lz M) => make_ok (X + 1) (Y + 1) W2 H2 (H2 * W2) 100 #[.pointer (some ⟨p, 0, none⟩), .pointer (some ⟨p + 1, 0, none⟩), .pointer (some ⟨p + 1 + 1, 0, none⟩), .pointer (some ⟨p + 1 + 1 + 1, 0, none⟩), .pointer (some ⟨pm, 0, none⟩)] (shaF M lx ly lz v W) W' enters_Shade1
    (by have C := shade1_any X Y W H n b cap v p pm lx ly lz M W' K h0 hnn hcap hcp hh (by omega) (by omega) hM l1 l2 l3
        rw [iW, iH] at C; exact C) (rim_check h0 eW eH w1 g1) rfl)
  have HC := Lib.hid hc
  have hsf := fun (w : World) (a : Addr) (m : Mode) (k : FloatKind) (b : Nat) => run_store_float (P := Try.prog) (w := w) (a := a) (m := m) k b
  generalize shaF M lx ly lz v W = f at *
  generalize H2 * W2 = n2 at *
  clear h0 hn hnn hcap hcp hc hh eW eH w1 g1 hd b1 b2 b3 b4 b5 l1 l2 l3 lp hM iW iH hi h1
  go_enter Try.func25, Try.ntmps25
  go_wp2_with (first | (go_at_call 87; refine (IN.out _ (by repeat (first | exact Below.refl _ _ | refine Below.alloc ?_ (by first | omega | (simp; done) | (simp; omega)) _ | refine Below.setCell ?_ (by first | omega | (simp; done) | (simp; omega)) _ | refine Below.drew ?_))).mono ?_; rintro e w2 ⟨rfl, hb2⟩; have HF2 := Lib.hid (blkStay (b := w.heap.size) (o := fldO X Y W H (.slice (some ⟨b, 0, none⟩) n cap)) (by ((simp only [heap_alloc_get, heap_size_alloc, if_true]) <;> ((repeat' split) <;> first | rfl | omega))) hb2); have H12 := Lib.hid (blkStay (b := w.heap.size + 1) (o := inObj lx) (by ((simp only [heap_alloc_get, heap_size_alloc, if_true]) <;> ((repeat' split) <;> first | rfl | omega))) hb2); have H22 := Lib.hid (blkStay (b := w.heap.size + 1 + 1) (o := inObj ly) (by ((simp only [heap_alloc_get, heap_size_alloc, if_true]) <;> ((repeat' split) <;> first | rfl | omega))) hb2); have H32 := Lib.hid (blkStay (b := w.heap.size + 1 + 1 + 1) (o := inObj lz) (by ((simp only [heap_alloc_get, heap_size_alloc, if_true]) <;> ((repeat' split) <;> first | rfl | omega))) hb2); have HS2 := Lib.hid (blkStay (b := w.heap.size + 1 + 1 + 1 + 1) (o := fldO 0 0 0 0 (.slice none 0 0)) (by ((simp only [heap_alloc_get, heap_size_alloc, if_true]) <;> ((repeat' split) <;> first | rfl | omega))) hb2); have hB2 : Below w.heap.size w w2 := Below.trans (by repeat (first | exact Below.refl _ _ | refine Below.alloc ?_ (by first | omega | (simp; done) | (simp; omega)) _ | refine Below.setCell ?_ (by first | omega | (simp; done) | (simp; omega)) _ | refine Below.drew ?_)) (Below.mono hb2 (by first | omega | (simp; done) | (simp; omega))); clear hb2; obtain ⟨c1, f1, z1⟩ := blkC H12.out; obtain ⟨c2, f2, z2⟩ := blkC H22.out; obtain ⟨c3, f3, z3⟩ := blkC H32.out) | (go_at_call 97; refine (CD.out _ _ (by ((simp only [heap_alloc_get, heap_size_alloc, if_true]) <;> ((repeat' split) <;> first | rfl | omega)))).mono ?_; rintro e' w3 ⟨rfl, hw3⟩; have hb3 : Below w2.heap.size w2 w3 := (by rw [← hw3]; exact (by repeat (first | exact Below.refl _ _ | refine Below.alloc ?_ (by first | omega | (simp; done) | (simp; omega)) _ | refine Below.setCell ?_ (by first | omega | (simp; done) | (simp; omega)) _ | refine Below.drew ?_))); have HR3 := Lib.hid (show w3.heap[w2.heap.size]? = some (regObj (X + 1) (Y + 1) W2 H2) by rw [← hw3]; ((simp only [heap_alloc_get, heap_size_alloc, if_true]) <;> ((repeat' split) <;> first | rfl | omega))); have HF3 := Lib.hid (blkStay HF2.out hb3); have H13 := Lib.hid (blkStay H12.out hb3); have H23 := Lib.hid (blkStay H22.out hb3); have H33 := Lib.hid (blkStay H32.out hb3); have HS3 := Lib.hid (blkStay HS2.out hb3); have hB3 := hB2.trans (hb3.mono hB2.size); clear hw3 hb3 c1 f1 z1 c2 f2 z2 c3 f3 z3; obtain ⟨c1, f1, z1⟩ := blkC H13.out; obtain ⟨c2, f2, z2⟩ := blkC H23.out; obtain ⟨c3, f3, z3⟩ := blkC H33.out; obtain ⟨cR, fR, zR⟩ := blkC HR3.out) | (go_at_call 98; refine (LN.out _ _ (by ((simp only [heap_alloc_get, if_true]) <;> ((repeat' split) <;> first | rfl | omega)))).mono ?_; rintro e' w' ⟨rfl, rfl⟩))
  have hbA : Below w3.heap.size w3 ((w3.alloc (dirObj lx ly lz)).alloc (flObj M)) := (by repeat (first | exact Below.refl _ _ | refine Below.alloc ?_ (by first | omega | (simp; done) | (simp; omega)) _ | refine Below.setCell ?_ (by first | omega | (simp; done) | (simp; omega)) _ | refine Below.drew ?_))
  have z3 := hB3.size
  refine (MK.out _ w.heap.size (w3.heap.size + 1) ⟨blkStay HF3.out hbA, blkStay H13.out hbA, blkStay H23.out hbA, blkStay H33.out hbA, by ((simp only [heap_alloc_get, heap_size_alloc, if_true]) <;> ((repeat' split) <;> first | rfl | omega)), flAt_congr HC.out ((hB3.trans (hbA.mono z3)).block _ hlt)⟩).mono ?_
  intro e w4 hmade
  rcases hmade with ⟨hall, b', cap', rfl, hb', hlt', hrow, hbel⟩ | ⟨hall, rfl, hbel⟩
  · have hb24 : Below w3.heap.size w3 w4 := hbA.trans (hbel.mono hbA.size)
    have hz5 := hbA.size
    obtain ⟨cS, fS, zS⟩ := blkC (blkStay HS3.out hb24)
    go_wp2
    refine bodyPost_ret (v := .tuple #[fldV (X + 1) (Y + 1) W2 H2 (.slice (some ⟨b', 0, none⟩) n2 cap'), .int .i64 0]) (by simp [results, Try.results25, go_sem, cS]) rfl ?_
    exact .inr ⟨rfl, .inl ⟨hall, b', cap', rfl, by omega, by rw [set5_size]; exact hlt', flAt_congr hrow (set5_heap w4 _ _ _ _ _ _ _ (by have := HS3.out; have := (blkC this).2.2; omega)), set5_below (hB3.trans (hb24.mono z3)) _ _ _ _ _ _ (by omega)⟩⟩
  · have hb24 : Below w3.heap.size w3 w4 := hbA.trans (hbel.mono hbA.size)
    obtain ⟨cS, fS, zS⟩ := blkC (blkStay HS3.out hb24)
    go_wp2
    refine bodyPost_ret (v := .tuple #[fldV 0 0 0 0 (.slice none 0 0), .int .i64 3]) (by simp [results, Try.results25, go_sem, cS]) rfl ?_
    exact .inr ⟨rfl, .inr ⟨hall, rfl, set5_below (hB3.trans (hb24.mono z3)) _ _ _ _ _ _ (by omega)⟩⟩
end Go.Proofs.Ytjjhhnoeiglnhab
