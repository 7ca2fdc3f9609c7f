/- Shade of the program, of a right field. -/
import Derived.Test.YtjjhhnoeiglnhabSha8
namespace Go.Proofs.Ytjjhhnoeiglnhab
open Go.RowKit Fl
set_option linter.unusedVariables false

set_option maxHeartbeats 2000000 in
theorem shade_bad (X Y : Int) (W H n b cap : Nat) (v : Nat → Nat) (lx ly lz er : Int) (w : World) (h0 : checkR X Y W H = 0) (hn : n = W * H) (hc : FlAt w b 0 n v) (hh : allB n (fun i => hgtB (v i)) = true)
    (hb : (innB W H = false ∧ er = 10) ∨ (innB W H = true ∧ dirE lx ly lz = er ∧ er ≠ 0)) :
    Calls Try.prog 25 #[fldV X Y W H (.slice (some ⟨b, 0, none⟩) n cap), .int .i64 lx, .int .i64 ly, .int .i64 lz] w fun e w' => e = .returned (.tuple #[fldV 0 0 0 0 (.slice none 0 0), .int .i64 er]) ∧ Below w.heap.size w w' := by
  have h1 : 1 ≤ n := by
    obtain ⟨b1, b2, b3, b4, b5, _⟩ := checkR_zero h0
    rw [hn]; exact Nat.mul_pos (by omega) (by omega)
  have hlt : b < w.heap.size := World.block_lt_of_cell? w _ (hc 0 h1)
  have IN := Lib.hid (fun W' (hb : Below w.heap.size w W') => inner_any X Y W H n b cap v W' h0 hn (flAt_congr hc (hb.block _ hlt)) hh)
  have CD := Lib.hid (fun k w (hk : w.heap[k]? = some (dirObj lx ly lz)) => checkDir_any lx ly lz k w hk)
  rcases hb with ⟨hi, rfl⟩ | ⟨hi, hd, hne⟩
  · rw [hi] at IN
    simp only [Bool.false_eq_true, if_false] at IN
    clear h0 hn hc hh h1 hi CD
    go_enter Try.func25, Try.ntmps25
    go_wp2_with (first | (go_at_call 87; refine (IN.out _ (by repeat (first | exact Below.refl _ _ | refine Below.alloc ?_ (by first | omega | (simp; done) | (simp; omega)) _ | refine Below.setCell ?_ (by first | omega | (simp; done) | (simp; omega)) _ | refine Below.drew ?_))).mono ?_; rintro e w2 ⟨rfl, hb2⟩; have HF2 := Lib.hid (blkStay (b := w.heap.size) (o := fldO X Y W H (.slice (some ⟨b, 0, none⟩) n cap)) (by ((simp only [heap_alloc_get, heap_size_alloc, if_true]) <;> ((repeat' split) <;> first | rfl | omega))) hb2); have H12 := Lib.hid (blkStay (b := w.heap.size + 1) (o := inObj lx) (by ((simp only [heap_alloc_get, heap_size_alloc, if_true]) <;> ((repeat' split) <;> first | rfl | omega))) hb2); have H22 := Lib.hid (blkStay (b := w.heap.size + 1 + 1) (o := inObj ly) (by ((simp only [heap_alloc_get, heap_size_alloc, if_true]) <;> ((repeat' split) <;> first | rfl | omega))) hb2); have H32 := Lib.hid (blkStay (b := w.heap.size + 1 + 1 + 1) (o := inObj lz) (by ((simp only [heap_alloc_get, heap_size_alloc, if_true]) <;> ((repeat' split) <;> first | rfl | omega))) hb2); have HS2 := Lib.hid (blkStay (b := w.heap.size + 1 + 1 + 1 + 1) (o := fldO 0 0 0 0 (.slice none 0 0)) (by ((simp only [heap_alloc_get, heap_size_alloc, if_true]) <;> ((repeat' split) <;> first | rfl | omega))) hb2); have hB2 : Below w.heap.size w w2 := Below.trans (by repeat (first | exact Below.refl _ _ | refine Below.alloc ?_ (by first | omega | (simp; done) | (simp; omega)) _ | refine Below.setCell ?_ (by first | omega | (simp; done) | (simp; omega)) _ | refine Below.drew ?_)) (Below.mono hb2 (by first | omega | (simp; done) | (simp; omega))); clear hb2; obtain ⟨c1, f1, z1⟩ := blkC H12.out; obtain ⟨c2, f2, z2⟩ := blkC H22.out; obtain ⟨c3, f3, z3⟩ := blkC H32.out; obtain ⟨cS, fS, zS⟩ := blkC HS2.out; obtain ⟨cF, fF, zF⟩ := blkC HF2.out))
    have HRES := fun (u1 u2 u3 u4 u5 : Value) (o : Obj) => (blkC ((heap_alloc_old (set5 w2 (w.heap.size + 1 + 1 + 1 + 1) u1 u2 u3 u4 u5) o (by rw [set5_size]; exact zS)).trans (set5_self u1 u2 u3 u4 u5 HS2.out))).1
    simp only [set5] at HRES
    refine bodyPost_ret (v := .tuple #[fldV 0 0 0 0 (.slice none 0 0), .int .i64 10]) (by simp [results, Try.results25, go_sem, HRES]) rfl ?_
    exact ⟨rfl, by repeat (first | exact hB2 | refine Below.alloc ?_ (by first | omega | (simp; done) | (simp; omega)) _ | refine Below.setCell ?_ (by first | omega | (simp; done) | (simp; omega)) _)⟩
  · rw [hi] at IN
    simp only [if_true] at IN
    rw [hd] at CD
    have hzb : (er != 0) = true := by simp [hne]
    clear h0 hn hc hh h1 hi hne hd
    go_enter Try.func25, Try.ntmps25
    go_wp2_with (first | (go_at_call 87; refine (IN.out _ (by repeat (first | exact Below.refl _ _ | refine Below.alloc ?_ (by first | omega | (simp; done) | (simp; omega)) _ | refine Below.setCell ?_ (by first | omega | (simp; done) | (simp; omega)) _ | refine Below.drew ?_))).mono ?_; rintro e w2 ⟨rfl, hb2⟩; have HF2 := Lib.hid (blkStay (b := w.heap.size) (o := fldO X Y W H (.slice (some ⟨b, 0, none⟩) n cap)) (by ((simp only [heap_alloc_get, heap_size_alloc, if_true]) <;> ((repeat' split) <;> first | rfl | omega))) hb2); have H12 := Lib.hid (blkStay (b := w.heap.size + 1) (o := inObj lx) (by ((simp only [heap_alloc_get, heap_size_alloc, if_true]) <;> ((repeat' split) <;> first | rfl | omega))) hb2); have H22 := Lib.hid (blkStay (b := w.heap.size + 1 + 1) (o := inObj ly) (by ((simp only [heap_alloc_get, heap_size_alloc, if_true]) <;> ((repeat' split) <;> first | rfl | omega))) hb2); have H32 := Lib.hid (blkStay (b := w.heap.size + 1 + 1 + 1) (o := inObj lz) (by ((simp only [heap_alloc_get, heap_size_alloc, if_true]) <;> ((repeat' split) <;> first | rfl | omega))) hb2); have HS2 := Lib.hid (blkStay (b := w.heap.size + 1 + 1 + 1 + 1) (o := fldO 0 0 0 0 (.slice none 0 0)) (by ((simp only [heap_alloc_get, heap_size_alloc, if_true]) <;> ((repeat' split) <;> first | rfl | omega))) hb2); have hB2 : Below w.heap.size w w2 := Below.trans (by repeat (first | exact Below.refl _ _ | refine Below.alloc ?_ (by first | omega | (simp; done) | (simp; omega)) _ | refine Below.setCell ?_ (by first | omega | (simp; done) | (simp; omega)) _ | refine Below.drew ?_)) (Below.mono hb2 (by first | omega | (simp; done) | (simp; omega))); clear hb2; obtain ⟨c1, f1, z1⟩ := blkC H12.out; obtain ⟨c2, f2, z2⟩ := blkC H22.out; obtain ⟨c3, f3, z3⟩ := blkC H32.out; obtain ⟨cS, fS, zS⟩ := blkC HS2.out; obtain ⟨cF, fF, zF⟩ := blkC HF2.out) | (go_at_call 97; refine (CD.out _ _ (by ((simp only [heap_alloc_get, heap_size_alloc, if_true]) <;> ((repeat' split) <;> first | rfl | omega)))).mono ?_; rintro e' w3 ⟨rfl, hw3⟩; have hb3 : Below w2.heap.size w2 w3 := (by rw [← hw3]; exact (by repeat (first | exact Below.refl _ _ | refine Below.alloc ?_ (by first | omega | (simp; done) | (simp; omega)) _ | refine Below.setCell ?_ (by first | omega | (simp; done) | (simp; omega)) _ | refine Below.drew ?_))); have HS3 := Lib.hid (blkStay HS2.out hb3); have hB3 := hB2.trans (hb3.mono hB2.size); clear hw3 hb3 c1 f1 z1 c2 f2 z2 c3 f3 z3 cS fS zS cF fF zF; obtain ⟨cS, fS, zS⟩ := blkC HS3.out))
    refine bodyPost_ret (v := .tuple #[fldV 0 0 0 0 (.slice none 0 0), .int .i64 er]) (by simp [results, Try.results25, go_sem, cS]) rfl ?_
    exact ⟨rfl, set5_below hB3 _ _ _ _ _ _ (by omega)⟩

set_option maxHeartbeats 2000000 in
theorem rshade_bad (X Y : Int) (W H n b cap : Nat) (v : Nat → Nat) (lx ly lz er : Int) (w : World) (h0 : checkR X Y W H = 0) (hn : n = W * H) (hc : FlAt w b 0 n v) (hh : allB n (fun i => hgtB (v i)) = true)
    (hb : (innB W H = false ∧ er = 10) ∨ (innB W H = true ∧ dirE lx ly lz = er ∧ er ≠ 0)) :
    Calls Try.prog 26 #[fldV X Y W H (.slice (some ⟨b, 0, none⟩) n cap), .int .i64 lx, .int .i64 ly, .int .i64 lz] w fun e w' => e = .returned (.tuple #[fldV 0 0 0 0 (.slice none 0 0), .int .i64 er]) ∧ Below w.heap.size w w' := by
  have h1 : 1 ≤ n := by
    obtain ⟨b1, b2, b3, b4, b5, _⟩ := checkR_zero h0
    rw [hn]; exact Nat.mul_pos (by omega) (by omega)
  have hlt : b < w.heap.size := World.block_lt_of_cell? w _ (hc 0 h1)
  have IN := Lib.hid (fun W' => rinner_any X Y W H n b cap W' h0)
  have CD := Lib.hid (fun w => lightError_any lx ly lz w)
  rcases hb with ⟨hi, rfl⟩ | ⟨hi, hd, hne⟩
  · rw [hi] at IN
    simp only [Bool.false_eq_true, if_false] at IN
    clear h0 hn hc hh h1 hi CD
    go_enter Try.func26, Try.ntmps26
    go_wp2_with (first | (go_at_call 75; refine (IN.out _).mono ?_; rintro e w2 ⟨rfl, hb2⟩; have HF2 := Lib.hid (blkStay (b := w.heap.size) (o := fldO X Y W H (.slice (some ⟨b, 0, none⟩) n cap)) (by ((simp only [heap_alloc_get, heap_size_alloc, if_true]) <;> ((repeat' split) <;> first | rfl | omega))) hb2); have H12 := Lib.hid (blkStay (b := w.heap.size + 1) (o := inObj lx) (by ((simp only [heap_alloc_get, heap_size_alloc, if_true]) <;> ((repeat' split) <;> first | rfl | omega))) hb2); have H22 := Lib.hid (blkStay (b := w.heap.size + 1 + 1) (o := inObj ly) (by ((simp only [heap_alloc_get, heap_size_alloc, if_true]) <;> ((repeat' split) <;> first | rfl | omega))) hb2); have H32 := Lib.hid (blkStay (b := w.heap.size + 1 + 1 + 1) (o := inObj lz) (by ((simp only [heap_alloc_get, heap_size_alloc, if_true]) <;> ((repeat' split) <;> first | rfl | omega))) hb2); have HS2 := Lib.hid (blkStay (b := w.heap.size + 1 + 1 + 1 + 1) (o := fldO 0 0 0 0 (.slice none 0 0)) (by ((simp only [heap_alloc_get, heap_size_alloc, if_true]) <;> ((repeat' split) <;> first | rfl | omega))) hb2); have hB2 : Below w.heap.size w w2 := Below.trans (by repeat (first | exact Below.refl _ _ | refine Below.alloc ?_ (by first | omega | (simp; done) | (simp; omega)) _ | refine Below.setCell ?_ (by first | omega | (simp; done) | (simp; omega)) _ | refine Below.drew ?_)) (Below.mono hb2 (by first | omega | (simp; done) | (simp; omega))); clear hb2; obtain ⟨c1, f1, z1⟩ := blkC H12.out; obtain ⟨c2, f2, z2⟩ := blkC H22.out; obtain ⟨c3, f3, z3⟩ := blkC H32.out; obtain ⟨cS, fS, zS⟩ := blkC HS2.out; obtain ⟨cF, fF, zF⟩ := blkC HF2.out))
    have HRES := fun (u1 u2 u3 u4 u5 : Value) (o : Obj) => (blkC ((heap_alloc_old (set5 w2 (w.heap.size + 1 + 1 + 1 + 1) u1 u2 u3 u4 u5) o (by rw [set5_size]; exact zS)).trans (set5_self u1 u2 u3 u4 u5 HS2.out))).1
    simp only [set5] at HRES
    refine bodyPost_ret (v := .tuple #[fldV 0 0 0 0 (.slice none 0 0), .int .i64 10]) (by simp [results, Try.results26, go_sem, HRES]) rfl ?_
    exact ⟨rfl, by repeat (first | exact hB2 | refine Below.alloc ?_ (by first | omega | (simp; done) | (simp; omega)) _ | refine Below.setCell ?_ (by first | omega | (simp; done) | (simp; omega)) _)⟩
  · rw [hi] at IN
    simp only [if_true] at IN
    rw [hd] at CD
    have hzb : (er != 0) = true := by simp [hne]
    clear h0 hn hc hh h1 hi hne hd
    go_enter Try.func26, Try.ntmps26
    go_wp2_with (first | (go_at_call 75; refine (IN.out _).mono ?_; rintro e w2 ⟨rfl, hb2⟩; have HF2 := Lib.hid (blkStay (b := w.heap.size) (o := fldO X Y W H (.slice (some ⟨b, 0, none⟩) n cap)) (by ((simp only [heap_alloc_get, heap_size_alloc, if_true]) <;> ((repeat' split) <;> first | rfl | omega))) hb2); have H12 := Lib.hid (blkStay (b := w.heap.size + 1) (o := inObj lx) (by ((simp only [heap_alloc_get, heap_size_alloc, if_true]) <;> ((repeat' split) <;> first | rfl | omega))) hb2); have H22 := Lib.hid (blkStay (b := w.heap.size + 1 + 1) (o := inObj ly) (by ((simp only [heap_alloc_get, heap_size_alloc, if_true]) <;> ((repeat' split) <;> first | rfl | omega))) hb2); have H32 := Lib.hid (blkStay (b := w.heap.size + 1 + 1 + 1) (o := inObj lz) (by ((simp only [heap_alloc_get, heap_size_alloc, if_true]) <;> ((repeat' split) <;> first | rfl | omega))) hb2); have HS2 := Lib.hid (blkStay (b := w.heap.size + 1 + 1 + 1 + 1) (o := fldO 0 0 0 0 (.slice none 0 0)) (by ((simp only [heap_alloc_get, heap_size_alloc, if_true]) <;> ((repeat' split) <;> first | rfl | omega))) hb2); have hB2 : Below w.heap.size w w2 := Below.trans (by repeat (first | exact Below.refl _ _ | refine Below.alloc ?_ (by first | omega | (simp; done) | (simp; omega)) _ | refine Below.setCell ?_ (by first | omega | (simp; done) | (simp; omega)) _ | refine Below.drew ?_)) (Below.mono hb2 (by first | omega | (simp; done) | (simp; omega))); clear hb2; obtain ⟨c1, f1, z1⟩ := blkC H12.out; obtain ⟨c2, f2, z2⟩ := blkC H22.out; obtain ⟨c3, f3, z3⟩ := blkC H32.out; obtain ⟨cS, fS, zS⟩ := blkC HS2.out; obtain ⟨cF, fF, zF⟩ := blkC HF2.out) | (go_at_call 101; refine (CD.out _).mono ?_; rintro e' w' ⟨rfl, rfl⟩))
    have HRES := fun (u1 u2 u3 u4 u5 : Value) (o : Obj) => (blkC ((heap_alloc_old (set5 w2 (w.heap.size + 1 + 1 + 1 + 1) u1 u2 u3 u4 u5) o (by rw [set5_size]; exact zS)).trans (set5_self u1 u2 u3 u4 u5 HS2.out))).1
    simp only [set5] at HRES
    refine bodyPost_ret (v := .tuple #[fldV 0 0 0 0 (.slice none 0 0), .int .i64 er]) (by simp [results, Try.results26, go_sem, HRES]) rfl ?_
    exact ⟨rfl, by repeat (first | exact hB2 | refine Below.alloc ?_ (by first | omega | (simp; done) | (simp; omega)) _ | refine Below.setCell ?_ (by first | omega | (simp; done) | (simp; omega)) _)⟩
end Go.Proofs.Ytjjhhnoeiglnhab
