/- Lemmas and contracts for the proof that the last text of this claim holds. -/
import Derived.Test.YtihjemookgnafaaCutJB

/- Contracts of the regions' functions, continued: the reference's Inside; Common. -/
namespace Go.Proofs.Ytihjemookgnafaa
open Go.RowKit

set_option maxHeartbeats 1000000 in
theorem refInside_any (x y ww hh x' y' ww' hh' : Int) (w : World) (_ : -1073741824 ≤ x) (_ : x ≤ 1073741824) (_ : -1073741824 ≤ y) (_ : y ≤ 1073741824) (a5 : 1 ≤ ww) (a6 : ww ≤ 1073741824) (a7 : 1 ≤ hh) (a8 : hh ≤ 1073741824)
    (b1 : -1073741824 ≤ x') (b2 : x' ≤ 1073741824) (b3 : -1073741824 ≤ y') (b4 : y' ≤ 1073741824) (b5 : 1 ≤ ww') (b6 : ww' ≤ 1073741824) (b7 : 1 ≤ hh') (b8 : hh' ≤ 1073741824) :
    Calls Try.prog 23 #[reg x y ww hh, reg x' y' ww' hh'] w fun e w' => e = .returned (.bool (insideB x y ww hh x' y' ww' hh')) ∧ Below w.heap.size w w' := by
  go_enter Try.func23, Try.ntmps23
  go_wp2
  all_goals go_ret
  all_goals refine ⟨ret_bool ?_, (by repeat (first | exact Below.refl _ _ | refine Below.alloc ?_ (by first | omega | (simp; done) | (simp; omega)) _ | refine Below.setCell ?_ (by first | omega | (simp; done) | (simp; omega)) _ | refine Below.drew ?_))⟩
  all_goals (rw [Bool.eq_iff_iff, insideB_iff]; simp; omega)


set_option maxHeartbeats 1000000 in
theorem small_any (x y ww hh : Int) (w : World) :
    Calls Try.prog 19 #[reg x y ww hh] w fun e w' => e = .returned (.bool (decide (1 ≤ ww ∧ ww ≤ 1073741824 ∧ 1 ≤ hh ∧ hh ≤ 1073741824 ∧ -1073741824 ≤ x ∧ -1073741824 ≤ y ∧ x ≤ 1073741824 ∧ y ≤ 1073741824))) ∧ Below w.heap.size w w' := by
  go_enter Try.func19, Try.ntmps19
  go_wp2
  all_goals go_ret
  all_goals refine ⟨ret_bool ?_, (by repeat (first | exact Below.refl _ _ | refine Below.alloc ?_ (by first | omega | (simp; done) | (simp; omega)) _ | refine Below.setCell ?_ (by first | omega | (simp; done) | (simp; omega)) _ | refine Below.drew ?_))⟩
  all_goals (rw [Bool.eq_iff_iff]; simp; omega)

def maxI (a b : Int) : Int := if a < b then b else a
def minI (a b : Int) : Int := if b < a then b else a
theorem maxI_le (a b : Int) : a ≤ maxI a b ∧ b ≤ maxI a b ∧ (maxI a b = a ∨ maxI a b = b) := by unfold maxI; split <;> omega
theorem minI_le (a b : Int) : minI a b ≤ a ∧ minI a b ≤ b ∧ (minI a b = a ∨ minI a b = b) := by unfold minI; split <;> omega

/-- What Common answers. -/
def comB (x y w h x' y' w' h' : Int) : Bool := decide (1 ≤ minI (x + w) (x' + w') - maxI x x') && decide (1 ≤ minI (y + h) (y' + h') - maxI y y')
def comR (x y w h x' y' w' h' : Int) : Value :=
  if comB x y w h x' y' w' h' then reg (maxI x x') (maxI y y') (minI (x + w) (x' + w') - maxI x x') (minI (y + h) (y' + h') - maxI y y') else reg 0 0 0 0
theorem comB_iff {x y w h x' y' w' h' : Int} : comB x y w h x' y' w' h' = true ↔ 1 ≤ minI (x + w) (x' + w') - maxI x x' ∧ 1 ≤ minI (y + h) (y' + h') - maxI y y' := by simp [comB]
theorem comB_no {x y w h x' y' w' h' : Int} : comB x y w h x' y' w' h' = false ↔ minI (x + w) (x' + w') - maxI x x' < 1 ∨ minI (y + h) (y' + h') - maxI y y' < 1 := by
  rw [← Bool.not_eq_true, comB_iff]; omega

set_option maxHeartbeats 1000000 in
theorem common_any (x y ww hh x' y' ww' hh' : Int) (w : World) (a1 : -1073741824 ≤ x) (a2 : x ≤ 1073741824) (a3 : -1073741824 ≤ y) (a4 : y ≤ 1073741824) (a5 : 1 ≤ ww) (a6 : ww ≤ 1073741824) (a7 : 1 ≤ hh) (a8 : hh ≤ 1073741824)
    (b1 : -1073741824 ≤ x') (b2 : x' ≤ 1073741824) (b3 : -1073741824 ≤ y') (b4 : y' ≤ 1073741824) (b5 : 1 ≤ ww') (b6 : ww' ≤ 1073741824) (b7 : 1 ≤ hh') (b8 : hh' ≤ 1073741824) :
    Calls Try.prog 20 #[reg x y ww hh, reg x' y' ww' hh'] w fun e w' => e = .returned (.tuple #[comR x y ww hh x' y' ww' hh', .bool (comB x y ww hh x' y' ww' hh')]) ∧ Below w.heap.size w w' := by
  have hx : (if x < x' then x' else x) = maxI x x' := rfl
  have hy : (if y < y' then y' else y) = maxI y y' := rfl
  have ex : (if x' + ww' < x + ww then x' + ww' else x + ww) = minI (x + ww) (x' + ww') := rfl
  have ey : (if y' + hh' < y + hh then y' + hh' else y + hh) = minI (y + hh) (y' + hh') := rfl
  obtain ⟨x1, x2, x3⟩ := maxI_le x x'
  obtain ⟨y1, y2, y3⟩ := maxI_le y y'
  obtain ⟨x4, x5, x6⟩ := minI_le (x + ww) (x' + ww')
  obtain ⟨y4, y5, y6⟩ := minI_le (y + hh) (y' + hh')
  have x7 : -1073741824 ≤ maxI x x' ∧ maxI x x' ≤ 1073741824 ∧ -1073741824 ≤ minI (x + ww) (x' + ww') ∧ minI (x + ww) (x' + ww') ≤ 2147483648 := by omega
  have y7 : -1073741824 ≤ maxI y y' ∧ maxI y y' ≤ 1073741824 ∧ -1073741824 ≤ minI (y + hh) (y' + hh') ∧ minI (y + hh) (y' + hh') ≤ 2147483648 := by omega
  clear x3 y3 x6 y6
  obtain ⟨x7, x8, x9, xa⟩ := x7
  obtain ⟨y7, y8, y9, ya⟩ := y7
  rcases (show (1 ≤ minI (x + ww) (x' + ww') - maxI x x' ∧ 1 ≤ minI (y + hh) (y' + hh') - maxI y y') ∨ (1 ≤ minI (x + ww) (x' + ww') - maxI x x' ∧ minI (y + hh) (y' + hh') - maxI y y' < 1) ∨ minI (x + ww) (x' + ww') - maxI x x' < 1 by omega) with ⟨t1, t2⟩ | ⟨t1, t2⟩ | t1
  · have hb : comB x y ww hh x' y' ww' hh' = true := comB_iff.2 ⟨t1, t2⟩
    have hr : comR x y ww hh x' y' ww' hh' = reg (maxI x x') (maxI y y') (minI (x + ww) (x' + ww') - maxI x x') (minI (y + hh) (y' + hh') - maxI y y') := by unfold comR; rw [if_pos hb]
    rw [hb, hr]
    clear hb hr
    go_enter Try.func20, Try.ntmps20
    go_wp2
    go_region
    go_wp2
    exact bodyPost_ret (v := .tuple #[reg (maxI x x') (maxI y y') (minI (x + ww) (x' + ww') - maxI x x') (minI (y + hh) (y' + hh') - maxI y y'), .bool true]) (by simp [results, Try.results20, go_sem]) rfl ⟨rfl, (by repeat (first | exact Below.refl _ _ | refine Below.alloc ?_ (by first | omega | (simp; done) | (simp; omega)) _ | refine Below.setCell ?_ (by first | omega | (simp; done) | (simp; omega)) _ | refine Below.drew ?_))⟩
  all_goals
    have hb : comB x y ww hh x' y' ww' hh' = false := comB_no.2 (by omega)
    have hr : comR x y ww hh x' y' ww' hh' = reg 0 0 0 0 := by unfold comR; rw [hb]; rfl
    rw [hb, hr]
    clear hb hr
    go_enter Try.func20, Try.ntmps20
    go_wp2
    go_region
    go_wp2
    exact bodyPost_ret (v := .tuple #[reg 0 0 0 0, .bool false]) (by simp [results, Try.results20, go_sem]) rfl ⟨rfl, (by repeat (first | exact Below.refl _ _ | refine Below.alloc ?_ (by first | omega | (simp; done) | (simp; omega)) _ | refine Below.setCell ?_ (by first | omega | (simp; done) | (simp; omega)) _ | refine Below.drew ?_))⟩

set_option maxHeartbeats 1000000 in
theorem refCommon_any (x y ww hh x' y' ww' hh' : Int) (w : World) (a1 : -1073741824 ≤ x) (a2 : x ≤ 1073741824) (a3 : -1073741824 ≤ y) (a4 : y ≤ 1073741824) (a5 : 1 ≤ ww) (a6 : ww ≤ 1073741824) (a7 : 1 ≤ hh) (a8 : hh ≤ 1073741824)
    (b1 : -1073741824 ≤ x') (b2 : x' ≤ 1073741824) (b3 : -1073741824 ≤ y') (b4 : y' ≤ 1073741824) (b5 : 1 ≤ ww') (b6 : ww' ≤ 1073741824) (b7 : 1 ≤ hh') (b8 : hh' ≤ 1073741824) :
    Calls Try.prog 21 #[reg x y ww hh, reg x' y' ww' hh'] w fun e w' => e = .returned (.tuple #[comR x y ww hh x' y' ww' hh', .bool (comB x y ww hh x' y' ww' hh')]) ∧ Below w.heap.size w w' := by
  have hx : (if x < x' then x' else x) = maxI x x' := rfl
  have hy : (if y < y' then y' else y) = maxI y y' := rfl
  have ex : (if x' + ww' < x + ww then x' + ww' else x + ww) = minI (x + ww) (x' + ww') := rfl
  have ey : (if y' + hh' < y + hh then y' + hh' else y + hh) = minI (y + hh) (y' + hh') := rfl
  obtain ⟨x1, x2, x3⟩ := maxI_le x x'
  obtain ⟨y1, y2, y3⟩ := maxI_le y y'
  obtain ⟨x4, x5, x6⟩ := minI_le (x + ww) (x' + ww')
  obtain ⟨y4, y5, y6⟩ := minI_le (y + hh) (y' + hh')
  have x7 : -1073741824 ≤ maxI x x' ∧ maxI x x' ≤ 1073741824 ∧ -1073741824 ≤ minI (x + ww) (x' + ww') ∧ minI (x + ww) (x' + ww') ≤ 2147483648 := by omega
  have y7 : -1073741824 ≤ maxI y y' ∧ maxI y y' ≤ 1073741824 ∧ -1073741824 ≤ minI (y + hh) (y' + hh') ∧ minI (y + hh) (y' + hh') ≤ 2147483648 := by omega
  clear x3 y3 x6 y6
  obtain ⟨x7, x8, x9, xa⟩ := x7
  obtain ⟨y7, y8, y9, ya⟩ := y7
  rcases (show (1 ≤ minI (x + ww) (x' + ww') - maxI x x' ∧ 1 ≤ minI (y + hh) (y' + hh') - maxI y y') ∨ (1 ≤ minI (x + ww) (x' + ww') - maxI x x' ∧ minI (y + hh) (y' + hh') - maxI y y' < 1) ∨ minI (x + ww) (x' + ww') - maxI x x' < 1 by omega) with ⟨t1, t2⟩ | ⟨t1, t2⟩ | t1
  · have hb : comB x y ww hh x' y' ww' hh' = true := comB_iff.2 ⟨t1, t2⟩
    have hr : comR x y ww hh x' y' ww' hh' = reg (maxI x x') (maxI y y') (minI (x + ww) (x' + ww') - maxI x x') (minI (y + hh) (y' + hh') - maxI y y') := by unfold comR; rw [if_pos hb]
    rw [hb, hr]
    clear hb hr
    go_enter Try.func21, Try.ntmps21
    go_wp2
    go_region
    go_wp2
    exact bodyPost_ret (v := .tuple #[reg (maxI x x') (maxI y y') (minI (x + ww) (x' + ww') - maxI x x') (minI (y + hh) (y' + hh') - maxI y y'), .bool true]) (by simp [results, Try.results21, go_sem]) rfl ⟨rfl, (by repeat (first | exact Below.refl _ _ | refine Below.alloc ?_ (by first | omega | (simp; done) | (simp; omega)) _ | refine Below.setCell ?_ (by first | omega | (simp; done) | (simp; omega)) _ | refine Below.drew ?_))⟩
  all_goals
    have hb : comB x y ww hh x' y' ww' hh' = false := comB_no.2 (by omega)
    have hr : comR x y ww hh x' y' ww' hh' = reg 0 0 0 0 := by unfold comR; rw [hb]; rfl
    rw [hb, hr]
    clear hb hr
    go_enter Try.func21, Try.ntmps21
    go_wp2
    go_region
    go_wp2
    exact bodyPost_ret (v := .tuple #[reg 0 0 0 0, .bool false]) (by simp [results, Try.results21, go_sem]) rfl ⟨rfl, (by repeat (first | exact Below.refl _ _ | refine Below.alloc ?_ (by first | omega | (simp; done) | (simp; omega)) _ | refine Below.setCell ?_ (by first | omega | (simp; done) | (simp; omega)) _ | refine Below.drew ?_))⟩

end Go.Proofs.Ytihjemookgnafaa

/- Cut of the program and of the reference. -/
namespace Go.Proofs.Ytihjemookgnafaa
open Go.RowKit Fl
set_option linter.unusedVariables false

/-- The error of Cut of a right field. -/
def cutE (X Y W H X' Y' W' H' : Int) : Int := if checkR X' Y' W' H' = 0 then (if insideB X' Y' W' H' X Y W H then 0 else 5) else checkR X' Y' W' H'

set_option maxHeartbeats 2000000 in
theorem cut_bad (X Y : Int) (W H n b cap : Nat) (v : Nat → Nat) (X' Y' W1 H1 er : Int) (w : World) (h0 : checkR X Y W H = 0) (hn : n = W * H) (hc : FlAt w b 0 n v) (hh : allB n (fun i => hgtB (v i)) = true) (he : cutE X Y W H X' Y' W1 H1 = er) (hz : er ≠ 0) :
    Calls Try.prog 30 #[fldV X Y W H (.slice (some ⟨b, 0, none⟩) n cap), reg X' Y' W1 H1] w fun e w' => e = .returned (.tuple #[fldV 0 0 0 0 (.slice none 0 0), .int .i64 er]) ∧ Below w.heap.size w w' := by
  obtain ⟨b1, b2, b3, b4, b5, b6, b7, b8, b9⟩ := checkR_zero h0
  have h1 : 1 ≤ n := by
    have := Nat.mul_pos (by omega : 0 < W) (by omega : 0 < H)
    omega
  have hlt : b < w.heap.size := World.block_lt_of_cell? w _ (hc 0 h1)
  have CK := Lib.hid (fun W' (hb : Below w.heap.size w W') => check_ok X Y W H n b cap v W' h0 hn (flAt_congr hc (hb.block _ hlt)) hh)
  have RC := Lib.hid (fun w => checkRegion_any X' Y' W1 H1 w)
  unfold cutE at he
  by_cases h0' : checkR X' Y' W1 H1 = 0
  · obtain ⟨c1, c2, c3, c4, c5, c6, c7, c8, c9⟩ := checkR_zero h0'
    have IN := Lib.hid (fun w => inside_any X' Y' W1 H1 X Y W H w (by omega) (by omega) (by omega) (by omega) (by omega) (by omega) (by omega) (by omega) (by omega) (by omega) (by omega) (by omega) (by omega) (by omega) (by omega) (by omega))
    rw [if_pos h0'] at he
    rw [h0'] at RC
    cases hi : insideB X' Y' W1 H1 X Y W H with
    | true => rw [hi] at he; simp at he; omega
    | false =>
      rw [hi] at he IN
      simp at he
      subst he
      clear hc hn h0 hh h0' hi hz b1 b2 b3 b4 b5 b6 b7 b8 b9 c1 c2 c3 c4 c5 c6 c7 c8 c9 h1 hlt
      go_enter Try.func30, Try.ntmps30
      go_wp2_with (first | (go_at_call 82; refine (CK.out _ (by repeat (first | exact Below.refl _ _ | refine Below.alloc ?_ (by first | omega | (simp; done) | (simp; omega)) _ | refine Below.setCell ?_ (by first | omega | (simp; done) | (simp; omega)) _ | refine Below.drew ?_))).mono ?_; rintro e w2 ⟨rfl, hb2⟩; have HF2 := Lib.hid (blkStay (b := w.heap.size) (o := fldO X Y W H (.slice (some ⟨b, 0, none⟩) n cap)) (by ((simp only [heap_alloc_get, heap_size_alloc, if_true]) <;> ((repeat' split) <;> first | rfl | omega))) hb2); have HR2 := Lib.hid (blkStay (b := w.heap.size + 1) (o := regObj X' Y' W1 H1) (by ((simp only [heap_alloc_get, heap_size_alloc, if_true]) <;> ((repeat' split) <;> first | rfl | omega))) hb2); have HS2 := Lib.hid (blkStay (b := w.heap.size + 1 + 1) (o := fldO 0 0 0 0 (.slice none 0 0)) (by ((simp only [heap_alloc_get, heap_size_alloc, if_true]) <;> ((repeat' split) <;> first | rfl | omega))) hb2); have hB2 : Below w.heap.size w w2 := Below.trans (by repeat (first | exact Below.refl _ _ | refine Below.alloc ?_ (by first | omega | (simp; done) | (simp; omega)) _ | refine Below.setCell ?_ (by first | omega | (simp; done) | (simp; omega)) _ | refine Below.drew ?_)) (Below.mono hb2 (by first | omega | (simp; done) | (simp; omega))); obtain ⟨cF, fF, zF⟩ := blkC HF2.out; obtain ⟨cR, fR, zR⟩ := blkC HR2.out; clear hb2) | (go_at_call 15; refine (RC.out _).mono ?_; rintro e w3 ⟨rfl, hw3⟩; have hb23 : Below w2.heap.size w2 w3 := (by rw [hw3]; exact (by repeat (first | exact Below.refl _ _ | refine Below.alloc ?_ (by first | omega | (simp; done) | (simp; omega)) _ | refine Below.setCell ?_ (by first | omega | (simp; done) | (simp; omega)) _ | refine Below.drew ?_))); clear hw3 cR fR zR cF fF zF; have HF3 := Lib.hid (blkStay HF2.out hb23); have HR3 := Lib.hid (blkStay HR2.out hb23); have HS3 := Lib.hid (blkStay HS2.out hb23); have hB3 := hB2.trans (hb23.mono hB2.size); clear hb23 hB2 HF2 HR2 HS2; obtain ⟨cR, fR, zR⟩ := blkC HR3.out; obtain ⟨cF, fF, zF⟩ := blkC HF3.out; obtain ⟨cS, fS, zS⟩ := blkC HS3.out) | (go_at_call 22; refine (IN.out _).mono ?_; rintro e w4 ⟨rfl, hb4⟩; have hB4 := hB3.trans (hb4.mono hB3.size); have HS4 := Lib.hid (blkStay HS3.out hb4); clear cS fS zS; obtain ⟨cS, fS, zS⟩ := blkC HS4.out))
      refine bodyPost_ret (v := .tuple #[fldV 0 0 0 0 (.slice none 0 0), .int .i64 5]) (by simp [results, Try.results30, go_sem, cS]) rfl ?_
      exact ⟨rfl, set5_below hB4 _ _ _ _ _ _ (by omega)⟩
  · rw [if_neg h0'] at he
    rw [he] at RC
    have hzb : (er != 0) = true := by simp [hz]
    clear hc hn h0 hh h0' hz b1 b2 b3 b4 b5 b6 b7 b8 b9 h1 hlt he
    go_enter Try.func30, Try.ntmps30
    go_wp2_with (first | (go_at_call 82; refine (CK.out _ (by repeat (first | exact Below.refl _ _ | refine Below.alloc ?_ (by first | omega | (simp; done) | (simp; omega)) _ | refine Below.setCell ?_ (by first | omega | (simp; done) | (simp; omega)) _ | refine Below.drew ?_))).mono ?_; rintro e w2 ⟨rfl, hb2⟩; have HF2 := Lib.hid (blkStay (b := w.heap.size) (o := fldO X Y W H (.slice (some ⟨b, 0, none⟩) n cap)) (by ((simp only [heap_alloc_get, heap_size_alloc, if_true]) <;> ((repeat' split) <;> first | rfl | omega))) hb2); have HR2 := Lib.hid (blkStay (b := w.heap.size + 1) (o := regObj X' Y' W1 H1) (by ((simp only [heap_alloc_get, heap_size_alloc, if_true]) <;> ((repeat' split) <;> first | rfl | omega))) hb2); have HS2 := Lib.hid (blkStay (b := w.heap.size + 1 + 1) (o := fldO 0 0 0 0 (.slice none 0 0)) (by ((simp only [heap_alloc_get, heap_size_alloc, if_true]) <;> ((repeat' split) <;> first | rfl | omega))) hb2); have hB2 : Below w.heap.size w w2 := Below.trans (by repeat (first | exact Below.refl _ _ | refine Below.alloc ?_ (by first | omega | (simp; done) | (simp; omega)) _ | refine Below.setCell ?_ (by first | omega | (simp; done) | (simp; omega)) _ | refine Below.drew ?_)) (Below.mono hb2 (by first | omega | (simp; done) | (simp; omega))); obtain ⟨cR, fR, zR⟩ := blkC HR2.out; clear hb2) | (go_at_call 15; refine (RC.out _).mono ?_; rintro e w3 ⟨rfl, hw3⟩; have hb23 : Below w2.heap.size w2 w3 := (by rw [hw3]; exact (by repeat (first | exact Below.refl _ _ | refine Below.alloc ?_ (by first | omega | (simp; done) | (simp; omega)) _ | refine Below.setCell ?_ (by first | omega | (simp; done) | (simp; omega)) _ | refine Below.drew ?_))); clear hw3 cR fR zR; have HS3 := Lib.hid (blkStay HS2.out hb23); have hB3 := hB2.trans (hb23.mono hB2.size); clear hb23 hB2 HF2 HR2 HS2; obtain ⟨cS, fS, zS⟩ := blkC HS3.out))
    refine bodyPost_ret (v := .tuple #[fldV 0 0 0 0 (.slice none 0 0), .int .i64 er]) (by simp [results, Try.results30, go_sem, cS]) rfl ?_
    exact ⟨rfl, set5_below hB3 _ _ _ _ _ _ (by omega)⟩

set_option maxHeartbeats 2000000 in
theorem cut_ok (X Y : Int) (W H n b cap : Nat) (v : Nat → Nat) (X' Y' : Int) (W1 H1 n1 : Nat) (w : World) (h0 : checkR X Y W H = 0) (hn : n = W * H) (hc : FlAt w b 0 n v) (hh : allB n (fun i => hgtB (v i)) = true) (he : cutE X Y W H X' Y' W1 H1 = 0) (hn1 : n1 = H1 * W1) :
    Calls Try.prog 30 #[fldV X Y W H (.slice (some ⟨b, 0, none⟩) n cap), reg X' Y' W1 H1] w (MadePost w X' Y' W1 H1 n1 (cutF v X Y W X' Y' W1)) := by
  obtain ⟨b1, b2, b3, b4, b5, b6, b7, b8, b9⟩ := checkR_zero h0
  have h1 : 1 ≤ n := by
    have := Nat.mul_pos (by omega : 0 < W) (by omega : 0 < H)
    omega
  have hlt : b < w.heap.size := World.block_lt_of_cell? w _ (hc 0 h1)
  have en : ((W : Int) * (H : Int)) = (n : Int) := by rw [hn]; simp
  have hn2 : n ≤ 65536 := by omega
  unfold cutE at he
  by_cases h0' : checkR X' Y' W1 H1 = 0
  · obtain ⟨c1, c2, c3, c4, c5, c6, c7, c8, c9⟩ := checkR_zero h0'
    rw [if_pos h0'] at he
    cases hi : insideB X' Y' W1 H1 X Y W H with
    | false => rw [hi] at he; simp at he
    | true =>
      obtain ⟨i1, i2, i3, i4⟩ := insideB_iff.1 hi
      have CK := Lib.hid (fun W' (hb : Below w.heap.size w W') => check_ok X Y W H n b cap v W' h0 hn (flAt_congr hc (hb.block _ hlt)) hh)
      have RC := Lib.hid (fun w => checkRegion_any X' Y' W1 H1 w)
      rw [h0'] at RC
      have IN := Lib.hid (fun w => inside_any X' Y' W1 H1 X Y W H w (by omega) (by omega) (by omega) (by omega) (by omega) (by omega) (by omega) (by omega) (by omega) (by omega) (by omega) (by omega) (by omega) (by omega) (by omega) (by omega))
      rw [hi] at IN
      have en1 : ((W1 : Int) * (H1 : Int)) = (n1 : Int) := by rw [hn1, Nat.mul_comm]; simp
      have BP := Lib.hid (fun W' p (hk : W'.heap[p]? = some (fldO X Y W H (.slice (some ⟨b, 0, none⟩) n cap))) (hb : Below w.heap.size w W') => byPlace_any X' Y' W1 H1 n1 84 #[.pointer (some ⟨p, 0, none⟩)] (cutF v X Y W X' Y' W1) W' enters_Cut1 (cut1_any X Y W H n b cap v p X' Y' W1 H1 W' hk (flAt_congr hc (hb.block _ hlt)) h1 hn2 (by omega) (by omega) (by omega) (by omega) (by omega) (by omega) (by omega) (by rw [hn]; exact Nat.mul_comm _ _) (by omega) i1 i2 i3 i4) (by omega) (by omega) (by omega) (by omega) (by omega) (by omega) (by omega) (by omega) hn1 (by omega))
      clear hc hn h0 hh h0' hi he b1 b2 b3 b4 b5 b6 b7 b8 b9 c1 c2 c3 c4 c5 c6 c7 c8 c9 h1 hlt en hn2 en1 i1 i2 i3 i4 hn1
      go_enter Try.func30, Try.ntmps30
      go_wp2_with (first | (go_at_call 82; refine (CK.out _ (by repeat (first | exact Below.refl _ _ | refine Below.alloc ?_ (by first | omega | (simp; done) | (simp; omega)) _ | refine Below.setCell ?_ (by first | omega | (simp; done) | (simp; omega)) _ | refine Below.drew ?_))).mono ?_; rintro e w2 ⟨rfl, hb2⟩; have HF2 := Lib.hid (blkStay (b := w.heap.size) (o := fldO X Y W H (.slice (some ⟨b, 0, none⟩) n cap)) (by ((simp only [heap_alloc_get, heap_size_alloc, if_true]) <;> ((repeat' split) <;> first | rfl | omega))) hb2); have HR2 := Lib.hid (blkStay (b := w.heap.size + 1) (o := regObj X' Y' W1 H1) (by ((simp only [heap_alloc_get, heap_size_alloc, if_true]) <;> ((repeat' split) <;> first | rfl | omega))) hb2); have HS2 := Lib.hid (blkStay (b := w.heap.size + 1 + 1) (o := fldO 0 0 0 0 (.slice none 0 0)) (by ((simp only [heap_alloc_get, heap_size_alloc, if_true]) <;> ((repeat' split) <;> first | rfl | omega))) hb2); have hB2 : Below w.heap.size w w2 := Below.trans (by repeat (first | exact Below.refl _ _ | refine Below.alloc ?_ (by first | omega | (simp; done) | (simp; omega)) _ | refine Below.setCell ?_ (by first | omega | (simp; done) | (simp; omega)) _ | refine Below.drew ?_)) (Below.mono hb2 (by first | omega | (simp; done) | (simp; omega))); obtain ⟨cF, fF, zF⟩ := blkC HF2.out; obtain ⟨cR, fR, zR⟩ := blkC HR2.out; clear hb2) | (go_at_call 15; refine (RC.out _).mono ?_; rintro e w3 ⟨rfl, hw3⟩; have hb23 : Below w2.heap.size w2 w3 := (by rw [hw3]; exact (by repeat (first | exact Below.refl _ _ | refine Below.alloc ?_ (by first | omega | (simp; done) | (simp; omega)) _ | refine Below.setCell ?_ (by first | omega | (simp; done) | (simp; omega)) _ | refine Below.drew ?_))); clear hw3 cR fR zR cF fF zF; have HF3 := Lib.hid (blkStay HF2.out hb23); have HR3 := Lib.hid (blkStay HR2.out hb23); have HS3 := Lib.hid (blkStay HS2.out hb23); have hB3 := hB2.trans (hb23.mono hB2.size); clear hb23 hB2 HF2 HR2 HS2; obtain ⟨cR, fR, zR⟩ := blkC HR3.out; obtain ⟨cF, fF, zF⟩ := blkC HF3.out; obtain ⟨cS, fS, zS⟩ := blkC HS3.out) | (go_at_call 22; refine (IN.out _).mono ?_; rintro e w4 ⟨rfl, hb4⟩; have hB4 := hB3.trans (hb4.mono hB3.size); have HS4 := Lib.hid (blkStay HS3.out hb4); have HF4 := Lib.hid (blkStay HF3.out hb4); have HR4 := Lib.hid (blkStay HR3.out hb4); clear cS fS zS cR fR zR cF fF zF; obtain ⟨cR, fR, zR⟩ := blkC HR4.out; obtain ⟨cF, fF, zF⟩ := blkC HF4.out))
      refine (BP.out w4 w.heap.size HF4.out hB4).mono ?_
      intro e w5 hmade
      rcases hmade with ⟨hall, b', cap', rfl, hb', hlt', hrow, hbel⟩ | ⟨hall, rfl, hbel⟩
      · have hS := Lib.hid (blkStay HS4.out hbel)
        obtain ⟨cS, fS, zS⟩ := blkC hS.out
        go_wp2
        refine bodyPost_ret (v := .tuple #[fldV X' Y' W1 H1 (.slice (some ⟨b', 0, none⟩) n1 cap'), .int .i64 0]) (by simp [results, Try.results30, go_sem, cS]) rfl ?_
        have z4 := hB4.size
        have zS4 := (blkC HS4.out).2.2
        exact .inl ⟨hall, b', cap', rfl, by omega, by rw [set5_size]; exact hlt', flAt_congr hrow (set5_heap w5 _ _ _ _ _ _ _ (by omega)), set5_below (hB4.trans (hbel.mono z4)) _ _ _ _ _ _ (by omega)⟩
      · have hS := Lib.hid (blkStay HS4.out hbel)
        obtain ⟨cS, fS, zS⟩ := blkC hS.out
        go_wp2
        refine bodyPost_ret (v := .tuple #[fldV 0 0 0 0 (.slice none 0 0), .int .i64 3]) (by simp [results, Try.results30, go_sem, cS]) rfl ?_
        exact .inr ⟨hall, rfl, set5_below (hB4.trans (hbel.mono hB4.size)) _ _ _ _ _ _ (by omega)⟩
  · rw [if_neg h0'] at he; exact absurd he h0'
end Go.Proofs.Ytihjemookgnafaa

/- Contracts: Same$1, EqualFunc, Same, same. -/
namespace Go.Proofs.Ytihjemookgnafaa
open Go.RowKit Fl
set_option linter.unusedVariables false

theorem enters_Same1 : Enters 87 := by intro args W; simp [callFunc, Try.func87, Try.f87]

set_option maxHeartbeats 400000 in
theorem same1_self (x : Nat) (w : World) :
    Calls Try.prog 87 #[.float .f32 x, .float .f32 x] w fun e w' => e = .returned (.bool true) ∧ w = w' := by
  have h1 := f32bits
  go_enter Try.func87, Try.ntmps87
  go_wp2
  go_ret
  exact ⟨rfl, rfl⟩

set_option maxHeartbeats 1000000 in
theorem equalFunc_row (b b' cap cap' n : Nat) (v : Nat → Nat) (hl : n ≤ 9223372036854775807) (w : World) (hc : FlAt w b 0 n v) (hc' : FlAt w b' 0 n v) :
    Calls Try.prog 86 #[.slice (some ⟨b, 0, none⟩) n cap, .slice (some ⟨b', 0, none⟩) n cap', .func (.func 87) #[] #[]] w fun e w' => e = .returned (.bool true) ∧ w = w' := by
  have hcall := enters_Same1
  unfold Enters at hcall
  go_enter Try.func86, Try.ntmps86
  go_wp2
  go_loop [17] (fun i => ∃ k : Nat, k ≤ n ∧ i = .int .i64 k) (fun i => n - (intOf i).toNat)
  case atStart => exact ⟨0, Nat.zero_le _, rfl⟩
  case round =>
    obtain ⟨k, hk, rfl⟩ := hrel
    by_cases hlt : k < n
    · have hcell := hc k hlt
      have hcell' := hc' k hlt
      rw [Nat.zero_add] at hcell hcell'
      have IH := Lib.hid (fun w => same1_self (v k) w)
      go_wp2_with fail
      refine (IH.out _).mono ?_
      rintro e w' ⟨rfl, rfl⟩
      go_wp2
      go_round
      case rel => exact ⟨k + 1, by omega, by go_num⟩
      case measure => simp [intOf]; omega
    · go_wp2
      go_ret
      exact ⟨rfl, rfl⟩

set_option maxHeartbeats 1000000 in
theorem same_ok (X Y W H : Int) (b b' cap cap' n : Nat) (v : Nat → Nat) (hl : n ≤ 9223372036854775807) (h1 : 1 ≤ n) (w : World) (hc : FlAt w b 0 n v) (hc' : FlAt w b' 0 n v) :
    Calls Try.prog 31 #[fldV X Y W H (.slice (some ⟨b, 0, none⟩) n cap), fldV X Y W H (.slice (some ⟨b', 0, none⟩) n cap')] w fun e w' => e = .returned (.bool true) ∧ Below w.heap.size w w' := by
  have z := World.block_lt_of_cell? w _ (hc 0 h1)
  have z' := World.block_lt_of_cell? w _ (hc' 0 h1)
  have EF := Lib.hid (fun W' (hb : Below w.heap.size w W') => equalFunc_row b b' cap cap' n v hl W' (flAt_congr hc (hb.block _ z)) (flAt_congr hc' (hb.block _ z')))
  clear hc hc'
  go_enter Try.func31, Try.ntmps31
  go_wp2_with (first | (go_at_call 86; refine (EF.out _ (by repeat (first | exact Below.refl _ _ | refine Below.alloc ?_ (by first | omega | (simp; done) | (simp; omega)) _ | refine Below.setCell ?_ (by first | omega | (simp; done) | (simp; omega)) _ | refine Below.drew ?_))).mono ?_; rintro e w' ⟨rfl, rfl⟩))
  go_ret
  exact ⟨rfl, (by repeat (first | exact Below.refl _ _ | refine Below.alloc ?_ (by first | omega | (simp; done) | (simp; omega)) _ | refine Below.setCell ?_ (by first | omega | (simp; done) | (simp; omega)) _ | refine Below.drew ?_))⟩

set_option maxHeartbeats 1000000 in
theorem law_same_ok (X Y W H : Int) (b b' cap cap' n : Nat) (v : Nat → Nat) (hl : n ≤ 9223372036854775807) (h1 : 1 ≤ n) (w : World) (hc : FlAt w b 0 n v) (hc' : FlAt w b' 0 n v) :
    Calls Try.prog 38 #[fldV X Y W H (.slice (some ⟨b, 0, none⟩) n cap), .int .i64 0, fldV X Y W H (.slice (some ⟨b', 0, none⟩) n cap'), .int .i64 0] w fun e w' => e = .returned (.bool true) ∧ Below w.heap.size w w' := by
  have z := World.block_lt_of_cell? w _ (hc 0 h1)
  have z' := World.block_lt_of_cell? w _ (hc' 0 h1)
  have SM := Lib.hid (fun W' (hb : Below w.heap.size w W') => same_ok X Y W H b b' cap cap' n v hl h1 W' (flAt_congr hc (hb.block _ z)) (flAt_congr hc' (hb.block _ z')))
  clear hc hc'
  go_enter Try.func38, Try.ntmps38
  go_wp2_with (first | (go_at_call 31; refine (SM.out _ (by repeat (first | exact Below.refl _ _ | refine Below.alloc ?_ (by first | omega | (simp; done) | (simp; omega)) _ | refine Below.setCell ?_ (by first | omega | (simp; done) | (simp; omega)) _ | refine Below.drew ?_))).mono ?_; rintro e w2 ⟨rfl, hb2⟩))
  go_ret
  exact ⟨rfl, Below.trans (by repeat (first | exact Below.refl _ _ | refine Below.alloc ?_ (by first | omega | (simp; done) | (simp; omega)) _ | refine Below.setCell ?_ (by first | omega | (simp; done) | (simp; omega)) _ | refine Below.drew ?_)) (Below.mono hb2 (by simp; try omega))⟩

set_option maxHeartbeats 1000000 in
theorem law_same_err (e1 : Int) (he : e1 ≠ 0) (w : World) :
    Calls Try.prog 38 #[fldV 0 0 0 0 (.slice none 0 0), .int .i64 e1, fldV 0 0 0 0 (.slice none 0 0), .int .i64 e1] w fun e w' => e = .returned (.bool true) ∧ Below w.heap.size w w' := by
  have hb : (e1 != 0) = true := by simp [he]
  go_enter Try.func38, Try.ntmps38
  go_wp2
  go_ret
  exact ⟨rfl, (by repeat (first | exact Below.refl _ _ | refine Below.alloc ?_ (by first | omega | (simp; done) | (simp; omega)) _ | refine Below.setCell ?_ (by first | omega | (simp; done) | (simp; omega)) _ | refine Below.drew ?_))⟩

end Go.Proofs.Ytihjemookgnafaa

/- What the two sides answer, told alike: so the law's walk has one way. -/
namespace Go.Proofs.Ytihjemookgnafaa
open Go.RowKit Fl
set_option linter.unusedVariables false

/-- A result (the field x y u h s, the error k) of a function that makes f over a region, behind the error er. -/
def Res (lo : Nat) (w : World) (X Y W H : Int) (n : Nat) (f : Nat → Nat) (er : Int) (x y u h : Int) (s : Value) (k : Int) : Prop :=
  (er ≠ 0 ∧ x = 0 ∧ y = 0 ∧ u = 0 ∧ h = 0 ∧ s = .slice none 0 0 ∧ k = er) ∨
  (er = 0 ∧ allB n (fun i => hgtB (f i)) = true ∧ x = X ∧ y = Y ∧ u = W ∧ h = H ∧ (∃ b cap, s = .slice (some ⟨b, 0, none⟩) n cap ∧ lo ≤ b ∧ b < w.heap.size ∧ FlAt w b 0 n f) ∧ k = 0) ∨
  (er = 0 ∧ allB n (fun i => hgtB (f i)) = false ∧ x = 0 ∧ y = 0 ∧ u = 0 ∧ h = 0 ∧ s = .slice none 0 0 ∧ k = 3)
theorem Res.stay {lo : Nat} {w w' : World} {X Y W H : Int} {n : Nat} {f : Nat → Nat} {er x y u h : Int} {s : Value} {k : Int} (r : Res lo w X Y W H n f er x y u h s k) (hb : Below w.heap.size w w') : Res lo w' X Y W H n f er x y u h s k := by
  rcases r with r | ⟨r1, r2, r3, r4, r5, r6, ⟨b, cap, r7, r0, r8, r9⟩, r10⟩ | r
  · exact .inl r
  · exact .inr (.inl ⟨r1, r2, r3, r4, r5, r6, ⟨b, cap, r7, r0, Nat.lt_of_lt_of_le r8 hb.size, flAt_congr r9 (hb.block _ r8)⟩, r10⟩)
  · exact .inr (.inr r)
theorem Res.heap {lo : Nat} {w w' : World} {X Y W H : Int} {n : Nat} {f : Nat → Nat} {er x y u h : Int} {s : Value} {k : Int} (r : Res lo w X Y W H n f er x y u h s k) {p : Nat} (hz : w.heap.size ≤ w'.heap.size) (hne : p < lo) (hb : ∀ b, b ≠ p → b < w.heap.size → w'.heap[b]? = w.heap[b]?) : Res lo w' X Y W H n f er x y u h s k := by
  rcases r with r | ⟨r1, r2, r3, r4, r5, r6, ⟨b, cap, r7, r0, r8, r9⟩, r10⟩ | r
  · exact .inl r
  · exact .inr (.inl ⟨r1, r2, r3, r4, r5, r6, ⟨b, cap, r7, r0, Nat.lt_of_lt_of_le r8 hz, flAt_congr r9 (hb _ (by omega) r8)⟩, r10⟩)
  · exact .inr (.inr r)

theorem made_res {w w' : World} {X Y W H : Int} {n : Nat} {f : Nat → Nat} {er : Int} {e : Ending} (h : ScPost w X Y W H n f er e w') :
    ∃ x y u hh : Int, ∃ a : Option Addr, ∃ l cp : Nat, ∃ k : Int, e = .returned (.tuple #[fldV x y u hh (.slice a l cp), .int .i64 k]) ∧ Res w.heap.size w' X Y W H n f er x y u hh (.slice a l cp) k ∧ Below w.heap.size w w' := by
  rcases h with ⟨h1, h2, h3⟩ | ⟨h1, ⟨h2, b, cap, h3, h4, h5, h6, h7⟩ | ⟨h2, h3, h4⟩⟩
  · exact ⟨_, _, _, _, _, _, _, _, h2, .inl ⟨h1, rfl, rfl, rfl, rfl, rfl, rfl⟩, h3⟩
  · exact ⟨_, _, _, _, _, _, _, _, h3, .inr (.inl ⟨h1, h2, rfl, rfl, rfl, rfl, ⟨b, cap, rfl, h4, h5, h6⟩, rfl⟩), h7⟩
  · exact ⟨_, _, _, _, _, _, _, _, h3, .inr (.inr ⟨h1, h2, rfl, rfl, rfl, rfl, rfl, rfl⟩), h4⟩

/-- Two results of one thing are the same to the law. -/
theorem same_res {W0 : World} {X Y W H : Int} {n : Nat} {f : Nat → Nat} {er x y u h x' y' u' h' : Int} {s s' : Value} {k k' : Int} (hn : 1 ≤ n) (hl : n ≤ 9223372036854775807)
    {lo lo' : Nat} (r : Res lo W0 X Y W H n f er x y u h s k) (r' : Res lo' W0 X Y W H n f er x' y' u' h' s' k') :
    Calls Try.prog 38 #[fldV x y u h s, .int .i64 k, fldV x' y' u' h' s', .int .i64 k'] W0 fun e w' => e = .returned (.bool true) ∧ Below W0.heap.size W0 w' := by
  rcases r with ⟨a1, rfl, rfl, rfl, rfl, rfl, rfl⟩ | ⟨a1, a2, rfl, rfl, rfl, rfl, ⟨b, cap, rfl, _, _, c⟩, rfl⟩ | ⟨a1, a2, rfl, rfl, rfl, rfl, rfl, rfl⟩ <;>
  rcases r' with ⟨b1, rfl, rfl, rfl, rfl, rfl, rfl⟩ | ⟨b1, b2, rfl, rfl, rfl, rfl, ⟨b', cap', rfl, _, _, c'⟩, rfl⟩ | ⟨b1, b2, rfl, rfl, rfl, rfl, rfl, rfl⟩
  · exact law_same_err _ a1 W0
  · exact absurd b1 a1
  · exact absurd b1 a1
  · exact absurd a1 b1
  · exact law_same_ok _ _ _ _ b b' cap cap' n f hl hn W0 c c'
  · rw [a2] at b2; cases b2
  · exact absurd a1 b1
  · rw [a2] at b2; cases b2
  · exact law_same_err 3 (by decide) W0

theorem set5_self {wr : World} {b : Nat} {a1 a2 a3 a4 a5 : Value} {t : TypeId} (u1 u2 u3 u4 u5 : Value) (h : wr.heap[b]? = some (.cells #[a1, a2, a3, a4, a5] t (0, 0))) :
    (set5 wr b u1 u2 u3 u4 u5).heap[b]? = some (.cells #[u1, u2, u3, u4, u5] t (0, 0)) := by
  have h1 := heap_setCell_same wr b 0 _ _ u1 h
  have h2 := heap_setCell_same _ b 1 _ _ u2 h1
  have h3 := heap_setCell_same _ b 2 _ _ u3 h2
  have h4 := heap_setCell_same _ b 3 _ _ u4 h3
  have h5 := heap_setCell_same _ b 4 _ _ u5 h4
  exact h5
/-- A field stored into a block of its own: what stands elsewhere stays. -/
theorem box_old (wr : World) (o : Obj) (u1 u2 u3 u4 u5 : Value) {k : Nat} (h : k < wr.heap.size) : (set5 (wr.alloc o) wr.heap.size u1 u2 u3 u4 u5).heap[k]? = wr.heap[k]? := by
  rw [set5_heap _ _ _ _ _ _ _ _ (by omega), heap_alloc_old _ _ h]
theorem box_below (wr : World) (o : Obj) (u1 u2 u3 u4 u5 : Value) : Below wr.heap.size wr (set5 (wr.alloc o) wr.heap.size u1 u2 u3 u4 u5) :=
  set5_below ((Below.refl _ _).alloc (Nat.le_refl _) o) _ _ _ _ _ _ (Nat.le_refl _)

/-- What a fit field is, its singles by a function. -/
theorem fit_fn {w : World} {b n : Nat} (h : FitRow w b n n) : ∃ v : Nat → Nat, FlAt w b 0 n v ∧ wf32 n v ∧ allB n (fun i => hgtB (v i)) = true ∧ b < w.heap.size := by
  obtain ⟨cs, h1, h2, h3⟩ := h
  refine ⟨fun j => if hj : j < n then (h3 j hj).choose else 0, fun i hi => ?_, fun i hi => ?_, allB_iff.2 fun i hi => ?_, (blkC h1).2.2⟩
  · rw [Nat.zero_add, (blkC h1).1 i]; simp only [dif_pos hi]; exact (h3 i hi).choose_spec.1
  · simp only [dif_pos hi]; exact (h3 i hi).choose_spec.2.1
  · simp only [dif_pos hi]; exact (h3 i hi).choose_spec.2.2 hi
theorem fit_check {X Y : Int} {W H n : Nat} (x1 : -5000 ≤ X) (x2 : X ≤ 5000) (y1 : -5000 ≤ Y) (y2 : Y ≤ 5000) (w1 : (1 : Int) ≤ W) (w2 : (W : Int) ≤ 16) (h1 : (1 : Int) ≤ H) (h2 : (H : Int) ≤ 16) (hn : (n : Int) = W * H) (hn2 : n ≤ 256) : checkR X Y W H = 0 := by
  unfold checkR
  rw [if_neg (by omega), if_neg (by rw [← hn]; omega), if_neg (by omega)]

end Go.Proofs.Ytihjemookgnafaa

/- Cut of the reference; the closures of Paste, on both sides. -/
namespace Go.Proofs.Ytihjemookgnafaa
open Go.RowKit Fl
set_option linter.unusedVariables false

theorem enters_Paste1 : Enters 92 := by intro args W; simp [callFunc, Try.func92, Try.f92]
theorem enters_rPaste1 : Enters 94 := by intro args W; simp [callFunc, Try.func94, Try.f94]

/-- A field is answered that has been made of f (all of whose values are heights). -/
def OnePost (w : World) (X Y W H : Int) (n : Nat) (f : Nat → Nat) (e : Ending) (w' : World) : Prop :=
  ∃ b cap, e = .returned (fldV X Y W H (.slice (some ⟨b, 0, none⟩) n cap)) ∧ w.heap.size ≤ b ∧ b < w'.heap.size ∧ FlAt w' b 0 n f ∧ Below w.heap.size w w'

theorem cutF_in {v : Nat → Nat} {X Y : Int} {W H n : Nat} {X' Y' : Int} {W1 H1 n1 : Nat} (hn : n = H * W) (hn1 : n1 = H1 * W1) (hW : 1 ≤ W) (hW1 : 1 ≤ W1) (i1 : X ≤ X') (i2 : Y ≤ Y') (i3 : X' + W1 ≤ X + W) (i4 : Y' + H1 ≤ Y + H) {i : Nat} (hi : i < n1) : subN X Y W X' Y' W1 i < n := by
  have hml := Nat.mod_lt i (show 0 < W1 by omega)
  have hdl : i / W1 < H1 := Nat.div_lt_of_lt_mul (by rw [Nat.mul_comm]; omega)
  have e := subN_of (X := X) (Y := Y) (W := W) (X' := X') (Y' := Y') (W' := W1) (i := i) rfl rfl (by have := Int.natCast_nonneg (i % W1); omega) (by have := Int.natCast_nonneg (i / W1); omega)
  generalize i / W1 = q at e hdl
  generalize i % W1 = r at e hml
  exact num_lt hW (by omega) (by omega) (by omega) e hn

theorem cutF_hgt {v : Nat → Nat} {X Y : Int} {W H n : Nat} {X' Y' : Int} {W1 H1 n1 : Nat} (hv : allB n (fun i => hgtB (v i)) = true) (hn : n = H * W) (hn1 : n1 = H1 * W1) (hW : 1 ≤ W) (hW1 : 1 ≤ W1) (i1 : X ≤ X') (i2 : Y ≤ Y') (i3 : X' + W1 ≤ X + W) (i4 : Y' + H1 ≤ Y + H) : allB n1 (fun i => hgtB (cutF v X Y W X' Y' W1 i)) = true :=
  allB_iff.2 fun i hi => allB_iff.1 hv _ (cutF_in (v := v) hn hn1 hW hW1 i1 i2 i3 i4 hi)
theorem cutF_wf {v : Nat → Nat} {X Y : Int} {W H n : Nat} {X' Y' : Int} {W1 H1 n1 : Nat} (hv : wf32 n v) (hn : n = H * W) (hn1 : n1 = H1 * W1) (hW : 1 ≤ W) (hW1 : 1 ≤ W1) (i1 : X ≤ X') (i2 : Y ≤ Y') (i3 : X' + W1 ≤ X + W) (i4 : Y' + H1 ≤ Y + H) : wf32 n1 (cutF v X Y W X' Y' W1) :=
  fun i hi => hv _ (cutF_in (v := v) hn hn1 hW hW1 i1 i2 i3 i4 hi)

set_option maxHeartbeats 2000000 in
theorem rcut_ok (X Y : Int) (W H n b cap : Nat) (v : Nat → Nat) (X' Y' : Int) (W1 H1 n1 : Nat) (w : World) (h0 : checkR X Y W H = 0) (hn : n = W * H) (hc : FlAt w b 0 n v) (hh : allB n (fun i => hgtB (v i)) = true) (hvw : wf32 n v) (he : cutE X Y W H X' Y' W1 H1 = 0) (hn1 : n1 = H1 * W1) :
    Calls Try.prog 32 #[fldV X Y W H (.slice (some ⟨b, 0, none⟩) n cap), reg X' Y' W1 H1] w (OnePost w X' Y' W1 H1 n1 (cutF v X Y W X' Y' W1)) := by
  obtain ⟨b1, b2, b3, b4, b5, b6, b7, b8, b9⟩ := checkR_zero h0
  have h1 : 1 ≤ n := by
    have := Nat.mul_pos (by omega : 0 < W) (by omega : 0 < H)
    omega
  have hlt : b < w.heap.size := World.block_lt_of_cell? w _ (hc 0 h1)
  have en : ((W : Int) * (H : Int)) = (n : Int) := by rw [hn]; simp
  have hn2 : n ≤ 65536 := by omega
  have hnm : n = H * W := by rw [hn]; exact Nat.mul_comm _ _
  unfold cutE at he
  by_cases h0' : checkR X' Y' W1 H1 = 0
  · obtain ⟨c1, c2, c3, c4, c5, c6, c7, c8, c9⟩ := checkR_zero h0'
    rw [if_pos h0'] at he
    cases hi : insideB X' Y' W1 H1 X Y W H with
    | false => rw [hi] at he; simp at he
    | true =>
      obtain ⟨i1, i2, i3, i4⟩ := insideB_iff.1 hi
      have hall' := Lib.hid (cutF_hgt hh hnm hn1 (by omega) (by omega) i1 i2 i3 i4)
      have hwf' := cutF_wf hvw hnm hn1 (by omega) (by omega) i1 i2 i3 i4
      have MP := Lib.hid (fun W' p (hk : W'.heap[p]? = some (fldO X Y W H (.slice (some ⟨b, 0, none⟩) n cap))) (hb : Below w.heap.size w W') => made_any X' Y' W1 H1 n1 89 #[.pointer (some ⟨p, 0, none⟩)] (cutF v X Y W X' Y' W1) W' enters_rCut1 (rcut1_any X Y W H n b cap v p X' Y' W1 H1 W' hk (flAt_congr hc (hb.block _ hlt)) h1 hn2 (by omega) (by omega) (by omega) (by omega) (by omega) (by omega) (by omega) hnm (by omega) i1 i2 i3 i4) hwf' (by omega) (by omega) (by omega) (by omega) (by omega) (by omega) (by omega) (by omega) hn1)
      clear hc hn h0 hh h0' hi he b1 b2 b3 b4 b5 b6 b7 b8 b9 c1 c2 c3 c4 c5 c6 c7 c8 c9 h1 hlt en hn2 i1 i2 i3 i4 hn1 hwf' hvw hnm
      go_enter Try.func32, Try.ntmps32
      go_wp2_with fail
      refine (MP.out _ w.heap.size (by ((simp only [heap_alloc_get, heap_size_alloc, if_true]) <;> ((repeat' split) <;> first | rfl | omega))) (by repeat (first | exact Below.refl _ _ | refine Below.alloc ?_ (by first | omega | (simp; done) | (simp; omega)) _ | refine Below.setCell ?_ (by first | omega | (simp; done) | (simp; omega)) _ | refine Below.drew ?_))).mono ?_
      intro e w5 hmade
      rcases hmade with ⟨hall, b', cap', rfl, hb', hlt', hrow, hbel⟩ | ⟨hall, rfl, hbel⟩
      · have hS := Lib.hid (blkStay (b := w.heap.size + 1 + 1) (o := fldO 0 0 0 0 (.slice none 0 0)) (by ((simp only [heap_alloc_get, heap_size_alloc, if_true]) <;> ((repeat' split) <;> first | rfl | omega))) hbel)
        have hB : Below w.heap.size w w5 := Below.trans (by repeat (first | exact Below.refl _ _ | refine Below.alloc ?_ (by first | omega | (simp; done) | (simp; omega)) _ | refine Below.setCell ?_ (by first | omega | (simp; done) | (simp; omega)) _ | refine Below.drew ?_)) (Below.mono hbel (by simp; try omega))
        obtain ⟨cS, fS, zS⟩ := blkC hS.out
        have HB := Lib.hid hb'
        clear hb'
        go_wp2
        have H6 : ((set5 w5 (w.heap.size + 1 + 1) (.int .i64 X') (.int .i64 Y') (.int .i64 W1) (.int .i64 H1) (.slice (some ⟨b', 0, none⟩) n1 cap')).alloc (fldO X' Y' W1 H1 (.slice (some ⟨b', 0, none⟩) n1 cap'))).heap[w.heap.size + 1 + 1]? = some (fldO X' Y' W1 H1 (.slice (some ⟨b', 0, none⟩) n1 cap')) := (heap_alloc_old _ _ (by rw [set5_size]; exact zS)).trans (set5_self _ _ _ _ _ hS.out)
        obtain ⟨c6, _, _⟩ := blkC H6
        dsimp only [set5] at c6
        refine bodyPost_ret (v := fldV X' Y' W1 H1 (.slice (some ⟨b', 0, none⟩) n1 cap')) (by simp [results, Try.results32, go_sem, c6]) rfl ?_
        have hb' := HB.out
        simp only [heap_size_alloc] at hb'
        have hlt6 : b' < (set5 w5 (w.heap.size + 1 + 1) (.int .i64 X') (.int .i64 Y') (.int .i64 W1) (.int .i64 H1) (.slice (some ⟨b', 0, none⟩) n1 cap')).heap.size := by rw [set5_size]; exact hlt'
        exact ⟨b', cap', rfl, by omega, by rw [heap_size_alloc]; exact Nat.lt_succ_of_lt hlt6, flAt_congr (flAt_congr hrow (set5_heap w5 _ _ _ _ _ _ _ (by omega))) (heap_alloc_old _ _ hlt6), (set5_below hB _ _ _ _ _ _ (by omega)).alloc (by rw [set5_size]; exact hB.size) _⟩
      · exact absurd hall (by rw [hall'.out]; simp)
  · rw [if_neg h0'] at he; exact absurd he h0'
end Go.Proofs.Ytihjemookgnafaa

/- The closures of Paste, on both sides. -/
namespace Go.Proofs.Ytihjemookgnafaa
open Go.RowKit Fl
set_option linter.unusedVariables false

set_option maxHeartbeats 1000000 in
theorem pCell_any (x y : Int) (w : World) :
    Calls Try.prog 93 #[.int .i64 x, .int .i64 y] w fun e w' => e = .returned (reg x y 1 1) ∧ Below w.heap.size w w' := by
  go_enter Try.func93, Try.ntmps93
  go_wp2
  exact bodyPost_ret (v := reg x y 1 1) (by simp [results, Try.results93, go_sem]) rfl ⟨rfl, (by repeat (first | exact Below.refl _ _ | refine Below.alloc ?_ (by first | omega | (simp; done) | (simp; omega)) _ | refine Below.setCell ?_ (by first | omega | (simp; done) | (simp; omega)) _ | refine Below.drew ?_))⟩

set_option maxHeartbeats 1000000 in
theorem pThere_any (X Y : Int) (W H n b cap : Nat) (x y : Int) (c : Bool) (w : World) (h0 : checkR X Y W H = 0) (x1 : -536871000 ≤ x) (x2 : x ≤ 536871000) (y1 : -536871000 ≤ y) (y2 : y ≤ 536871000) (hc : insideB x y 1 1 X Y W H = c) :
    Calls Try.prog 95 #[fldV X Y W H (.slice (some ⟨b, 0, none⟩) n cap), .int .i64 x, .int .i64 y] w fun e w' => e = .returned (.bool c) ∧ Below w.heap.size w w' := by
  obtain ⟨b1, b2, b3, b4, b5, b6, b7, b8, b9⟩ := checkR_zero h0
  have IN := Lib.hid (fun w => refInside_any x y 1 1 X Y W H w (by omega) (by omega) (by omega) (by omega) (by omega) (by omega) (by omega) (by omega) (by omega) (by omega) (by omega) (by omega) (by omega) (by omega) (by omega) (by omega))
  rw [hc] at IN
  clear h0 b1 b2 b3 b4 b5 b6 b7 b8 b9 hc x1 x2 y1 y2
  go_enter Try.func95, Try.ntmps95
  go_wp2_with (first | (go_at_call 23; refine (IN.out _).mono ?_; rintro e w2 ⟨rfl, hb2⟩))
  go_ret
  exact ⟨rfl, Below.trans (by repeat (first | exact Below.refl _ _ | refine Below.alloc ?_ (by first | omega | (simp; done) | (simp; omega)) _ | refine Below.setCell ?_ (by first | omega | (simp; done) | (simp; omega)) _ | refine Below.drew ?_)) (hb2.mono (by simp))⟩

/-- What Paste makes of the cell number i. -/
def pstF (vf vg : Nat → Nat) (X Y : Int) (W : Nat) (X2 Y2 : Int) (W2 H2 : Nat) (i : Nat) : Nat :=
  if insideB (X + ((i % W : Nat) : Int)) (Y + ((i / W : Nat) : Int)) 1 1 X2 Y2 W2 H2 then vg (subN X2 Y2 W2 X Y W i) else vf i

theorem al_belowC (w : World) (o : Obj) : Below w.heap.size w (w.alloc o) := (Below.refl _ _).alloc (Nat.le_refl _) o
/-- What the closures hold. -/
structure PCaps (w : World) (X Y : Int) (W H n b cap : Nat) (vf : Nat → Nat) (X2 Y2 : Int) (W2 H2 n2 b2 cap2 : Nat) (vg : Nat → Nat) (p q : Nat) : Prop where
  one : w.heap[p]? = some (fldO X Y W H (.slice (some ⟨b, 0, none⟩) n cap))
  two : w.heap[q]? = some (fldO X2 Y2 W2 H2 (.slice (some ⟨b2, 0, none⟩) n2 cap2))
  row : FlAt w b 0 n vf
  row2 : FlAt w b2 0 n2 vg
theorem PCaps.stay {w w' : World} {X Y : Int} {W H n b cap : Nat} {vf : Nat → Nat} {X2 Y2 : Int} {W2 H2 n2 b2 cap2 : Nat} {vg : Nat → Nat} {p q : Nat} (h : PCaps w X Y W H n b cap vf X2 Y2 W2 H2 n2 b2 cap2 vg p q) (hn : 1 ≤ n) (hn2 : 1 ≤ n2) (hb : Below w.heap.size w w') : PCaps w' X Y W H n b cap vf X2 Y2 W2 H2 n2 b2 cap2 vg p q :=
  ⟨blkStay h.one hb, blkStay h.two hb, flAt_congr h.row (hb.block _ (World.block_lt_of_cell? w _ (h.row 0 hn))), flAt_congr h.row2 (hb.block _ (World.block_lt_of_cell? w _ (h.row2 0 hn2)))⟩

set_option maxHeartbeats 4000000 in
set_option maxRecDepth 100000 in
theorem paste1_any (X Y : Int) (W H n b cap : Nat) (vf : Nat → Nat) (X2 Y2 : Int) (W2 H2 n2 b2 cap2 : Nat) (vg : Nat → Nat) (p q r : Nat) (c1 c2 c3 c4 : Int) (w : World) (hk : PCaps w X Y W H n b cap vf X2 Y2 W2 H2 n2 b2 cap2 vg p q) (hr : w.heap[r]? = some (regObj c1 c2 c3 c4))
    (h0 : checkR X Y W H = 0) (h02 : checkR X2 Y2 W2 H2 = 0) (hn : n = H * W) (hn2 : n2 = H2 * W2) (k1 : -1073741824 ≤ c1) (k2 : c1 ≤ 1073741824) (k3 : -1073741824 ≤ c2) (k4 : c2 ≤ 1073741824) (k5 : 1 ≤ c3) (k6 : c3 ≤ 1073741824) (k7 : 1 ≤ c4) (k8 : c4 ≤ 1073741824)
    (hcom : ∀ x y, X ≤ x → x < X + W → Y ≤ y → y < Y + H → insideB x y 1 1 c1 c2 c3 c4 = insideB x y 1 1 X2 Y2 W2 H2) :
    Clos2 92 #[.pointer (some ⟨p, 0, none⟩), .pointer (some ⟨r, 0, none⟩), .pointer (some ⟨q, 0, none⟩)] X Y W H (pstF vf vg X Y W X2 Y2 W2 H2) w := by
  intro x y i w2 h1 h2 h3 h4 h5 hb
  obtain ⟨b1, b2', b3, b4, b5, b6, b7, b8, b9⟩ := checkR_zero h0
  obtain ⟨d1, d2, d3, d4, d5, d6, d7, d8, d9⟩ := checkR_zero h02
  have en : ((W : Int) * (H : Int)) = (n : Int) := by rw [hn, Nat.mul_comm]; simp
  have en2 : ((W2 : Int) * (H2 : Int)) = (n2 : Int) := by rw [hn2, Nat.mul_comm]; simp
  have hN : n ≤ 65536 := by omega
  have hN2 : n2 ≤ 65536 := by omega
  have hp1 : 1 ≤ n := by rw [hn]; exact Nat.mul_pos (by omega) (by omega)
  have hp2 : 1 ≤ n2 := by rw [hn2]; exact Nat.mul_pos (by omega) (by omega)
  obtain ⟨ex, ey⟩ := place_of (show 1 ≤ W by omega) h1 h2 h3 h5
  have IN := Lib.hid (fun w => inside_any x y 1 1 c1 c2 c3 c4 w (by omega) (by omega) (by omega) (by omega) (by omega) (by omega) (by omega) (by omega) k1 k2 k3 k4 k5 k6 k7 k8)
  rw [hcom x y h1 h2 h3 h4] at IN
  show Calls _ _ _ _ fun e w' => e = .returned (.float .f32 (if insideB (X + ((i % W : Nat) : Int)) (Y + ((i / W : Nat) : Int)) 1 1 X2 Y2 W2 H2 then vg (subN X2 Y2 W2 X Y W i) else vf i)) ∧ _
  rw [ex, ey]
  have K := hk.stay hp1 hp2 hb
  have GR := Lib.hid (blkStay hr hb)
  have GF := Lib.hid K.one
  have GG := Lib.hid K.two
  cases hin : insideB x y 1 1 X2 Y2 W2 H2 with
  | false =>
    rw [hin] at IN
    have hi : i < n := num_lt (by omega) h1 h2 h4 h5 hn
    have IX := Lib.hid (fun w => index_any X Y W H i x y w (by omega) (by omega) (by omega) (by omega) (by omega) (by omega) (by omega) h1 h2 h3 h4 h5 (by omega))
    have hcell := K.row i hi
    rw [Nat.zero_add] at hcell
    have HC := Lib.hid hcell
    have zb : b < w2.heap.size := World.block_lt_of_cell? w2 _ hcell
    have hi2 : (i : Int) < (n : Int) := by omega
    have hi3 : (0 : Int) ≤ (i : Int) := by omega
    obtain ⟨cF, fF, zF⟩ := blkC GF.out
    obtain ⟨cR, fR, zR⟩ := blkC GR.out
    have HO := Lib.hid (heap_alloc_new w2 (fldO X Y W H (.slice (some ⟨b, 0, none⟩) n cap)))
    have hB := al_belowC w2 (fldO X Y W H (.slice (some ⟨b, 0, none⟩) n cap))
    clear hk hr hb h1 h2 h3 h4 h5 K ex ey hin hcom b1 b2' b3 b4 b5 b6 b7 b8 b9 d1 d2 d3 d4 d5 d6 d7 d8 d9 en en2 hN hN2 hp1 hp2 hn hn2 h0 h02 k1 k2 k3 k4 k5 k6 k7 k8 hi hcell
    go_enter Try.func92, Try.ntmps92
    go_wp2_with fail
    have GR3 := Lib.hid (blkStay GR.out hB)
    have HC3 := Lib.hid ((Below.cell (p := ⟨b, i, none⟩) hB zb).trans HC.out)
    have zb3 : b < (w2.alloc (fldO X Y W H (.slice (some ⟨b, 0, none⟩) n cap))).heap.size := by rw [heap_size_alloc]; exact Nat.lt_succ_of_lt zb
    have z23 := hB.size
    have HB := Lib.hid hB
    clear cF fF zF cR fR zR GR GF GG HC hB
    generalize w2.alloc (fldO X Y W H (.slice (some ⟨b, 0, none⟩) n cap)) = w3 at *
    obtain ⟨cR, fR, zR⟩ := blkC GR3.out
    obtain ⟨cO, fO, zO⟩ := blkC HO.out
    go_region_held3 (fun w' => (∀ o, w'.cell? ⟨r, o, none⟩ = #[.int .i64 c1, .int .i64 c2, .int .i64 c3, .int .i64 c4][o]?) ∧ Below w3.heap.size w3 w') (first | exact ⟨(blkC (blkStay GR3.out hb9)).1, hb9⟩ | exact ⟨(blkC (blkStay GR3.out (by repeat (first | exact Below.refl _ _ | refine Below.alloc ?_ (by first | omega | (simp; done) | (simp; omega)) _ | refine Below.setCell ?_ (by first | omega | (simp; done) | (simp; omega)) _ | refine Below.drew ?_)))).1, (by repeat (first | exact Below.refl _ _ | refine Below.alloc ?_ (by first | omega | (simp; done) | (simp; omega)) _ | refine Below.setCell ?_ (by first | omega | (simp; done) | (simp; omega)) _ | refine Below.drew ?_))⟩) (first | (go_at_call 93; (with_reducible refine Calls.mono (pCell_any _ _ _) ?_); rintro e w' ⟨rfl, hb8⟩; have hb9 : Below w3.heap.size w3 w' := (by first | exact hb8 | exact hold ‹_ ∧ Below w3.heap.size w3 _› hb8); clear hb8) | (go_at_call 22; (with_reducible refine Calls.mono (IN.out _) ?_); rintro e w' ⟨rfl, hb8⟩; have hb9 : Below w3.heap.size w3 w' := (by first | exact hb8 | exact hold ‹_ ∧ Below w3.heap.size w3 _› hb8); clear hb8))
    rename_i hHeld
    repeat (clear hb9)
    generalize w' = w5 at *
    have hB5 := hHeld.2
    have HO5 := Lib.hid (blkStay HO.out hB5)
    have HC5 := Lib.hid ((Below.cell (p := ⟨b, i, none⟩) hB5 zb3).trans HC3.out)
    have zb5 : b < w5.heap.size := Nat.lt_of_lt_of_le zb3 hB5.size
    have HB5 := Lib.hid (HB.out.trans (hB5.mono HB.out.size))
    clear cR fR zR cO fO zO GR3 HC3 HO hHeld hB5 HB IN zb zb3 z23
    obtain ⟨cO, fO, zO⟩ := blkC HO5.out
    have hcell := HC5.out
    go_wp2_with fail
    go_region_held3 (fun w' => (∀ o, w'.cell? ⟨w2.heap.size, o, none⟩ = #[.int .i64 X, .int .i64 Y, .int .i64 W, .int .i64 H, .slice (some ⟨b, 0, none⟩) n cap][o]?) ∧ w'.cell? ⟨b, i, none⟩ = some (.float .f32 (vf i)) ∧ Below w5.heap.size w5 w') (first | exact ⟨(blkC (blkStay HO5.out (by repeat (first | exact Below.refl _ _ | refine Below.alloc ?_ (by first | omega | (simp; done) | (simp; omega)) _ | refine Below.setCell ?_ (by first | omega | (simp; done) | (simp; omega)) _ | refine Below.drew ?_)))).1, (Below.cell (p := ⟨b, i, none⟩) (w := w5) (B := w5.heap.size) (by repeat (first | exact Below.refl _ _ | refine Below.alloc ?_ (by first | omega | (simp; done) | (simp; omega)) _ | refine Below.setCell ?_ (by first | omega | (simp; done) | (simp; omega)) _ | refine Below.drew ?_)) zb5).trans HC5.out, (by repeat (first | exact Below.refl _ _ | refine Below.alloc ?_ (by first | omega | (simp; done) | (simp; omega)) _ | refine Below.setCell ?_ (by first | omega | (simp; done) | (simp; omega)) _ | refine Below.drew ?_))⟩) (first | (go_at_call 85; (with_reducible refine Calls.mono (IX.out _) ?_); rintro e w' ⟨rfl, rfl⟩))
    rename_i hHeld
    go_wp2
    go_ret
    exact ⟨rfl, HB5.out.trans (hHeld.2.2.mono HB5.out.size)⟩
  | true =>
    rw [hin] at IN
    obtain ⟨g1, g2, g3, g4⟩ := insideB_iff.1 hin
    have hj := subN_of (X := X2) (Y := Y2) (W := W2) ex ey (by omega) (by omega)
    generalize subN X2 Y2 W2 X Y W i = j at hj ⊢
    have hi : j < n2 := num_lt (by omega) (by omega) (by omega) (by omega) hj hn2
    have IX := Lib.hid (fun w => index_any X2 Y2 W2 H2 j x y w (by omega) (by omega) (by omega) (by omega) (by omega) (by omega) (by omega) (by omega) (by omega) (by omega) (by omega) hj (by omega))
    have hcell := K.row2 j hi
    rw [Nat.zero_add] at hcell
    have HC := Lib.hid hcell
    have zb : b2 < w2.heap.size := World.block_lt_of_cell? w2 _ hcell
    have hi2 : (j : Int) < (n2 : Int) := by omega
    have hi3 : (0 : Int) ≤ (j : Int) := by omega
    obtain ⟨cF, fF, zF⟩ := blkC GF.out
    obtain ⟨cR, fR, zR⟩ := blkC GR.out
    have HO := Lib.hid (heap_alloc_new w2 (fldO X Y W H (.slice (some ⟨b, 0, none⟩) n cap)))
    have hB := al_belowC w2 (fldO X Y W H (.slice (some ⟨b, 0, none⟩) n cap))
    clear hj g1 g2 g3 g4 hk hr hb h1 h2 h3 h4 h5 K ex ey hin hcom b1 b2' b3 b4 b5 b6 b7 b8 b9 d1 d2 d3 d4 d5 d6 d7 d8 d9 en en2 hN hN2 hp1 hp2 hn hn2 h0 h02 k1 k2 k3 k4 k5 k6 k7 k8 hi hcell
    go_enter Try.func92, Try.ntmps92
    go_wp2_with fail
    have GR3 := Lib.hid (blkStay GR.out hB)
    have GG3 := Lib.hid (blkStay GG.out hB)
    have HC3 := Lib.hid ((Below.cell (p := ⟨b2, j, none⟩) hB zb).trans HC.out)
    have zb3 : b2 < (w2.alloc (fldO X Y W H (.slice (some ⟨b, 0, none⟩) n cap))).heap.size := by rw [heap_size_alloc]; exact Nat.lt_succ_of_lt zb
    have z23 := hB.size
    have HB := Lib.hid hB
    clear cF fF zF cR fR zR GR GF GG HC hB
    generalize w2.alloc (fldO X Y W H (.slice (some ⟨b, 0, none⟩) n cap)) = w3 at *
    obtain ⟨cR, fR, zR⟩ := blkC GR3.out
    obtain ⟨cO, fO, zO⟩ := blkC HO.out
    go_region_held3 (fun w' => (∀ o, w'.cell? ⟨r, o, none⟩ = #[.int .i64 c1, .int .i64 c2, .int .i64 c3, .int .i64 c4][o]?) ∧ Below w3.heap.size w3 w') (first | exact ⟨(blkC (blkStay GR3.out hb9)).1, hb9⟩ | exact ⟨(blkC (blkStay GR3.out (by repeat (first | exact Below.refl _ _ | refine Below.alloc ?_ (by first | omega | (simp; done) | (simp; omega)) _ | refine Below.setCell ?_ (by first | omega | (simp; done) | (simp; omega)) _ | refine Below.drew ?_)))).1, (by repeat (first | exact Below.refl _ _ | refine Below.alloc ?_ (by first | omega | (simp; done) | (simp; omega)) _ | refine Below.setCell ?_ (by first | omega | (simp; done) | (simp; omega)) _ | refine Below.drew ?_))⟩) (first | (go_at_call 93; (with_reducible refine Calls.mono (pCell_any _ _ _) ?_); rintro e w' ⟨rfl, hb8⟩; have hb9 : Below w3.heap.size w3 w' := (by first | exact hb8 | exact hold ‹_ ∧ Below w3.heap.size w3 _› hb8); clear hb8) | (go_at_call 22; (with_reducible refine Calls.mono (IN.out _) ?_); rintro e w' ⟨rfl, hb8⟩; have hb9 : Below w3.heap.size w3 w' := (by first | exact hb8 | exact hold ‹_ ∧ Below w3.heap.size w3 _› hb8); clear hb8))
    rename_i hHeld
    repeat (clear hb9)
    generalize w' = w5 at *
    have hB5 := hHeld.2
    have HO5 := Lib.hid (blkStay HO.out hB5)
    have HG5 := Lib.hid (blkStay GG3.out hB5)
    have HC5 := Lib.hid ((Below.cell (p := ⟨b2, j, none⟩) hB5 zb3).trans HC3.out)
    have zb5 : b2 < w5.heap.size := Nat.lt_of_lt_of_le zb3 hB5.size
    have hne : b2 ≠ w2.heap.size := by omega
    have HB5 := Lib.hid (set5_below (HB.out.trans (hB5.mono HB.out.size)) w2.heap.size (.int .i64 X2) (.int .i64 Y2) (.int .i64 W2) (.int .i64 H2) (.slice (some ⟨b2, 0, none⟩) n2 cap2) (Nat.le_refl _))
    clear cR fR zR cO fO zO GR3 GG3 HC3 HO hHeld hB5 HB IN zb zb3 z23
    obtain ⟨cO, fO, zO⟩ := blkC HO5.out
    obtain ⟨cG, fG, zG⟩ := blkC HG5.out
    go_wp2_with fail
    have HO6 := Lib.hid (set5_self (.int .i64 X2) (.int .i64 Y2) (.int .i64 W2) (.int .i64 H2) (.slice (some ⟨b2, 0, none⟩) n2 cap2) HO5.out)
    have HC6 := Lib.hid ((World.cell?_of_block (w := w5) (a := ⟨b2, j, none⟩) (set5_heap w5 w2.heap.size b2 (.int .i64 X2) (.int .i64 Y2) (.int .i64 W2) (.int .i64 H2) (.slice (some ⟨b2, 0, none⟩) n2 cap2) hne)).trans HC5.out)
    have zb6 : b2 < (set5 w5 w2.heap.size (.int .i64 X2) (.int .i64 Y2) (.int .i64 W2) (.int .i64 H2) (.slice (some ⟨b2, 0, none⟩) n2 cap2)).heap.size := by rw [set5_size]; exact zb5
    clear cO fO zO cG fG zG HO5 HC5 HG5
    dsimp only [set5] at HO6 HC6 zb6 HB5
    generalize ((((w5.setCell ⟨w2.heap.size, 0, none⟩ (.int .i64 X2)).setCell ⟨w2.heap.size, 1, none⟩ (.int .i64 Y2)).setCell ⟨w2.heap.size, 2, none⟩ (.int .i64 W2)).setCell ⟨w2.heap.size, 3, none⟩ (.int .i64 H2)).setCell ⟨w2.heap.size, 4, none⟩ (.slice (some ⟨b2, 0, none⟩) n2 cap2) = w6 at *
    obtain ⟨cO, fO, zO⟩ := blkC HO6.out
    have hcell := HC6.out
    go_region_held3 (fun w' => (∀ o, w'.cell? ⟨w2.heap.size, o, none⟩ = #[.int .i64 X2, .int .i64 Y2, .int .i64 W2, .int .i64 H2, .slice (some ⟨b2, 0, none⟩) n2 cap2][o]?) ∧ w'.cell? ⟨b2, j, none⟩ = some (.float .f32 (vg j)) ∧ Below w6.heap.size w6 w') (first | exact ⟨(blkC (blkStay HO6.out (by repeat (first | exact Below.refl _ _ | refine Below.alloc ?_ (by first | omega | (simp; done) | (simp; omega)) _ | refine Below.setCell ?_ (by first | omega | (simp; done) | (simp; omega)) _ | refine Below.drew ?_)))).1, (Below.cell (p := ⟨b2, j, none⟩) (w := w6) (B := w6.heap.size) (by repeat (first | exact Below.refl _ _ | refine Below.alloc ?_ (by first | omega | (simp; done) | (simp; omega)) _ | refine Below.setCell ?_ (by first | omega | (simp; done) | (simp; omega)) _ | refine Below.drew ?_)) zb6).trans HC6.out, (by repeat (first | exact Below.refl _ _ | refine Below.alloc ?_ (by first | omega | (simp; done) | (simp; omega)) _ | refine Below.setCell ?_ (by first | omega | (simp; done) | (simp; omega)) _ | refine Below.drew ?_))⟩) (first | (go_at_call 85; (with_reducible refine Calls.mono (IX.out _) ?_); rintro e w' ⟨rfl, rfl⟩))
    rename_i hHeld
    go_wp2
    go_ret
    exact ⟨rfl, HB5.out.trans (hHeld.2.2.mono HB5.out.size)⟩
end Go.Proofs.Ytihjemookgnafaa

/- The closure of the reference's Paste; checkFields of two fields. -/
namespace Go.Proofs.Ytihjemookgnafaa
open Go.RowKit Fl
set_option linter.unusedVariables false

set_option maxHeartbeats 4000000 in
set_option maxRecDepth 100000 in
theorem rpaste1_any (X Y : Int) (W H n b cap : Nat) (vf : Nat → Nat) (X2 Y2 : Int) (W2 H2 n2 b2 cap2 : Nat) (vg : Nat → Nat) (p q : Nat) (w : World) (hk : PCaps w X Y W H n b cap vf X2 Y2 W2 H2 n2 b2 cap2 vg p q)
    (h0 : checkR X Y W H = 0) (h02 : checkR X2 Y2 W2 H2 = 0) (hn : n = H * W) (hn2 : n2 = H2 * W2) :
    Clos2 94 #[.pointer (some ⟨q, 0, none⟩), .pointer (some ⟨p, 0, none⟩)] X Y W H (pstF vf vg X Y W X2 Y2 W2 H2) w := by
  intro x y i w2 h1 h2 h3 h4 h5 hb
  obtain ⟨b1, b2', b3, b4, b5, b6, b7, b8, b9⟩ := checkR_zero h0
  obtain ⟨d1, d2, d3, d4, d5, d6, d7, d8, d9⟩ := checkR_zero h02
  have en : ((W : Int) * (H : Int)) = (n : Int) := by rw [hn, Nat.mul_comm]; simp
  have en2 : ((W2 : Int) * (H2 : Int)) = (n2 : Int) := by rw [hn2, Nat.mul_comm]; simp
  have hN : n ≤ 65536 := by omega
  have hN2 : n2 ≤ 65536 := by omega
  have hp1 : 1 ≤ n := by rw [hn]; exact Nat.mul_pos (by omega) (by omega)
  have hp2 : 1 ≤ n2 := by rw [hn2]; exact Nat.mul_pos (by omega) (by omega)
  obtain ⟨ex, ey⟩ := place_of (show 1 ≤ W by omega) h1 h2 h3 h5
  show Calls _ _ _ _ fun e w' => e = .returned (.float .f32 (if insideB (X + ((i % W : Nat) : Int)) (Y + ((i / W : Nat) : Int)) 1 1 X2 Y2 W2 H2 then vg (subN X2 Y2 W2 X Y W i) else vf i)) ∧ _
  rw [ex, ey]
  have K := hk.stay hp1 hp2 hb
  have GF := Lib.hid K.one
  have GG := Lib.hid K.two
  have zb : b < w2.heap.size := World.block_lt_of_cell? w2 _ (K.row 0 hp1)
  have zb2 : b2 < w2.heap.size := World.block_lt_of_cell? w2 _ (K.row2 0 hp2)
  obtain ⟨cF, fF, zF⟩ := blkC GF.out
  obtain ⟨cG, fG, zG⟩ := blkC GG.out
  cases hin : insideB x y 1 1 X2 Y2 W2 H2 with
  | false =>
    have TH := Lib.hid (fun w => pThere_any X2 Y2 W2 H2 n2 b2 cap2 x y false w h02 (by omega) (by omega) (by omega) (by omega) hin)
    have hi : i < n := num_lt (by omega) h1 h2 h4 h5 hn
    have AT := Lib.hid (fun W'' (hb : Below w2.heap.size w2 W'') => refAt_any X Y W H n b cap i vf x y W'' (by omega) (by omega) (by omega) (by omega) (by omega) (by omega) (by omega) h1 h2 h3 h4 h5 hi hN (flAt_congr K.row (hb.block _ zb)))
    clear hk hb h1 h2 h3 h4 h5 K ex ey hin b1 b2' b3 b4 b5 b6 b7 b8 b9 d1 d2 d3 d4 d5 d6 d7 d8 d9 en en2 hN hN2 hp1 hp2 hn hn2 h0 h02 hi zb zb2
    go_enter Try.func94, Try.ntmps94
    go_wp2_with (first | (go_at_call 95; refine (TH.out _).mono ?_; rintro e w3 ⟨rfl, hb3⟩; have HF3 := Lib.hid (blkStay GF.out hb3); clear cF fF zF cG fG zG; obtain ⟨cF, fF, zF⟩ := blkC HF3.out) | (go_at_call 90; (with_reducible refine Calls.mono (AT.out _ hb3) ?_); rintro e w4 ⟨rfl, rfl⟩))
    go_ret
    exact ⟨rfl, hb3.alloc hb3.size _⟩
  | true =>
    obtain ⟨g1, g2, g3, g4⟩ := insideB_iff.1 hin
    have hj := subN_of (X := X2) (Y := Y2) (W := W2) ex ey (by omega) (by omega)
    generalize subN X2 Y2 W2 X Y W i = j at hj ⊢
    have TH := Lib.hid (fun w => pThere_any X2 Y2 W2 H2 n2 b2 cap2 x y true w h02 (by omega) (by omega) (by omega) (by omega) hin)
    have hi : j < n2 := num_lt (by omega) (by omega) (by omega) (by omega) hj hn2
    have AT := Lib.hid (fun W'' (hb : Below w2.heap.size w2 W'') => refAt_any X2 Y2 W2 H2 n2 b2 cap2 j vg x y W'' (by omega) (by omega) (by omega) (by omega) (by omega) (by omega) (by omega) (by omega) (by omega) (by omega) (by omega) hj hi hN2 (flAt_congr K.row2 (hb.block _ zb2)))
    clear hk hb h1 h2 h3 h4 h5 K ex ey hin b1 b2' b3 b4 b5 b6 b7 b8 b9 d1 d2 d3 d4 d5 d6 d7 d8 d9 en en2 hN hN2 hp1 hp2 hn hn2 h0 h02 hi zb zb2 hj g1 g2 g3 g4
    go_enter Try.func94, Try.ntmps94
    go_wp2_with (first | (go_at_call 95; refine (TH.out _).mono ?_; rintro e w3 ⟨rfl, hb3⟩; have HG3 := Lib.hid (blkStay GG.out hb3); clear cF fF zF cG fG zG; obtain ⟨cG, fG, zG⟩ := blkC HG3.out) | (go_at_call 90; (with_reducible refine Calls.mono (AT.out _ hb3) ?_); rintro e w4 ⟨rfl, rfl⟩))
    go_ret
    exact ⟨rfl, hb3.alloc hb3.size _⟩

/-- Two fields that lie in a row. -/
abbrev twoFlds (X Y W H : Int) (s : Value) (X2 Y2 W2 H2 : Int) (s2 : Value) : Obj := .cells #[.int .i64 X, .int .i64 Y, .int .i64 W, .int .i64 H, s, .int .i64 X2, .int .i64 Y2, .int .i64 W2, .int .i64 H2, s2] 36

set_option maxHeartbeats 2000000 in
theorem checkFields_two (X Y : Int) (W H n b cap : Nat) (v : Nat → Nat) (X2 Y2 : Int) (W2 H2 n2 b2 cap2 : Nat) (v2 : Nat → Nat) (p : Nat) (w : World) (h0 : checkR X Y W H = 0) (hn : n = W * H) (hc : FlAt w b 0 n v) (hh : allB n (fun i => hgtB (v i)) = true)
    (h02 : checkR X2 Y2 W2 H2 = 0) (hn2 : n2 = W2 * H2) (hc2 : FlAt w b2 0 n2 v2) (hh2 : allB n2 (fun i => hgtB (v2 i)) = true) (hp : w.heap[p]? = some (twoFlds X Y W H (.slice (some ⟨b, 0, none⟩) n cap) X2 Y2 W2 H2 (.slice (some ⟨b2, 0, none⟩) n2 cap2))) :
    Calls Try.prog 91 #[.slice (some ⟨p, 0, none⟩) 2 2] w fun e w' => e = .returned (.int .i64 0) ∧ Below w.heap.size w w' := by
  have pos : ∀ {A B : Nat} {X Y : Int}, checkR X Y A B = 0 → 1 ≤ A * B := fun h => Nat.mul_pos (by obtain ⟨a, _⟩ := checkR_zero h; omega) (by obtain ⟨_, _, a, _⟩ := checkR_zero h; omega)
  have hlt : b < w.heap.size := World.block_lt_of_cell? w _ (hc 0 (by rw [hn]; exact pos h0))
  have hlt2 : b2 < w.heap.size := World.block_lt_of_cell? w _ (hc2 0 (by rw [hn2]; exact pos h02))
  have C1 := Lib.hid (fun W' (hb : Below w.heap.size w W') => check_ok X Y W H n b cap v W' h0 hn (flAt_congr hc (hb.block _ hlt)) hh)
  have C2 := Lib.hid (fun W' (hb : Below w.heap.size w W') => check_ok X2 Y2 W2 H2 n2 b2 cap2 v2 W' h02 hn2 (flAt_congr hc2 (hb.block _ hlt2)) hh2)
  have HP := Lib.hid hp
  clear h0 hn hc hh h02 hn2 hc2 hh2 hp hlt hlt2 pos
  go_enter Try.func91, Try.ntmps91
  go_wp2
  go_loopw [8] (fun i wr => ∃ k : Nat, k ≤ 2 ∧ i = .int .i64 k ∧ Below w.heap.size w wr) (fun i _ => 2 - (intOf i).toNat)
  case atStart => exact ⟨0, by omega, rfl, Below.refl _ _⟩
  case round =>
    obtain ⟨k, hk, rfl, hb⟩ := hrel
    have GP := Lib.hid (blkStay HP.out hb)
    obtain ⟨cP, fP, zP⟩ := blkC GP.out
    have : k = 0 ∨ k = 1 ∨ k = 2 := by omega
    rcases this with rfl | rfl | rfl
    · go_wp2_with (first | (go_at_call 82; refine (C1.out _ (hb.alloc hb.size _)).mono ?_; rintro e w2 ⟨rfl, hb2⟩))
      go_roundw
      case rel => exact ⟨1, by omega, by go_num, (hb.alloc hb.size _).trans (hb2.mono (hb.alloc hb.size _).size)⟩
      case measure => simp [intOf]
    · go_wp2_with (first | (go_at_call 82; refine (C2.out _ (hb.alloc hb.size _)).mono ?_; rintro e w2 ⟨rfl, hb2⟩))
      go_roundw
      case rel => exact ⟨2, by omega, by go_num, (hb.alloc hb.size _).trans (hb2.mono (hb.alloc hb.size _).size)⟩
      case measure => simp [intOf]
    · go_wp2
      go_ret
      exact ⟨rfl, hb⟩
end Go.Proofs.Ytihjemookgnafaa

/- Paste of the program and of the reference. -/
namespace Go.Proofs.Ytihjemookgnafaa
open Go.RowKit Fl
set_option linter.unusedVariables false

theorem comR_regC (x y w h x' y' w' h' : Int) : ∃ a b c d : Int, comR x y w h x' y' w' h' = reg a b c d := by
  unfold comR; split <;> exact ⟨_, _, _, _, rfl⟩
theorem com_parts {X Y X2 Y2 : Int} {W H W2 H2 : Nat} (h0 : checkR X Y W H = 0) (h02 : checkR X2 Y2 W2 H2 = 0) (h : comB X Y W H X2 Y2 W2 H2 = true) :
    ∃ c1 c2 c3 c4 : Int, comR X Y W H X2 Y2 W2 H2 = reg c1 c2 c3 c4 ∧ -1073741824 ≤ c1 ∧ c1 ≤ 1073741824 ∧ -1073741824 ≤ c2 ∧ c2 ≤ 1073741824 ∧ 1 ≤ c3 ∧ c3 ≤ 1073741824 ∧ 1 ≤ c4 ∧ c4 ≤ 1073741824 ∧
      ∀ x y, X ≤ x → x < X + W → Y ≤ y → y < Y + H → insideB x y 1 1 c1 c2 c3 c4 = insideB x y 1 1 X2 Y2 W2 H2 := by
  obtain ⟨b1, b2, b3, b4, b5, b6, b7, b8, b9⟩ := checkR_zero h0
  obtain ⟨d1, d2, d3, d4, d5, d6, d7, d8, d9⟩ := checkR_zero h02
  obtain ⟨e1, e2⟩ := comB_iff.1 h
  have hc : comR X Y W H X2 Y2 W2 H2 = reg (maxI X X2) (maxI Y Y2) (minI (X + W) (X2 + W2) - maxI X X2) (minI (Y + H) (Y2 + H2) - maxI Y Y2) := by unfold comR; rw [if_pos h]
  obtain ⟨m1, m2, m3⟩ := maxI_le X X2
  obtain ⟨m4, m5, m6⟩ := maxI_le Y Y2
  obtain ⟨m7, m8, m9⟩ := minI_le (X + W) (X2 + W2)
  obtain ⟨n1, n2, n3⟩ := minI_le (Y + H) (Y2 + H2)
  refine ⟨_, _, _, _, hc, by omega, by omega, by omega, by omega, by omega, by omega, by omega, by omega, fun x y x1 x2 y1 y2 => ?_⟩
  rw [Bool.eq_iff_iff, insideB_iff, insideB_iff]
  omega

set_option maxHeartbeats 4000000 in
set_option maxRecDepth 100000 in
theorem paste_no (X Y : Int) (W H n b cap : Nat) (v : Nat → Nat) (X2 Y2 : Int) (W2 H2 n2 b2 cap2 : Nat) (v2 : Nat → Nat) (w : World) (h0 : checkR X Y W H = 0) (hn : n = W * H) (hc : FlAt w b 0 n v) (hh : allB n (fun i => hgtB (v i)) = true)
    (h02 : checkR X2 Y2 W2 H2 = 0) (hn2 : n2 = W2 * H2) (hc2 : FlAt w b2 0 n2 v2) (hh2 : allB n2 (fun i => hgtB (v2 i)) = true) (hcm : comB X Y W H X2 Y2 W2 H2 = false) :
    Calls Try.prog 33 #[fldV X Y W H (.slice (some ⟨b, 0, none⟩) n cap), fldV X2 Y2 W2 H2 (.slice (some ⟨b2, 0, none⟩) n2 cap2)] w fun e w' => e = .returned (.tuple #[fldV 0 0 0 0 (.slice none 0 0), .int .i64 5]) ∧ Below w.heap.size w w' := by
  have pos : ∀ {A B : Nat} {X Y : Int}, checkR X Y A B = 0 → 1 ≤ A * B := fun h => Nat.mul_pos (by obtain ⟨a, _⟩ := checkR_zero h; omega) (by obtain ⟨_, _, a, _⟩ := checkR_zero h; omega)
  have hlt : b < w.heap.size := World.block_lt_of_cell? w _ (hc 0 (by rw [hn]; exact pos h0))
  have hlt2 : b2 < w.heap.size := World.block_lt_of_cell? w _ (hc2 0 (by rw [hn2]; exact pos h02))
  have CF := Lib.hid (fun W' p (hb : Below w.heap.size w W') hp => checkFields_two X Y W H n b cap v X2 Y2 W2 H2 n2 b2 cap2 v2 p W' h0 hn (flAt_congr hc (hb.block _ hlt)) hh h02 hn2 (flAt_congr hc2 (hb.block _ hlt2)) hh2 hp)
  obtain ⟨b1, b2', b3, b4, b5, b6, b7, b8, b9⟩ := checkR_zero h0
  obtain ⟨d1, d2, d3, d4, d5, d6, d7, d8, d9⟩ := checkR_zero h02
  have CM := Lib.hid (fun w => common_any X Y W H X2 Y2 W2 H2 w (by omega) (by omega) (by omega) (by omega) (by omega) (by omega) (by omega) (by omega) (by omega) (by omega) (by omega) (by omega) (by omega) (by omega) (by omega) (by omega))
  obtain ⟨c1, c2, c3, c4, hR⟩ := comR_regC X Y W H X2 Y2 W2 H2
  rw [hR, hcm] at CM
  clear h0 hn hc hh h02 hn2 hc2 hh2 hcm hlt hlt2 pos b1 b2' b3 b4 b5 b6 b7 b8 b9 d1 d2 d3 d4 d5 d6 d7 d8 d9 hR
  go_enter Try.func33, Try.ntmps33
  go_wp2_with (first | (go_at_call 91; refine (CF.out _ _ (by repeat (first | exact Below.refl _ _ | refine Below.alloc ?_ (by first | omega | (simp; done) | (simp; omega)) _ | refine Below.setCell ?_ (by first | omega | (simp; done) | (simp; omega)) _ | refine Below.drew ?_)) (by (first | (rw [heap_alloc_get, if_pos rfl]; done) | ((simp only [heap_alloc_get, heap_size_alloc, if_true]) <;> ((repeat' split) <;> first | rfl | omega))))).mono ?_; rintro e w2 ⟨rfl, hb2⟩; have HF2 := Lib.hid (blkStay (b := w.heap.size) (o := fldO X Y W H (.slice (some ⟨b, 0, none⟩) n cap)) (by (first | (rw [heap_alloc_get, if_pos rfl]; done) | ((simp only [heap_alloc_get, heap_size_alloc, if_true]) <;> ((repeat' split) <;> first | rfl | omega)))) hb2); have HG2 := Lib.hid (blkStay (b := w.heap.size + 1) (o := fldO X2 Y2 W2 H2 (.slice (some ⟨b2, 0, none⟩) n2 cap2)) (by (first | (rw [heap_alloc_get, if_pos rfl]; done) | ((simp only [heap_alloc_get, heap_size_alloc, if_true]) <;> ((repeat' split) <;> first | rfl | omega)))) hb2); have HS2 := Lib.hid (blkStay (b := w.heap.size + 1 + 1) (o := fldO 0 0 0 0 (.slice none 0 0)) (by (first | (rw [heap_alloc_get, if_pos rfl]; done) | ((simp only [heap_alloc_get, heap_size_alloc, if_true]) <;> ((repeat' split) <;> first | rfl | omega)))) hb2); have hB2 : Below w.heap.size w w2 := Below.trans (by repeat (first | exact Below.refl _ _ | refine Below.alloc ?_ (by first | omega | (simp; done) | (simp; omega)) _ | refine Below.setCell ?_ (by first | omega | (simp; done) | (simp; omega)) _ | refine Below.drew ?_)) (Below.mono hb2 (by first | omega | (simp; done) | (simp; omega))); obtain ⟨cF, fF, zF⟩ := blkC HF2.out; obtain ⟨cG, fG, zG⟩ := blkC HG2.out; clear hb2) | (go_at_call 20; refine (CM.out _).mono ?_; rintro e w3 ⟨rfl, hb3⟩; have hB3 := hB2.trans (hb3.mono hB2.size); have HS3 := Lib.hid (blkStay HS2.out hb3); clear cF fF zF cG fG zG; obtain ⟨cS, fS, zS⟩ := blkC HS3.out))
  have H6 : ((set5 w3 (w.heap.size + 1 + 1) (.int .i64 0) (.int .i64 0) (.int .i64 0) (.int .i64 0) (.slice none 0 0)).alloc (regObj c1 c2 c3 c4)).heap[w.heap.size + 1 + 1]? = some (fldO 0 0 0 0 (.slice none 0 0)) := (heap_alloc_old _ _ (by rw [set5_size]; exact zS)).trans (set5_self _ _ _ _ _ HS3.out)
  obtain ⟨c6, _, _⟩ := blkC H6
  dsimp only [set5] at c6
  refine bodyPost_ret (v := .tuple #[fldV 0 0 0 0 (.slice none 0 0), .int .i64 5]) (by simp [results, Try.results33, go_sem, c6]) rfl ?_
  exact ⟨rfl, (set5_below hB3 _ _ _ _ _ _ (by omega)).alloc (by rw [set5_size]; exact hB3.size) _⟩

set_option maxHeartbeats 4000000 in
set_option maxRecDepth 100000 in
theorem paste_ok (X Y : Int) (W H n b cap : Nat) (v : Nat → Nat) (X2 Y2 : Int) (W2 H2 n2 b2 cap2 : Nat) (v2 : Nat → Nat) (w : World) (h0 : checkR X Y W H = 0) (hn : n = W * H) (hc : FlAt w b 0 n v) (hh : allB n (fun i => hgtB (v i)) = true)
    (h02 : checkR X2 Y2 W2 H2 = 0) (hn2 : n2 = W2 * H2) (hc2 : FlAt w b2 0 n2 v2) (hh2 : allB n2 (fun i => hgtB (v2 i)) = true) (hcm : comB X Y W H X2 Y2 W2 H2 = true) :
    Calls Try.prog 33 #[fldV X Y W H (.slice (some ⟨b, 0, none⟩) n cap), fldV X2 Y2 W2 H2 (.slice (some ⟨b2, 0, none⟩) n2 cap2)] w (MadePost w X Y W H n (pstF v v2 X Y W X2 Y2 W2 H2)) := by
  have pos : ∀ {A B : Nat} {X Y : Int}, checkR X Y A B = 0 → 1 ≤ A * B := fun h => Nat.mul_pos (by obtain ⟨a, _⟩ := checkR_zero h; omega) (by obtain ⟨_, _, a, _⟩ := checkR_zero h; omega)
  have hlt : b < w.heap.size := World.block_lt_of_cell? w _ (hc 0 (by rw [hn]; exact pos h0))
  have hlt2 : b2 < w.heap.size := World.block_lt_of_cell? w _ (hc2 0 (by rw [hn2]; exact pos h02))
  have CF := Lib.hid (fun W' p (hb : Below w.heap.size w W') hp => checkFields_two X Y W H n b cap v X2 Y2 W2 H2 n2 b2 cap2 v2 p W' h0 hn (flAt_congr hc (hb.block _ hlt)) hh h02 hn2 (flAt_congr hc2 (hb.block _ hlt2)) hh2 hp)
  obtain ⟨b1, b2', b3, b4, b5, b6, b7, b8, b9⟩ := checkR_zero h0
  obtain ⟨d1, d2, d3, d4, d5, d6, d7, d8, d9⟩ := checkR_zero h02
  have CM := Lib.hid (fun w => common_any X Y W H X2 Y2 W2 H2 w (by omega) (by omega) (by omega) (by omega) (by omega) (by omega) (by omega) (by omega) (by omega) (by omega) (by omega) (by omega) (by omega) (by omega) (by omega) (by omega))
  obtain ⟨c1, c2, c3, c4, hR, k1, k2, k3, k4, k5, k6, k7, k8, hcom⟩ := com_parts h0 h02 hcm
  have en : ((W : Int) * (H : Int)) = (n : Int) := by rw [hn]; simp
  have hnm : n = H * W := by rw [hn]; exact Nat.mul_comm _ _
  have hnm2 : n2 = H2 * W2 := by rw [hn2]; exact Nat.mul_comm _ _
  have BP := Lib.hid (fun W' p q r (hb : Below w.heap.size w W') (hp : W'.heap[p]? = some (fldO X Y W H (.slice (some ⟨b, 0, none⟩) n cap))) (hq : W'.heap[q]? = some (fldO X2 Y2 W2 H2 (.slice (some ⟨b2, 0, none⟩) n2 cap2))) (hr : W'.heap[r]? = some (regObj c1 c2 c3 c4)) =>
    byPlace_any X Y W H n 92 #[.pointer (some ⟨p, 0, none⟩), .pointer (some ⟨r, 0, none⟩), .pointer (some ⟨q, 0, none⟩)] (pstF v v2 X Y W X2 Y2 W2 H2) W' enters_Paste1
      (paste1_any X Y W H n b cap v X2 Y2 W2 H2 n2 b2 cap2 v2 p q r c1 c2 c3 c4 W' ⟨hp, hq, flAt_congr hc (hb.block _ hlt), flAt_congr hc2 (hb.block _ hlt2)⟩ hr h0 h02 hnm hnm2 k1 k2 k3 k4 k5 k6 k7 k8 hcom) (by omega) (by omega) (by omega) (by omega) (by omega) (by omega) (by omega) (by omega) hnm (by omega))
  rw [hR, hcm] at CM
  clear h0 hn hc hh h02 hn2 hc2 hh2 hcm hlt hlt2 pos b1 b2' b3 b4 b5 b6 b7 b8 b9 d1 d2 d3 d4 d5 d6 d7 d8 d9 hR k1 k2 k3 k4 k5 k6 k7 k8 hcom en hnm hnm2
  go_enter Try.func33, Try.ntmps33
  go_wp2_with (first | (go_at_call 91; refine (CF.out _ _ (by repeat (first | exact Below.refl _ _ | refine Below.alloc ?_ (by first | omega | (simp; done) | (simp; omega)) _ | refine Below.setCell ?_ (by first | omega | (simp; done) | (simp; omega)) _ | refine Below.drew ?_)) (by (first | (rw [heap_alloc_get, if_pos rfl]; done) | ((simp only [heap_alloc_get, heap_size_alloc, if_true]) <;> ((repeat' split) <;> first | rfl | omega))))).mono ?_; rintro e w2 ⟨rfl, hb2⟩; have HF2 := Lib.hid (blkStay (b := w.heap.size) (o := fldO X Y W H (.slice (some ⟨b, 0, none⟩) n cap)) (by (first | (rw [heap_alloc_get, if_pos rfl]; done) | ((simp only [heap_alloc_get, heap_size_alloc, if_true]) <;> ((repeat' split) <;> first | rfl | omega)))) hb2); have HG2 := Lib.hid (blkStay (b := w.heap.size + 1) (o := fldO X2 Y2 W2 H2 (.slice (some ⟨b2, 0, none⟩) n2 cap2)) (by (first | (rw [heap_alloc_get, if_pos rfl]; done) | ((simp only [heap_alloc_get, heap_size_alloc, if_true]) <;> ((repeat' split) <;> first | rfl | omega)))) hb2); have HS2 := Lib.hid (blkStay (b := w.heap.size + 1 + 1) (o := fldO 0 0 0 0 (.slice none 0 0)) (by (first | (rw [heap_alloc_get, if_pos rfl]; done) | ((simp only [heap_alloc_get, heap_size_alloc, if_true]) <;> ((repeat' split) <;> first | rfl | omega)))) hb2); have hB2 : Below w.heap.size w w2 := Below.trans (by repeat (first | exact Below.refl _ _ | refine Below.alloc ?_ (by first | omega | (simp; done) | (simp; omega)) _ | refine Below.setCell ?_ (by first | omega | (simp; done) | (simp; omega)) _ | refine Below.drew ?_)) (Below.mono hb2 (by first | omega | (simp; done) | (simp; omega))); obtain ⟨cF, fF, zF⟩ := blkC HF2.out; obtain ⟨cG, fG, zG⟩ := blkC HG2.out; clear hb2) | (go_at_call 20; refine (CM.out _).mono ?_; rintro e w3 ⟨rfl, hb3⟩; have hB3 := hB2.trans (hb3.mono hB2.size); have HS3 := Lib.hid (blkStay HS2.out hb3); have HF3 := Lib.hid (blkStay HF2.out hb3); have HG3 := Lib.hid (blkStay HG2.out hb3); clear cF fF zF cG fG zG hb3; obtain ⟨cF, fF, zF⟩ := blkC HF3.out))
  have HR4 := Lib.hid (heap_alloc_new w3 (regObj c1 c2 c3 c4))
  have hB4 := hB3.alloc hB3.size (regObj c1 c2 c3 c4)
  have zF3 := (blkC HF3.out).2.2
  have zG3 := (blkC HG3.out).2.2
  have zS3 := (blkC HS3.out).2.2
  have HF4 := Lib.hid ((heap_alloc_old w3 (regObj c1 c2 c3 c4) zF3).trans HF3.out)
  have HG4 := Lib.hid ((heap_alloc_old w3 (regObj c1 c2 c3 c4) zG3).trans HG3.out)
  have HS4 := Lib.hid ((heap_alloc_old w3 (regObj c1 c2 c3 c4) zS3).trans HS3.out)
  refine (BP.out _ w.heap.size (w.heap.size + 1) w3.heap.size hB4 HF4.out HG4.out HR4.out).mono ?_
  intro e w5 hmade
  have z4 := hB4.size
  have zS4 := (blkC HS4.out).2.2
  rcases hmade with ⟨hall, b', cap', rfl, hb', hlt', hrow, hbel⟩ | ⟨hall, rfl, hbel⟩
  · have hS := Lib.hid (blkStay HS4.out hbel)
    obtain ⟨cS, fS, zS⟩ := blkC hS.out
    go_wp2
    refine bodyPost_ret (v := .tuple #[fldV X Y W H (.slice (some ⟨b', 0, none⟩) n cap'), .int .i64 0]) (by simp [results, Try.results33, go_sem, cS]) rfl ?_
    exact .inl ⟨hall, b', cap', rfl, by omega, by rw [set5_size]; exact hlt', flAt_congr hrow (set5_heap w5 _ _ _ _ _ _ _ (by omega)), set5_below (hB4.trans (hbel.mono z4)) _ _ _ _ _ _ (by omega)⟩
  · have hS := Lib.hid (blkStay HS4.out hbel)
    obtain ⟨cS, fS, zS⟩ := blkC hS.out
    go_wp2
    refine bodyPost_ret (v := .tuple #[fldV 0 0 0 0 (.slice none 0 0), .int .i64 3]) (by simp [results, Try.results33, go_sem, cS]) rfl ?_
    exact .inr ⟨hall, rfl, set5_below (hB4.trans (hbel.mono z4)) _ _ _ _ _ _ (by omega)⟩

theorem pstF_hgt {vf vg : Nat → Nat} {X Y : Int} {W H n : Nat} {X2 Y2 : Int} {W2 H2 n2 : Nat} (hf : allB n (fun i => hgtB (vf i)) = true) (hg : allB n2 (fun i => hgtB (vg i)) = true) (hW2 : 1 ≤ W2) (hn2 : n2 = H2 * W2) : allB n (fun i => hgtB (pstF vf vg X Y W X2 Y2 W2 H2 i)) = true :=
  allB_iff.2 fun i hi => by
    unfold pstF
    split
    · rename_i c
      obtain ⟨g1, g2, g3, g4⟩ := insideB_iff.1 c
      exact allB_iff.1 hg _ (num_lt hW2 g1 (by omega) (by omega) (subN_of rfl rfl g1 g2) hn2)
    · exact allB_iff.1 hf i hi
theorem pstF_wf {vf vg : Nat → Nat} {X Y : Int} {W H n : Nat} {X2 Y2 : Int} {W2 H2 n2 : Nat} (hf : wf32 n vf) (hg : wf32 n2 vg) (hW2 : 1 ≤ W2) (hn2 : n2 = H2 * W2) : wf32 n (pstF vf vg X Y W X2 Y2 W2 H2) := fun i hi => by
    unfold pstF
    split
    · rename_i c
      obtain ⟨g1, g2, g3, g4⟩ := insideB_iff.1 c
      exact hg _ (num_lt hW2 g1 (by omega) (by omega) (subN_of rfl rfl g1 g2) hn2)
    · exact hf i hi

set_option maxHeartbeats 2000000 in
theorem rpaste_ok (X Y : Int) (W H n b cap : Nat) (v : Nat → Nat) (X2 Y2 : Int) (W2 H2 n2 b2 cap2 : Nat) (v2 : Nat → Nat) (w : World) (h0 : checkR X Y W H = 0) (hn : n = W * H) (hc : FlAt w b 0 n v) (hh : allB n (fun i => hgtB (v i)) = true) (hw1 : wf32 n v)
    (h02 : checkR X2 Y2 W2 H2 = 0) (hn2 : n2 = W2 * H2) (hc2 : FlAt w b2 0 n2 v2) (hh2 : allB n2 (fun i => hgtB (v2 i)) = true) (hw2 : wf32 n2 v2) :
    Calls Try.prog 34 #[fldV X Y W H (.slice (some ⟨b, 0, none⟩) n cap), fldV X2 Y2 W2 H2 (.slice (some ⟨b2, 0, none⟩) n2 cap2)] w (OnePost w X Y W H n (pstF v v2 X Y W X2 Y2 W2 H2)) := by
  have pos : ∀ {A B : Nat} {X Y : Int}, checkR X Y A B = 0 → 1 ≤ A * B := fun h => Nat.mul_pos (by obtain ⟨a, _⟩ := checkR_zero h; omega) (by obtain ⟨_, _, a, _⟩ := checkR_zero h; omega)
  have hlt : b < w.heap.size := World.block_lt_of_cell? w _ (hc 0 (by rw [hn]; exact pos h0))
  have hlt2 : b2 < w.heap.size := World.block_lt_of_cell? w _ (hc2 0 (by rw [hn2]; exact pos h02))
  obtain ⟨b1, b2', b3, b4, b5, b6, b7, b8, b9⟩ := checkR_zero h0
  obtain ⟨d1, d2, d3, d4, d5, d6, d7, d8, d9⟩ := checkR_zero h02
  have hnm : n = H * W := by rw [hn]; exact Nat.mul_comm _ _
  have hnm2 : n2 = H2 * W2 := by rw [hn2]; exact Nat.mul_comm _ _
  have hall' := Lib.hid (pstF_hgt (X := X) (Y := Y) (W := W) (H := H) (X2 := X2) (Y2 := Y2) hh hh2 (by omega) hnm2)
  have MP := Lib.hid (fun W' p q (hb : Below w.heap.size w W') (hp : W'.heap[p]? = some (fldO X Y W H (.slice (some ⟨b, 0, none⟩) n cap))) (hq : W'.heap[q]? = some (fldO X2 Y2 W2 H2 (.slice (some ⟨b2, 0, none⟩) n2 cap2))) =>
    made_any X Y W H n 94 #[.pointer (some ⟨q, 0, none⟩), .pointer (some ⟨p, 0, none⟩)] (pstF v v2 X Y W X2 Y2 W2 H2) W' enters_rPaste1
      (rpaste1_any X Y W H n b cap v X2 Y2 W2 H2 n2 b2 cap2 v2 p q W' ⟨hp, hq, flAt_congr hc (hb.block _ hlt), flAt_congr hc2 (hb.block _ hlt2)⟩ h0 h02 hnm hnm2) (pstF_wf (H := H) hw1 hw2 (by omega) hnm2) (by omega) (by omega) (by omega) (by omega) (by omega) (by omega) (by omega) (by omega) hnm)
  clear h0 hn hc hh h02 hn2 hc2 hh2 hlt hlt2 pos b1 b2' b3 b4 b5 b6 b7 b8 b9 d1 d2 d3 d4 d5 d6 d7 d8 d9 hnm hnm2 hw1 hw2
  go_enter Try.func34, Try.ntmps34
  go_wp2_with fail
  refine (MP.out _ w.heap.size (w.heap.size + 1) (by repeat (first | exact Below.refl _ _ | refine Below.alloc ?_ (by first | omega | (simp; done) | (simp; omega)) _ | refine Below.setCell ?_ (by first | omega | (simp; done) | (simp; omega)) _ | refine Below.drew ?_)) (by (first | (rw [heap_alloc_get, if_pos rfl]; done) | ((simp only [heap_alloc_get, heap_size_alloc, if_true]) <;> ((repeat' split) <;> first | rfl | omega)))) (by (first | (rw [heap_alloc_get, if_pos rfl]; done) | ((simp only [heap_alloc_get, heap_size_alloc, if_true]) <;> ((repeat' split) <;> first | rfl | omega))))).mono ?_
  intro e w5 hmade
  rcases hmade with ⟨hall, b', cap', rfl, hb', hlt', hrow, hbel⟩ | ⟨hall, rfl, hbel⟩
  · have hS := Lib.hid (blkStay (b := w.heap.size + 1 + 1) (o := fldO 0 0 0 0 (.slice none 0 0)) (by (first | (rw [heap_alloc_get, if_pos rfl]; done) | ((simp only [heap_alloc_get, heap_size_alloc, if_true]) <;> ((repeat' split) <;> first | rfl | omega)))) hbel)
    have hB : Below w.heap.size w w5 := Below.trans (by repeat (first | exact Below.refl _ _ | refine Below.alloc ?_ (by first | omega | (simp; done) | (simp; omega)) _ | refine Below.setCell ?_ (by first | omega | (simp; done) | (simp; omega)) _ | refine Below.drew ?_)) (Below.mono hbel (by simp; try omega))
    obtain ⟨cS, fS, zS⟩ := blkC hS.out
    have HB := Lib.hid hb'
    clear hb'
    go_wp2
    have H6 : ((set5 w5 (w.heap.size + 1 + 1) (.int .i64 X) (.int .i64 Y) (.int .i64 W) (.int .i64 H) (.slice (some ⟨b', 0, none⟩) n cap')).alloc (fldO X Y W H (.slice (some ⟨b', 0, none⟩) n cap'))).heap[w.heap.size + 1 + 1]? = some (fldO X Y W H (.slice (some ⟨b', 0, none⟩) n cap')) := (heap_alloc_old _ _ (by rw [set5_size]; exact zS)).trans (set5_self _ _ _ _ _ hS.out)
    obtain ⟨c6, _, _⟩ := blkC H6
    dsimp only [set5] at c6
    refine bodyPost_ret (v := fldV X Y W H (.slice (some ⟨b', 0, none⟩) n cap')) (by simp [results, Try.results34, go_sem, c6]) rfl ?_
    have hb' := HB.out
    simp only [heap_size_alloc] at hb'
    have hlt6 : b' < (set5 w5 (w.heap.size + 1 + 1) (.int .i64 X) (.int .i64 Y) (.int .i64 W) (.int .i64 H) (.slice (some ⟨b', 0, none⟩) n cap')).heap.size := by rw [set5_size]; exact hlt'
    exact ⟨b', cap', rfl, by omega, by rw [heap_size_alloc]; exact Nat.lt_succ_of_lt hlt6, flAt_congr (flAt_congr hrow (set5_heap w5 _ _ _ _ _ _ _ (by omega))) (heap_alloc_old _ _ hlt6), (set5_below hB _ _ _ _ _ _ (by omega)).alloc (by rw [set5_size]; exact hB.size) _⟩
  · exact absurd hall (by rw [hall'.out]; simp)
end Go.Proofs.Ytihjemookgnafaa

/- Same of both sides, of any two right fields. -/
namespace Go.Proofs.Ytihjemookgnafaa
open Go.RowKit Fl
set_option linter.unusedVariables false

/-- Is one field the other, bit by bit? -/
def sameR (X Y : Int) (W H : Nat) (X2 Y2 : Int) (W2 H2 : Nat) : Bool := decide (X = X2) && (decide (Y = Y2) && (decide (W = W2) && decide (H = H2)))
def sameV (n : Nat) (v v2 : Nat → Nat) : Bool := allB n (fun i => v i == v2 i)

set_option maxHeartbeats 400000 in
theorem same1_any (x y : Nat) (w : World) :
    Calls Try.prog 87 #[.float .f32 x, .float .f32 y] w fun e w' => e = .returned (.bool (x == y)) ∧ w = w' := by
  have h1 := f32bits
  go_enter Try.func87, Try.ntmps87
  go_wp2
  go_ret
  exact ⟨ret_bool (by rw [Bool.eq_iff_iff, beq_iff_eq, beq_iff_eq]; omega), rfl⟩

set_option maxHeartbeats 1000000 in
theorem equalFunc_any (b b' cap cap' n : Nat) (v v2 : Nat → Nat) (hl : n ≤ 9223372036854775807) (w : World) (hc : FlAt w b 0 n v) (hc' : FlAt w b' 0 n v2) :
    Calls Try.prog 86 #[.slice (some ⟨b, 0, none⟩) n cap, .slice (some ⟨b', 0, none⟩) n cap', .func (.func 87) #[] #[]] w fun e w' => e = .returned (.bool (sameV n v v2)) ∧ w = w' := by
  have hcall := enters_Same1
  unfold Enters at hcall
  go_enter Try.func86, Try.ntmps86
  go_wp2
  go_loop [17] (fun i => ∃ k : Nat, k ≤ n ∧ i = .int .i64 k ∧ allB k (fun i => v i == v2 i) = true) (fun i => n - (intOf i).toNat)
  case atStart => exact ⟨0, Nat.zero_le _, rfl, rfl⟩
  case round =>
    obtain ⟨k, hk, rfl, ha⟩ := hrel
    by_cases hlt : k < n
    · have hcell := hc k hlt
      have hcell' := hc' k hlt
      rw [Nat.zero_add] at hcell hcell'
      have IH := Lib.hid (fun w => same1_any (v k) (v2 k) w)
      have HA := Lib.hid ha
      clear ha
      cases hq : (v k == v2 k) with
      | true =>
        rw [hq] at IH
        have HQ := Lib.hid hq
        clear hq
        go_wp2_with fail
        refine (IH.out _).mono ?_
        rintro e w' ⟨rfl, rfl⟩
        go_wp2
        go_round
        case rel =>
          exact ⟨k + 1, by omega, by go_num, allB_iff.2 fun i hi => by
            rcases Nat.lt_or_ge i k with c | c
            · exact allB_iff.1 HA.out i c
            · obtain rfl : i = k := by omega
              exact HQ.out⟩
        case measure => simp [intOf]; omega
      | false =>
        rw [hq] at IH
        have HQ := Lib.hid (show sameV n v v2 = false from allB_no hlt hq)
        clear hq
        go_wp2_with fail
        refine (IH.out _).mono ?_
        rintro e w' ⟨rfl, rfl⟩
        go_wp2
        go_ret
        exact ⟨ret_bool HQ.out.symm, rfl⟩
    · obtain rfl : k = n := by omega
      have HQ := Lib.hid (show sameV k v v2 = true from ha)
      clear ha
      go_wp2
      go_ret
      exact ⟨ret_bool HQ.out.symm, rfl⟩

set_option maxHeartbeats 1000000 in
theorem rsame_any (X Y : Int) (W H n b cap : Nat) (v : Nat → Nat) (X2 Y2 : Int) (W2 H2 n2 b2 cap2 : Nat) (v2 : Nat → Nat) (w : World) (hl : n ≤ 9223372036854775807) (h1 : 1 ≤ n) (h2 : 1 ≤ n2) (hn : n = W * H) (hn2 : n2 = W2 * H2) (hc : FlAt w b 0 n v) (hc2 : FlAt w b2 0 n2 v2) :
    Calls Try.prog 31 #[fldV X Y W H (.slice (some ⟨b, 0, none⟩) n cap), fldV X2 Y2 W2 H2 (.slice (some ⟨b2, 0, none⟩) n2 cap2)] w fun e w' => e = .returned (.bool (sameR X Y W H X2 Y2 W2 H2 && sameV n v v2)) ∧ Below w.heap.size w w' := by
  have z := World.block_lt_of_cell? w _ (hc 0 h1)
  have z' := World.block_lt_of_cell? w _ (hc2 0 h2)
  cases hr : sameR X Y W H X2 Y2 W2 H2 with
  | true =>
    unfold sameR at hr
    simp only [Bool.and_eq_true, decide_eq_true_eq] at hr
    obtain ⟨rfl, rfl, rfl, rfl⟩ := hr
    obtain rfl : n = n2 := by rw [hn, hn2]
    have EF := Lib.hid (fun W' (hb : Below w.heap.size w W') => equalFunc_any b b2 cap cap2 n v v2 hl W' (flAt_congr hc (hb.block _ z)) (flAt_congr hc2 (hb.block _ z')))
    clear hc hc2 hn hn2
    go_enter Try.func31, Try.ntmps31
    go_wp2_with (first | (go_at_call 86; refine (EF.out _ (by repeat (first | exact Below.refl _ _ | refine Below.alloc ?_ (by first | omega | (simp; done) | (simp; omega)) _ | refine Below.setCell ?_ (by first | omega | (simp; done) | (simp; omega)) _ | refine Below.drew ?_))).mono ?_; rintro e w' ⟨rfl, rfl⟩))
    go_ret
    exact ⟨rfl, (by repeat (first | exact Below.refl _ _ | refine Below.alloc ?_ (by first | omega | (simp; done) | (simp; omega)) _ | refine Below.setCell ?_ (by first | omega | (simp; done) | (simp; omega)) _ | refine Below.drew ?_))⟩
  | false =>
    unfold sameR at hr
    have hd : (decide (X = X2) && (decide (Y = Y2) && (decide ((W : Int) = (W2 : Int)) && decide ((H : Int) = (H2 : Int))))) = false := by
      rw [← hr, Bool.eq_iff_iff]; simp only [Bool.and_eq_true, decide_eq_true_eq]; omega
    clear hc hc2 hn hn2 hr
    go_enter Try.func31, Try.ntmps31
    go_wp2_with (first | (go_at_call 86; exfalso; simp_all; done))
    all_goals go_ret
    all_goals exact ⟨rfl, (by repeat (first | exact Below.refl _ _ | refine Below.alloc ?_ (by first | omega | (simp; done) | (simp; omega)) _ | refine Below.setCell ?_ (by first | omega | (simp; done) | (simp; omega)) _ | refine Below.drew ?_))⟩

set_option maxHeartbeats 2000000 in
theorem fsame_any (X Y : Int) (W H n b cap : Nat) (v : Nat → Nat) (X2 Y2 : Int) (W2 H2 n2 b2 cap2 : Nat) (v2 : Nat → Nat) (w : World) (hl : n ≤ 9223372036854775807) (h1 : 1 ≤ n) (h2 : 1 ≤ n2) (hn : n = W * H) (hn2 : n2 = W2 * H2) (hc : FlAt w b 0 n v) (hc2 : FlAt w b2 0 n2 v2) :
    Calls Try.prog 35 #[fldV X Y W H (.slice (some ⟨b, 0, none⟩) n cap), fldV X2 Y2 W2 H2 (.slice (some ⟨b2, 0, none⟩) n2 cap2)] w fun e w' => e = .returned (.bool (sameR X Y W H X2 Y2 W2 H2 && sameV n v v2)) ∧ Below w.heap.size w w' := by
  have z := World.block_lt_of_cell? w _ (hc 0 h1)
  have z' := World.block_lt_of_cell? w _ (hc2 0 h2)
  have hf := f32bits
  cases hr : sameR X Y W H X2 Y2 W2 H2 with
  | true =>
    unfold sameR at hr
    simp only [Bool.and_eq_true, decide_eq_true_eq] at hr
    obtain ⟨rfl, rfl, rfl, rfl⟩ := hr
    obtain rfl : n = n2 := by rw [hn, hn2]
    have HC := Lib.hid hc
    have HC2 := Lib.hid hc2
    clear hc hc2 hn hn2
    go_enter Try.func35, Try.ntmps35
    go_wp2
    have hB0 : Below w.heap.size w ((w.alloc (fldO X Y W H (.slice (some ⟨b, 0, none⟩) n cap))).alloc (fldO X Y W H (.slice (some ⟨b2, 0, none⟩) n cap2))) := (by repeat (first | exact Below.refl _ _ | refine Below.alloc ?_ (by first | omega | (simp; done) | (simp; omega)) _ | refine Below.setCell ?_ (by first | omega | (simp; done) | (simp; omega)) _ | refine Below.drew ?_))
    have HG0 := Lib.hid (show ((w.alloc (fldO X Y W H (.slice (some ⟨b, 0, none⟩) n cap))).alloc (fldO X Y W H (.slice (some ⟨b2, 0, none⟩) n cap2))).heap[w.heap.size + 1]? = some (fldO X Y W H (.slice (some ⟨b2, 0, none⟩) n cap2)) by (first | (rw [heap_alloc_get, if_pos rfl]; done) | ((simp only [heap_alloc_get, heap_size_alloc, if_true]) <;> ((repeat' split) <;> first | rfl | omega))))
    generalize (w.alloc (fldO X Y W H (.slice (some ⟨b, 0, none⟩) n cap))).alloc (fldO X Y W H (.slice (some ⟨b2, 0, none⟩) n cap2)) = w0 at *
    have HB0 := Lib.hid hB0
    clear hB0
    go_loopw [24] (fun i wr => ∃ k : Nat, k ≤ n ∧ i = .int .i64 k ∧ allB k (fun i => v i == v2 i) = true ∧ Below w0.heap.size w0 wr) (fun i _ => n - (intOf i).toNat)
    case atStart => exact ⟨0, Nat.zero_le _, rfl, rfl, Below.refl _ _⟩
    case round =>
      obtain ⟨k, hk, rfl, ha, hb⟩ := hrel
      have HA := Lib.hid ha
      clear ha
      obtain ⟨cG, fG, zG⟩ := blkC (blkStay HG0.out hb)
      have hb' := HB0.out.trans (hb.mono HB0.out.size)
      by_cases hlt : k < n
      · have hcell := flAt_congr HC.out (hb'.block _ z) k hlt
        have hcell' := flAt_congr HC2.out (hb'.block _ z') k hlt
        rw [Nat.zero_add] at hcell hcell'
        have hz1 : b < wr.heap.size := Nat.lt_of_lt_of_le z hb'.size
        have hz2 : b2 < wr.heap.size := Nat.lt_of_lt_of_le z' hb'.size
        have hi2 : (k : Int) < (n : Int) := by omega
        cases hq : (v k == v2 k) with
        | true =>
          have hq2 : (((v k : Nat) : Int) != ((v2 k : Nat) : Int)) = false := by rw [beq_iff_eq] at hq; rw [hq]; simp
          have HQ := Lib.hid hq
          clear hq
          go_wp2
          go_quiet (fail)
          go_wp2
          go_roundw
          case rel =>
            refine ⟨k + 1, by omega, by go_num, allB_iff.2 fun i hi => ?_, by first | exact hb | exact hb.drew | exact hb.trans ((below_drewN _ _).mono hb.size)⟩
            rcases Nat.lt_or_ge i k with c | c
            · exact allB_iff.1 HA.out i c
            · obtain rfl : i = k := by omega
              exact HQ.out
          case measure => simp [intOf]; omega
        | false =>
          have hq2 : (((v k : Nat) : Int) != ((v2 k : Nat) : Int)) = true := by simp only [beq_eq_false_iff_ne, ne_eq] at hq; simp; omega
          have HQ := Lib.hid (show sameV n v v2 = false from allB_no hlt hq)
          clear hq
          go_wp2
          go_quiet (fail)
          go_wp2
          go_ret
          exact ⟨ret_bool (by rw [HQ.out]; rfl), by first | exact hb' | exact hb'.drew | exact hb'.trans ((below_drewN _ _).mono hb'.size)⟩
      · obtain rfl : k = n := by omega
        have HQ := Lib.hid (show sameV k v v2 = true from HA.out)
        go_wp2
        go_ret
        exact ⟨ret_bool (by rw [HQ.out]; rfl), hb'⟩
  | false =>
    unfold sameR at hr
    have hd : (decide (X = X2) && (decide (Y = Y2) && (decide ((W : Int) = (W2 : Int)) && decide ((H : Int) = (H2 : Int))))) = false := by
      rw [← hr, Bool.eq_iff_iff]; simp only [Bool.and_eq_true, decide_eq_true_eq]; omega
    clear hc hc2 hn hn2 hr
    go_enter Try.func35, Try.ntmps35
    go_wp2
    all_goals (first | (go_ret; exact ⟨rfl, (by repeat (first | exact Below.refl _ _ | refine Below.alloc ?_ (by first | omega | (simp; done) | (simp; omega)) _ | refine Below.setCell ?_ (by first | omega | (simp; done) | (simp; omega)) _ | refine Below.drew ?_))⟩) | (exfalso; simp_all; done))
end Go.Proofs.Ytihjemookgnafaa

/- The error of a single that should lie between two others, by the tests of the reference. -/
namespace Go.Proofs.Ytihjemookgnafaa
open Go.RowKit Fl
set_option linter.unusedVariables false

/-- The error of a single that should be from lo to hi, told by the reference's tests. -/
def WithinCases (st lo hi : Nat) : Prop :=
    ((fldE 1 (fun _ => st) = 2 ∨ fldE 1 (fun _ => st) = 3) ∧ wiE st lo hi = fldE 1 (fun _ => st)) ∨
    (fldE 1 (fun _ => st) = 0 ∧ wiE st lo hi = 3 ∧ (FloatKind.f32.format.order st lo == some .lt) = true) ∨
    (fldE 1 (fun _ => st) = 0 ∧ wiE st lo hi = 3 ∧ (FloatKind.f32.format.order st lo == some .lt) = false ∧ (FloatKind.f32.format.order st hi == some .gt) = true) ∨
    (fldE 1 (fun _ => st) = 0 ∧ wiE st lo hi = 0 ∧ (FloatKind.f32.format.order st lo == some .lt) = false ∧ (FloatKind.f32.format.order st hi == some .gt) = false)
theorem within_cases {st lo hi : Nat} {l h : Int} (hl : vS lo = some l) (hh : vS hi = some h) (l1 : -vTop ≤ l) (h1 : h ≤ vTop) : WithinCases st lo hi := by
  unfold WithinCases
  cases hf : finB st with
  | false =>
    have e : fldE 1 (fun _ => st) = 2 := by simp [fldE, allB, List.range_succ, hf]
    exact .inl ⟨.inl e, by rw [e]; unfold wiE; rw [if_pos hf]⟩
  | true =>
    obtain ⟨a, ha⟩ := Option.isSome_iff_exists.1 (show (vS st).isSome = true from hf)
    have l0 := lss_val ha hl
    have g1 := gtr_val ha hh
    rw [← f32f] at l0 g1
    have hw : ((FloatKind.f32.format.order st lo == some .lt) = true ∨ (FloatKind.f32.format.order st hi == some .gt) = true) → wiE st lo hi = 3 := fun c => by
      unfold wiE; rw [if_neg (by rw [hf]; simp), if_pos c]
    cases hgt : hgtB st with
    | false =>
      have e : fldE 1 (fun _ => st) = 3 := by simp [fldE, hgtE, allB, List.range_succ, hf, hgt]
      refine .inl ⟨.inr e, ?_⟩
      rw [e]
      refine hw ?_
      unfold hgtB at hgt
      rw [ha] at hgt
      rw [l0, g1]
      simp at hgt ⊢
      omega
    | true =>
      have e : fldE 1 (fun _ => st) = 0 := fldE_one_ok hgt
      cases c1 : (FloatKind.f32.format.order st lo == some .lt) with
      | true => exact .inr (.inl ⟨e, hw (.inl c1), rfl⟩)
      | false =>
        cases c2 : (FloatKind.f32.format.order st hi == some .gt) with
        | true => exact .inr (.inr (.inl ⟨e, hw (.inr c2), rfl, rfl⟩))
        | false => exact .inr (.inr (.inr ⟨e, by unfold wiE; rw [if_neg (by rw [hf]; simp), if_neg (by rw [c1, c2]; simp)], rfl, rfl⟩))

theorem vTop_one : vTop = 1048576 * (one : Int) := by
  obtain ⟨J, hJ⟩ : ∃ J : Nat, J = 1074 := ⟨_, rfl⟩
  unfold vTop
  rw [one_pow hJ, Nat.one_mul, show ((20 : Int) + 1074).toNat = 20 + J by omega, Nat.pow_add, Int.natCast_mul]; rfl
theorem step_cases (st : Nat) : WithinCases st 981467136 1149239296 := by
  obtain ⟨j, hj⟩ : ∃ j : Nat, j = 1064 := ⟨_, rfl⟩
  have hj' : j + 20 = 1084 := by omega
  have e1 : one = 1024 * 2 ^ j := by rw [one_split (a := 10) (j := j) (by omega)]
  have e2 : 2 ^ (j + 20) = 1048576 * 2 ^ j := by rw [Nat.pow_add, Nat.mul_comm]
  have hp := Nat.two_pow_pos j
  exact within_cases (st := st) (vS_lo hj) (vS_hi hj') (by rw [vTop_one, e1]; generalize 2 ^ j = U at *; omega) (by rw [vTop_one, e1, e2]; generalize 2 ^ j = U at *; omega)

theorem flAt_one_of {w : World} {b x : Nat} (h : w.heap[b]? = some (flObj x)) : FlAt w b 0 1 (fun _ => x) := by
  intro i hi
  have : i = 0 := by omega
  subst this
  exact (blkC h).1 0
theorem refHeight_of (x : Nat) (hx : x < 4294967296) (bb : Nat) (w : World) (h : w.heap[bb]? = some (flObj x)) :
    Calls Try.prog 26 #[.slice (some ⟨bb, 0, none⟩) 1 1] w fun e w' => e = .returned (.int .i64 (fldE 1 (fun _ => x))) ∧ w = w' :=
  refHeight_row bb 0 1 1 (fun _ => x) (by omega) w (flAt_one_of h) (fun _ _ => hx)

end Go.Proofs.Ytihjemookgnafaa

/- The law's helpers: no other single in a filled field; a field that fit has made, in a box. -/
namespace Go.Proofs.Ytihjemookgnafaa
open Go.RowKit Fl
set_option linter.unusedVariables false

theorem enters_lFac1 : Enters 28 := by intro args W; simp [callFunc, Try.func28, Try.f28]

set_option maxHeartbeats 400000 in
theorem lbits_self (x : Nat) (w : World) :
    Calls Try.prog 29 #[.float .f32 x, .float .f32 x] w fun e w' => e = .returned (.bool true) ∧ w = w' := by
  have h1 := f32bits
  go_enter Try.func29, Try.ntmps29
  go_wp2
  go_ret
  exact ⟨by simp, rfl⟩

set_option maxHeartbeats 400000 in
theorem fac1_no (x p : Nat) (w : World) (hp : w.heap[p]? = some (flObj x)) :
    Calls Try.prog 28 #[.float .f32 x, .pointer (some ⟨p, 0, none⟩)] w fun e w' => e = .returned (.bool false) ∧ w = w' := by
  obtain ⟨cP, fP, zP⟩ := blkC hp
  clear hp
  go_enter Try.func28, Try.ntmps28
  go_wp2_with (first | (go_at_call 29; refine (lbits_self _ _).mono ?_; rintro e w' ⟨rfl, rfl⟩))
  go_ret
  exact ⟨rfl, rfl⟩

set_option maxHeartbeats 1000000 in
theorem facIndex_none (b cap n x p : Nat) (hl : n ≤ 9223372036854775807) (w : World) (hc : FlAt w b 0 n (fun _ => x)) (hp : w.heap[p]? = some (flObj x)) :
    Calls Try.prog 80 #[.slice (some ⟨b, 0, none⟩) n cap, .func (.func 28) #[] #[.pointer (some ⟨p, 0, none⟩)]] w fun e w' => e = .returned (.int .i64 (-1)) ∧ w = w' := by
  have hcall := enters_lFac1
  unfold Enters at hcall
  have IH := Lib.hid (fac1_no x p w hp)
  clear hp
  go_enter Try.func80, Try.ntmps80
  go_wp2
  go_loop [8] (fun i => ∃ k : Nat, k ≤ n ∧ i = .int .i64 k) (fun i => n - (intOf i).toNat)
  case atStart => exact ⟨0, Nat.zero_le _, rfl⟩
  case round =>
    obtain ⟨k, hk, rfl⟩ := hrel
    by_cases hlt : k < n
    · have hcell := hc k hlt
      rw [Nat.zero_add] at hcell
      go_wp2_with fail
      refine IH.out.mono ?_
      rintro e w' ⟨rfl, rfl⟩
      go_wp2
      go_round
      case rel => exact ⟨k + 1, by omega, by go_num⟩
      case measure => simp [intOf]; omega
    · go_wp2
      go_ret
      exact ⟨rfl, rfl⟩

set_option maxHeartbeats 1000000 in
theorem facContains_no (b cap n x p : Nat) (hl : n ≤ 9223372036854775807) (w : World) (hc : FlAt w b 0 n (fun _ => x)) (hp : w.heap[p]? = some (flObj x)) :
    Calls Try.prog 27 #[.slice (some ⟨b, 0, none⟩) n cap, .func (.func 28) #[] #[.pointer (some ⟨p, 0, none⟩)]] w fun e w' => e = .returned (.bool false) ∧ w = w' := by
  have IX := Lib.hid (facIndex_none b cap n x p hl w hc hp)
  clear hc hp
  go_enter Try.func27, Try.ntmps27
  go_wp2_with (first | (go_at_call 80; refine IX.out.mono ?_; rintro e w' ⟨rfl, rfl⟩))
  go_ret
  exact ⟨rfl, rfl⟩

/-- A field that fit has made lies in block p, its singles in a block from lo on. -/
structure FitAt (w : World) (p lo : Nat) (X Y : Int) (W H n b : Nat) (v : Nat → Nat) : Prop where
  chk : checkR X Y W H = 0
  num : n = W * H
  pos : 1 ≤ n
  few : n ≤ 256
  fld : w.heap[p]? = some (fldO X Y W H (.slice (some ⟨b, 0, none⟩) n n))
  low : lo ≤ b
  lt : b < w.heap.size
  row : FlAt w b 0 n v
  wf : wf32 n v
  hgt : allB n (fun i => hgtB (v i)) = true
theorem FitAt.stay {w w' : World} {p lo : Nat} {X Y : Int} {W H n b : Nat} {v : Nat → Nat} (h : FitAt w p lo X Y W H n b v) (hb : Below w.heap.size w w') : FitAt w' p lo X Y W H n b v :=
  ⟨h.chk, h.num, h.pos, h.few, blkStay h.fld hb, h.low, Nat.lt_of_lt_of_le h.lt hb.size, flAt_congr h.row (hb.block _ h.lt), h.wf, h.hgt⟩
end Go.Proofs.Ytihjemookgnafaa

/- FieldsAreCut: Fill, Cut, Paste and Same answer as the references do. -/
namespace Go.Proofs.Ytihjemookgnafaa
open Go.RowKit Fl
set_option linter.unusedVariables false

theorem fit_at {w w0 : World} {X Y W' H' : Int} {b n p lo : Nat} (x1 : -5000 ≤ X) (x2 : X ≤ 5000) (y1 : -5000 ≤ Y) (y2 : Y ≤ 5000) (u1 : 1 ≤ W') (u2 : W' ≤ 16) (h1 : 1 ≤ H') (h2 : H' ≤ 16) (hn : (n : Int) = W' * H') (hn1 : 1 ≤ n) (hn2 : n ≤ 256) (hlo : lo ≤ b) (hrow : FitRow w b n n) (hp : w0.heap[p]? = some (fldO X Y W' H' (.slice (some ⟨b, 0, none⟩) n n))) (hb : w0.heap[b]? = w.heap[b]?) (hlt : b < w0.heap.size) :
    ∃ (W H : Nat) (v : Nat → Nat), W' = W ∧ H' = H ∧ FitAt w0 p lo X Y W H n b v := by
  obtain ⟨W, rfl⟩ : ∃ W : Nat, W' = W := ⟨W'.toNat, by omega⟩
  obtain ⟨H, rfl⟩ : ∃ H : Nat, H' = H := ⟨H'.toNat, by omega⟩
  obtain ⟨v, fv, wv, hv, bv⟩ := fit_fn hrow
  refine ⟨W, H, v, rfl, rfl, fit_check x1 x2 y1 y2 u1 u2 h1 h2 hn hn2, ?_, hn1, hn2, hp, hlo, hlt, flAt_congr fv hb, wv, hv⟩
  have : (n : Int) = ((W * H : Nat) : Int) := by rw [hn]; simp
  omega

/-- What stands ahead of the law's first call: the two fields, the region, the single. -/
def CutAt (w wx : World) (rx ry rw rh : Int) (h : Nat) : Prop :=
  ∃ (X Y : Int) (W H n b : Nat) (v : Nat → Nat) (X2 Y2 : Int) (W2 H2 n2 b2 : Nat) (v2 : Nat → Nat), FitAt wx w.heap.size (w.heap.size + 1 + 1 + 1 + 1) X Y W H n b v ∧ FitAt wx (w.heap.size + 1) (w.heap.size + 1 + 1 + 1 + 1) X2 Y2 W2 H2 n2 b2 v2 ∧
    wx.heap[w.heap.size + 1 + 1]? = some (regObj rx ry rw rh) ∧ wx.heap[w.heap.size + 1 + 1 + 1]? = some (flObj h) ∧ Below w.heap.size w wx

/-- What all later worlds of the law keep. -/
structure LawAt (w wx : World) (X Y : Int) (W H n b : Nat) (v : Nat → Nat) (X2 Y2 : Int) (W2 H2 n2 b2 : Nat) (v2 : Nat → Nat) (rx ry rw rh : Int) (h : Nat) : Prop where
  f : FitAt wx w.heap.size (w.heap.size + 1 + 1 + 1 + 1) X Y W H n b v
  g : FitAt wx (w.heap.size + 1) (w.heap.size + 1 + 1 + 1 + 1) X2 Y2 W2 H2 n2 b2 v2
  r : wx.heap[w.heap.size + 1 + 1]? = some (regObj rx ry rw rh)
  h : wx.heap[w.heap.size + 1 + 1 + 1]? = some (flObj h)
  bel : Below w.heap.size w wx
theorem LawAt.stay {w wx wy : World} {X Y : Int} {W H n b : Nat} {v : Nat → Nat} {X2 Y2 : Int} {W2 H2 n2 b2 : Nat} {v2 : Nat → Nat} {rx ry rw rh : Int} {h : Nat} (L : LawAt w wx X Y W H n b v X2 Y2 W2 H2 n2 b2 v2 rx ry rw rh h) (hb : Below wx.heap.size wx wy) : LawAt w wy X Y W H n b v X2 Y2 W2 H2 n2 b2 v2 rx ry rw rh h :=
  ⟨L.f.stay hb, L.g.stay hb, blkStay L.r hb, blkStay L.h hb, L.bel.trans (hb.mono L.bel.size)⟩
theorem LawAt.cells {w wx : World} {X Y : Int} {W H n b : Nat} {v : Nat → Nat} {X2 Y2 : Int} {W2 H2 n2 b2 : Nat} {v2 : Nat → Nat} {rx ry rw rh : Int} {h : Nat} (L : LawAt w wx X Y W H n b v X2 Y2 W2 H2 n2 b2 v2 rx ry rw rh h) :
    (∀ o, wx.cell? ⟨w.heap.size, o, none⟩ = #[.int .i64 X, .int .i64 Y, .int .i64 W, .int .i64 H, .slice (some ⟨b, 0, none⟩) n n][o]?) ∧ (∀ o, wx.cell? ⟨w.heap.size + 1, o, none⟩ = #[.int .i64 X2, .int .i64 Y2, .int .i64 W2, .int .i64 H2, .slice (some ⟨b2, 0, none⟩) n2 n2][o]?) ∧
    (∀ o, wx.cell? ⟨w.heap.size + 1 + 1, o, none⟩ = #[.int .i64 rx, .int .i64 ry, .int .i64 rw, .int .i64 rh][o]?) ∧ (∀ o, wx.cell? ⟨w.heap.size + 1 + 1 + 1, o, none⟩ = #[Value.float .f32 h][o]?) ∧ w.heap.size < wx.heap.size ∧ w.heap.size + 1 < wx.heap.size ∧ w.heap.size + 1 + 1 < wx.heap.size ∧ w.heap.size + 1 + 1 + 1 < wx.heap.size :=
  ⟨(blkC L.f.fld).1, (blkC L.g.fld).1, (blkC L.r).1, (blkC L.h).1, (blkC L.f.fld).2.2, (blkC L.g.fld).2.2, (blkC L.r).2.2, (blkC L.h).2.2⟩
theorem made_yes {w w' : World} {X Y W H : Int} {n : Nat} {f : Nat → Nat} {e : Ending} (h : MadePost w X Y W H n f e w') (ha : allB n (fun i => hgtB (f i)) = true) :
    ∃ b cap, e = .returned (.tuple #[fldV X Y W H (.slice (some ⟨b, 0, none⟩) n cap), .int .i64 0]) ∧ b < w'.heap.size ∧ FlAt w' b 0 n f ∧ Below w.heap.size w w' := by
  rcases h with ⟨_, b, cap, h1, _, h3, h4, h5⟩ | ⟨h1, _⟩
  · exact ⟨b, cap, h1, h3, h4, h5⟩
  · rw [ha] at h1; cases h1

theorem one_yes {w w' : World} {X Y W H : Int} {n : Nat} {f : Nat → Nat} {e : Ending} (h : OnePost w X Y W H n f e w') :
    ∃ b cap, e = .returned (fldV X Y W H (.slice (some ⟨b, 0, none⟩) n cap)) ∧ b < w'.heap.size ∧ FlAt w' b 0 n f ∧ Below w.heap.size w w' := by
  obtain ⟨b, cap, h1, _, h3, h4, h5⟩ := h
  exact ⟨b, cap, h1, h3, h4, h5⟩

theorem fitRow_congr {w w' : World} {b n : Nat} (h : FitRow w b n n) (e : w'.heap[b]? = w.heap[b]?) : FitRow w' b n n := by
  obtain ⟨cs, h1, h2⟩ := h
  exact ⟨cs, by rw [e]; exact h1, h2⟩
theorem fitRow_lt {w : World} {b n : Nat} (h : FitRow w b n n) : b < w.heap.size := by
  obtain ⟨cs, h1, _⟩ := h
  exact (blkC h1).2.2
theorem cut_rel {w w3 : World} {rx ry rw rh : Int} {h : Nat} {a0 a1 a2 a3 a4 c0 c1 c2 c3 c4 : Value} {X Y W' H' X2 Y2 W2' H2' : Int} {b n b2 n2 : Nat}
    (HA : w3.heap[w.heap.size]? = some (.cells #[a0, a1, a2, a3, a4] 36)) (HG : w3.heap[w.heap.size + 1]? = some (.cells #[c0, c1, c2, c3, c4] 36)) (HR : w3.heap[w.heap.size + 1 + 1]? = some (regObj rx ry rw rh)) (HH : w3.heap[w.heap.size + 1 + 1 + 1]? = some (flObj h)) (HB : Below w.heap.size w w3)
    (x1 : -5000 ≤ X) (x2 : X ≤ 5000) (y1 : -5000 ≤ Y) (y2 : Y ≤ 5000) (u1 : 1 ≤ W') (u2 : W' ≤ 16) (h1 : 1 ≤ H') (h2 : H' ≤ 16) (hn : (n : Int) = W' * H') (hn1 : 1 ≤ n) (hn2 : n ≤ 256) (hlo : w.heap.size + 1 + 1 + 1 + 1 ≤ b) (hrow : FitRow w3 b n n)
    (gx1 : -5000 ≤ X2) (gx2 : X2 ≤ 5000) (gy1 : -5000 ≤ Y2) (gy2 : Y2 ≤ 5000) (gu1 : 1 ≤ W2') (gu2 : W2' ≤ 16) (gh1 : 1 ≤ H2') (gh2 : H2' ≤ 16) (ghn : (n2 : Int) = W2' * H2') (ghn1 : 1 ≤ n2) (ghn2 : n2 ≤ 256) (ghlo : w.heap.size + 1 + 1 + 1 + 1 ≤ b2) (ghrow : FitRow w3 b2 n2 n2) :
    CutAt w (set5 (set5 w3 w.heap.size (.int .i64 X) (.int .i64 Y) (.int .i64 W') (.int .i64 H') (.slice (some ⟨b, 0, none⟩) n n)) (w.heap.size + 1) (.int .i64 X2) (.int .i64 Y2) (.int .i64 W2') (.int .i64 H2') (.slice (some ⟨b2, 0, none⟩) n2 n2)) rx ry rw rh h := by
  have e : ∀ k, k ≠ w.heap.size → k ≠ w.heap.size + 1 → (set5 (set5 w3 w.heap.size (.int .i64 X) (.int .i64 Y) (.int .i64 W') (.int .i64 H') (.slice (some ⟨b, 0, none⟩) n n)) (w.heap.size + 1) (.int .i64 X2) (.int .i64 Y2) (.int .i64 W2') (.int .i64 H2') (.slice (some ⟨b2, 0, none⟩) n2 n2)).heap[k]? = w3.heap[k]? := fun k k1 k2 => by rw [set5_heap _ _ _ _ _ _ _ _ k2, set5_heap _ _ _ _ _ _ _ _ k1]
  have lt1 := fitRow_lt hrow
  have lt2 := fitRow_lt ghrow
  obtain ⟨W, H, v, rfl, rfl, F1⟩ := fit_at (p := w.heap.size) x1 x2 y1 y2 u1 u2 h1 h2 hn hn1 hn2 hlo hrow ((set5_heap _ _ _ _ _ _ _ _ (by omega)).trans (set5_self _ _ _ _ _ HA)) (e b (by omega) (by omega)) (by rw [set5_size, set5_size]; exact lt1)
  obtain ⟨W2, H2, v2, rfl, rfl, F2⟩ := fit_at (p := w.heap.size + 1) gx1 gx2 gy1 gy2 gu1 gu2 gh1 gh2 ghn ghn1 ghn2 ghlo ghrow (set5_self _ _ _ _ _ ((set5_heap _ _ _ _ _ _ _ _ (by omega)).trans HG)) (e b2 (by omega) (by omega)) (by rw [set5_size, set5_size]; exact lt2)
  exact ⟨X, Y, W, H, n, b, v, X2, Y2, W2, H2, n2, b2, v2, F1, F2, (e _ (by omega) (by omega)).trans HR, (e _ (by omega) (by omega)).trans HH, set5_below (set5_below HB _ _ _ _ _ _ (Nat.le_refl _)) _ _ _ _ _ _ (by omega)⟩

end Go.Proofs.Ytihjemookgnafaa

/- FieldsAreCut, where the region is wrong. -/
namespace Go.Proofs.Ytihjemookgnafaa
open Go.RowKit Fl
set_option linter.unusedVariables false

set_option maxHeartbeats 4000000 in
set_option maxRecDepth 100000 in
theorem fieldsAreCut_0 (X0 Y0 W0 H0 : Int) (sl : Value) (X1 Y1 W1 H1 : Int) (sl1 : Value) (rx ry rw rh : Int) (h : Nat) (w : World) (hh : h < 4294967296) (hz : checkR rx ry rw rh ≠ 0)
    (hfit : ∀ W', Below w.heap.size w W' → Calls Try.prog 24 #[fldV X0 Y0 W0 H0 sl] W' (FitPost W')) (hfit1 : ∀ W', Below w.heap.size w W' → Calls Try.prog 24 #[fldV X1 Y1 W1 H1 sl1] W' (FitPost W')) :
    Calls Try.prog 4 #[fldV X0 Y0 W0 H0 sl, fldV X1 Y1 W1 H1 sl1, reg rx ry rw rh, .float .f32 h] w fun e w' => e = .returned (.bool true) ∧ Below w.heap.size w w' := by
  have HF := Lib.hid hfit
  have HF1 := Lib.hid hfit1
  clear hfit hfit1
  go_enter Try.func4, Try.ntmps4
  go_wp2_with (first | (go_at_call 14; refine (landed_any _).mono ?_; rintro e w1 ⟨rfl, hb1⟩; have HA1 := Lib.hid (blkStay (b := w.heap.size) (o := fldO X0 Y0 W0 H0 sl) (by (first | (rw [heap_alloc_get, if_pos rfl]; done) | ((simp only [heap_alloc_get, heap_size_alloc, if_true]) <;> ((repeat' split) <;> first | rfl | omega)))) hb1); have HG1 := Lib.hid (blkStay (b := w.heap.size + 1) (o := fldO X1 Y1 W1 H1 sl1) (by (first | (rw [heap_alloc_get, if_pos rfl]; done) | ((simp only [heap_alloc_get, heap_size_alloc, if_true]) <;> ((repeat' split) <;> first | rfl | omega)))) hb1); have HR1 := Lib.hid (blkStay (b := w.heap.size + 1 + 1) (o := regObj rx ry rw rh) (by (first | (rw [heap_alloc_get, if_pos rfl]; done) | ((simp only [heap_alloc_get, heap_size_alloc, if_true]) <;> ((repeat' split) <;> first | rfl | omega)))) hb1); have HH1 := Lib.hid (blkStay (b := w.heap.size + 1 + 1 + 1) (o := flObj h) (by (first | (rw [heap_alloc_get, if_pos rfl]; done) | ((simp only [heap_alloc_get, heap_size_alloc, if_true]) <;> ((repeat' split) <;> first | rfl | omega)))) hb1); have hB1 : Below w.heap.size w w1 := Below.trans (by repeat (first | exact Below.refl _ _ | refine Below.alloc ?_ (by first | omega | (simp; done) | (simp; omega)) _ | refine Below.setCell ?_ (by first | omega | (simp; done) | (simp; omega)) _ | refine Below.drew ?_)) (Below.mono hb1 (by first | omega | (simp; done) | (simp; omega))); obtain ⟨cA, fA, zA⟩ := blkC HA1.out; obtain ⟨cG, fG, zG⟩ := blkC HG1.out; clear hb1))
  go_upto_region 3 with fail
  go_cut [] from 18 to 21 (fun wx => CutAt w wx rx ry rw rh h)
  case first =>
    have HB1 := Lib.hid hB1
    clear hB1
    go_region_law (first
      | (go_simp; (with_reducible refine Calls.mono (HF.out _ ?_) ?_); (first | exact HB2.out | exact HB2.out.drew | exact HB2.out.drew.drew); rintro e w3 ⟨X, Y, W', H', b, n, rfl, fx1, fx2, fy1, fy2, fu1, fu2, fh1, fh2, fhn, fhn1, fhn2, fhlo, fhrow, hb3⟩; have hb3' : Below w2.heap.size w2 w3 := ⟨hb3.os, hb3.tape, hb3.output, hb3.size, hb3.block⟩; have z23 := hb3'.size; have HB3 := Lib.hid (HB2.out.trans (hb3'.mono HB2.out.size)); have HA3 := Lib.hid (blkStay HA2.out hb3'); have HG3 := Lib.hid (blkStay HG2.out hb3'); have HR3 := Lib.hid (blkStay HR2.out hb3'); have HH3 := Lib.hid (blkStay HH2.out hb3'); have HX3 := Lib.hid hb3'; clear cA fA zA cG fG zG hb3 hb3'; obtain ⟨cA, fA, zA⟩ := blkC HA3.out; obtain ⟨cG, fG, zG⟩ := blkC HG3.out)
      | (go_simp; (with_reducible refine Calls.mono (HF1.out _ ?_) ?_); (first | exact HB2.out | exact HB2.out.drew | exact HB2.out.drew.drew); rintro e w3 ⟨X2, Y2, W2', H2', b2, n2, rfl, gx1, gx2, gy1, gy2, gu1, gu2, gh1, gh2, ghn, ghn1, ghn2, ghlo, ghrow, hb3⟩; have hb3' : Below w2.heap.size w2 w3 := ⟨hb3.os, hb3.tape, hb3.output, hb3.size, hb3.block⟩; have z23 := hb3'.size; have HB3 := Lib.hid (HB2.out.trans (hb3'.mono HB2.out.size)); have HA3 := Lib.hid (blkStay HA2.out hb3'); have HG3 := Lib.hid (blkStay HG2.out hb3'); have HR3 := Lib.hid (blkStay HR2.out hb3'); have HH3 := Lib.hid (blkStay HH2.out hb3'); have HX3 := Lib.hid hb3'; clear cA fA zA cG fG zG hb3 hb3'; obtain ⟨cA, fA, zA⟩ := blkC HA3.out; obtain ⟨cG, fG, zG⟩ := blkC HG3.out)
      | (go_simp; (with_reducible refine Calls.mono (HF.out _ ?_) ?_); (first | exact HB1.out | exact HB1.out.drew | exact HB1.out.drew.drew); rintro e w2 ⟨X, Y, W', H', b, n, rfl, fx1, fx2, fy1, fy2, fu1, fu2, fh1, fh2, fhn, fhn1, fhn2, fhlo, fhrow, hb2⟩; have hb2' : Below w1.heap.size w1 w2 := ⟨hb2.os, hb2.tape, hb2.output, hb2.size, hb2.block⟩; have z12 := hb2'.size; have HB2 := Lib.hid (HB1.out.trans (hb2'.mono HB1.out.size)); have HA2 := Lib.hid (blkStay HA1.out hb2'); have HG2 := Lib.hid (blkStay HG1.out hb2'); have HR2 := Lib.hid (blkStay HR1.out hb2'); have HH2 := Lib.hid (blkStay HH1.out hb2'); clear cA fA zA cG fG zG hb2 hb2'; obtain ⟨cA, fA, zA⟩ := blkC HA2.out; obtain ⟨cG, fG, zG⟩ := blkC HG2.out)
      | (go_simp; (with_reducible refine Calls.mono (HF1.out _ ?_) ?_); (first | exact HB1.out | exact HB1.out.drew | exact HB1.out.drew.drew); rintro e w2 ⟨X2, Y2, W2', H2', b2, n2, rfl, gx1, gx2, gy1, gy2, gu1, gu2, gh1, gh2, ghn, ghn1, ghn2, ghlo, ghrow, hb2⟩; have hb2' : Below w1.heap.size w1 w2 := ⟨hb2.os, hb2.tape, hb2.output, hb2.size, hb2.block⟩; have z12 := hb2'.size; have HB2 := Lib.hid (HB1.out.trans (hb2'.mono HB1.out.size)); have HA2 := Lib.hid (blkStay HA1.out hb2'); have HG2 := Lib.hid (blkStay HG1.out hb2'); have HR2 := Lib.hid (blkStay HR1.out hb2'); have HH2 := Lib.hid (blkStay HH1.out hb2'); clear cA fA zA cG fG zG hb2 hb2'; obtain ⟨cA, fA, zA⟩ := blkC HA2.out; obtain ⟨cG, fG, zG⟩ := blkC HG2.out))
    all_goals
      have zh := (blkC HH1.out).2.2
      go_wp2_with fail
      go_meet
      case rel =>
        have lo1 : w.heap.size + 1 + 1 + 1 + 1 ≤ b := by first | omega | (simp at fhlo; omega)
        have lo2 : w.heap.size + 1 + 1 + 1 + 1 ≤ b2 := by first | omega | (simp at ghlo; omega)
        have r1 : FitRow w3 b n n := by first | exact fhrow | exact fitRow_congr fhrow (HX3.out.block _ (fitRow_lt fhrow))
        have r2 : FitRow w3 b2 n2 n2 := by first | exact ghrow | exact fitRow_congr ghrow (HX3.out.block _ (fitRow_lt ghrow))
        exact cut_rel HA3.out HG3.out HR3.out HH3.out HB3.out fx1 fx2 fy1 fy2 fu1 fu2 fh1 fh2 fhn fhn1 fhn2 lo1 r1 gx1 gx2 gy1 gy2 gu1 gu2 gh1 gh2 ghn ghn1 ghn2 lo2 r2
  case rest =>
    obtain ⟨X, Y, W, H, n, b, v, X2, Y2, W2, H2, n2, b2, v2, FF0, FG0, HR0, HH0, HB0⟩ := hcut
    clear HA1 HG1 HR1 HH1 HF HF1 cA fA zA cG fG zG hB1
    have L := Lib.hid (show LawAt w wc X Y W H n b v X2 Y2 W2 H2 n2 b2 v2 rx ry rw rh h from ⟨FF0, FG0, HR0, HH0, HB0⟩)
    clear FF0 FG0 HR0 HH0 HB0
    obtain ⟨er, her⟩ : ∃ er, er = checkR rx ry rw rh := ⟨_, rfl⟩
    have hfe : filE rx ry rw rh h = er := by unfold filE; rw [if_neg hz, her]
    have hne : er ≠ 0 := by rw [her]; exact hz
    have FI := Lib.hid (fun w => fill_bad rx ry rw rh h w (by rw [hfe]; exact hne))
    rw [hfe] at FI
    have hcE : cutE X Y W H rx ry rw rh = er := by unfold cutE; rw [if_neg hz, her]
    have hzb : (er != 0) = true := by simp [hne]
    have hzc : (er == 0) = false := by simp [hne]
    have HE := Lib.hid her
    have HNE := Lib.hid hne
    have HCE := Lib.hid hcE
    clear her hfe hne hcE hz
    obtain ⟨cA, cG, cR, cH, zA, zG, zR, zH⟩ := L.out.cells
    go_wp2_with fail
    refine (FI.out _).mono ?_
    rintro e w2 ⟨rfl, hb2⟩
    have L2 := Lib.hid (L.out.stay hb2)
    have L3 := Lib.hid (L2.out.stay (al_belowC w2 (fldO 0 0 0 0 (.slice none 0 0))))
    clear hb2 cA cG cR cH zA zG zR zH L FI
    obtain ⟨cA, cG, cR, cH, zA, zG, zR, zH⟩ := L2.out.cells
    go_wp2_with fail
    refine (refCheckRegion_any _ _ _ _ _).mono ?_
    rintro e w4 ⟨rfl, hw4⟩
    rw [← HE.out]
    have L5 := Lib.hid (L3.out.stay (wy := w4) (by rw [hw4]; exact al_belowC _ _))
    clear hw4 L3 L2 cA cG cR cH zA zG zR zH
    obtain ⟨cA, cG, cR, cH, zA, zG, zR, zH⟩ := L5.out.cells
    go_wp2_with fail
    refine (cut_bad X Y W H n b n v rx ry rw rh er w4 L5.out.f.chk L5.out.f.num L5.out.f.row L5.out.f.hgt HCE.out HNE.out).mono ?_
    rintro e w6 ⟨rfl, hb6⟩
    have L6 := Lib.hid (L5.out.stay hb6)
    have L7 := Lib.hid (L6.out.stay (al_belowC w6 (fldO 0 0 0 0 (.slice none 0 0))))
    clear hb6 cA cG cR cH zA zG zR zH L5
    obtain ⟨cA, cG, cR, cH, zA, zG, zR, zH⟩ := L6.out.cells
    go_wp2_with fail
    refine (refCheckRegion_any _ _ _ _ _).mono ?_
    rintro e w8 ⟨rfl, hw8⟩
    rw [← HE.out]
    have L8 := Lib.hid (L7.out.stay (wy := w8) (by rw [hw8]; exact al_belowC _ _))
    clear hw8 L7 L6 cA cG cR cH zA zG zR zH
    obtain ⟨cA, cG, cR, cH, zA, zG, zR, zH⟩ := L8.out.cells
    go_wp2_with fail
    refine (refCheckRegion_any _ _ _ _ _).mono ?_
    rintro e w9 ⟨rfl, hw9⟩
    rw [← HE.out]
    have LA := Lib.hid (L8.out.stay (wy := w9) (by rw [hw9]; exact al_belowC _ _))
    clear hw9 L8 cA cG cR cH zA zG zR zH
    obtain ⟨cA, cG, cR, cH, zA, zG, zR, zH⟩ := LA.out.cells
    have hzf := checkR_zero LA.out.f.chk
    have hzg := checkR_zero LA.out.g.chk
    have RC2 := Lib.hid (fun w => refCommon_any X Y W H X2 Y2 W2 H2 w (by omega) (by omega) (by omega) (by omega) (by omega) (by omega) (by omega) (by omega) (by omega) (by omega) (by omega) (by omega) (by omega) (by omega) (by omega) (by omega))
    obtain ⟨q1, q2, q3, q4, hq⟩ := comR_regC X Y W H X2 Y2 W2 H2
    rw [hq] at RC2
    clear hq
    cases hcm : comB X Y W H X2 Y2 W2 H2 with
    | false =>
      rw [hcm] at RC2
      clear hzf hzg
      go_wp2_with fail
      refine (paste_no X Y W H n b n v X2 Y2 W2 H2 n2 b2 n2 v2 w9 LA.out.f.chk LA.out.f.num LA.out.f.row LA.out.f.hgt LA.out.g.chk LA.out.g.num LA.out.g.row LA.out.g.hgt hcm).mono ?_
      rintro e w10 ⟨rfl, hb10⟩
      have L10 := Lib.hid (LA.out.stay hb10)
      have L11 := Lib.hid (L10.out.stay (al_belowC w10 (fldO 0 0 0 0 (.slice none 0 0))))
      clear hb10 cA cG cR cH zA zG zR zH LA
      obtain ⟨cA, cG, cR, cH, zA, zG, zR, zH⟩ := L10.out.cells
      go_wp2_with fail
      refine (RC2.out _).mono ?_
      rintro e w12 ⟨rfl, hb12⟩
      have L12 := Lib.hid (L11.out.stay hb12)
      clear hb12 cA cG cR cH zA zG zR zH L10 L11
      go_wp2
      go_ret
      exact ⟨rfl, L12.out.bel.alloc L12.out.bel.size _⟩
    | true =>
      rw [hcm] at RC2
      have hnm : n = H * W := by rw [LA.out.f.num]; exact Nat.mul_comm _ _
      have hnm2 : n2 = H2 * W2 := by rw [LA.out.g.num]; exact Nat.mul_comm _ _
      have hpst := pstF_hgt (X := X) (Y := Y) (W := W) (H := H) (X2 := X2) (Y2 := Y2) LA.out.f.hgt LA.out.g.hgt (by omega) hnm2
      have hn1 := LA.out.f.pos
      have hn2 := LA.out.g.pos
      have hnl : n ≤ 9223372036854775807 := by have := LA.out.f.few; omega
      clear hzf hzg hnm hnm2
      go_wp2_with fail
      refine (paste_ok X Y W H n b n v X2 Y2 W2 H2 n2 b2 n2 v2 w9 LA.out.f.chk LA.out.f.num LA.out.f.row LA.out.f.hgt LA.out.g.chk LA.out.g.num LA.out.g.row LA.out.g.hgt hcm).mono ?_
      intro e w10 hp
      obtain ⟨b10, cap10, rfl, lt10, row10, hb10⟩ := made_yes hp hpst
      have L10 := Lib.hid (LA.out.stay hb10)
      have hb11 := al_belowC w10 (fldO X Y W H (.slice (some ⟨b10, 0, none⟩) n cap10))
      have HP11 := Lib.hid (heap_alloc_new w10 (fldO X Y W H (.slice (some ⟨b10, 0, none⟩) n cap10)))
      have L11 := Lib.hid (L10.out.stay hb11)
      have R11 := Lib.hid (flAt_congr row10 (heap_alloc_old w10 (fldO X Y W H (.slice (some ⟨b10, 0, none⟩) n cap10)) lt10))
      clear hp row10 hb10 cA cG cR cH zA zG zR zH LA
      obtain ⟨cA, cG, cR, cH, zA, zG, zR, zH⟩ := L10.out.cells
      go_wp2_with fail
      refine (RC2.out _).mono ?_
      rintro e w12 ⟨rfl, hb12⟩
      have L12 := Lib.hid (L11.out.stay hb12)
      have HP12 := Lib.hid (blkStay HP11.out hb12)
      have R12 := Lib.hid (flAt_congr R11.out (hb12.block _ (by rw [heap_size_alloc]; exact Nat.lt_succ_of_lt lt10)))
      have hb13 := al_belowC w12 (regObj q1 q2 q3 q4)
      have L13 := Lib.hid (L12.out.stay hb13)
      have HP13 := Lib.hid (blkStay HP12.out hb13)
      have R13 := Lib.hid (flAt_congr R12.out (hb13.block _ (World.block_lt_of_cell? w12 _ (R12.out 0 hn1))))
      clear hb12 hb11 cA cG cR cH zA zG zR zH L10 L11 HP11 R11 HP12 R12
      obtain ⟨cA, cG, cR, cH, zA, zG, zR, zH⟩ := L12.out.cells
      go_wp2_with fail
      have FS := Lib.hid (fun W' (hb : Below (w12.alloc (regObj q1 q2 q3 q4)).heap.size (w12.alloc (regObj q1 q2 q3 q4)) W') => fsame_any X Y W H n b n v X2 Y2 W2 H2 n2 b2 n2 v2 W' hnl hn1 hn2 L13.out.f.num L13.out.g.num (flAt_congr L13.out.f.row (hb.block _ L13.out.f.lt)) (flAt_congr L13.out.g.row (hb.block _ L13.out.g.lt)))
      have RS := Lib.hid (fun W' (hb : Below (w12.alloc (regObj q1 q2 q3 q4)).heap.size (w12.alloc (regObj q1 q2 q3 q4)) W') => rsame_any X Y W H n b n v X2 Y2 W2 H2 n2 b2 n2 v2 W' hnl hn1 hn2 L13.out.f.num L13.out.g.num (flAt_congr L13.out.f.row (hb.block _ L13.out.f.lt)) (flAt_congr L13.out.g.row (hb.block _ L13.out.g.lt)))
      have RP := Lib.hid (fun W' (hb : Below (w12.alloc (regObj q1 q2 q3 q4)).heap.size (w12.alloc (regObj q1 q2 q3 q4)) W') => rpaste_ok X Y W H n b n v X2 Y2 W2 H2 n2 b2 n2 v2 W' L13.out.f.chk L13.out.f.num (flAt_congr L13.out.f.row (hb.block _ L13.out.f.lt)) L13.out.f.hgt L13.out.f.wf L13.out.g.chk L13.out.g.num (flAt_congr L13.out.g.row (hb.block _ L13.out.g.lt)) L13.out.g.hgt L13.out.g.wf)
      generalize (sameR X Y W H X2 Y2 W2 H2 && sameV n v v2) = sq at FS RS
      have lt13 := World.block_lt_of_cell? _ _ (R13.out 0 hn1)
      clear cA cG cR cH zA zG zR zH L12 hb13
      generalize w12.alloc (regObj q1 q2 q3 q4) = w13 at *
      generalize pstF v v2 X Y W X2 Y2 W2 H2 = fp at *
      refine wp_region_held_drew (S := (fun w' => ((∀ o, w'.cell? ⟨w.heap.size, o, none⟩ = #[.int .i64 X, .int .i64 Y, .int .i64 W, .int .i64 H, .slice (some ⟨b, 0, none⟩) n n][o]?) ∧ (∀ o, w'.cell? ⟨w.heap.size + 1, o, none⟩ = #[.int .i64 X2, .int .i64 Y2, .int .i64 W2, .int .i64 H2, .slice (some ⟨b2, 0, none⟩) n2 n2][o]?) ∧ (∀ o, w'.cell? ⟨w10.heap.size, o, none⟩ = #[.int .i64 X, .int .i64 Y, .int .i64 W, .int .i64 H, .slice (some ⟨b10, 0, none⟩) n cap10][o]?)) ∧ Below w13.heap.size w13 w')) (by kernel_rfl) ?_ (fun hHeld => ?_)
      · try dsimp only
        exact (fun K => ⟨⟨(blkC (blkStay L13.out.f.fld K)).1, (blkC (blkStay L13.out.g.fld K)).1, (blkC (blkStay HP13.out K)).1⟩, K⟩) (Below.drew (Below.refl _ _))
      refine wpAnyH_take (i := 0) (v := ?hv1) rfl (by kernel_rfl) (by kernel_rfl) (by kernel_rfl) (fun _ _ _ h => h) (Or.inl ⟨by rfl, ?hy1⟩) (by assumption) ?hr1; (case hy1 => ((intro w hSw; (try dsimp only at hSw); go_simp) <;> with_reducible rfl)); try simp only [Act.put, List.setIfInBounds_toArray]
      refine wpAnyH_take (i := 1) (v := ?hv5) rfl (by kernel_rfl) (by kernel_rfl) (by kernel_rfl) (fun _ _ _ h => h) (Or.inl ⟨by rfl, ?hy5⟩) (by assumption) ?hr5; (case hy5 => ((intro w hSw; (try dsimp only at hSw); go_simp) <;> with_reducible rfl)); try simp only [Act.put]
      refine wpAnyH_take (i := 2) (v := ?hv6) rfl (by kernel_rfl) (by kernel_rfl) (by kernel_rfl) (fun _ _ _ h => h) (Or.inl ⟨by rfl, ?hy6⟩) (by assumption) ?hr6; (case hy6 => ((intro w hSw; (try dsimp only at hSw); go_simp) <;> with_reducible rfl)); try simp only [Act.put]
      refine wpAnyH_take (i := 3) (v := ?hv7) rfl (by kernel_rfl) (by kernel_rfl) (by kernel_rfl) (fun _ _ _ h => h) (Or.inl ⟨by rfl, ?hy7⟩) (by assumption) ?hr7; (case hy7 => ((intro w hSw; (try dsimp only at hSw); go_simp) <;> with_reducible rfl)); try simp only [Act.put]
      refine wpAnyH_take (i := 4) (v := ?hv8) rfl (by kernel_rfl) (by kernel_rfl) (by kernel_rfl) (fun _ _ _ h => h) (Or.inl ⟨by rfl, ?hy8⟩) (by assumption) ?hr8; (case hy8 => ((intro w hSw; (try dsimp only at hSw); go_simp) <;> with_reducible rfl)); try simp only [Act.put]
      refine wpAnyH_take (i := 5) (v := ?hv9) rfl (by kernel_rfl) (by kernel_rfl) (by kernel_rfl) (fun _ _ _ h => h) (Or.inl ⟨by rfl, ?hy9⟩) (by assumption) ?hr9; (case hy9 => ((intro w hSw; (try dsimp only at hSw); go_simp) <;> with_reducible rfl)); try simp only [Act.put]
      refine wpAnyH_ready (rs := [6]) (by kernel_rfl) (by simp) ?_; refine AllReadyH.cons rfl (fun K hK => ?_) AllReadyH.nil; go_simp
      (with_reducible refine Calls.mono (RP.out _ ?_) ?_)
      first | exact Below.refl _ _ | exact (Below.refl _ _).drew | exact hHeld.2
      intro e w14 hp
      obtain ⟨b14, cap14, rfl, lt14, row14, hb14⟩ := one_yes hp
      have hb9 : Below w13.heap.size w13 w14 := ⟨hb14.os, hb14.tape, hb14.output, hb14.size, hb14.block⟩
      have R14 := Lib.hid (flAt_congr R13.out (hb9.block _ lt13))
      have Q14 := Lib.hid row14
      clear hp row14 hb14
      try go_wp2_with fail
      refine hK.out _ _ ?_ (fun hHeld => ?_)
      · try dsimp only
        exact (fun K => ⟨⟨(blkC (blkStay L13.out.f.fld K)).1, (blkC (blkStay L13.out.g.fld K)).1, (blkC (blkStay HP13.out K)).1⟩, K⟩) (by first | exact hb9 | exact hb9.drew)
      clear hK K; try simp only [Act.put, List.setIfInBounds_toArray, List.set_cons_zero, List.set_cons_succ]
      refine wpAnyH_ready (rs := [7]) (by kernel_rfl) (by simp) ?_; refine AllReadyH.cons rfl (fun K hK => ?_) AllReadyH.nil; go_simp
      (with_reducible refine Calls.mono (same_ok _ _ _ _ _ _ _ _ n _ hnl hn1 _ R14.out Q14.out) ?_)
      rintro e w15 ⟨rfl, hb15⟩
      have hb8 : Below w14.heap.size w14 w15 := ⟨hb15.os, hb15.tape, hb15.output, hb15.size, hb15.block⟩
      have hb7 := hb9.trans (hb8.mono hb9.size)
      clear hb15 hb8
      try go_wp2_with fail
      refine hK.out _ _ ?_ (fun hHeld => ?_)
      · try dsimp only
        exact (fun K => ⟨⟨(blkC (blkStay L13.out.f.fld K)).1, (blkC (blkStay L13.out.g.fld K)).1, (blkC (blkStay HP13.out K)).1⟩, K⟩) (by first | exact hb7 | exact hb7.drew)
      clear hK K; try simp only [Act.put, List.setIfInBounds_toArray, List.set_cons_zero, List.set_cons_succ]
      refine wpAnyH_take (i := 8) (v := ?hv2) rfl (by kernel_rfl) (by kernel_rfl) (by kernel_rfl) (fun _ _ _ h => h) (Or.inl ⟨by rfl, ?hy2⟩) (by assumption) ?hr2; (case hy2 => ((intro w hSw; (try dsimp only at hSw); go_simp) <;> with_reducible rfl)); try simp only [Act.put, List.setIfInBounds_toArray]
      refine wpAnyH_take (i := 9) (v := ?hv10) rfl (by kernel_rfl) (by kernel_rfl) (by kernel_rfl) (fun _ _ _ h => h) (Or.inl ⟨by rfl, ?hy10⟩) (by assumption) ?hr10; (case hy10 => ((intro w hSw; (try dsimp only at hSw); go_simp) <;> with_reducible rfl)); try simp only [Act.put]
      refine wpAnyH_take (i := 10) (v := ?hv11) rfl (by kernel_rfl) (by kernel_rfl) (by kernel_rfl) (fun _ _ _ h => h) (Or.inl ⟨by rfl, ?hy11⟩) (by assumption) ?hr11; (case hy11 => ((intro w hSw; (try dsimp only at hSw); go_simp) <;> with_reducible rfl)); try simp only [Act.put]
      refine wpAnyH_take (i := 11) (v := ?hv12) rfl (by kernel_rfl) (by kernel_rfl) (by kernel_rfl) (fun _ _ _ h => h) (Or.inl ⟨by rfl, ?hy12⟩) (by assumption) ?hr12; (case hy12 => ((intro w hSw; (try dsimp only at hSw); go_simp) <;> with_reducible rfl)); try simp only [Act.put]
      refine wpAnyH_take (i := 13) (v := ?hv13) rfl (by kernel_rfl) (by kernel_rfl) (by kernel_rfl) (fun _ _ _ h => h) (Or.inl ⟨by rfl, ?hy13⟩) (by assumption) ?hr13; (case hy13 => ((intro w hSw; (try dsimp only at hSw); go_simp) <;> with_reducible rfl)); try simp only [Act.put]
      refine wpAnyH_take (i := 14) (v := ?hv14) rfl (by kernel_rfl) (by kernel_rfl) (by kernel_rfl) (fun _ _ _ h => h) (Or.inl ⟨by rfl, ?hy14⟩) (by assumption) ?hr14; (case hy14 => ((intro w hSw; (try dsimp only at hSw); go_simp) <;> with_reducible rfl)); try simp only [Act.put]
      refine wpAnyH_ready (rs := [12]) (by kernel_rfl) (by simp) ?_; refine AllReadyH.cons rfl (fun K hK => ?_) AllReadyH.nil; go_simp
      (with_reducible refine Calls.mono (FS.out _ ?_) ?_)
      first | exact hb7 | exact hb7.drew | exact hb7.drew.drew
      rintro e w16 ⟨rfl, hb16⟩
      have hb6 : Below w13.heap.size w13 w16 := hb7.trans (Below.mono ⟨hb16.os, hb16.tape, hb16.output, hb16.size, hb16.block⟩ hb7.size)
      clear hb16
      try go_wp2_with fail
      refine hK.out _ _ ?_ (fun hHeld => ?_)
      · try dsimp only
        exact (fun K => ⟨⟨(blkC (blkStay L13.out.f.fld K)).1, (blkC (blkStay L13.out.g.fld K)).1, (blkC (blkStay HP13.out K)).1⟩, K⟩) (by first | exact hb6 | exact hb6.drew)
      clear hK K; try simp only [Act.put, List.setIfInBounds_toArray, List.set_cons_zero, List.set_cons_succ]
      refine wpAnyH_ready (rs := [15]) (by kernel_rfl) (by simp) ?_; refine AllReadyH.cons rfl (fun K hK => ?_) AllReadyH.nil; go_simp
      (with_reducible refine Calls.mono (RS.out _ ?_) ?_)
      first | exact hb6 | exact hb6.drew | exact hb6.drew.drew
      rintro e w17 ⟨rfl, hb17⟩
      have hb5 : Below w13.heap.size w13 w17 := hb6.trans (Below.mono ⟨hb17.os, hb17.tape, hb17.output, hb17.size, hb17.block⟩ hb6.size)
      clear hb17
      try go_wp2_with fail
      refine hK.out _ _ ?_ (fun hHeld => ?_)
      · try dsimp only
        exact (fun K => ⟨⟨(blkC (blkStay L13.out.f.fld K)).1, (blkC (blkStay L13.out.g.fld K)).1, (blkC (blkStay HP13.out K)).1⟩, K⟩) (by first | exact hb5 | exact hb5.drew)
      clear hK K; try simp only [Act.put, List.setIfInBounds_toArray, List.set_cons_zero, List.set_cons_succ]
      refine wpAnyH_take (i := 16) (v := ?hv3) rfl (by kernel_rfl) (by kernel_rfl) (by kernel_rfl) (fun _ _ _ h => h) (Or.inl ⟨by rfl, ?hy3⟩) (by assumption) ?hr3; (case hy3 => ((intro w hSw; (try dsimp only at hSw); go_simp) <;> with_reducible rfl)); try simp only [Act.put, List.setIfInBounds_toArray]
      refine wpAnyH_take (i := 17) (v := ?hv15) rfl (by kernel_rfl) (by kernel_rfl) (by kernel_rfl) (fun _ _ _ h => h) (Or.inl ⟨by rfl, ?hy15⟩) (by assumption) ?hr15; (case hy15 => ((intro w hSw; (try dsimp only at hSw); go_simp) <;> with_reducible rfl)); try simp only [Act.put]
      try simp only [List.getElem_toArray, List.getElem_cons_succ, List.getElem_cons_zero, List.setIfInBounds_toArray, List.set_cons_zero, List.set_cons_succ]
      refine wpAnyH_take (i := 18) (v := ?hv4) rfl (by kernel_rfl) (by kernel_rfl) (by kernel_rfl) (fun _ _ _ h => h) (Or.inl ⟨by rfl, ?hy4⟩) (by assumption) ?hr4; (case hy4 => ((intro w hSw; (try dsimp only at hSw); go_simp) <;> with_reducible rfl)); try simp only [Act.put, List.setIfInBounds_toArray]
      try simp only [List.getElem_toArray, List.getElem_cons_succ, List.getElem_cons_zero, List.set_cons_zero, List.set_cons_succ]
      refine wpAnyH_done (by kernel_rfl) ?_ _
      have HBh := Lib.hid (L13.out.bel.trans (hHeld.2.mono L13.out.bel.size))
      clear hHeld
      go_wp2
      go_ret
      exact ⟨rfl, HBh.out⟩
end Go.Proofs.Ytihjemookgnafaa
