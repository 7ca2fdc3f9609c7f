/- Lemmas and contracts for the proof that the last text of this claim holds. -/
import Derived.Test.YtihjemookgnafaaBlnJB
import Derived.Laws.CopyRow
import Derived.Laws.CopyOwn
import Derived.Laws.BitsAllLaws

/- The closures of Fill and Cut, on both sides. -/
namespace Go.Proofs.Ytihjemookgnafaa
open Go.RowKit Fl
set_option linter.unusedVariables false

theorem enters_Fill1 : Enters 77 := by intro args W; simp [callFunc, Try.func77, Try.f77]
theorem enters_Cut1 : Enters 84 := by intro args W; simp [callFunc, Try.func84, Try.f84]
theorem enters_rCut1 : Enters 89 := by intro args W; simp [callFunc, Try.func89, Try.f89]

/-- The number that the cell number i of a region over X' Y' W' has in one over X Y W. -/
def subN (X Y : Int) (W : Nat) (X' Y' : Int) (W' i : Nat) : Nat := ((Y' + ((i / W' : Nat) : Int) - Y) * W + (X' + ((i % W' : Nat) : Int) - X)).toNat
def cutF (v : Nat → Nat) (X Y : Int) (W : Nat) (X' Y' : Int) (W' i : Nat) : Nat := v (subN X Y W X' Y' W' i)
theorem subN_of {X Y : Int} {W : Nat} {X' Y' x y : Int} {W' i : Nat} (ex : X' + ((i % W' : Nat) : Int) = x) (ey : Y' + ((i / W' : Nat) : Int) = y) (hx : X ≤ x) (hy : Y ≤ y) : (subN X Y W X' Y' W' i : Int) = (y - Y) * W + (x - X) := by
  unfold subN
  rw [ex, ey]
  have : 0 ≤ (y - Y) * W := Int.mul_nonneg (by omega) (by omega)
  omega

set_option maxHeartbeats 1000000 in
theorem fill1_any (n p h : Nat) (w : World) (hk : w.heap[p]? = some (flObj h)) : Clos1 77 #[.pointer (some ⟨p, 0, none⟩)] n (fun _ => h) w := by
  intro i w2 hi hb
  obtain ⟨cP, fP, zP⟩ := blkC (blkStay hk hb)
  clear hk hb
  go_enter Try.func77, Try.ntmps77
  go_wp2
  go_ret
  exact ⟨rfl, (by repeat (first | exact Below.refl _ _ | refine Below.alloc ?_ (by first | omega | (simp; done) | (simp; omega)) _ | refine Below.setCell ?_ (by first | omega | (simp; done) | (simp; omega)) _ | refine Below.drew ?_))⟩

set_option maxHeartbeats 4000000 in
set_option maxRecDepth 100000 in
theorem cut1_any (X Y : Int) (W H n b cap : Nat) (v : Nat → Nat) (p : Nat) (X' Y' : Int) (W' H' : Nat) (w : World) (hk : w.heap[p]? = some (fldO X Y W H (.slice (some ⟨b, 0, none⟩) n cap))) (hr : FlAt w b 0 n v) (h1n : 1 ≤ n) (hn : n ≤ 65536)
    (hX1 : -16777216 ≤ X) (hX2 : X ≤ 16777216) (hY1 : -16777216 ≤ Y) (hY2 : Y ≤ 16777216) (hW1 : 1 ≤ W) (hW2 : W ≤ 512) (hH2 : H ≤ 512) (hnn : n = H * W) (hW' : 1 ≤ W')
    (i1 : X ≤ X') (i2 : Y ≤ Y') (i3 : X' + W' ≤ X + W) (i4 : Y' + H' ≤ Y + H) :
    Clos2 84 #[.pointer (some ⟨p, 0, none⟩)] X' Y' W' H' (cutF v X Y W X' Y' W') w := by
  intro x y i w2 h1 h2 h3 h4 h5 hb
  obtain ⟨ex, ey⟩ := place_of hW' h1 h2 h3 h5
  have hj := subN_of (X := X) (Y := Y) (W := W) ex ey (by omega) (by omega)
  show Calls _ _ _ _ fun e w' => e = .returned (.float .f32 (v (subN X Y W X' Y' W' i))) ∧ _
  generalize subN X Y W X' Y' W' i = j at hj ⊢
  have hi : j < n := num_lt hW1 (by omega) (by omega) (by omega) hj hnn
  have hz : b < w.heap.size := World.block_lt_of_cell? w _ (hr 0 h1n)
  have hcell := flAt_congr hr (hb.block _ hz) j hi
  rw [Nat.zero_add] at hcell
  have zb : b < w2.heap.size := World.block_lt_of_cell? w2 _ hcell
  have K := blkStay hk hb
  have IX := Lib.hid (fun w => index_any X Y W H j x y w hX1 hX2 hY1 hY2 hW1 hW2 hH2 (by omega) (by omega) (by omega) (by omega) hj (by omega))
  have HC := Lib.hid hcell
  have GF := Lib.hid K
  obtain ⟨cF, fF, zF⟩ := blkC K
  have hi2 : (j : Int) < (n : Int) := by omega
  have hi3 : (0 : Int) ≤ (j : Int) := by omega
  clear hk hr hb h1 h2 h3 h4 h5 hX1 hX2 hY1 hY2 hW1 hW2 hH2 hnn K ex ey hi hn hj i1 i2 i3 i4 hz
  go_enter Try.func84, Try.ntmps84
  go_wp2
  go_region_held3 (fun w' => (∀ o, w'.cell? ⟨p, o, none⟩ = #[.int .i64 X, .int .i64 Y, .int .i64 W, .int .i64 H, .slice (some ⟨b, 0, none⟩) n cap][o]?) ∧ w'.cell? ⟨b, j, none⟩ = some (.float .f32 (v j)) ∧ Below w2.heap.size w2 w') (first | exact ⟨(blkC (blkStay GF.out (by repeat (first | exact Below.refl _ _ | refine Below.alloc ?_ (by first | omega | (simp; done) | (simp; omega)) _ | refine Below.setCell ?_ (by first | omega | (simp; done) | (simp; omega)) _ | refine Below.drew ?_)))).1, (Below.cell (p := ⟨b, j, none⟩) (w := w2) (B := w2.heap.size) (by repeat (first | exact Below.refl _ _ | refine Below.alloc ?_ (by first | omega | (simp; done) | (simp; omega)) _ | refine Below.setCell ?_ (by first | omega | (simp; done) | (simp; omega)) _ | refine Below.drew ?_)) zb).trans HC.out, (by repeat (first | exact Below.refl _ _ | refine Below.alloc ?_ (by first | omega | (simp; done) | (simp; omega)) _ | refine Below.setCell ?_ (by first | omega | (simp; done) | (simp; omega)) _ | refine Below.drew ?_))⟩) (first | (go_at_call 85; (with_reducible refine Calls.mono (IX.out _) ?_); rintro e w' ⟨rfl, rfl⟩))
  rename_i hHeld
  go_wp2
  go_ret
  exact ⟨rfl, hHeld.2.2⟩

set_option maxHeartbeats 4000000 in
set_option maxRecDepth 100000 in
theorem rcut1_any (X Y : Int) (W H n b cap : Nat) (v : Nat → Nat) (p : Nat) (X' Y' : Int) (W' H' : Nat) (w : World) (hk : w.heap[p]? = some (fldO X Y W H (.slice (some ⟨b, 0, none⟩) n cap))) (hr : FlAt w b 0 n v) (h1n : 1 ≤ n) (hn : n ≤ 65536)
    (hX1 : -16777216 ≤ X) (hX2 : X ≤ 16777216) (hY1 : -16777216 ≤ Y) (hY2 : Y ≤ 16777216) (hW1 : 1 ≤ W) (hW2 : W ≤ 512) (hH2 : H ≤ 512) (hnn : n = H * W) (hW' : 1 ≤ W')
    (i1 : X ≤ X') (i2 : Y ≤ Y') (i3 : X' + W' ≤ X + W) (i4 : Y' + H' ≤ Y + H) :
    Clos2 89 #[.pointer (some ⟨p, 0, none⟩)] X' Y' W' H' (cutF v X Y W X' Y' W') w := by
  intro x y i w2 h1 h2 h3 h4 h5 hb
  obtain ⟨ex, ey⟩ := place_of hW' h1 h2 h3 h5
  have hj := subN_of (X := X) (Y := Y) (W := W) ex ey (by omega) (by omega)
  show Calls _ _ _ _ fun e w' => e = .returned (.float .f32 (v (subN X Y W X' Y' W' i))) ∧ _
  generalize subN X Y W X' Y' W' i = j at hj ⊢
  have hi : j < n := num_lt hW1 (by omega) (by omega) (by omega) hj hnn
  have hz : b < w.heap.size := World.block_lt_of_cell? w _ (hr 0 h1n)
  have hr2 := flAt_congr hr (hb.block _ hz)
  have zb : b < w2.heap.size := World.block_lt_of_cell? w2 _ (hr2 0 h1n)
  have K := blkStay hk hb
  have AT := Lib.hid (fun W'' (hb : Below w2.heap.size w2 W'') => refAt_any X Y W H n b cap j v x y W'' hX1 hX2 hY1 hY2 hW1 hW2 hH2 (by omega) (by omega) (by omega) (by omega) hj hi hn (flAt_congr hr2 (hb.block _ zb)))
  obtain ⟨cF, fF, zF⟩ := blkC K
  clear hk hr hr2 hb h1 h2 h3 h4 h5 hX1 hX2 hY1 hY2 hW1 hW2 hH2 hnn K ex ey hi hn hj i1 i2 i3 i4 hz
  go_enter Try.func89, Try.ntmps89
  go_wp2_with (first | (go_at_call 90; (with_reducible refine Calls.mono (AT.out _ ?_) ?_); exact (by repeat (first | exact Below.refl _ _ | refine Below.alloc ?_ (by first | omega | (simp; done) | (simp; omega)) _ | refine Below.setCell ?_ (by first | omega | (simp; done) | (simp; omega)) _ | refine Below.drew ?_)); rintro e w' ⟨rfl, rfl⟩))
  go_ret
  exact ⟨rfl, (by repeat (first | exact Below.refl _ _ | refine Below.alloc ?_ (by first | omega | (simp; done) | (simp; omega)) _ | refine Below.setCell ?_ (by first | omega | (simp; done) | (simp; omega)) _ | refine Below.drew ?_))⟩
end Go.Proofs.Ytihjemookgnafaa

/- Fill and Cut of the program, Cut of the reference. -/
namespace Go.Proofs.Ytihjemookgnafaa
open Go.RowKit Fl
set_option linter.unusedVariables false

/-- The error of Fill. -/
def filE (X Y W H : Int) (h : Nat) : Int := if checkR X Y W H = 0 then fldE 1 (fun _ => h) else checkR X Y W H

theorem le_one63 : 1 ≤ 9223372036854775807 := by decide
theorem flAt_one1 {w : World} {b h : Nat} (hb : w.heap[b]? = some (flObj h)) : FlAt w b 0 1 (fun _ => h) := by
  intro i hi
  obtain rfl : i = 0 := by omega
  rw [(blkC hb).1]; rfl

set_option maxHeartbeats 2000000 in
set_option maxRecDepth 100000 in
theorem fill_bad (X Y W H : Int) (h : Nat) (w : World) (hz : filE X Y W H h ≠ 0) :
    Calls Try.prog 25 #[reg X Y W H, .float .f32 h] w fun e w' => e = .returned (.tuple #[fldV 0 0 0 0 (.slice none 0 0), .int .i64 (filE X Y W H h)]) ∧ Below w.heap.size w w' := by
  have RC := Lib.hid (fun w => checkRegion_any X Y W H w)
  by_cases h0 : checkR X Y W H = 0
  · have e : filE X Y W H h = fldE 1 (fun _ => h) := by unfold filE; rw [if_pos h0]
    rw [e] at hz ⊢
    have CS := Lib.hid (fun bb W' (hb : W'.heap[bb]? = some (flObj h)) => CheckHeights_row bb 0 1 1 (fun _ => h) le_one63 W' (flAt_one1 hb))
    rw [h0] at RC
    have hzb : (fldE 1 (fun _ => h) != 0) = true := by simp [hz]
    generalize fldE 1 (fun _ => h) = er at *
    clear h0 e
    go_enter Try.func25, Try.ntmps25
    go_wp2_with (first | (go_at_call 15; refine (RC.out _).mono ?_; rintro e w' ⟨rfl, rfl⟩) | (go_at_call 75; refine (CS.out _ _ (by ((simp only [heap_alloc_get, heap_size_alloc, if_true]) <;> ((repeat' split) <;> first | rfl | omega)))).mono ?_; rintro e w3 ⟨rfl, rfl⟩))
    refine bodyPost_ret (v := .tuple #[fldV 0 0 0 0 (.slice none 0 0), .int .i64 er]) (by simp [results, Try.results25, go_sem]) rfl ?_
    exact ⟨rfl, (by repeat (first | exact Below.refl _ _ | refine Below.alloc ?_ (by first | omega | (simp; done) | (simp; omega)) _ | refine Below.setCell ?_ (by first | omega | (simp; done) | (simp; omega)) _ | refine Below.drew ?_))⟩
  · have e : filE X Y W H h = checkR X Y W H := by unfold filE; rw [if_neg h0]
    rw [e] at hz ⊢
    generalize checkR X Y W H = er at *
    have hzb : (er != 0) = true := by simp [hz]
    clear e
    go_enter Try.func25, Try.ntmps25
    go_wp2_with (first | (go_at_call 15; refine (RC.out _).mono ?_; rintro e w' ⟨rfl, rfl⟩))
    refine bodyPost_ret (v := .tuple #[fldV 0 0 0 0 (.slice none 0 0), .int .i64 er]) (by simp [results, Try.results25, go_sem]) rfl ?_
    exact ⟨rfl, (by repeat (first | exact Below.refl _ _ | refine Below.alloc ?_ (by first | omega | (simp; done) | (simp; omega)) _ | refine Below.setCell ?_ (by first | omega | (simp; done) | (simp; omega)) _ | refine Below.drew ?_))⟩

set_option maxHeartbeats 2000000 in
set_option maxRecDepth 100000 in
theorem fill_ok (X Y : Int) (W H n : Nat) (h : Nat) (w : World) (h0 : checkR X Y W H = 0) (hn : n = W * H) (hh : fldE 1 (fun _ => h) = 0) :
    Calls Try.prog 25 #[reg X Y W H, .float .f32 h] w (MadePost w X Y W H n (fun _ => h)) := by
  obtain ⟨b1, b2, b3, b4, b5, _⟩ := checkR_zero h0
  have en : ((W : Int) * (H : Int)) = (n : Int) := by rw [hn]; simp
  have hn2 : n ≤ 65536 := by omega
  have h1 : 1 ≤ n := by
    have := Nat.mul_pos (by omega : 0 < W) (by omega : 0 < H)
    omega
  have RC := Lib.hid (fun w => checkRegion_any X Y W H w)
  have CS := Lib.hid (fun bb W' (hb : W'.heap[bb]? = some (flObj h)) => CheckHeights_row bb 0 1 1 (fun _ => h) le_one63 W' (flAt_one1 hb))
  rw [hh] at CS
  rw [h0] at RC
  have BY := Lib.hid (fun W' p (hk : W'.heap[p]? = some (flObj h)) => byCell_any X Y W H n 77 _ (fun _ => h) W' enters_Fill1 (fill1_any n p h W' hk) en.symm h1 hn2)
  clear hh h0 hn b1 b2 b3 b4 b5 en hn2 h1
  go_enter Try.func25, Try.ntmps25
  go_wp2_with (first | (go_at_call 15; refine (RC.out _).mono ?_; rintro e w' ⟨rfl, rfl⟩) | (go_at_call 75; refine (CS.out _ _ (by ((simp only [heap_alloc_get, heap_size_alloc, if_true]) <;> ((repeat' split) <;> first | rfl | omega)))).mono ?_; rintro e w3 ⟨rfl, rfl⟩))
  refine (BY.out _ (w.heap.size + 1) (by ((simp only [heap_alloc_get, heap_size_alloc, if_true]) <;> ((repeat' split) <;> first | rfl | omega)))).mono ?_
  intro e w4 hmade
  rcases hmade with ⟨hall, b', cap', rfl, hb', hlt', hrow, hbel⟩ | ⟨hall, rfl, hbel⟩
  · have hS := Lib.hid (blkStay (b := w.heap.size + 1 + 1) (o := fldO 0 0 0 0 (.slice none 0 0)) (by ((simp only [heap_alloc_get, heap_size_alloc, if_true]) <;> ((repeat' split) <;> first | rfl | omega))) hbel)
    have hB : Below w.heap.size w w4 := Below.trans (by repeat (first | exact Below.refl _ _ | refine Below.alloc ?_ (by first | omega | (simp; done) | (simp; omega)) _ | refine Below.setCell ?_ (by first | omega | (simp; done) | (simp; omega)) _ | refine Below.drew ?_)) (Below.mono hbel (by simp; try omega))
    obtain ⟨cS, fS, zS⟩ := blkC hS.out
    have HB := Lib.hid hb'
    clear hb'
    go_wp2
    refine bodyPost_ret (v := .tuple #[fldV X Y W H (.slice (some ⟨b', 0, none⟩) n cap'), .int .i64 0]) (by simp [results, Try.results25, go_sem, cS]) rfl ?_
    have hb' := HB.out
    simp only [heap_size_alloc] at hb'
    exact .inl ⟨hall, b', cap', rfl, by omega, by rw [set5_size]; exact hlt', flAt_congr hrow (set5_heap w4 _ _ _ _ _ _ _ (by omega)), set5_below hB _ _ _ _ _ _ (by omega)⟩
  · have hS := Lib.hid (blkStay (b := w.heap.size + 1 + 1) (o := fldO 0 0 0 0 (.slice none 0 0)) (by ((simp only [heap_alloc_get, heap_size_alloc, if_true]) <;> ((repeat' split) <;> first | rfl | omega))) hbel)
    have hB : Below w.heap.size w w4 := Below.trans (by repeat (first | exact Below.refl _ _ | refine Below.alloc ?_ (by first | omega | (simp; done) | (simp; omega)) _ | refine Below.setCell ?_ (by first | omega | (simp; done) | (simp; omega)) _ | refine Below.drew ?_)) (Below.mono hbel (by simp; try omega))
    obtain ⟨cS, fS, zS⟩ := blkC hS.out
    go_wp2
    refine bodyPost_ret (v := .tuple #[fldV 0 0 0 0 (.slice none 0 0), .int .i64 3]) (by simp [results, Try.results25, go_sem, cS]) rfl ?_
    exact .inr ⟨hall, rfl, set5_below hB _ _ _ _ _ _ (by omega)⟩
end Go.Proofs.Ytihjemookgnafaa

/- Contracts of the regions' functions, continued: the reference's Grow; Common, Inside. -/
namespace Go.Proofs.Ytihjemookgnafaa
open Go.RowKit

set_option maxHeartbeats 1000000 in
theorem refGrow_any (x y ww hh n : Int) (w : World) :
    Calls Try.prog 18 #[reg x y ww hh, .int .i64 n] w fun e w' => e = .returned (.tuple #[growR x y ww hh n, .int .i64 (growE x y ww hh n)]) ∧ Below w.heap.size w w' := by
  by_cases h0 : checkR x y ww hh = 0
  · have H := Lib.hid h0
    obtain ⟨b1, b2, b3, b4, _, b6, b7, b8, b9⟩ := checkR_zero h0
    clear h0
    have hb : (checkR x y ww hh != 0) = false := by simp [H.out]
    by_cases hn : -512 ≤ n ∧ n ≤ 512
    · obtain ⟨n1, n2⟩ := hn
      have eE : growE x y ww hh n = checkR (x - n) (y - n) (ww + 2 * n) (hh + 2 * n) := by unfold growE; rw [if_pos H.out, if_neg (by omega)]
      have HE := Lib.hid eE
      clear eE
      by_cases h2 : checkR (x - n) (y - n) (ww + 2 * n) (hh + 2 * n) = 0
      · have H2 := Lib.hid h2
        have hb2 : (checkR (x - n) (y - n) (ww + 2 * n) (hh + 2 * n) != 0) = false := by simp [H2.out]
        clear h2
        go_enter Try.func18, Try.ntmps18
        go_wp2_with (first | (go_at_call 16; refine (refCheckRegion_any _ _ _ _ _).mono ?_; rintro e w' ⟨rfl, rfl⟩) | (go_at_call 74; refine (refGrown_any _ _ _ _ _ _ (by omega) (by omega) (by omega) (by omega) (by omega) (by omega) (by omega) (by omega) (by omega) (by omega)).mono ?_; rintro e w' ⟨rfl, hb⟩; obtain ⟨hc, hf⟩ := bcell hb; have hzhb := Below.size hb; simp at hzhb; have hzhb0 : w.heap.size < w'.heap.size := (by omega); have hzhb1 : w.heap.size + 1 < w'.heap.size := (by omega); clear hzhb))
        refine bodyPost_ret (v := .tuple #[reg (x - n) (y - n) (ww + 2 * n) (hh + 2 * n), .int .i64 0]) (by simp [results, Try.results18, go_sem, hc, hzhb0, hzhb1]) rfl ⟨?_, (by repeat (first | exact Below.refl _ _ | refine Below.alloc ?_ (by first | omega | (simp; done) | (simp; omega)) _ | refine Below.setCell ?_ (by first | omega | (simp; done) | (simp; omega)) _ | refine Below.drew ?_ | refine Below.trans ?_ (Below.mono hb (by first | omega | (simp; done) | (simp; omega)))))⟩
        unfold growR; rw [HE.out, if_pos H2.out, H2.out]
      · have H2 := Lib.hid h2
        have hb2 : (checkR (x - n) (y - n) (ww + 2 * n) (hh + 2 * n) != 0) = true := by simp [h2]
        clear h2
        go_enter Try.func18, Try.ntmps18
        go_wp2_with (first | (go_at_call 16; refine (refCheckRegion_any _ _ _ _ _).mono ?_; rintro e w' ⟨rfl, rfl⟩) | (go_at_call 74; refine (refGrown_any _ _ _ _ _ _ (by omega) (by omega) (by omega) (by omega) (by omega) (by omega) (by omega) (by omega) (by omega) (by omega)).mono ?_; rintro e w' ⟨rfl, hb⟩; obtain ⟨hc, hf⟩ := bcell hb; have hzhb := Below.size hb; simp at hzhb; have hzhb0 : w.heap.size < w'.heap.size := (by omega); have hzhb1 : w.heap.size + 1 < w'.heap.size := (by omega); clear hzhb))
        refine bodyPost_ret (v := .tuple #[reg 0 0 0 0, .int .i64 (checkR (x - n) (y - n) (ww + 2 * n) (hh + 2 * n))]) (by simp [results, Try.results18, go_sem, hc, hzhb0, hzhb1]) rfl ⟨?_, (by repeat (first | exact Below.refl _ _ | refine Below.alloc ?_ (by first | omega | (simp; done) | (simp; omega)) _ | refine Below.setCell ?_ (by first | omega | (simp; done) | (simp; omega)) _ | refine Below.drew ?_ | refine Below.trans ?_ (Below.mono hb (by first | omega | (simp; done) | (simp; omega)))))⟩
        unfold growR; rw [HE.out, if_neg H2.out]
    · rcases (show n < -512 ∨ (-512 ≤ n ∧ 512 < n) by omega) with hn1 | ⟨hn1, hn2⟩
      all_goals
        go_enter Try.func18, Try.ntmps18
        go_wp2_with (first | (go_at_call 16; refine (refCheckRegion_any _ _ _ _ _).mono ?_; rintro e w' ⟨rfl, rfl⟩))
        refine bodyPost_ret (v := .tuple #[reg 0 0 0 0, .int .i64 3]) (by simp [results, Try.results18, go_sem]) rfl ⟨?_, (by repeat (first | exact Below.refl _ _ | refine Below.alloc ?_ (by first | omega | (simp; done) | (simp; omega)) _ | refine Below.setCell ?_ (by first | omega | (simp; done) | (simp; omega)) _ | refine Below.drew ?_))⟩
        have e : growE x y ww hh n = 3 := by unfold growE; rw [if_pos H.out, if_pos (by omega)]
        unfold growR; rw [e]; rfl
  · have H := Lib.hid h0
    have hb : (checkR x y ww hh != 0) = true := by simp [h0]
    clear h0
    go_enter Try.func18, Try.ntmps18
    go_wp2_with (first | (go_at_call 16; refine (refCheckRegion_any _ _ _ _ _).mono ?_; rintro e w' ⟨rfl, rfl⟩))
    refine bodyPost_ret (v := .tuple #[reg 0 0 0 0, .int .i64 (checkR x y ww hh)]) (by simp [results, Try.results18, go_sem]) rfl ⟨?_, (by repeat (first | exact Below.refl _ _ | refine Below.alloc ?_ (by first | omega | (simp; done) | (simp; omega)) _ | refine Below.setCell ?_ (by first | omega | (simp; done) | (simp; omega)) _ | refine Below.drew ?_))⟩
    have e : growE x y ww hh n = checkR x y ww hh := by unfold growE; rw [if_neg H.out]
    unfold growR; rw [e, if_neg H.out]


set_option maxHeartbeats 1000000 in
theorem landed_any (w : World) : Calls Try.prog 14 #[] w fun e w' => e = .returned (.bool true) ∧ Below w.heap.size w w' := by
  go_enter Try.func14, Try.ntmps14
  go_wp2
  go_ret
  exact ⟨rfl, (by repeat (first | exact Below.refl _ _ | refine Below.alloc ?_ (by first | omega | (simp; done) | (simp; omega)) _ | refine Below.setCell ?_ (by first | omega | (simp; done) | (simp; omega)) _ | refine Below.drew ?_))⟩

def insideB (x y w h x' y' w' h' : Int) : Bool := decide (x' ≤ x) && decide (y' ≤ y) && decide (x + w ≤ x' + w') && decide (y + h ≤ y' + h')
theorem insideB_iff {x y w h x' y' w' h' : Int} : insideB x y w h x' y' w' h' = true ↔ x' ≤ x ∧ y' ≤ y ∧ x + w ≤ x' + w' ∧ y + h ≤ y' + h' := by simp [insideB]; omega

set_option maxHeartbeats 1000000 in
theorem inside_any (x y ww hh x' y' ww' hh' : Int) (w : World) (a1 : -1073741824 ≤ x) (a2 : x ≤ 1073741824) (a3 : -1073741824 ≤ y) (a4 : y ≤ 1073741824) (a5 : 1 ≤ ww) (a6 : ww ≤ 1073741824) (a7 : 1 ≤ hh) (a8 : hh ≤ 1073741824)
    (b1 : -1073741824 ≤ x') (b2 : x' ≤ 1073741824) (b3 : -1073741824 ≤ y') (b4 : y' ≤ 1073741824) (b5 : 1 ≤ ww') (b6 : ww' ≤ 1073741824) (b7 : 1 ≤ hh') (b8 : hh' ≤ 1073741824) :
    Calls Try.prog 22 #[reg x y ww hh, reg x' y' ww' hh'] w fun e w' => e = .returned (.bool (insideB x y ww hh x' y' ww' hh')) ∧ Below w.heap.size w w' := by
  go_enter Try.func22, Try.ntmps22
  go_wp2
  all_goals go_ret
  all_goals refine ⟨ret_bool ?_, (by repeat (first | exact Below.refl _ _ | refine Below.alloc ?_ (by first | omega | (simp; done) | (simp; omega)) _ | refine Below.setCell ?_ (by first | omega | (simp; done) | (simp; omega)) _ | refine Below.drew ?_))⟩
  all_goals simp [insideB, *]
  all_goals omega

end Go.Proofs.Ytihjemookgnafaa

/- Contracts of the regions' functions, continued: the reference's Inside; Common. -/
namespace Go.Proofs.Ytihjemookgnafaa
open Go.RowKit

set_option maxHeartbeats 1000000 in
theorem refInside_any (x y ww hh x' y' ww' hh' : Int) (w : World) (_ : -1073741824 ≤ x) (_ : x ≤ 1073741824) (_ : -1073741824 ≤ y) (_ : y ≤ 1073741824) (a5 : 1 ≤ ww) (a6 : ww ≤ 1073741824) (a7 : 1 ≤ hh) (a8 : hh ≤ 1073741824)
    (b1 : -1073741824 ≤ x') (b2 : x' ≤ 1073741824) (b3 : -1073741824 ≤ y') (b4 : y' ≤ 1073741824) (b5 : 1 ≤ ww') (b6 : ww' ≤ 1073741824) (b7 : 1 ≤ hh') (b8 : hh' ≤ 1073741824) :
    Calls Try.prog 23 #[reg x y ww hh, reg x' y' ww' hh'] w fun e w' => e = .returned (.bool (insideB x y ww hh x' y' ww' hh')) ∧ Below w.heap.size w w' := by
  go_enter Try.func23, Try.ntmps23
  go_wp2
  all_goals go_ret
  all_goals refine ⟨ret_bool ?_, (by repeat (first | exact Below.refl _ _ | refine Below.alloc ?_ (by first | omega | (simp; done) | (simp; omega)) _ | refine Below.setCell ?_ (by first | omega | (simp; done) | (simp; omega)) _ | refine Below.drew ?_))⟩
  all_goals (rw [Bool.eq_iff_iff, insideB_iff]; simp; omega)


set_option maxHeartbeats 1000000 in
theorem small_any (x y ww hh : Int) (w : World) :
    Calls Try.prog 19 #[reg x y ww hh] w fun e w' => e = .returned (.bool (decide (1 ≤ ww ∧ ww ≤ 1073741824 ∧ 1 ≤ hh ∧ hh ≤ 1073741824 ∧ -1073741824 ≤ x ∧ -1073741824 ≤ y ∧ x ≤ 1073741824 ∧ y ≤ 1073741824))) ∧ Below w.heap.size w w' := by
  go_enter Try.func19, Try.ntmps19
  go_wp2
  all_goals go_ret
  all_goals refine ⟨ret_bool ?_, (by repeat (first | exact Below.refl _ _ | refine Below.alloc ?_ (by first | omega | (simp; done) | (simp; omega)) _ | refine Below.setCell ?_ (by first | omega | (simp; done) | (simp; omega)) _ | refine Below.drew ?_))⟩
  all_goals (rw [Bool.eq_iff_iff]; simp; omega)

def maxI (a b : Int) : Int := if a < b then b else a
def minI (a b : Int) : Int := if b < a then b else a
theorem maxI_le (a b : Int) : a ≤ maxI a b ∧ b ≤ maxI a b ∧ (maxI a b = a ∨ maxI a b = b) := by unfold maxI; split <;> omega
theorem minI_le (a b : Int) : minI a b ≤ a ∧ minI a b ≤ b ∧ (minI a b = a ∨ minI a b = b) := by unfold minI; split <;> omega

/-- What Common answers. -/
def comB (x y w h x' y' w' h' : Int) : Bool := decide (1 ≤ minI (x + w) (x' + w') - maxI x x') && decide (1 ≤ minI (y + h) (y' + h') - maxI y y')
def comR (x y w h x' y' w' h' : Int) : Value :=
  if comB x y w h x' y' w' h' then reg (maxI x x') (maxI y y') (minI (x + w) (x' + w') - maxI x x') (minI (y + h) (y' + h') - maxI y y') else reg 0 0 0 0
theorem comB_iff {x y w h x' y' w' h' : Int} : comB x y w h x' y' w' h' = true ↔ 1 ≤ minI (x + w) (x' + w') - maxI x x' ∧ 1 ≤ minI (y + h) (y' + h') - maxI y y' := by simp [comB]
theorem comB_no {x y w h x' y' w' h' : Int} : comB x y w h x' y' w' h' = false ↔ minI (x + w) (x' + w') - maxI x x' < 1 ∨ minI (y + h) (y' + h') - maxI y y' < 1 := by
  rw [← Bool.not_eq_true, comB_iff]; omega

set_option maxHeartbeats 1000000 in
theorem common_any (x y ww hh x' y' ww' hh' : Int) (w : World) (a1 : -1073741824 ≤ x) (a2 : x ≤ 1073741824) (a3 : -1073741824 ≤ y) (a4 : y ≤ 1073741824) (a5 : 1 ≤ ww) (a6 : ww ≤ 1073741824) (a7 : 1 ≤ hh) (a8 : hh ≤ 1073741824)
    (b1 : -1073741824 ≤ x') (b2 : x' ≤ 1073741824) (b3 : -1073741824 ≤ y') (b4 : y' ≤ 1073741824) (b5 : 1 ≤ ww') (b6 : ww' ≤ 1073741824) (b7 : 1 ≤ hh') (b8 : hh' ≤ 1073741824) :
    Calls Try.prog 20 #[reg x y ww hh, reg x' y' ww' hh'] w fun e w' => e = .returned (.tuple #[comR x y ww hh x' y' ww' hh', .bool (comB x y ww hh x' y' ww' hh')]) ∧ Below w.heap.size w w' := by
  have hx : (if x < x' then x' else x) = maxI x x' := rfl
  have hy : (if y < y' then y' else y) = maxI y y' := rfl
  have ex : (if x' + ww' < x + ww then x' + ww' else x + ww) = minI (x + ww) (x' + ww') := rfl
  have ey : (if y' + hh' < y + hh then y' + hh' else y + hh) = minI (y + hh) (y' + hh') := rfl
  obtain ⟨x1, x2, x3⟩ := maxI_le x x'
  obtain ⟨y1, y2, y3⟩ := maxI_le y y'
  obtain ⟨x4, x5, x6⟩ := minI_le (x + ww) (x' + ww')
  obtain ⟨y4, y5, y6⟩ := minI_le (y + hh) (y' + hh')
  have x7 : -1073741824 ≤ maxI x x' ∧ maxI x x' ≤ 1073741824 ∧ -1073741824 ≤ minI (x + ww) (x' + ww') ∧ minI (x + ww) (x' + ww') ≤ 2147483648 := by omega
  have y7 : -1073741824 ≤ maxI y y' ∧ maxI y y' ≤ 1073741824 ∧ -1073741824 ≤ minI (y + hh) (y' + hh') ∧ minI (y + hh) (y' + hh') ≤ 2147483648 := by omega
  clear x3 y3 x6 y6
  obtain ⟨x7, x8, x9, xa⟩ := x7
  obtain ⟨y7, y8, y9, ya⟩ := y7
  rcases (show (1 ≤ minI (x + ww) (x' + ww') - maxI x x' ∧ 1 ≤ minI (y + hh) (y' + hh') - maxI y y') ∨ (1 ≤ minI (x + ww) (x' + ww') - maxI x x' ∧ minI (y + hh) (y' + hh') - maxI y y' < 1) ∨ minI (x + ww) (x' + ww') - maxI x x' < 1 by omega) with ⟨t1, t2⟩ | ⟨t1, t2⟩ | t1
  · have hb : comB x y ww hh x' y' ww' hh' = true := comB_iff.2 ⟨t1, t2⟩
    have hr : comR x y ww hh x' y' ww' hh' = reg (maxI x x') (maxI y y') (minI (x + ww) (x' + ww') - maxI x x') (minI (y + hh) (y' + hh') - maxI y y') := by unfold comR; rw [if_pos hb]
    rw [hb, hr]
    clear hb hr
    go_enter Try.func20, Try.ntmps20
    go_wp2
    go_region
    go_wp2
    exact bodyPost_ret (v := .tuple #[reg (maxI x x') (maxI y y') (minI (x + ww) (x' + ww') - maxI x x') (minI (y + hh) (y' + hh') - maxI y y'), .bool true]) (by simp [results, Try.results20, go_sem]) rfl ⟨rfl, (by repeat (first | exact Below.refl _ _ | refine Below.alloc ?_ (by first | omega | (simp; done) | (simp; omega)) _ | refine Below.setCell ?_ (by first | omega | (simp; done) | (simp; omega)) _ | refine Below.drew ?_))⟩
  all_goals
    have hb : comB x y ww hh x' y' ww' hh' = false := comB_no.2 (by omega)
    have hr : comR x y ww hh x' y' ww' hh' = reg 0 0 0 0 := by unfold comR; rw [hb]; rfl
    rw [hb, hr]
    clear hb hr
    go_enter Try.func20, Try.ntmps20
    go_wp2
    go_region
    go_wp2
    exact bodyPost_ret (v := .tuple #[reg 0 0 0 0, .bool false]) (by simp [results, Try.results20, go_sem]) rfl ⟨rfl, (by repeat (first | exact Below.refl _ _ | refine Below.alloc ?_ (by first | omega | (simp; done) | (simp; omega)) _ | refine Below.setCell ?_ (by first | omega | (simp; done) | (simp; omega)) _ | refine Below.drew ?_))⟩

set_option maxHeartbeats 1000000 in
theorem refCommon_any (x y ww hh x' y' ww' hh' : Int) (w : World) (a1 : -1073741824 ≤ x) (a2 : x ≤ 1073741824) (a3 : -1073741824 ≤ y) (a4 : y ≤ 1073741824) (a5 : 1 ≤ ww) (a6 : ww ≤ 1073741824) (a7 : 1 ≤ hh) (a8 : hh ≤ 1073741824)
    (b1 : -1073741824 ≤ x') (b2 : x' ≤ 1073741824) (b3 : -1073741824 ≤ y') (b4 : y' ≤ 1073741824) (b5 : 1 ≤ ww') (b6 : ww' ≤ 1073741824) (b7 : 1 ≤ hh') (b8 : hh' ≤ 1073741824) :
    Calls Try.prog 21 #[reg x y ww hh, reg x' y' ww' hh'] w fun e w' => e = .returned (.tuple #[comR x y ww hh x' y' ww' hh', .bool (comB x y ww hh x' y' ww' hh')]) ∧ Below w.heap.size w w' := by
  have hx : (if x < x' then x' else x) = maxI x x' := rfl
  have hy : (if y < y' then y' else y) = maxI y y' := rfl
  have ex : (if x' + ww' < x + ww then x' + ww' else x + ww) = minI (x + ww) (x' + ww') := rfl
  have ey : (if y' + hh' < y + hh then y' + hh' else y + hh) = minI (y + hh) (y' + hh') := rfl
  obtain ⟨x1, x2, x3⟩ := maxI_le x x'
  obtain ⟨y1, y2, y3⟩ := maxI_le y y'
  obtain ⟨x4, x5, x6⟩ := minI_le (x + ww) (x' + ww')
  obtain ⟨y4, y5, y6⟩ := minI_le (y + hh) (y' + hh')
  have x7 : -1073741824 ≤ maxI x x' ∧ maxI x x' ≤ 1073741824 ∧ -1073741824 ≤ minI (x + ww) (x' + ww') ∧ minI (x + ww) (x' + ww') ≤ 2147483648 := by omega
  have y7 : -1073741824 ≤ maxI y y' ∧ maxI y y' ≤ 1073741824 ∧ -1073741824 ≤ minI (y + hh) (y' + hh') ∧ minI (y + hh) (y' + hh') ≤ 2147483648 := by omega
  clear x3 y3 x6 y6
  obtain ⟨x7, x8, x9, xa⟩ := x7
  obtain ⟨y7, y8, y9, ya⟩ := y7
  rcases (show (1 ≤ minI (x + ww) (x' + ww') - maxI x x' ∧ 1 ≤ minI (y + hh) (y' + hh') - maxI y y') ∨ (1 ≤ minI (x + ww) (x' + ww') - maxI x x' ∧ minI (y + hh) (y' + hh') - maxI y y' < 1) ∨ minI (x + ww) (x' + ww') - maxI x x' < 1 by omega) with ⟨t1, t2⟩ | ⟨t1, t2⟩ | t1
  · have hb : comB x y ww hh x' y' ww' hh' = true := comB_iff.2 ⟨t1, t2⟩
    have hr : comR x y ww hh x' y' ww' hh' = reg (maxI x x') (maxI y y') (minI (x + ww) (x' + ww') - maxI x x') (minI (y + hh) (y' + hh') - maxI y y') := by unfold comR; rw [if_pos hb]
    rw [hb, hr]
    clear hb hr
    go_enter Try.func21, Try.ntmps21
    go_wp2
    go_region
    go_wp2
    exact bodyPost_ret (v := .tuple #[reg (maxI x x') (maxI y y') (minI (x + ww) (x' + ww') - maxI x x') (minI (y + hh) (y' + hh') - maxI y y'), .bool true]) (by simp [results, Try.results21, go_sem]) rfl ⟨rfl, (by repeat (first | exact Below.refl _ _ | refine Below.alloc ?_ (by first | omega | (simp; done) | (simp; omega)) _ | refine Below.setCell ?_ (by first | omega | (simp; done) | (simp; omega)) _ | refine Below.drew ?_))⟩
  all_goals
    have hb : comB x y ww hh x' y' ww' hh' = false := comB_no.2 (by omega)
    have hr : comR x y ww hh x' y' ww' hh' = reg 0 0 0 0 := by unfold comR; rw [hb]; rfl
    rw [hb, hr]
    clear hb hr
    go_enter Try.func21, Try.ntmps21
    go_wp2
    go_region
    go_wp2
    exact bodyPost_ret (v := .tuple #[reg 0 0 0 0, .bool false]) (by simp [results, Try.results21, go_sem]) rfl ⟨rfl, (by repeat (first | exact Below.refl _ _ | refine Below.alloc ?_ (by first | omega | (simp; done) | (simp; omega)) _ | refine Below.setCell ?_ (by first | omega | (simp; done) | (simp; omega)) _ | refine Below.drew ?_))⟩

end Go.Proofs.Ytihjemookgnafaa

/- Cut of the program and of the reference. -/
namespace Go.Proofs.Ytihjemookgnafaa
open Go.RowKit Fl
set_option linter.unusedVariables false

/-- The error of Cut of a right field. -/
def cutE (X Y W H X' Y' W' H' : Int) : Int := if checkR X' Y' W' H' = 0 then (if insideB X' Y' W' H' X Y W H then 0 else 5) else checkR X' Y' W' H'

set_option maxHeartbeats 2000000 in
theorem cut_bad (X Y : Int) (W H n b cap : Nat) (v : Nat → Nat) (X' Y' W1 H1 er : Int) (w : World) (h0 : checkR X Y W H = 0) (hn : n = W * H) (hc : FlAt w b 0 n v) (hh : allB n (fun i => hgtB (v i)) = true) (he : cutE X Y W H X' Y' W1 H1 = er) (hz : er ≠ 0) :
    Calls Try.prog 30 #[fldV X Y W H (.slice (some ⟨b, 0, none⟩) n cap), reg X' Y' W1 H1] w fun e w' => e = .returned (.tuple #[fldV 0 0 0 0 (.slice none 0 0), .int .i64 er]) ∧ Below w.heap.size w w' := by
  obtain ⟨b1, b2, b3, b4, b5, b6, b7, b8, b9⟩ := checkR_zero h0
  have h1 : 1 ≤ n := by
    have := Nat.mul_pos (by omega : 0 < W) (by omega : 0 < H)
    omega
  have hlt : b < w.heap.size := World.block_lt_of_cell? w _ (hc 0 h1)
  have CK := Lib.hid (fun W' (hb : Below w.heap.size w W') => check_ok X Y W H n b cap v W' h0 hn (flAt_congr hc (hb.block _ hlt)) hh)
  have RC := Lib.hid (fun w => checkRegion_any X' Y' W1 H1 w)
  unfold cutE at he
  by_cases h0' : checkR X' Y' W1 H1 = 0
  · obtain ⟨c1, c2, c3, c4, c5, c6, c7, c8, c9⟩ := checkR_zero h0'
    have IN := Lib.hid (fun w => inside_any X' Y' W1 H1 X Y W H w (by omega) (by omega) (by omega) (by omega) (by omega) (by omega) (by omega) (by omega) (by omega) (by omega) (by omega) (by omega) (by omega) (by omega) (by omega) (by omega))
    rw [if_pos h0'] at he
    rw [h0'] at RC
    cases hi : insideB X' Y' W1 H1 X Y W H with
    | true => rw [hi] at he; simp at he; omega
    | false =>
      rw [hi] at he IN
      simp at he
      subst he
      clear hc hn h0 hh h0' hi hz b1 b2 b3 b4 b5 b6 b7 b8 b9 c1 c2 c3 c4 c5 c6 c7 c8 c9 h1 hlt
      go_enter Try.func30, Try.ntmps30
      go_wp2_with (first | (go_at_call 82; refine (CK.out _ (by repeat (first | exact Below.refl _ _ | refine Below.alloc ?_ (by first | omega | (simp; done) | (simp; omega)) _ | refine Below.setCell ?_ (by first | omega | (simp; done) | (simp; omega)) _ | refine Below.drew ?_))).mono ?_; rintro e w2 ⟨rfl, hb2⟩; have HF2 := Lib.hid (blkStay (b := w.heap.size) (o := fldO X Y W H (.slice (some ⟨b, 0, none⟩) n cap)) (by ((simp only [heap_alloc_get, heap_size_alloc, if_true]) <;> ((repeat' split) <;> first | rfl | omega))) hb2); have HR2 := Lib.hid (blkStay (b := w.heap.size + 1) (o := regObj X' Y' W1 H1) (by ((simp only [heap_alloc_get, heap_size_alloc, if_true]) <;> ((repeat' split) <;> first | rfl | omega))) hb2); have HS2 := Lib.hid (blkStay (b := w.heap.size + 1 + 1) (o := fldO 0 0 0 0 (.slice none 0 0)) (by ((simp only [heap_alloc_get, heap_size_alloc, if_true]) <;> ((repeat' split) <;> first | rfl | omega))) hb2); have hB2 : Below w.heap.size w w2 := Below.trans (by repeat (first | exact Below.refl _ _ | refine Below.alloc ?_ (by first | omega | (simp; done) | (simp; omega)) _ | refine Below.setCell ?_ (by first | omega | (simp; done) | (simp; omega)) _ | refine Below.drew ?_)) (Below.mono hb2 (by first | omega | (simp; done) | (simp; omega))); obtain ⟨cF, fF, zF⟩ := blkC HF2.out; obtain ⟨cR, fR, zR⟩ := blkC HR2.out; clear hb2) | (go_at_call 15; refine (RC.out _).mono ?_; rintro e w3 ⟨rfl, hw3⟩; have hb23 : Below w2.heap.size w2 w3 := (by rw [hw3]; exact (by repeat (first | exact Below.refl _ _ | refine Below.alloc ?_ (by first | omega | (simp; done) | (simp; omega)) _ | refine Below.setCell ?_ (by first | omega | (simp; done) | (simp; omega)) _ | refine Below.drew ?_))); clear hw3 cR fR zR cF fF zF; have HF3 := Lib.hid (blkStay HF2.out hb23); have HR3 := Lib.hid (blkStay HR2.out hb23); have HS3 := Lib.hid (blkStay HS2.out hb23); have hB3 := hB2.trans (hb23.mono hB2.size); clear hb23 hB2 HF2 HR2 HS2; obtain ⟨cR, fR, zR⟩ := blkC HR3.out; obtain ⟨cF, fF, zF⟩ := blkC HF3.out; obtain ⟨cS, fS, zS⟩ := blkC HS3.out) | (go_at_call 22; refine (IN.out _).mono ?_; rintro e w4 ⟨rfl, hb4⟩; have hB4 := hB3.trans (hb4.mono hB3.size); have HS4 := Lib.hid (blkStay HS3.out hb4); clear cS fS zS; obtain ⟨cS, fS, zS⟩ := blkC HS4.out))
      refine bodyPost_ret (v := .tuple #[fldV 0 0 0 0 (.slice none 0 0), .int .i64 5]) (by simp [results, Try.results30, go_sem, cS]) rfl ?_
      exact ⟨rfl, set5_below hB4 _ _ _ _ _ _ (by omega)⟩
  · rw [if_neg h0'] at he
    rw [he] at RC
    have hzb : (er != 0) = true := by simp [hz]
    clear hc hn h0 hh h0' hz b1 b2 b3 b4 b5 b6 b7 b8 b9 h1 hlt he
    go_enter Try.func30, Try.ntmps30
    go_wp2_with (first | (go_at_call 82; refine (CK.out _ (by repeat (first | exact Below.refl _ _ | refine Below.alloc ?_ (by first | omega | (simp; done) | (simp; omega)) _ | refine Below.setCell ?_ (by first | omega | (simp; done) | (simp; omega)) _ | refine Below.drew ?_))).mono ?_; rintro e w2 ⟨rfl, hb2⟩; have HF2 := Lib.hid (blkStay (b := w.heap.size) (o := fldO X Y W H (.slice (some ⟨b, 0, none⟩) n cap)) (by ((simp only [heap_alloc_get, heap_size_alloc, if_true]) <;> ((repeat' split) <;> first | rfl | omega))) hb2); have HR2 := Lib.hid (blkStay (b := w.heap.size + 1) (o := regObj X' Y' W1 H1) (by ((simp only [heap_alloc_get, heap_size_alloc, if_true]) <;> ((repeat' split) <;> first | rfl | omega))) hb2); have HS2 := Lib.hid (blkStay (b := w.heap.size + 1 + 1) (o := fldO 0 0 0 0 (.slice none 0 0)) (by ((simp only [heap_alloc_get, heap_size_alloc, if_true]) <;> ((repeat' split) <;> first | rfl | omega))) hb2); have hB2 : Below w.heap.size w w2 := Below.trans (by repeat (first | exact Below.refl _ _ | refine Below.alloc ?_ (by first | omega | (simp; done) | (simp; omega)) _ | refine Below.setCell ?_ (by first | omega | (simp; done) | (simp; omega)) _ | refine Below.drew ?_)) (Below.mono hb2 (by first | omega | (simp; done) | (simp; omega))); obtain ⟨cR, fR, zR⟩ := blkC HR2.out; clear hb2) | (go_at_call 15; refine (RC.out _).mono ?_; rintro e w3 ⟨rfl, hw3⟩; have hb23 : Below w2.heap.size w2 w3 := (by rw [hw3]; exact (by repeat (first | exact Below.refl _ _ | refine Below.alloc ?_ (by first | omega | (simp; done) | (simp; omega)) _ | refine Below.setCell ?_ (by first | omega | (simp; done) | (simp; omega)) _ | refine Below.drew ?_))); clear hw3 cR fR zR; have HS3 := Lib.hid (blkStay HS2.out hb23); have hB3 := hB2.trans (hb23.mono hB2.size); clear hb23 hB2 HF2 HR2 HS2; obtain ⟨cS, fS, zS⟩ := blkC HS3.out))
    refine bodyPost_ret (v := .tuple #[fldV 0 0 0 0 (.slice none 0 0), .int .i64 er]) (by simp [results, Try.results30, go_sem, cS]) rfl ?_
    exact ⟨rfl, set5_below hB3 _ _ _ _ _ _ (by omega)⟩

set_option maxHeartbeats 2000000 in
theorem cut_ok (X Y : Int) (W H n b cap : Nat) (v : Nat → Nat) (X' Y' : Int) (W1 H1 n1 : Nat) (w : World) (h0 : checkR X Y W H = 0) (hn : n = W * H) (hc : FlAt w b 0 n v) (hh : allB n (fun i => hgtB (v i)) = true) (he : cutE X Y W H X' Y' W1 H1 = 0) (hn1 : n1 = H1 * W1) :
    Calls Try.prog 30 #[fldV X Y W H (.slice (some ⟨b, 0, none⟩) n cap), reg X' Y' W1 H1] w (MadePost w X' Y' W1 H1 n1 (cutF v X Y W X' Y' W1)) := by
  obtain ⟨b1, b2, b3, b4, b5, b6, b7, b8, b9⟩ := checkR_zero h0
  have h1 : 1 ≤ n := by
    have := Nat.mul_pos (by omega : 0 < W) (by omega : 0 < H)
    omega
  have hlt : b < w.heap.size := World.block_lt_of_cell? w _ (hc 0 h1)
  have en : ((W : Int) * (H : Int)) = (n : Int) := by rw [hn]; simp
  have hn2 : n ≤ 65536 := by omega
  unfold cutE at he
  by_cases h0' : checkR X' Y' W1 H1 = 0
  · obtain ⟨c1, c2, c3, c4, c5, c6, c7, c8, c9⟩ := checkR_zero h0'
    rw [if_pos h0'] at he
    cases hi : insideB X' Y' W1 H1 X Y W H with
    | false => rw [hi] at he; simp at he
    | true =>
      obtain ⟨i1, i2, i3, i4⟩ := insideB_iff.1 hi
      have CK := Lib.hid (fun W' (hb : Below w.heap.size w W') => check_ok X Y W H n b cap v W' h0 hn (flAt_congr hc (hb.block _ hlt)) hh)
      have RC := Lib.hid (fun w => checkRegion_any X' Y' W1 H1 w)
      rw [h0'] at RC
      have IN := Lib.hid (fun w => inside_any X' Y' W1 H1 X Y W H w (by omega) (by omega) (by omega) (by omega) (by omega) (by omega) (by omega) (by omega) (by omega) (by omega) (by omega) (by omega) (by omega) (by omega) (by omega) (by omega))
      rw [hi] at IN
      have en1 : ((W1 : Int) * (H1 : Int)) = (n1 : Int) := by rw [hn1, Nat.mul_comm]; simp
      have BP := Lib.hid (fun W' p (hk : W'.heap[p]? = some (fldO X Y W H (.slice (some ⟨b, 0, none⟩) n cap))) (hb : Below w.heap.size w W') => byPlace_any X' Y' W1 H1 n1 84 #[.pointer (some ⟨p, 0, none⟩)] (cutF v X Y W X' Y' W1) W' enters_Cut1 (cut1_any X Y W H n b cap v p X' Y' W1 H1 W' hk (flAt_congr hc (hb.block _ hlt)) h1 hn2 (by omega) (by omega) (by omega) (by omega) (by omega) (by omega) (by omega) (by rw [hn]; exact Nat.mul_comm _ _) (by omega) i1 i2 i3 i4) (by omega) (by omega) (by omega) (by omega) (by omega) (by omega) (by omega) (by omega) hn1 (by omega))
      clear hc hn h0 hh h0' hi he b1 b2 b3 b4 b5 b6 b7 b8 b9 c1 c2 c3 c4 c5 c6 c7 c8 c9 h1 hlt en hn2 en1 i1 i2 i3 i4 hn1
      go_enter Try.func30, Try.ntmps30
      go_wp2_with (first | (go_at_call 82; refine (CK.out _ (by repeat (first | exact Below.refl _ _ | refine Below.alloc ?_ (by first | omega | (simp; done) | (simp; omega)) _ | refine Below.setCell ?_ (by first | omega | (simp; done) | (simp; omega)) _ | refine Below.drew ?_))).mono ?_; rintro e w2 ⟨rfl, hb2⟩; have HF2 := Lib.hid (blkStay (b := w.heap.size) (o := fldO X Y W H (.slice (some ⟨b, 0, none⟩) n cap)) (by ((simp only [heap_alloc_get, heap_size_alloc, if_true]) <;> ((repeat' split) <;> first | rfl | omega))) hb2); have HR2 := Lib.hid (blkStay (b := w.heap.size + 1) (o := regObj X' Y' W1 H1) (by ((simp only [heap_alloc_get, heap_size_alloc, if_true]) <;> ((repeat' split) <;> first | rfl | omega))) hb2); have HS2 := Lib.hid (blkStay (b := w.heap.size + 1 + 1) (o := fldO 0 0 0 0 (.slice none 0 0)) (by ((simp only [heap_alloc_get, heap_size_alloc, if_true]) <;> ((repeat' split) <;> first | rfl | omega))) hb2); have hB2 : Below w.heap.size w w2 := Below.trans (by repeat (first | exact Below.refl _ _ | refine Below.alloc ?_ (by first | omega | (simp; done) | (simp; omega)) _ | refine Below.setCell ?_ (by first | omega | (simp; done) | (simp; omega)) _ | refine Below.drew ?_)) (Below.mono hb2 (by first | omega | (simp; done) | (simp; omega))); obtain ⟨cF, fF, zF⟩ := blkC HF2.out; obtain ⟨cR, fR, zR⟩ := blkC HR2.out; clear hb2) | (go_at_call 15; refine (RC.out _).mono ?_; rintro e w3 ⟨rfl, hw3⟩; have hb23 : Below w2.heap.size w2 w3 := (by rw [hw3]; exact (by repeat (first | exact Below.refl _ _ | refine Below.alloc ?_ (by first | omega | (simp; done) | (simp; omega)) _ | refine Below.setCell ?_ (by first | omega | (simp; done) | (simp; omega)) _ | refine Below.drew ?_))); clear hw3 cR fR zR cF fF zF; have HF3 := Lib.hid (blkStay HF2.out hb23); have HR3 := Lib.hid (blkStay HR2.out hb23); have HS3 := Lib.hid (blkStay HS2.out hb23); have hB3 := hB2.trans (hb23.mono hB2.size); clear hb23 hB2 HF2 HR2 HS2; obtain ⟨cR, fR, zR⟩ := blkC HR3.out; obtain ⟨cF, fF, zF⟩ := blkC HF3.out; obtain ⟨cS, fS, zS⟩ := blkC HS3.out) | (go_at_call 22; refine (IN.out _).mono ?_; rintro e w4 ⟨rfl, hb4⟩; have hB4 := hB3.trans (hb4.mono hB3.size); have HS4 := Lib.hid (blkStay HS3.out hb4); have HF4 := Lib.hid (blkStay HF3.out hb4); have HR4 := Lib.hid (blkStay HR3.out hb4); clear cS fS zS cR fR zR cF fF zF; obtain ⟨cR, fR, zR⟩ := blkC HR4.out; obtain ⟨cF, fF, zF⟩ := blkC HF4.out))
      refine (BP.out w4 w.heap.size HF4.out hB4).mono ?_
      intro e w5 hmade
      rcases hmade with ⟨hall, b', cap', rfl, hb', hlt', hrow, hbel⟩ | ⟨hall, rfl, hbel⟩
      · have hS := Lib.hid (blkStay HS4.out hbel)
        obtain ⟨cS, fS, zS⟩ := blkC hS.out
        go_wp2
        refine bodyPost_ret (v := .tuple #[fldV X' Y' W1 H1 (.slice (some ⟨b', 0, none⟩) n1 cap'), .int .i64 0]) (by simp [results, Try.results30, go_sem, cS]) rfl ?_
        have z4 := hB4.size
        have zS4 := (blkC HS4.out).2.2
        exact .inl ⟨hall, b', cap', rfl, by omega, by rw [set5_size]; exact hlt', flAt_congr hrow (set5_heap w5 _ _ _ _ _ _ _ (by omega)), set5_below (hB4.trans (hbel.mono z4)) _ _ _ _ _ _ (by omega)⟩
      · have hS := Lib.hid (blkStay HS4.out hbel)
        obtain ⟨cS, fS, zS⟩ := blkC hS.out
        go_wp2
        refine bodyPost_ret (v := .tuple #[fldV 0 0 0 0 (.slice none 0 0), .int .i64 3]) (by simp [results, Try.results30, go_sem, cS]) rfl ?_
        exact .inr ⟨hall, rfl, set5_below (hB4.trans (hbel.mono hB4.size)) _ _ _ _ _ _ (by omega)⟩
  · rw [if_neg h0'] at he; exact absurd he h0'
end Go.Proofs.Ytihjemookgnafaa

/- Contracts: Same$1, EqualFunc, Same, same. -/
namespace Go.Proofs.Ytihjemookgnafaa
open Go.RowKit Fl
set_option linter.unusedVariables false

theorem enters_Same1 : Enters 87 := by intro args W; simp [callFunc, Try.func87, Try.f87]

set_option maxHeartbeats 400000 in
theorem same1_self (x : Nat) (w : World) :
    Calls Try.prog 87 #[.float .f32 x, .float .f32 x] w fun e w' => e = .returned (.bool true) ∧ w = w' := by
  have h1 := f32bits
  go_enter Try.func87, Try.ntmps87
  go_wp2
  go_ret
  exact ⟨rfl, rfl⟩

set_option maxHeartbeats 1000000 in
theorem equalFunc_row (b b' cap cap' n : Nat) (v : Nat → Nat) (hl : n ≤ 9223372036854775807) (w : World) (hc : FlAt w b 0 n v) (hc' : FlAt w b' 0 n v) :
    Calls Try.prog 86 #[.slice (some ⟨b, 0, none⟩) n cap, .slice (some ⟨b', 0, none⟩) n cap', .func (.func 87) #[] #[]] w fun e w' => e = .returned (.bool true) ∧ w = w' := by
  have hcall := enters_Same1
  unfold Enters at hcall
  go_enter Try.func86, Try.ntmps86
  go_wp2
  go_loop [17] (fun i => ∃ k : Nat, k ≤ n ∧ i = .int .i64 k) (fun i => n - (intOf i).toNat)
  case atStart => exact ⟨0, Nat.zero_le _, rfl⟩
  case round =>
    obtain ⟨k, hk, rfl⟩ := hrel
    by_cases hlt : k < n
    · have hcell := hc k hlt
      have hcell' := hc' k hlt
      rw [Nat.zero_add] at hcell hcell'
      have IH := Lib.hid (fun w => same1_self (v k) w)
      go_wp2_with fail
      refine (IH.out _).mono ?_
      rintro e w' ⟨rfl, rfl⟩
      go_wp2
      go_round
      case rel => exact ⟨k + 1, by omega, by go_num⟩
      case measure => simp [intOf]; omega
    · go_wp2
      go_ret
      exact ⟨rfl, rfl⟩

set_option maxHeartbeats 1000000 in
theorem same_ok (X Y W H : Int) (b b' cap cap' n : Nat) (v : Nat → Nat) (hl : n ≤ 9223372036854775807) (h1 : 1 ≤ n) (w : World) (hc : FlAt w b 0 n v) (hc' : FlAt w b' 0 n v) :
    Calls Try.prog 31 #[fldV X Y W H (.slice (some ⟨b, 0, none⟩) n cap), fldV X Y W H (.slice (some ⟨b', 0, none⟩) n cap')] w fun e w' => e = .returned (.bool true) ∧ Below w.heap.size w w' := by
  have z := World.block_lt_of_cell? w _ (hc 0 h1)
  have z' := World.block_lt_of_cell? w _ (hc' 0 h1)
  have EF := Lib.hid (fun W' (hb : Below w.heap.size w W') => equalFunc_row b b' cap cap' n v hl W' (flAt_congr hc (hb.block _ z)) (flAt_congr hc' (hb.block _ z')))
  clear hc hc'
  go_enter Try.func31, Try.ntmps31
  go_wp2_with (first | (go_at_call 86; refine (EF.out _ (by repeat (first | exact Below.refl _ _ | refine Below.alloc ?_ (by first | omega | (simp; done) | (simp; omega)) _ | refine Below.setCell ?_ (by first | omega | (simp; done) | (simp; omega)) _ | refine Below.drew ?_))).mono ?_; rintro e w' ⟨rfl, rfl⟩))
  go_ret
  exact ⟨rfl, (by repeat (first | exact Below.refl _ _ | refine Below.alloc ?_ (by first | omega | (simp; done) | (simp; omega)) _ | refine Below.setCell ?_ (by first | omega | (simp; done) | (simp; omega)) _ | refine Below.drew ?_))⟩

set_option maxHeartbeats 1000000 in
theorem law_same_ok (X Y W H : Int) (b b' cap cap' n : Nat) (v : Nat → Nat) (hl : n ≤ 9223372036854775807) (h1 : 1 ≤ n) (w : World) (hc : FlAt w b 0 n v) (hc' : FlAt w b' 0 n v) :
    Calls Try.prog 38 #[fldV X Y W H (.slice (some ⟨b, 0, none⟩) n cap), .int .i64 0, fldV X Y W H (.slice (some ⟨b', 0, none⟩) n cap'), .int .i64 0] w fun e w' => e = .returned (.bool true) ∧ Below w.heap.size w w' := by
  have z := World.block_lt_of_cell? w _ (hc 0 h1)
  have z' := World.block_lt_of_cell? w _ (hc' 0 h1)
  have SM := Lib.hid (fun W' (hb : Below w.heap.size w W') => same_ok X Y W H b b' cap cap' n v hl h1 W' (flAt_congr hc (hb.block _ z)) (flAt_congr hc' (hb.block _ z')))
  clear hc hc'
  go_enter Try.func38, Try.ntmps38
  go_wp2_with (first | (go_at_call 31; refine (SM.out _ (by repeat (first | exact Below.refl _ _ | refine Below.alloc ?_ (by first | omega | (simp; done) | (simp; omega)) _ | refine Below.setCell ?_ (by first | omega | (simp; done) | (simp; omega)) _ | refine Below.drew ?_))).mono ?_; rintro e w2 ⟨rfl, hb2⟩))
  go_ret
  exact ⟨rfl, Below.trans (by repeat (first | exact Below.refl _ _ | refine Below.alloc ?_ (by first | omega | (simp; done) | (simp; omega)) _ | refine Below.setCell ?_ (by first | omega | (simp; done) | (simp; omega)) _ | refine Below.drew ?_)) (Below.mono hb2 (by simp; try omega))⟩

set_option maxHeartbeats 1000000 in
theorem law_same_err (e1 : Int) (he : e1 ≠ 0) (w : World) :
    Calls Try.prog 38 #[fldV 0 0 0 0 (.slice none 0 0), .int .i64 e1, fldV 0 0 0 0 (.slice none 0 0), .int .i64 e1] w fun e w' => e = .returned (.bool true) ∧ Below w.heap.size w w' := by
  have hb : (e1 != 0) = true := by simp [he]
  go_enter Try.func38, Try.ntmps38
  go_wp2
  go_ret
  exact ⟨rfl, (by repeat (first | exact Below.refl _ _ | refine Below.alloc ?_ (by first | omega | (simp; done) | (simp; omega)) _ | refine Below.setCell ?_ (by first | omega | (simp; done) | (simp; omega)) _ | refine Below.drew ?_))⟩

end Go.Proofs.Ytihjemookgnafaa

/- What the two sides answer, told alike: so the law's walk has one way. -/
namespace Go.Proofs.Ytihjemookgnafaa
open Go.RowKit Fl
set_option linter.unusedVariables false

/-- A result (the field x y u h s, the error k) of a function that makes f over a region, behind the error er. -/
def Res (lo : Nat) (w : World) (X Y W H : Int) (n : Nat) (f : Nat → Nat) (er : Int) (x y u h : Int) (s : Value) (k : Int) : Prop :=
  (er ≠ 0 ∧ x = 0 ∧ y = 0 ∧ u = 0 ∧ h = 0 ∧ s = .slice none 0 0 ∧ k = er) ∨
  (er = 0 ∧ allB n (fun i => hgtB (f i)) = true ∧ x = X ∧ y = Y ∧ u = W ∧ h = H ∧ (∃ b cap, s = .slice (some ⟨b, 0, none⟩) n cap ∧ lo ≤ b ∧ b < w.heap.size ∧ FlAt w b 0 n f) ∧ k = 0) ∨
  (er = 0 ∧ allB n (fun i => hgtB (f i)) = false ∧ x = 0 ∧ y = 0 ∧ u = 0 ∧ h = 0 ∧ s = .slice none 0 0 ∧ k = 3)
theorem Res.stay {lo : Nat} {w w' : World} {X Y W H : Int} {n : Nat} {f : Nat → Nat} {er x y u h : Int} {s : Value} {k : Int} (r : Res lo w X Y W H n f er x y u h s k) (hb : Below w.heap.size w w') : Res lo w' X Y W H n f er x y u h s k := by
  rcases r with r | ⟨r1, r2, r3, r4, r5, r6, ⟨b, cap, r7, r0, r8, r9⟩, r10⟩ | r
  · exact .inl r
  · exact .inr (.inl ⟨r1, r2, r3, r4, r5, r6, ⟨b, cap, r7, r0, Nat.lt_of_lt_of_le r8 hb.size, flAt_congr r9 (hb.block _ r8)⟩, r10⟩)
  · exact .inr (.inr r)
theorem Res.heap {lo : Nat} {w w' : World} {X Y W H : Int} {n : Nat} {f : Nat → Nat} {er x y u h : Int} {s : Value} {k : Int} (r : Res lo w X Y W H n f er x y u h s k) {p : Nat} (hz : w.heap.size ≤ w'.heap.size) (hne : p < lo) (hb : ∀ b, b ≠ p → b < w.heap.size → w'.heap[b]? = w.heap[b]?) : Res lo w' X Y W H n f er x y u h s k := by
  rcases r with r | ⟨r1, r2, r3, r4, r5, r6, ⟨b, cap, r7, r0, r8, r9⟩, r10⟩ | r
  · exact .inl r
  · exact .inr (.inl ⟨r1, r2, r3, r4, r5, r6, ⟨b, cap, r7, r0, Nat.lt_of_lt_of_le r8 hz, flAt_congr r9 (hb _ (by omega) r8)⟩, r10⟩)
  · exact .inr (.inr r)

theorem made_res {w w' : World} {X Y W H : Int} {n : Nat} {f : Nat → Nat} {er : Int} {e : Ending} (h : ScPost w X Y W H n f er e w') :
    ∃ x y u hh : Int, ∃ a : Option Addr, ∃ l cp : Nat, ∃ k : Int, e = .returned (.tuple #[fldV x y u hh (.slice a l cp), .int .i64 k]) ∧ Res w.heap.size w' X Y W H n f er x y u hh (.slice a l cp) k ∧ Below w.heap.size w w' := by
  rcases h with ⟨h1, h2, h3⟩ | ⟨h1, ⟨h2, b, cap, h3, h4, h5, h6, h7⟩ | ⟨h2, h3, h4⟩⟩
  · exact ⟨_, _, _, _, _, _, _, _, h2, .inl ⟨h1, rfl, rfl, rfl, rfl, rfl, rfl⟩, h3⟩
  · exact ⟨_, _, _, _, _, _, _, _, h3, .inr (.inl ⟨h1, h2, rfl, rfl, rfl, rfl, ⟨b, cap, rfl, h4, h5, h6⟩, rfl⟩), h7⟩
  · exact ⟨_, _, _, _, _, _, _, _, h3, .inr (.inr ⟨h1, h2, rfl, rfl, rfl, rfl, rfl, rfl⟩), h4⟩

/-- Two results of one thing are the same to the law. -/
theorem same_res {W0 : World} {X Y W H : Int} {n : Nat} {f : Nat → Nat} {er x y u h x' y' u' h' : Int} {s s' : Value} {k k' : Int} (hn : 1 ≤ n) (hl : n ≤ 9223372036854775807)
    {lo lo' : Nat} (r : Res lo W0 X Y W H n f er x y u h s k) (r' : Res lo' W0 X Y W H n f er x' y' u' h' s' k') :
    Calls Try.prog 38 #[fldV x y u h s, .int .i64 k, fldV x' y' u' h' s', .int .i64 k'] W0 fun e w' => e = .returned (.bool true) ∧ Below W0.heap.size W0 w' := by
  rcases r with ⟨a1, rfl, rfl, rfl, rfl, rfl, rfl⟩ | ⟨a1, a2, rfl, rfl, rfl, rfl, ⟨b, cap, rfl, _, _, c⟩, rfl⟩ | ⟨a1, a2, rfl, rfl, rfl, rfl, rfl, rfl⟩ <;>
  rcases r' with ⟨b1, rfl, rfl, rfl, rfl, rfl, rfl⟩ | ⟨b1, b2, rfl, rfl, rfl, rfl, ⟨b', cap', rfl, _, _, c'⟩, rfl⟩ | ⟨b1, b2, rfl, rfl, rfl, rfl, rfl, rfl⟩
  · exact law_same_err _ a1 W0
  · exact absurd b1 a1
  · exact absurd b1 a1
  · exact absurd a1 b1
  · exact law_same_ok _ _ _ _ b b' cap cap' n f hl hn W0 c c'
  · rw [a2] at b2; cases b2
  · exact absurd a1 b1
  · rw [a2] at b2; cases b2
  · exact law_same_err 3 (by decide) W0

theorem set5_self {wr : World} {b : Nat} {a1 a2 a3 a4 a5 : Value} {t : TypeId} (u1 u2 u3 u4 u5 : Value) (h : wr.heap[b]? = some (.cells #[a1, a2, a3, a4, a5] t (0, 0))) :
    (set5 wr b u1 u2 u3 u4 u5).heap[b]? = some (.cells #[u1, u2, u3, u4, u5] t (0, 0)) := by
  have h1 := heap_setCell_same wr b 0 _ _ u1 h
  have h2 := heap_setCell_same _ b 1 _ _ u2 h1
  have h3 := heap_setCell_same _ b 2 _ _ u3 h2
  have h4 := heap_setCell_same _ b 3 _ _ u4 h3
  have h5 := heap_setCell_same _ b 4 _ _ u5 h4
  exact h5
/-- A field stored into a block of its own: what stands elsewhere stays. -/
theorem box_old (wr : World) (o : Obj) (u1 u2 u3 u4 u5 : Value) {k : Nat} (h : k < wr.heap.size) : (set5 (wr.alloc o) wr.heap.size u1 u2 u3 u4 u5).heap[k]? = wr.heap[k]? := by
  rw [set5_heap _ _ _ _ _ _ _ _ (by omega), heap_alloc_old _ _ h]
theorem box_below (wr : World) (o : Obj) (u1 u2 u3 u4 u5 : Value) : Below wr.heap.size wr (set5 (wr.alloc o) wr.heap.size u1 u2 u3 u4 u5) :=
  set5_below ((Below.refl _ _).alloc (Nat.le_refl _) o) _ _ _ _ _ _ (Nat.le_refl _)

/-- What a fit field is, its singles by a function. -/
theorem fit_fn {w : World} {b n : Nat} (h : FitRow w b n n) : ∃ v : Nat → Nat, FlAt w b 0 n v ∧ wf32 n v ∧ allB n (fun i => hgtB (v i)) = true ∧ b < w.heap.size := by
  obtain ⟨cs, h1, h2, h3⟩ := h
  refine ⟨fun j => if hj : j < n then (h3 j hj).choose else 0, fun i hi => ?_, fun i hi => ?_, allB_iff.2 fun i hi => ?_, (blkC h1).2.2⟩
  · rw [Nat.zero_add, (blkC h1).1 i]; simp only [dif_pos hi]; exact (h3 i hi).choose_spec.1
  · simp only [dif_pos hi]; exact (h3 i hi).choose_spec.2.1
  · simp only [dif_pos hi]; exact (h3 i hi).choose_spec.2.2 hi
theorem fit_check {X Y : Int} {W H n : Nat} (x1 : -5000 ≤ X) (x2 : X ≤ 5000) (y1 : -5000 ≤ Y) (y2 : Y ≤ 5000) (w1 : (1 : Int) ≤ W) (w2 : (W : Int) ≤ 16) (h1 : (1 : Int) ≤ H) (h2 : (H : Int) ≤ 16) (hn : (n : Int) = W * H) (hn2 : n ≤ 256) : checkR X Y W H = 0 := by
  unfold checkR
  rw [if_neg (by omega), if_neg (by rw [← hn]; omega), if_neg (by omega)]

end Go.Proofs.Ytihjemookgnafaa

/- Cut of the reference; the closures of Paste, on both sides. -/
namespace Go.Proofs.Ytihjemookgnafaa
open Go.RowKit Fl
set_option linter.unusedVariables false

theorem enters_Paste1 : Enters 92 := by intro args W; simp [callFunc, Try.func92, Try.f92]
theorem enters_rPaste1 : Enters 94 := by intro args W; simp [callFunc, Try.func94, Try.f94]

/-- A field is answered that has been made of f (all of whose values are heights). -/
def OnePost (w : World) (X Y W H : Int) (n : Nat) (f : Nat → Nat) (e : Ending) (w' : World) : Prop :=
  ∃ b cap, e = .returned (fldV X Y W H (.slice (some ⟨b, 0, none⟩) n cap)) ∧ w.heap.size ≤ b ∧ b < w'.heap.size ∧ FlAt w' b 0 n f ∧ Below w.heap.size w w'

theorem cutF_in {v : Nat → Nat} {X Y : Int} {W H n : Nat} {X' Y' : Int} {W1 H1 n1 : Nat} (hn : n = H * W) (hn1 : n1 = H1 * W1) (hW : 1 ≤ W) (hW1 : 1 ≤ W1) (i1 : X ≤ X') (i2 : Y ≤ Y') (i3 : X' + W1 ≤ X + W) (i4 : Y' + H1 ≤ Y + H) {i : Nat} (hi : i < n1) : subN X Y W X' Y' W1 i < n := by
  have hml := Nat.mod_lt i (show 0 < W1 by omega)
  have hdl : i / W1 < H1 := Nat.div_lt_of_lt_mul (by rw [Nat.mul_comm]; omega)
  have e := subN_of (X := X) (Y := Y) (W := W) (X' := X') (Y' := Y') (W' := W1) (i := i) rfl rfl (by have := Int.natCast_nonneg (i % W1); omega) (by have := Int.natCast_nonneg (i / W1); omega)
  generalize i / W1 = q at e hdl
  generalize i % W1 = r at e hml
  exact num_lt hW (by omega) (by omega) (by omega) e hn

theorem cutF_hgt {v : Nat → Nat} {X Y : Int} {W H n : Nat} {X' Y' : Int} {W1 H1 n1 : Nat} (hv : allB n (fun i => hgtB (v i)) = true) (hn : n = H * W) (hn1 : n1 = H1 * W1) (hW : 1 ≤ W) (hW1 : 1 ≤ W1) (i1 : X ≤ X') (i2 : Y ≤ Y') (i3 : X' + W1 ≤ X + W) (i4 : Y' + H1 ≤ Y + H) : allB n1 (fun i => hgtB (cutF v X Y W X' Y' W1 i)) = true :=
  allB_iff.2 fun i hi => allB_iff.1 hv _ (cutF_in (v := v) hn hn1 hW hW1 i1 i2 i3 i4 hi)
theorem cutF_wf {v : Nat → Nat} {X Y : Int} {W H n : Nat} {X' Y' : Int} {W1 H1 n1 : Nat} (hv : wf32 n v) (hn : n = H * W) (hn1 : n1 = H1 * W1) (hW : 1 ≤ W) (hW1 : 1 ≤ W1) (i1 : X ≤ X') (i2 : Y ≤ Y') (i3 : X' + W1 ≤ X + W) (i4 : Y' + H1 ≤ Y + H) : wf32 n1 (cutF v X Y W X' Y' W1) :=
  fun i hi => hv _ (cutF_in (v := v) hn hn1 hW hW1 i1 i2 i3 i4 hi)

set_option maxHeartbeats 2000000 in
theorem rcut_ok (X Y : Int) (W H n b cap : Nat) (v : Nat → Nat) (X' Y' : Int) (W1 H1 n1 : Nat) (w : World) (h0 : checkR X Y W H = 0) (hn : n = W * H) (hc : FlAt w b 0 n v) (hh : allB n (fun i => hgtB (v i)) = true) (hvw : wf32 n v) (he : cutE X Y W H X' Y' W1 H1 = 0) (hn1 : n1 = H1 * W1) :
    Calls Try.prog 32 #[fldV X Y W H (.slice (some ⟨b, 0, none⟩) n cap), reg X' Y' W1 H1] w (OnePost w X' Y' W1 H1 n1 (cutF v X Y W X' Y' W1)) := by
  obtain ⟨b1, b2, b3, b4, b5, b6, b7, b8, b9⟩ := checkR_zero h0
  have h1 : 1 ≤ n := by
    have := Nat.mul_pos (by omega : 0 < W) (by omega : 0 < H)
    omega
  have hlt : b < w.heap.size := World.block_lt_of_cell? w _ (hc 0 h1)
  have en : ((W : Int) * (H : Int)) = (n : Int) := by rw [hn]; simp
  have hn2 : n ≤ 65536 := by omega
  have hnm : n = H * W := by rw [hn]; exact Nat.mul_comm _ _
  unfold cutE at he
  by_cases h0' : checkR X' Y' W1 H1 = 0
  · obtain ⟨c1, c2, c3, c4, c5, c6, c7, c8, c9⟩ := checkR_zero h0'
    rw [if_pos h0'] at he
    cases hi : insideB X' Y' W1 H1 X Y W H with
    | false => rw [hi] at he; simp at he
    | true =>
      obtain ⟨i1, i2, i3, i4⟩ := insideB_iff.1 hi
      have hall' := Lib.hid (cutF_hgt hh hnm hn1 (by omega) (by omega) i1 i2 i3 i4)
      have hwf' := cutF_wf hvw hnm hn1 (by omega) (by omega) i1 i2 i3 i4
      have MP := Lib.hid (fun W' p (hk : W'.heap[p]? = some (fldO X Y W H (.slice (some ⟨b, 0, none⟩) n cap))) (hb : Below w.heap.size w W') => made_any X' Y' W1 H1 n1 89 #[.pointer (some ⟨p, 0, none⟩)] (cutF v X Y W X' Y' W1) W' enters_rCut1 (rcut1_any X Y W H n b cap v p X' Y' W1 H1 W' hk (flAt_congr hc (hb.block _ hlt)) h1 hn2 (by omega) (by omega) (by omega) (by omega) (by omega) (by omega) (by omega) hnm (by omega) i1 i2 i3 i4) hwf' (by omega) (by omega) (by omega) (by omega) (by omega) (by omega) (by omega) (by omega) hn1)
      clear hc hn h0 hh h0' hi he b1 b2 b3 b4 b5 b6 b7 b8 b9 c1 c2 c3 c4 c5 c6 c7 c8 c9 h1 hlt en hn2 i1 i2 i3 i4 hn1 hwf' hvw hnm
      go_enter Try.func32, Try.ntmps32
      go_wp2_with fail
      refine (MP.out _ w.heap.size (by ((simp only [heap_alloc_get, heap_size_alloc, if_true]) <;> ((repeat' split) <;> first | rfl | omega))) (by repeat (first | exact Below.refl _ _ | refine Below.alloc ?_ (by first | omega | (simp; done) | (simp; omega)) _ | refine Below.setCell ?_ (by first | omega | (simp; done) | (simp; omega)) _ | refine Below.drew ?_))).mono ?_
      intro e w5 hmade
      rcases hmade with ⟨hall, b', cap', rfl, hb', hlt', hrow, hbel⟩ | ⟨hall, rfl, hbel⟩
      · have hS := Lib.hid (blkStay (b := w.heap.size + 1 + 1) (o := fldO 0 0 0 0 (.slice none 0 0)) (by ((simp only [heap_alloc_get, heap_size_alloc, if_true]) <;> ((repeat' split) <;> first | rfl | omega))) hbel)
        have hB : Below w.heap.size w w5 := Below.trans (by repeat (first | exact Below.refl _ _ | refine Below.alloc ?_ (by first | omega | (simp; done) | (simp; omega)) _ | refine Below.setCell ?_ (by first | omega | (simp; done) | (simp; omega)) _ | refine Below.drew ?_)) (Below.mono hbel (by simp; try omega))
        obtain ⟨cS, fS, zS⟩ := blkC hS.out
        have HB := Lib.hid hb'
        clear hb'
        go_wp2
        have H6 : ((set5 w5 (w.heap.size + 1 + 1) (.int .i64 X') (.int .i64 Y') (.int .i64 W1) (.int .i64 H1) (.slice (some ⟨b', 0, none⟩) n1 cap')).alloc (fldO X' Y' W1 H1 (.slice (some ⟨b', 0, none⟩) n1 cap'))).heap[w.heap.size + 1 + 1]? = some (fldO X' Y' W1 H1 (.slice (some ⟨b', 0, none⟩) n1 cap')) := (heap_alloc_old _ _ (by rw [set5_size]; exact zS)).trans (set5_self _ _ _ _ _ hS.out)
        obtain ⟨c6, _, _⟩ := blkC H6
        dsimp only [set5] at c6
        refine bodyPost_ret (v := fldV X' Y' W1 H1 (.slice (some ⟨b', 0, none⟩) n1 cap')) (by simp [results, Try.results32, go_sem, c6]) rfl ?_
        have hb' := HB.out
        simp only [heap_size_alloc] at hb'
        have hlt6 : b' < (set5 w5 (w.heap.size + 1 + 1) (.int .i64 X') (.int .i64 Y') (.int .i64 W1) (.int .i64 H1) (.slice (some ⟨b', 0, none⟩) n1 cap')).heap.size := by rw [set5_size]; exact hlt'
        exact ⟨b', cap', rfl, by omega, by rw [heap_size_alloc]; exact Nat.lt_succ_of_lt hlt6, flAt_congr (flAt_congr hrow (set5_heap w5 _ _ _ _ _ _ _ (by omega))) (heap_alloc_old _ _ hlt6), (set5_below hB _ _ _ _ _ _ (by omega)).alloc (by rw [set5_size]; exact hB.size) _⟩
      · exact absurd hall (by rw [hall'.out]; simp)
  · rw [if_neg h0'] at he; exact absurd he h0'
end Go.Proofs.Ytihjemookgnafaa

/- The closures of Paste, on both sides. -/
namespace Go.Proofs.Ytihjemookgnafaa
open Go.RowKit Fl
set_option linter.unusedVariables false

set_option maxHeartbeats 1000000 in
theorem pCell_any (x y : Int) (w : World) :
    Calls Try.prog 93 #[.int .i64 x, .int .i64 y] w fun e w' => e = .returned (reg x y 1 1) ∧ Below w.heap.size w w' := by
  go_enter Try.func93, Try.ntmps93
  go_wp2
  exact bodyPost_ret (v := reg x y 1 1) (by simp [results, Try.results93, go_sem]) rfl ⟨rfl, (by repeat (first | exact Below.refl _ _ | refine Below.alloc ?_ (by first | omega | (simp; done) | (simp; omega)) _ | refine Below.setCell ?_ (by first | omega | (simp; done) | (simp; omega)) _ | refine Below.drew ?_))⟩

set_option maxHeartbeats 1000000 in
theorem pThere_any (X Y : Int) (W H n b cap : Nat) (x y : Int) (c : Bool) (w : World) (h0 : checkR X Y W H = 0) (x1 : -536871000 ≤ x) (x2 : x ≤ 536871000) (y1 : -536871000 ≤ y) (y2 : y ≤ 536871000) (hc : insideB x y 1 1 X Y W H = c) :
    Calls Try.prog 95 #[fldV X Y W H (.slice (some ⟨b, 0, none⟩) n cap), .int .i64 x, .int .i64 y] w fun e w' => e = .returned (.bool c) ∧ Below w.heap.size w w' := by
  obtain ⟨b1, b2, b3, b4, b5, b6, b7, b8, b9⟩ := checkR_zero h0
  have IN := Lib.hid (fun w => refInside_any x y 1 1 X Y W H w (by omega) (by omega) (by omega) (by omega) (by omega) (by omega) (by omega) (by omega) (by omega) (by omega) (by omega) (by omega) (by omega) (by omega) (by omega) (by omega))
  rw [hc] at IN
  clear h0 b1 b2 b3 b4 b5 b6 b7 b8 b9 hc x1 x2 y1 y2
  go_enter Try.func95, Try.ntmps95
  go_wp2_with (first | (go_at_call 23; refine (IN.out _).mono ?_; rintro e w2 ⟨rfl, hb2⟩))
  go_ret
  exact ⟨rfl, Below.trans (by repeat (first | exact Below.refl _ _ | refine Below.alloc ?_ (by first | omega | (simp; done) | (simp; omega)) _ | refine Below.setCell ?_ (by first | omega | (simp; done) | (simp; omega)) _ | refine Below.drew ?_)) (hb2.mono (by simp))⟩

/-- What Paste makes of the cell number i. -/
def pstF (vf vg : Nat → Nat) (X Y : Int) (W : Nat) (X2 Y2 : Int) (W2 H2 : Nat) (i : Nat) : Nat :=
  if insideB (X + ((i % W : Nat) : Int)) (Y + ((i / W : Nat) : Int)) 1 1 X2 Y2 W2 H2 then vg (subN X2 Y2 W2 X Y W i) else vf i

theorem al_belowC (w : World) (o : Obj) : Below w.heap.size w (w.alloc o) := (Below.refl _ _).alloc (Nat.le_refl _) o
/-- What the closures hold. -/
structure PCaps (w : World) (X Y : Int) (W H n b cap : Nat) (vf : Nat → Nat) (X2 Y2 : Int) (W2 H2 n2 b2 cap2 : Nat) (vg : Nat → Nat) (p q : Nat) : Prop where
  one : w.heap[p]? = some (fldO X Y W H (.slice (some ⟨b, 0, none⟩) n cap))
  two : w.heap[q]? = some (fldO X2 Y2 W2 H2 (.slice (some ⟨b2, 0, none⟩) n2 cap2))
  row : FlAt w b 0 n vf
  row2 : FlAt w b2 0 n2 vg
theorem PCaps.stay {w w' : World} {X Y : Int} {W H n b cap : Nat} {vf : Nat → Nat} {X2 Y2 : Int} {W2 H2 n2 b2 cap2 : Nat} {vg : Nat → Nat} {p q : Nat} (h : PCaps w X Y W H n b cap vf X2 Y2 W2 H2 n2 b2 cap2 vg p q) (hn : 1 ≤ n) (hn2 : 1 ≤ n2) (hb : Below w.heap.size w w') : PCaps w' X Y W H n b cap vf X2 Y2 W2 H2 n2 b2 cap2 vg p q :=
  ⟨blkStay h.one hb, blkStay h.two hb, flAt_congr h.row (hb.block _ (World.block_lt_of_cell? w _ (h.row 0 hn))), flAt_congr h.row2 (hb.block _ (World.block_lt_of_cell? w _ (h.row2 0 hn2)))⟩

set_option maxHeartbeats 4000000 in
set_option maxRecDepth 100000 in
theorem paste1_any (X Y : Int) (W H n b cap : Nat) (vf : Nat → Nat) (X2 Y2 : Int) (W2 H2 n2 b2 cap2 : Nat) (vg : Nat → Nat) (p q r : Nat) (c1 c2 c3 c4 : Int) (w : World) (hk : PCaps w X Y W H n b cap vf X2 Y2 W2 H2 n2 b2 cap2 vg p q) (hr : w.heap[r]? = some (regObj c1 c2 c3 c4))
    (h0 : checkR X Y W H = 0) (h02 : checkR X2 Y2 W2 H2 = 0) (hn : n = H * W) (hn2 : n2 = H2 * W2) (k1 : -1073741824 ≤ c1) (k2 : c1 ≤ 1073741824) (k3 : -1073741824 ≤ c2) (k4 : c2 ≤ 1073741824) (k5 : 1 ≤ c3) (k6 : c3 ≤ 1073741824) (k7 : 1 ≤ c4) (k8 : c4 ≤ 1073741824)
    (hcom : ∀ x y, X ≤ x → x < X + W → Y ≤ y → y < Y + H → insideB x y 1 1 c1 c2 c3 c4 = insideB x y 1 1 X2 Y2 W2 H2) :
    Clos2 92 #[.pointer (some ⟨p, 0, none⟩), .pointer (some ⟨r, 0, none⟩), .pointer (some ⟨q, 0, none⟩)] X Y W H (pstF vf vg X Y W X2 Y2 W2 H2) w := by
  intro x y i w2 h1 h2 h3 h4 h5 hb
  obtain ⟨b1, b2', b3, b4, b5, b6, b7, b8, b9⟩ := checkR_zero h0
  obtain ⟨d1, d2, d3, d4, d5, d6, d7, d8, d9⟩ := checkR_zero h02
  have en : ((W : Int) * (H : Int)) = (n : Int) := by rw [hn, Nat.mul_comm]; simp
  have en2 : ((W2 : Int) * (H2 : Int)) = (n2 : Int) := by rw [hn2, Nat.mul_comm]; simp
  have hN : n ≤ 65536 := by omega
  have hN2 : n2 ≤ 65536 := by omega
  have hp1 : 1 ≤ n := by rw [hn]; exact Nat.mul_pos (by omega) (by omega)
  have hp2 : 1 ≤ n2 := by rw [hn2]; exact Nat.mul_pos (by omega) (by omega)
  obtain ⟨ex, ey⟩ := place_of (show 1 ≤ W by omega) h1 h2 h3 h5
  have IN := Lib.hid (fun w => inside_any x y 1 1 c1 c2 c3 c4 w (by omega) (by omega) (by omega) (by omega) (by omega) (by omega) (by omega) (by omega) k1 k2 k3 k4 k5 k6 k7 k8)
  rw [hcom x y h1 h2 h3 h4] at IN
  show Calls _ _ _ _ fun e w' => e = .returned (.float .f32 (if insideB (X + ((i % W : Nat) : Int)) (Y + ((i / W : Nat) : Int)) 1 1 X2 Y2 W2 H2 then vg (subN X2 Y2 W2 X Y W i) else vf i)) ∧ _
  rw [ex, ey]
  have K := hk.stay hp1 hp2 hb
  have GR := Lib.hid (blkStay hr hb)
  have GF := Lib.hid K.one
  have GG := Lib.hid K.two
  cases hin : insideB x y 1 1 X2 Y2 W2 H2 with
  | false =>
    rw [hin] at IN
    have hi : i < n := num_lt (by omega) h1 h2 h4 h5 hn
    have IX := Lib.hid (fun w => index_any X Y W H i x y w (by omega) (by omega) (by omega) (by omega) (by omega) (by omega) (by omega) h1 h2 h3 h4 h5 (by omega))
    have hcell := K.row i hi
    rw [Nat.zero_add] at hcell
    have HC := Lib.hid hcell
    have zb : b < w2.heap.size := World.block_lt_of_cell? w2 _ hcell
    have hi2 : (i : Int) < (n : Int) := by omega
    have hi3 : (0 : Int) ≤ (i : Int) := by omega
    obtain ⟨cF, fF, zF⟩ := blkC GF.out
    obtain ⟨cR, fR, zR⟩ := blkC GR.out
    have HO := Lib.hid (heap_alloc_new w2 (fldO X Y W H (.slice (some ⟨b, 0, none⟩) n cap)))
    have hB := al_belowC w2 (fldO X Y W H (.slice (some ⟨b, 0, none⟩) n cap))
    clear hk hr hb h1 h2 h3 h4 h5 K ex ey hin hcom b1 b2' b3 b4 b5 b6 b7 b8 b9 d1 d2 d3 d4 d5 d6 d7 d8 d9 en en2 hN hN2 hp1 hp2 hn hn2 h0 h02 k1 k2 k3 k4 k5 k6 k7 k8 hi hcell
    go_enter Try.func92, Try.ntmps92
    go_wp2_with fail
    have GR3 := Lib.hid (blkStay GR.out hB)
    have HC3 := Lib.hid ((Below.cell (p := ⟨b, i, none⟩) hB zb).trans HC.out)
    have zb3 : b < (w2.alloc (fldO X Y W H (.slice (some ⟨b, 0, none⟩) n cap))).heap.size := by rw [heap_size_alloc]; exact Nat.lt_succ_of_lt zb
    have z23 := hB.size
    have HB := Lib.hid hB
    clear cF fF zF cR fR zR GR GF GG HC hB
    generalize w2.alloc (fldO X Y W H (.slice (some ⟨b, 0, none⟩) n cap)) = w3 at *
    obtain ⟨cR, fR, zR⟩ := blkC GR3.out
    obtain ⟨cO, fO, zO⟩ := blkC HO.out
    go_region_held3 (fun w' => (∀ o, w'.cell? ⟨r, o, none⟩ = #[.int .i64 c1, .int .i64 c2, .int .i64 c3, .int .i64 c4][o]?) ∧ Below w3.heap.size w3 w') (first | exact ⟨(blkC (blkStay GR3.out hb9)).1, hb9⟩ | exact ⟨(blkC (blkStay GR3.out (by repeat (first | exact Below.refl _ _ | refine Below.alloc ?_ (by first | omega | (simp; done) | (simp; omega)) _ | refine Below.setCell ?_ (by first | omega | (simp; done) | (simp; omega)) _ | refine Below.drew ?_)))).1, (by repeat (first | exact Below.refl _ _ | refine Below.alloc ?_ (by first | omega | (simp; done) | (simp; omega)) _ | refine Below.setCell ?_ (by first | omega | (simp; done) | (simp; omega)) _ | refine Below.drew ?_))⟩) (first | (go_at_call 93; (with_reducible refine Calls.mono (pCell_any _ _ _) ?_); rintro e w' ⟨rfl, hb8⟩; have hb9 : Below w3.heap.size w3 w' := (by first | exact hb8 | exact hold ‹_ ∧ Below w3.heap.size w3 _› hb8); clear hb8) | (go_at_call 22; (with_reducible refine Calls.mono (IN.out _) ?_); rintro e w' ⟨rfl, hb8⟩; have hb9 : Below w3.heap.size w3 w' := (by first | exact hb8 | exact hold ‹_ ∧ Below w3.heap.size w3 _› hb8); clear hb8))
    rename_i hHeld
    repeat (clear hb9)
    generalize w' = w5 at *
    have hB5 := hHeld.2
    have HO5 := Lib.hid (blkStay HO.out hB5)
    have HC5 := Lib.hid ((Below.cell (p := ⟨b, i, none⟩) hB5 zb3).trans HC3.out)
    have zb5 : b < w5.heap.size := Nat.lt_of_lt_of_le zb3 hB5.size
    have HB5 := Lib.hid (HB.out.trans (hB5.mono HB.out.size))
    clear cR fR zR cO fO zO GR3 HC3 HO hHeld hB5 HB IN zb zb3 z23
    obtain ⟨cO, fO, zO⟩ := blkC HO5.out
    have hcell := HC5.out
    go_wp2_with fail
    go_region_held3 (fun w' => (∀ o, w'.cell? ⟨w2.heap.size, o, none⟩ = #[.int .i64 X, .int .i64 Y, .int .i64 W, .int .i64 H, .slice (some ⟨b, 0, none⟩) n cap][o]?) ∧ w'.cell? ⟨b, i, none⟩ = some (.float .f32 (vf i)) ∧ Below w5.heap.size w5 w') (first | exact ⟨(blkC (blkStay HO5.out (by repeat (first | exact Below.refl _ _ | refine Below.alloc ?_ (by first | omega | (simp; done) | (simp; omega)) _ | refine Below.setCell ?_ (by first | omega | (simp; done) | (simp; omega)) _ | refine Below.drew ?_)))).1, (Below.cell (p := ⟨b, i, none⟩) (w := w5) (B := w5.heap.size) (by repeat (first | exact Below.refl _ _ | refine Below.alloc ?_ (by first | omega | (simp; done) | (simp; omega)) _ | refine Below.setCell ?_ (by first | omega | (simp; done) | (simp; omega)) _ | refine Below.drew ?_)) zb5).trans HC5.out, (by repeat (first | exact Below.refl _ _ | refine Below.alloc ?_ (by first | omega | (simp; done) | (simp; omega)) _ | refine Below.setCell ?_ (by first | omega | (simp; done) | (simp; omega)) _ | refine Below.drew ?_))⟩) (first | (go_at_call 85; (with_reducible refine Calls.mono (IX.out _) ?_); rintro e w' ⟨rfl, rfl⟩))
    rename_i hHeld
    go_wp2
    go_ret
    exact ⟨rfl, HB5.out.trans (hHeld.2.2.mono HB5.out.size)⟩
  | true =>
    rw [hin] at IN
    obtain ⟨g1, g2, g3, g4⟩ := insideB_iff.1 hin
    have hj := subN_of (X := X2) (Y := Y2) (W := W2) ex ey (by omega) (by omega)
    generalize subN X2 Y2 W2 X Y W i = j at hj ⊢
    have hi : j < n2 := num_lt (by omega) (by omega) (by omega) (by omega) hj hn2
    have IX := Lib.hid (fun w => index_any X2 Y2 W2 H2 j x y w (by omega) (by omega) (by omega) (by omega) (by omega) (by omega) (by omega) (by omega) (by omega) (by omega) (by omega) hj (by omega))
    have hcell := K.row2 j hi
    rw [Nat.zero_add] at hcell
    have HC := Lib.hid hcell
    have zb : b2 < w2.heap.size := World.block_lt_of_cell? w2 _ hcell
    have hi2 : (j : Int) < (n2 : Int) := by omega
    have hi3 : (0 : Int) ≤ (j : Int) := by omega
    obtain ⟨cF, fF, zF⟩ := blkC GF.out
    obtain ⟨cR, fR, zR⟩ := blkC GR.out
    have HO := Lib.hid (heap_alloc_new w2 (fldO X Y W H (.slice (some ⟨b, 0, none⟩) n cap)))
    have hB := al_belowC w2 (fldO X Y W H (.slice (some ⟨b, 0, none⟩) n cap))
    clear hj g1 g2 g3 g4 hk hr hb h1 h2 h3 h4 h5 K ex ey hin hcom b1 b2' b3 b4 b5 b6 b7 b8 b9 d1 d2 d3 d4 d5 d6 d7 d8 d9 en en2 hN hN2 hp1 hp2 hn hn2 h0 h02 k1 k2 k3 k4 k5 k6 k7 k8 hi hcell
    go_enter Try.func92, Try.ntmps92
    go_wp2_with fail
    have GR3 := Lib.hid (blkStay GR.out hB)
    have GG3 := Lib.hid (blkStay GG.out hB)
    have HC3 := Lib.hid ((Below.cell (p := ⟨b2, j, none⟩) hB zb).trans HC.out)
    have zb3 : b2 < (w2.alloc (fldO X Y W H (.slice (some ⟨b, 0, none⟩) n cap))).heap.size := by rw [heap_size_alloc]; exact Nat.lt_succ_of_lt zb
    have z23 := hB.size
    have HB := Lib.hid hB
    clear cF fF zF cR fR zR GR GF GG HC hB
    generalize w2.alloc (fldO X Y W H (.slice (some ⟨b, 0, none⟩) n cap)) = w3 at *
    obtain ⟨cR, fR, zR⟩ := blkC GR3.out
    obtain ⟨cO, fO, zO⟩ := blkC HO.out
    go_region_held3 (fun w' => (∀ o, w'.cell? ⟨r, o, none⟩ = #[.int .i64 c1, .int .i64 c2, .int .i64 c3, .int .i64 c4][o]?) ∧ Below w3.heap.size w3 w') (first | exact ⟨(blkC (blkStay GR3.out hb9)).1, hb9⟩ | exact ⟨(blkC (blkStay GR3.out (by repeat (first | exact Below.refl _ _ | refine Below.alloc ?_ (by first | omega | (simp; done) | (simp; omega)) _ | refine Below.setCell ?_ (by first | omega | (simp; done) | (simp; omega)) _ | refine Below.drew ?_)))).1, (by repeat (first | exact Below.refl _ _ | refine Below.alloc ?_ (by first | omega | (simp; done) | (simp; omega)) _ | refine Below.setCell ?_ (by first | omega | (simp; done) | (simp; omega)) _ | refine Below.drew ?_))⟩) (first | (go_at_call 93; (with_reducible refine Calls.mono (pCell_any _ _ _) ?_); rintro e w' ⟨rfl, hb8⟩; have hb9 : Below w3.heap.size w3 w' := (by first | exact hb8 | exact hold ‹_ ∧ Below w3.heap.size w3 _› hb8); clear hb8) | (go_at_call 22; (with_reducible refine Calls.mono (IN.out _) ?_); rintro e w' ⟨rfl, hb8⟩; have hb9 : Below w3.heap.size w3 w' := (by first | exact hb8 | exact hold ‹_ ∧ Below w3.heap.size w3 _› hb8); clear hb8))
    rename_i hHeld
    repeat (clear hb9)
    generalize w' = w5 at *
    have hB5 := hHeld.2
    have HO5 := Lib.hid (blkStay HO.out hB5)
    have HG5 := Lib.hid (blkStay GG3.out hB5)
    have HC5 := Lib.hid ((Below.cell (p := ⟨b2, j, none⟩) hB5 zb3).trans HC3.out)
    have zb5 : b2 < w5.heap.size := Nat.lt_of_lt_of_le zb3 hB5.size
    have hne : b2 ≠ w2.heap.size := by omega
    have HB5 := Lib.hid (set5_below (HB.out.trans (hB5.mono HB.out.size)) w2.heap.size (.int .i64 X2) (.int .i64 Y2) (.int .i64 W2) (.int .i64 H2) (.slice (some ⟨b2, 0, none⟩) n2 cap2) (Nat.le_refl _))
    clear cR fR zR cO fO zO GR3 GG3 HC3 HO hHeld hB5 HB IN zb zb3 z23
    obtain ⟨cO, fO, zO⟩ := blkC HO5.out
    obtain ⟨cG, fG, zG⟩ := blkC HG5.out
    go_wp2_with fail
    have HO6 := Lib.hid (set5_self (.int .i64 X2) (.int .i64 Y2) (.int .i64 W2) (.int .i64 H2) (.slice (some ⟨b2, 0, none⟩) n2 cap2) HO5.out)
    have HC6 := Lib.hid ((World.cell?_of_block (w := w5) (a := ⟨b2, j, none⟩) (set5_heap w5 w2.heap.size b2 (.int .i64 X2) (.int .i64 Y2) (.int .i64 W2) (.int .i64 H2) (.slice (some ⟨b2, 0, none⟩) n2 cap2) hne)).trans HC5.out)
    have zb6 : b2 < (set5 w5 w2.heap.size (.int .i64 X2) (.int .i64 Y2) (.int .i64 W2) (.int .i64 H2) (.slice (some ⟨b2, 0, none⟩) n2 cap2)).heap.size := by rw [set5_size]; exact zb5
    clear cO fO zO cG fG zG HO5 HC5 HG5
    dsimp only [set5] at HO6 HC6 zb6 HB5
    generalize ((((w5.setCell ⟨w2.heap.size, 0, none⟩ (.int .i64 X2)).setCell ⟨w2.heap.size, 1, none⟩ (.int .i64 Y2)).setCell ⟨w2.heap.size, 2, none⟩ (.int .i64 W2)).setCell ⟨w2.heap.size, 3, none⟩ (.int .i64 H2)).setCell ⟨w2.heap.size, 4, none⟩ (.slice (some ⟨b2, 0, none⟩) n2 cap2) = w6 at *
    obtain ⟨cO, fO, zO⟩ := blkC HO6.out
    have hcell := HC6.out
    go_region_held3 (fun w' => (∀ o, w'.cell? ⟨w2.heap.size, o, none⟩ = #[.int .i64 X2, .int .i64 Y2, .int .i64 W2, .int .i64 H2, .slice (some ⟨b2, 0, none⟩) n2 cap2][o]?) ∧ w'.cell? ⟨b2, j, none⟩ = some (.float .f32 (vg j)) ∧ Below w6.heap.size w6 w') (first | exact ⟨(blkC (blkStay HO6.out (by repeat (first | exact Below.refl _ _ | refine Below.alloc ?_ (by first | omega | (simp; done) | (simp; omega)) _ | refine Below.setCell ?_ (by first | omega | (simp; done) | (simp; omega)) _ | refine Below.drew ?_)))).1, (Below.cell (p := ⟨b2, j, none⟩) (w := w6) (B := w6.heap.size) (by repeat (first | exact Below.refl _ _ | refine Below.alloc ?_ (by first | omega | (simp; done) | (simp; omega)) _ | refine Below.setCell ?_ (by first | omega | (simp; done) | (simp; omega)) _ | refine Below.drew ?_)) zb6).trans HC6.out, (by repeat (first | exact Below.refl _ _ | refine Below.alloc ?_ (by first | omega | (simp; done) | (simp; omega)) _ | refine Below.setCell ?_ (by first | omega | (simp; done) | (simp; omega)) _ | refine Below.drew ?_))⟩) (first | (go_at_call 85; (with_reducible refine Calls.mono (IX.out _) ?_); rintro e w' ⟨rfl, rfl⟩))
    rename_i hHeld
    go_wp2
    go_ret
    exact ⟨rfl, HB5.out.trans (hHeld.2.2.mono HB5.out.size)⟩
end Go.Proofs.Ytihjemookgnafaa

/- The closure of the reference's Paste; checkFields of two fields. -/
namespace Go.Proofs.Ytihjemookgnafaa
open Go.RowKit Fl
set_option linter.unusedVariables false

set_option maxHeartbeats 4000000 in
set_option maxRecDepth 100000 in
theorem rpaste1_any (X Y : Int) (W H n b cap : Nat) (vf : Nat → Nat) (X2 Y2 : Int) (W2 H2 n2 b2 cap2 : Nat) (vg : Nat → Nat) (p q : Nat) (w : World) (hk : PCaps w X Y W H n b cap vf X2 Y2 W2 H2 n2 b2 cap2 vg p q)
    (h0 : checkR X Y W H = 0) (h02 : checkR X2 Y2 W2 H2 = 0) (hn : n = H * W) (hn2 : n2 = H2 * W2) :
    Clos2 94 #[.pointer (some ⟨q, 0, none⟩), .pointer (some ⟨p, 0, none⟩)] X Y W H (pstF vf vg X Y W X2 Y2 W2 H2) w := by
  intro x y i w2 h1 h2 h3 h4 h5 hb
  obtain ⟨b1, b2', b3, b4, b5, b6, b7, b8, b9⟩ := checkR_zero h0
  obtain ⟨d1, d2, d3, d4, d5, d6, d7, d8, d9⟩ := checkR_zero h02
  have en : ((W : Int) * (H : Int)) = (n : Int) := by rw [hn, Nat.mul_comm]; simp
  have en2 : ((W2 : Int) * (H2 : Int)) = (n2 : Int) := by rw [hn2, Nat.mul_comm]; simp
  have hN : n ≤ 65536 := by omega
  have hN2 : n2 ≤ 65536 := by omega
  have hp1 : 1 ≤ n := by rw [hn]; exact Nat.mul_pos (by omega) (by omega)
  have hp2 : 1 ≤ n2 := by rw [hn2]; exact Nat.mul_pos (by omega) (by omega)
  obtain ⟨ex, ey⟩ := place_of (show 1 ≤ W by omega) h1 h2 h3 h5
  show Calls _ _ _ _ fun e w' => e = .returned (.float .f32 (if insideB (X + ((i % W : Nat) : Int)) (Y + ((i / W : Nat) : Int)) 1 1 X2 Y2 W2 H2 then vg (subN X2 Y2 W2 X Y W i) else vf i)) ∧ _
  rw [ex, ey]
  have K := hk.stay hp1 hp2 hb
  have GF := Lib.hid K.one
  have GG := Lib.hid K.two
  have zb : b < w2.heap.size := World.block_lt_of_cell? w2 _ (K.row 0 hp1)
  have zb2 : b2 < w2.heap.size := World.block_lt_of_cell? w2 _ (K.row2 0 hp2)
  obtain ⟨cF, fF, zF⟩ := blkC GF.out
  obtain ⟨cG, fG, zG⟩ := blkC GG.out
  cases hin : insideB x y 1 1 X2 Y2 W2 H2 with
  | false =>
    have TH := Lib.hid (fun w => pThere_any X2 Y2 W2 H2 n2 b2 cap2 x y false w h02 (by omega) (by omega) (by omega) (by omega) hin)
    have hi : i < n := num_lt (by omega) h1 h2 h4 h5 hn
    have AT := Lib.hid (fun W'' (hb : Below w2.heap.size w2 W'') => refAt_any X Y W H n b cap i vf x y W'' (by omega) (by omega) (by omega) (by omega) (by omega) (by omega) (by omega) h1 h2 h3 h4 h5 hi hN (flAt_congr K.row (hb.block _ zb)))
    clear hk hb h1 h2 h3 h4 h5 K ex ey hin b1 b2' b3 b4 b5 b6 b7 b8 b9 d1 d2 d3 d4 d5 d6 d7 d8 d9 en en2 hN hN2 hp1 hp2 hn hn2 h0 h02 hi zb zb2
    go_enter Try.func94, Try.ntmps94
    go_wp2_with (first | (go_at_call 95; refine (TH.out _).mono ?_; rintro e w3 ⟨rfl, hb3⟩; have HF3 := Lib.hid (blkStay GF.out hb3); clear cF fF zF cG fG zG; obtain ⟨cF, fF, zF⟩ := blkC HF3.out) | (go_at_call 90; (with_reducible refine Calls.mono (AT.out _ hb3) ?_); rintro e w4 ⟨rfl, rfl⟩))
    go_ret
    exact ⟨rfl, hb3.alloc hb3.size _⟩
  | true =>
    obtain ⟨g1, g2, g3, g4⟩ := insideB_iff.1 hin
    have hj := subN_of (X := X2) (Y := Y2) (W := W2) ex ey (by omega) (by omega)
    generalize subN X2 Y2 W2 X Y W i = j at hj ⊢
    have TH := Lib.hid (fun w => pThere_any X2 Y2 W2 H2 n2 b2 cap2 x y true w h02 (by omega) (by omega) (by omega) (by omega) hin)
    have hi : j < n2 := num_lt (by omega) (by omega) (by omega) (by omega) hj hn2
    have AT := Lib.hid (fun W'' (hb : Below w2.heap.size w2 W'') => refAt_any X2 Y2 W2 H2 n2 b2 cap2 j vg x y W'' (by omega) (by omega) (by omega) (by omega) (by omega) (by omega) (by omega) (by omega) (by omega) (by omega) (by omega) hj hi hN2 (flAt_congr K.row2 (hb.block _ zb2)))
    clear hk hb h1 h2 h3 h4 h5 K ex ey hin b1 b2' b3 b4 b5 b6 b7 b8 b9 d1 d2 d3 d4 d5 d6 d7 d8 d9 en en2 hN hN2 hp1 hp2 hn hn2 h0 h02 hi zb zb2 hj g1 g2 g3 g4
    go_enter Try.func94, Try.ntmps94
    go_wp2_with (first | (go_at_call 95; refine (TH.out _).mono ?_; rintro e w3 ⟨rfl, hb3⟩; have HG3 := Lib.hid (blkStay GG.out hb3); clear cF fF zF cG fG zG; obtain ⟨cG, fG, zG⟩ := blkC HG3.out) | (go_at_call 90; (with_reducible refine Calls.mono (AT.out _ hb3) ?_); rintro e w4 ⟨rfl, rfl⟩))
    go_ret
    exact ⟨rfl, hb3.alloc hb3.size _⟩

/-- Two fields that lie in a row. -/
abbrev twoFlds (X Y W H : Int) (s : Value) (X2 Y2 W2 H2 : Int) (s2 : Value) : Obj := .cells #[.int .i64 X, .int .i64 Y, .int .i64 W, .int .i64 H, s, .int .i64 X2, .int .i64 Y2, .int .i64 W2, .int .i64 H2, s2] 36

set_option maxHeartbeats 2000000 in
theorem checkFields_two (X Y : Int) (W H n b cap : Nat) (v : Nat → Nat) (X2 Y2 : Int) (W2 H2 n2 b2 cap2 : Nat) (v2 : Nat → Nat) (p : Nat) (w : World) (h0 : checkR X Y W H = 0) (hn : n = W * H) (hc : FlAt w b 0 n v) (hh : allB n (fun i => hgtB (v i)) = true)
    (h02 : checkR X2 Y2 W2 H2 = 0) (hn2 : n2 = W2 * H2) (hc2 : FlAt w b2 0 n2 v2) (hh2 : allB n2 (fun i => hgtB (v2 i)) = true) (hp : w.heap[p]? = some (twoFlds X Y W H (.slice (some ⟨b, 0, none⟩) n cap) X2 Y2 W2 H2 (.slice (some ⟨b2, 0, none⟩) n2 cap2))) :
    Calls Try.prog 91 #[.slice (some ⟨p, 0, none⟩) 2 2] w fun e w' => e = .returned (.int .i64 0) ∧ Below w.heap.size w w' := by
  have pos : ∀ {A B : Nat} {X Y : Int}, checkR X Y A B = 0 → 1 ≤ A * B := fun h => Nat.mul_pos (by obtain ⟨a, _⟩ := checkR_zero h; omega) (by obtain ⟨_, _, a, _⟩ := checkR_zero h; omega)
  have hlt : b < w.heap.size := World.block_lt_of_cell? w _ (hc 0 (by rw [hn]; exact pos h0))
  have hlt2 : b2 < w.heap.size := World.block_lt_of_cell? w _ (hc2 0 (by rw [hn2]; exact pos h02))
  have C1 := Lib.hid (fun W' (hb : Below w.heap.size w W') => check_ok X Y W H n b cap v W' h0 hn (flAt_congr hc (hb.block _ hlt)) hh)
  have C2 := Lib.hid (fun W' (hb : Below w.heap.size w W') => check_ok X2 Y2 W2 H2 n2 b2 cap2 v2 W' h02 hn2 (flAt_congr hc2 (hb.block _ hlt2)) hh2)
  have HP := Lib.hid hp
  clear h0 hn hc hh h02 hn2 hc2 hh2 hp hlt hlt2 pos
  go_enter Try.func91, Try.ntmps91
  go_wp2
  go_loopw [8] (fun i wr => ∃ k : Nat, k ≤ 2 ∧ i = .int .i64 k ∧ Below w.heap.size w wr) (fun i _ => 2 - (intOf i).toNat)
  case atStart => exact ⟨0, by omega, rfl, Below.refl _ _⟩
  case round =>
    obtain ⟨k, hk, rfl, hb⟩ := hrel
    have GP := Lib.hid (blkStay HP.out hb)
    obtain ⟨cP, fP, zP⟩ := blkC GP.out
    have : k = 0 ∨ k = 1 ∨ k = 2 := by omega
    rcases this with rfl | rfl | rfl
    · go_wp2_with (first | (go_at_call 82; refine (C1.out _ (hb.alloc hb.size _)).mono ?_; rintro e w2 ⟨rfl, hb2⟩))
      go_roundw
      case rel => exact ⟨1, by omega, by go_num, (hb.alloc hb.size _).trans (hb2.mono (hb.alloc hb.size _).size)⟩
      case measure => simp [intOf]
    · go_wp2_with (first | (go_at_call 82; refine (C2.out _ (hb.alloc hb.size _)).mono ?_; rintro e w2 ⟨rfl, hb2⟩))
      go_roundw
      case rel => exact ⟨2, by omega, by go_num, (hb.alloc hb.size _).trans (hb2.mono (hb.alloc hb.size _).size)⟩
      case measure => simp [intOf]
    · go_wp2
      go_ret
      exact ⟨rfl, hb⟩
end Go.Proofs.Ytihjemookgnafaa

/- Blend of the program, of three right fields of one region. -/
namespace Go.Proofs.Ytihjemookgnafaa
open Go.RowKit Fl
set_option linter.unusedVariables false

/-- Is a share none? -/
def badB (x : Nat) : Bool := (FloatKind.f32.format.order x 0 == some .lt) || (FloatKind.f32.format.order x 1065353216 == some .gt)
/-- The error of Blend ahead of the making. -/
def blE (n : Nat) (v : Nat → Nat) : Int := if allB n (fun i => !badB (v i)) then 0 else 3

abbrev threeFlds (X Y W H : Int) (s s2 s3 : Value) : Obj := .cells #[.int .i64 X, .int .i64 Y, .int .i64 W, .int .i64 H, s, .int .i64 X, .int .i64 Y, .int .i64 W, .int .i64 H, s2, .int .i64 X, .int .i64 Y, .int .i64 W, .int .i64 H, s3] 36

set_option maxHeartbeats 2000000 in
theorem checkFields_three (X Y : Int) (W H n b1 c1 b2 c2 b3 c3 : Nat) (v1 v2 v3 : Nat → Nat) (p : Nat) (w : World) (h0 : checkR X Y W H = 0) (hn : n = W * H) (f1 : FlAt w b1 0 n v1) (f2 : FlAt w b2 0 n v2) (f3 : FlAt w b3 0 n v3)
    (g1 : allB n (fun i => hgtB (v1 i)) = true) (g2 : allB n (fun i => hgtB (v2 i)) = true) (g3 : allB n (fun i => hgtB (v3 i)) = true)
    (hp : w.heap[p]? = some (threeFlds X Y W H (.slice (some ⟨b1, 0, none⟩) n c1) (.slice (some ⟨b2, 0, none⟩) n c2) (.slice (some ⟨b3, 0, none⟩) n c3))) :
    Calls Try.prog 91 #[.slice (some ⟨p, 0, none⟩) 3 3] w fun e w' => e = .returned (.int .i64 0) ∧ Below w.heap.size w w' := by
  have hn1 : 1 ≤ n := by rw [hn]; obtain ⟨a, _, c, _⟩ := checkR_zero h0; exact Nat.mul_pos (by omega) (by omega)
  have l1 : b1 < w.heap.size := World.block_lt_of_cell? w _ (f1 0 hn1)
  have l2 : b2 < w.heap.size := World.block_lt_of_cell? w _ (f2 0 hn1)
  have l3 : b3 < w.heap.size := World.block_lt_of_cell? w _ (f3 0 hn1)
  have C1 := Lib.hid (fun W' (hb : Below w.heap.size w W') => check_ok X Y W H n b1 c1 v1 W' h0 hn (flAt_congr f1 (hb.block _ l1)) g1)
  have C2 := Lib.hid (fun W' (hb : Below w.heap.size w W') => check_ok X Y W H n b2 c2 v2 W' h0 hn (flAt_congr f2 (hb.block _ l2)) g2)
  have C3 := Lib.hid (fun W' (hb : Below w.heap.size w W') => check_ok X Y W H n b3 c3 v3 W' h0 hn (flAt_congr f3 (hb.block _ l3)) g3)
  have HP := Lib.hid hp
  clear h0 hn f1 f2 f3 g1 g2 g3 hp l1 l2 l3 hn1
  go_enter Try.func91, Try.ntmps91
  go_wp2
  go_loopw [8] (fun i wr => ∃ k : Nat, k ≤ 3 ∧ i = .int .i64 k ∧ Below w.heap.size w wr) (fun i _ => 3 - (intOf i).toNat)
  case atStart => exact ⟨0, by omega, rfl, Below.refl _ _⟩
  case round =>
    obtain ⟨k, hk, rfl, hb⟩ := hrel
    have GP := Lib.hid (blkStay HP.out hb)
    obtain ⟨cP, fP, zP⟩ := blkC GP.out
    have : k = 0 ∨ k = 1 ∨ k = 2 ∨ k = 3 := by omega
    rcases this with rfl | rfl | rfl | rfl
    · go_wp2_with (first | (go_at_call 82; refine (C1.out _ (hb.alloc hb.size _)).mono ?_; rintro e w2 ⟨rfl, hb2⟩))
      go_roundw
      case rel => exact ⟨1, by omega, by go_num, (hb.alloc hb.size _).trans (hb2.mono (hb.alloc hb.size _).size)⟩
      case measure => simp [intOf]
    · go_wp2_with (first | (go_at_call 82; refine (C2.out _ (hb.alloc hb.size _)).mono ?_; rintro e w2 ⟨rfl, hb2⟩))
      go_roundw
      case rel => exact ⟨2, by omega, by go_num, (hb.alloc hb.size _).trans (hb2.mono (hb.alloc hb.size _).size)⟩
      case measure => simp [intOf]
    · go_wp2_with (first | (go_at_call 82; refine (C3.out _ (hb.alloc hb.size _)).mono ?_; rintro e w2 ⟨rfl, hb2⟩))
      go_roundw
      case rel => exact ⟨3, by omega, by go_num, (hb.alloc hb.size _).trans (hb2.mono (hb.alloc hb.size _).size)⟩
      case measure => simp [intOf]
    · go_wp2
      go_ret
      exact ⟨rfl, hb⟩

set_option maxHeartbeats 4000000 in
set_option maxRecDepth 100000 in
theorem blend_any (X Y : Int) (W H n b1 c1 b2 c2 b3 c3 : Nat) (v1 v2 v3 : Nat → Nat) (w : World) (h0 : checkR X Y W H = 0) (hn : n = W * H) (f1 : FlAt w b1 0 n v1) (f2 : FlAt w b2 0 n v2) (f3 : FlAt w b3 0 n v3)
    (g1 : allB n (fun i => hgtB (v1 i)) = true) (g2 : allB n (fun i => hgtB (v2 i)) = true) (g3 : allB n (fun i => hgtB (v3 i)) = true) :
    Calls Try.prog 42 #[fldV X Y W H (.slice (some ⟨b1, 0, none⟩) n c1), fldV X Y W H (.slice (some ⟨b2, 0, none⟩) n c2), fldV X Y W H (.slice (some ⟨b3, 0, none⟩) n c3)] w (ScPost w X Y W H n (blW v1 v2 v3) (blE n v3)) := by
  obtain ⟨d1, d2, d3, d4, d5, d6, d7, d8, d9⟩ := checkR_zero h0
  have en : ((W : Int) * (H : Int)) = (n : Int) := by rw [hn]; simp
  have hn2 : n ≤ 65536 := by omega
  have hn1 : 1 ≤ n := by rw [hn]; exact Nat.mul_pos (by omega) (by omega)
  have l1 : b1 < w.heap.size := World.block_lt_of_cell? w _ (f1 0 hn1)
  have l2 : b2 < w.heap.size := World.block_lt_of_cell? w _ (f2 0 hn1)
  have l3 : b3 < w.heap.size := World.block_lt_of_cell? w _ (f3 0 hn1)
  have CF := Lib.hid (fun W' p (hb : Below w.heap.size w W') hp => checkFields_three X Y W H n b1 c1 b2 c2 b3 c3 v1 v2 v3 p W' h0 hn (flAt_congr f1 (hb.block _ l1)) (flAt_congr f2 (hb.block _ l2)) (flAt_congr f3 (hb.block _ l3)) g1 g2 g3 hp)
  have BY := Lib.hid (fun W' p1 p2 p3 (hb : Below w.heap.size w W') (k1 : W'.heap[p1]? = some (fldO X Y W H (.slice (some ⟨b1, 0, none⟩) n c1))) (k2 : W'.heap[p2]? = some (fldO X Y W H (.slice (some ⟨b2, 0, none⟩) n c2))) (k3 : W'.heap[p3]? = some (fldO X Y W H (.slice (some ⟨b3, 0, none⟩) n c3))) =>
    byCell_any X Y W H n 105 #[.pointer (some ⟨p1, 0, none⟩), .pointer (some ⟨p2, 0, none⟩), .pointer (some ⟨p3, 0, none⟩)] (blW v1 v2 v3) W' enters_Blend1
      (blend1_any X Y W H n p1 b1 c1 p2 b2 c2 p3 b3 c3 v1 v2 v3 W' ⟨k1, flAt_congr f1 (hb.block _ l1), g1⟩ ⟨k2, flAt_congr f2 (hb.block _ l2), g2⟩ ⟨k3, flAt_congr f3 (hb.block _ l3), g3⟩ hn2) en.symm hn1 hn2)
  have F3 := Lib.hid f3
  clear d1 d2 d3 d4 d5 d6 d7 d8 d9 h0 hn f1 f2 f3 g1 g2 g3 en
  go_enter Try.func42, Try.ntmps42
  go_wp2_with (first | (go_at_call 91; refine (CF.out _ _ (by repeat (first | exact Below.refl _ _ | refine Below.alloc ?_ (by first | omega | (simp; done) | (simp; omega)) _ | refine Below.setCell ?_ (by first | omega | (simp; done) | (simp; omega)) _ | refine Below.drew ?_)) (by (first | (rw [heap_alloc_get, if_pos rfl]; done) | ((simp only [heap_alloc_get, heap_size_alloc, if_true]) <;> ((repeat' split) <;> first | rfl | omega))))).mono ?_; rintro e w2 ⟨rfl, hb2⟩; have HA := Lib.hid (blkStay (b := w.heap.size) (o := fldO X Y W H (.slice (some ⟨b1, 0, none⟩) n c1)) (by (first | (rw [heap_alloc_get, if_pos rfl]; done) | ((simp only [heap_alloc_get, heap_size_alloc, if_true]) <;> ((repeat' split) <;> first | rfl | omega)))) hb2); have HB := Lib.hid (blkStay (b := w.heap.size + 1) (o := fldO X Y W H (.slice (some ⟨b2, 0, none⟩) n c2)) (by (first | (rw [heap_alloc_get, if_pos rfl]; done) | ((simp only [heap_alloc_get, heap_size_alloc, if_true]) <;> ((repeat' split) <;> first | rfl | omega)))) hb2); have HC := Lib.hid (blkStay (b := w.heap.size + 1 + 1) (o := fldO X Y W H (.slice (some ⟨b3, 0, none⟩) n c3)) (by (first | (rw [heap_alloc_get, if_pos rfl]; done) | ((simp only [heap_alloc_get, heap_size_alloc, if_true]) <;> ((repeat' split) <;> first | rfl | omega)))) hb2); have HS := Lib.hid (blkStay (b := w.heap.size + 1 + 1 + 1) (o := fldO 0 0 0 0 (.slice none 0 0)) (by (first | (rw [heap_alloc_get, if_pos rfl]; done) | ((simp only [heap_alloc_get, heap_size_alloc, if_true]) <;> ((repeat' split) <;> first | rfl | omega)))) hb2); have hB2 : Below w.heap.size w w2 := Below.trans (by repeat (first | exact Below.refl _ _ | refine Below.alloc ?_ (by first | omega | (simp; done) | (simp; omega)) _ | refine Below.setCell ?_ (by first | omega | (simp; done) | (simp; omega)) _ | refine Below.drew ?_)) (Below.mono hb2 (by first | omega | (simp; done) | (simp; omega))); obtain ⟨cA, fA, zA⟩ := blkC HA.out; obtain ⟨cB, fB, zB⟩ := blkC HB.out; obtain ⟨cC, fC, zC⟩ := blkC HC.out; clear hb2))
  have R3 := Lib.hid (flAt_congr F3.out (hB2.block _ l3))
  have l32 : b3 < w2.heap.size := Nat.lt_of_lt_of_le l3 hB2.size
  go_loopw [36] (fun i wr => ∃ k : Nat, k ≤ n ∧ i = .int .i64 k ∧ allB k (fun i => !badB (v3 i)) = true ∧ w2 = wr) (fun i _ => n - (intOf i).toNat)
  case atStart => exact ⟨0, Nat.zero_le _, rfl, rfl, rfl⟩
  case round =>
    obtain ⟨k, hk, rfl, ha, rfl⟩ := hrel
    have HA0 := Lib.hid ha
    clear ha
    by_cases hlt : k < n
    · have hcell := R3.out k hlt
      rw [Nat.zero_add] at hcell
      have hi2 : (k : Int) < (n : Int) := by omega
      cases hq : badB (v3 k) with
      | true =>
        have hx : blE n v3 = 3 := by unfold blE; rw [allB_no hlt (show (!badB (v3 k)) = false by rw [hq]; rfl)]; rfl
        have HX := Lib.hid hx
        clear hx
        obtain ⟨cS, fS, zS⟩ := blkC HS.out
        unfold badB at hq
        rw [Bool.or_eq_true] at hq
        cases h1 : (FloatKind.f32.format.order (v3 k) 0 == some .lt) with
        | true =>
          clear hq
          go_wp2
          refine bodyPost_ret (v := .tuple #[fldV 0 0 0 0 (.slice none 0 0), .int .i64 3]) (by simp [results, Try.results42, go_sem, cS]) rfl ?_
          rw [HX.out]
          exact .inl ⟨by decide, rfl, set5_below hB2 _ _ _ _ _ _ (by omega)⟩
        | false =>
          have h2 : (FloatKind.f32.format.order (v3 k) 1065353216 == some .gt) = true := by rcases hq with h | h; rw [h1] at h; cases h; exact h
          clear hq
          go_wp2
          refine bodyPost_ret (v := .tuple #[fldV 0 0 0 0 (.slice none 0 0), .int .i64 3]) (by simp [results, Try.results42, go_sem, cS]) rfl ?_
          rw [HX.out]
          exact .inl ⟨by decide, rfl, set5_below hB2 _ _ _ _ _ _ (by omega)⟩
      | false =>
        have HQ := Lib.hid hq
        unfold badB at hq
        rw [Bool.or_eq_false_iff] at hq
        obtain ⟨h1, h2⟩ := hq
        go_wp2
        go_roundw
        case rel =>
          refine ⟨k + 1, by omega, by go_num, allB_iff.2 fun i hi => ?_, trivial⟩
          rcases Nat.lt_or_ge i k with c | c
          · exact allB_iff.1 HA0.out i c
          · obtain rfl : i = k := by omega
            rw [HQ.out]; rfl
        case measure => simp [intOf]; omega
    · obtain rfl : k = n := by omega
      have HX := Lib.hid (show blE k v3 = 0 by unfold blE; rw [HA0.out]; rfl)
      go_wp2_with fail
      refine (BY.out _ w.heap.size (w.heap.size + 1) (w.heap.size + 1 + 1) hB2 HA.out HB.out HC.out).mono ?_
      intro e w4 hmade
      have z2 := hB2.size
      rcases hmade with ⟨hall, b', cap', rfl, hb', hlt', hrow, hbel⟩ | ⟨hall, rfl, hbel⟩
      · obtain ⟨cS, fS, zS⟩ := blkC (blkStay HS.out hbel)
        have zS2 := (blkC HS.out).2.2
        go_wp2
        refine bodyPost_ret (v := .tuple #[fldV X Y W H (.slice (some ⟨b', 0, none⟩) k cap'), .int .i64 0]) (by simp [results, Try.results42, go_sem, cS]) rfl ?_
        exact .inr ⟨HX.out, .inl ⟨hall, b', cap', rfl, by omega, by rw [set5_size]; exact hlt', flAt_congr hrow (set5_heap w4 _ _ _ _ _ _ _ (by omega)), set5_below (hB2.trans (hbel.mono z2)) _ _ _ _ _ _ (by omega)⟩⟩
      · obtain ⟨cS, fS, zS⟩ := blkC (blkStay HS.out hbel)
        go_wp2
        refine bodyPost_ret (v := .tuple #[fldV 0 0 0 0 (.slice none 0 0), .int .i64 3]) (by simp [results, Try.results42, go_sem, cS]) rfl ?_
        exact .inr ⟨HX.out, .inr ⟨hall, rfl, set5_below (hB2.trans (hbel.mono z2)) _ _ _ _ _ _ (by omega)⟩⟩
end Go.Proofs.Ytihjemookgnafaa

/- Blend of the reference, of three right fields of one region. -/
namespace Go.Proofs.Ytihjemookgnafaa
open Go.RowKit Fl
set_option linter.unusedVariables false

theorem enters_rBl1 : Enters 107 := by intro args W; simp [callFunc, Try.func107, Try.f107]

set_option maxHeartbeats 400000 in
theorem rbl1_any (x : Nat) (w : World) :
    Calls Try.prog 107 #[.float .f32 x] w fun e w' => e = .returned (.bool (badB x)) ∧ w = w' := by
  unfold badB
  cases h1 : (FloatKind.f32.format.order x 0 == some .lt) with
  | true =>
    go_enter Try.func107, Try.ntmps107
    go_wp2
    go_ret
    exact ⟨by simp, rfl⟩
  | false =>
    cases h2 : (FloatKind.f32.format.order x 1065353216 == some .gt) with
    | true =>
      go_enter Try.func107, Try.ntmps107
      go_wp2
      go_ret
      exact ⟨by simp, rfl⟩
    | false =>
      go_enter Try.func107, Try.ntmps107
      go_wp2
      go_ret
      exact ⟨by simp, rfl⟩

set_option maxHeartbeats 1000000 in
theorem rblIndex_any (b cap n : Nat) (v : Nat → Nat) (hl : n ≤ 9223372036854775807) (w : World) (hc : FlAt w b 0 n v) :
    Calls Try.prog 80 #[.slice (some ⟨b, 0, none⟩) n cap, .func (.func 107) #[] #[]] w fun e w' => (∃ r : Int, e = .returned (.int .i64 r) ∧ ((r = -1 ∧ allB n (fun i => !badB (v i)) = true) ∨ (0 ≤ r ∧ allB n (fun i => !badB (v i)) = false))) ∧ w = w' := by
  have hcall := enters_rBl1
  unfold Enters at hcall
  go_enter Try.func80, Try.ntmps80
  go_wp2
  go_loop [8] (fun i => ∃ k : Nat, k ≤ n ∧ i = .int .i64 k ∧ allB k (fun i => !badB (v i)) = true) (fun i => n - (intOf i).toNat)
  case atStart => exact ⟨0, Nat.zero_le _, rfl, rfl⟩
  case round =>
    obtain ⟨k, hk, rfl, ha⟩ := hrel
    have HA := Lib.hid ha
    clear ha
    by_cases hlt : k < n
    · have hcell := hc k hlt
      rw [Nat.zero_add] at hcell
      have IH := Lib.hid (fun w => rbl1_any (v k) w)
      cases hq : badB (v k) with
      | true =>
        rw [hq] at IH
        have HQ := Lib.hid (show allB n (fun i => !badB (v i)) = false from allB_no hlt (by rw [hq]; rfl))
        clear hq
        go_wp2_with fail
        refine (IH.out _).mono ?_
        rintro e w' ⟨rfl, rfl⟩
        go_wp2
        go_ret
        exact ⟨⟨k, rfl, .inr ⟨by omega, HQ.out⟩⟩, rfl⟩
      | false =>
        rw [hq] at IH
        have HQ := Lib.hid hq
        clear hq
        go_wp2_with fail
        refine (IH.out _).mono ?_
        rintro e w' ⟨rfl, rfl⟩
        go_wp2
        go_round
        case rel =>
          refine ⟨k + 1, by omega, by go_num, allB_iff.2 fun i hi => ?_⟩
          rcases Nat.lt_or_ge i k with c | c
          · exact allB_iff.1 HA.out i c
          · obtain rfl : i = k := by omega
            rw [HQ.out]; rfl
        case measure => simp [intOf]; omega
    · obtain rfl : k = n := by omega
      go_wp2
      go_ret
      exact ⟨⟨-1, rfl, .inl ⟨rfl, HA.out⟩⟩, rfl⟩

set_option maxHeartbeats 1000000 in
theorem rblContains_any (b cap n : Nat) (v : Nat → Nat) (hl : n ≤ 9223372036854775807) (w : World) (hc : FlAt w b 0 n v) :
    Calls Try.prog 27 #[.slice (some ⟨b, 0, none⟩) n cap, .func (.func 107) #[] #[]] w fun e w' => e = .returned (.bool (!allB n (fun i => !badB (v i)))) ∧ w = w' := by
  have IX := Lib.hid (rblIndex_any b cap n v hl w hc)
  clear hc
  go_enter Try.func27, Try.ntmps27
  go_wp2_with fail
  refine IX.out.mono ?_
  rintro e w' ⟨⟨r, rfl, h⟩, rfl⟩
  rcases h with ⟨rfl, h⟩ | ⟨h0, h⟩
  · have H := Lib.hid h
    clear h
    go_wp2
    go_ret
    exact ⟨ret_bool (by rw [H.out]; rfl), rfl⟩
  · have H := Lib.hid h
    clear h
    go_wp2
    go_ret
    exact ⟨ret_bool (by rw [H.out]; simp), rfl⟩

theorem blW_wf {n : Nat} {v1 v2 v3 : Nat → Nat} (g1 : allB n (fun i => hgtB (v1 i)) = true) (g2 : allB n (fun i => hgtB (v2 i)) = true) (g3 : allB n (fun i => hgtB (v3 i)) = true) : wf32 n (blW v1 v2 v3) := fun i hi => by
  obtain ⟨d, q, r, e1, _, e2, _, e3, _, h, _⟩ := mix_parts (i := 20) (j := 20) (by omega) (by omega) (hgt_bd (allB_iff.1 g1 i hi)) (hgt_bd (allB_iff.1 g2 i hi)) (hgt_bd (allB_iff.1 g3 i hi))
  show mixW (v1 i) (v2 i) (v3 i) < 4294967296
  rw [mix_eq e1 e2 e3]
  exact h

set_option maxHeartbeats 4000000 in
set_option maxRecDepth 100000 in
theorem rblend_any (X Y : Int) (W H n b1 c1 b2 c2 b3 c3 : Nat) (v1 v2 v3 : Nat → Nat) (w : World) (h0 : checkR X Y W H = 0) (hn : n = W * H) (f1 : FlAt w b1 0 n v1) (f2 : FlAt w b2 0 n v2) (f3 : FlAt w b3 0 n v3)
    (g1 : allB n (fun i => hgtB (v1 i)) = true) (g2 : allB n (fun i => hgtB (v2 i)) = true) (g3 : allB n (fun i => hgtB (v3 i)) = true) :
    Calls Try.prog 43 #[fldV X Y W H (.slice (some ⟨b1, 0, none⟩) n c1), fldV X Y W H (.slice (some ⟨b2, 0, none⟩) n c2), fldV X Y W H (.slice (some ⟨b3, 0, none⟩) n c3)] w (ScPost w X Y W H n (blW v1 v2 v3) (blE n v3)) := by
  obtain ⟨d1, d2, d3, d4, d5, d6, d7, d8, d9⟩ := checkR_zero h0
  have en : ((W : Int) * (H : Int)) = (n : Int) := by rw [hn]; simp
  have hnm : n = H * W := by rw [hn]; exact Nat.mul_comm _ _
  have hn2 : n ≤ 65536 := by omega
  have hn1 : 1 ≤ n := by rw [hn]; exact Nat.mul_pos (by omega) (by omega)
  have l1 : b1 < w.heap.size := World.block_lt_of_cell? w _ (f1 0 hn1)
  have l2 : b2 < w.heap.size := World.block_lt_of_cell? w _ (f2 0 hn1)
  have l3 : b3 < w.heap.size := World.block_lt_of_cell? w _ (f3 0 hn1)
  have CF := Lib.hid (fun W' (hb : Below w.heap.size w W') => rblContains_any b3 c3 n v3 (by omega) W' (flAt_congr f3 (hb.block _ l3)))
  have MP := Lib.hid (fun W' p1 p2 p3 (hb : Below w.heap.size w W') (k1 : W'.heap[p1]? = some (fldO X Y W H (.slice (some ⟨b1, 0, none⟩) n c1))) (k2 : W'.heap[p2]? = some (fldO X Y W H (.slice (some ⟨b2, 0, none⟩) n c2))) (k3 : W'.heap[p3]? = some (fldO X Y W H (.slice (some ⟨b3, 0, none⟩) n c3))) =>
    made_any X Y W H n 108 #[.pointer (some ⟨p1, 0, none⟩), .pointer (some ⟨p2, 0, none⟩), .pointer (some ⟨p3, 0, none⟩)] (blW v1 v2 v3) W' enters_rBlend2
      (rblend2_any X Y W H n p1 b1 c1 p2 b2 c2 p3 b3 c3 v1 v2 v3 W' ⟨k1, flAt_congr f1 (hb.block _ l1), g1⟩ ⟨k2, flAt_congr f2 (hb.block _ l2), g2⟩ ⟨k3, flAt_congr f3 (hb.block _ l3), g3⟩ hn2 (by omega) (by omega) (by omega) (by omega) (by omega) (by omega) (by omega) hnm) (blW_wf g1 g2 g3) (by omega) (by omega) (by omega) (by omega) (by omega) (by omega) (by omega) (by omega) hnm)
  have hx : blE n v3 = if (!allB n (fun i => !badB (v3 i))) then 3 else 0 := by unfold blE; cases allB n (fun i => !badB (v3 i)) <;> rfl
  have HX := Lib.hid hx
  generalize (!allB n (fun i => !badB (v3 i))) = bad at *
  clear d1 d2 d3 d4 d5 d6 d7 d8 d9 h0 hn f1 f2 f3 g1 g2 g3 en hnm hx l1 l2 l3 hn2 hn1
  have HB := Lib.hid (show Below w.heap.size w ((((w.alloc (fldO X Y W H (.slice (some ⟨b1, 0, none⟩) n c1))).alloc (fldO X Y W H (.slice (some ⟨b2, 0, none⟩) n c2))).alloc (fldO X Y W H (.slice (some ⟨b3, 0, none⟩) n c3))).alloc (fldO 0 0 0 0 (.slice none 0 0))) from (by repeat (first | exact Below.refl _ _ | refine Below.alloc ?_ (by first | omega | (simp; done) | (simp; omega)) _ | refine Below.setCell ?_ (by first | omega | (simp; done) | (simp; omega)) _ | refine Below.drew ?_)))
  cases bad with
  | true =>
    go_enter Try.func43, Try.ntmps43
    go_wp2_with (first | (go_at_call 27; refine (CF.out _ HB.out).mono ?_; rintro e w' ⟨rfl, rfl⟩))
    refine bodyPost_ret (v := .tuple #[fldV 0 0 0 0 (.slice none 0 0), .int .i64 3]) (by simp [results, Try.results43, go_sem]) rfl ?_
    rw [HX.out]
    exact .inl ⟨by decide, rfl, (by repeat (first | exact Below.refl _ _ | refine Below.alloc ?_ (by first | omega | (simp; done) | (simp; omega)) _ | refine Below.setCell ?_ (by first | omega | (simp; done) | (simp; omega)) _ | refine Below.drew ?_))⟩
  | false =>
    go_enter Try.func43, Try.ntmps43
    go_wp2_with (first | (go_at_call 27; refine (CF.out _ HB.out).mono ?_; rintro e w' ⟨rfl, rfl⟩))
    refine (MP.out _ w.heap.size (w.heap.size + 1) (w.heap.size + 1 + 1) HB.out (by (first | (rw [heap_alloc_get, if_pos rfl]; done) | ((simp only [heap_alloc_get, heap_size_alloc, if_true]) <;> ((repeat' split) <;> first | rfl | omega)))) (by (first | (rw [heap_alloc_get, if_pos rfl]; done) | ((simp only [heap_alloc_get, heap_size_alloc, if_true]) <;> ((repeat' split) <;> first | rfl | omega)))) (by (first | (rw [heap_alloc_get, if_pos rfl]; done) | ((simp only [heap_alloc_get, heap_size_alloc, if_true]) <;> ((repeat' split) <;> first | rfl | omega))))).mono ?_
    intro e w4 hmade
    rcases hmade with ⟨hall, b', cap', rfl, hb', hlt', hrow, hbel⟩ | ⟨hall, rfl, hbel⟩
    · have hS := Lib.hid (blkStay (b := w.heap.size + 1 + 1 + 1) (o := fldO 0 0 0 0 (.slice none 0 0)) (by (first | (rw [heap_alloc_get, if_pos rfl]; done) | ((simp only [heap_alloc_get, heap_size_alloc, if_true]) <;> ((repeat' split) <;> first | rfl | omega)))) hbel)
      have hB := HB.out.trans (hbel.mono HB.out.size)
      obtain ⟨cS, fS, zS⟩ := blkC hS.out
      have HBB := Lib.hid hb'
      clear hb'
      go_wp2
      refine bodyPost_ret (v := .tuple #[fldV X Y W H (.slice (some ⟨b', 0, none⟩) n cap'), .int .i64 0]) (by simp [results, Try.results43, go_sem, cS]) rfl ?_
      have hb' := HBB.out
      simp only [heap_size_alloc] at hb'
      exact .inr ⟨by rw [HX.out]; rfl, .inl ⟨hall, b', cap', rfl, by omega, by rw [set5_size]; exact hlt', flAt_congr hrow (set5_heap w4 _ _ _ _ _ _ _ (by omega)), set5_below hB _ _ _ _ _ _ (by omega)⟩⟩
    · have hS := Lib.hid (blkStay (b := w.heap.size + 1 + 1 + 1) (o := fldO 0 0 0 0 (.slice none 0 0)) (by (first | (rw [heap_alloc_get, if_pos rfl]; done) | ((simp only [heap_alloc_get, heap_size_alloc, if_true]) <;> ((repeat' split) <;> first | rfl | omega)))) hbel)
      have hB := HB.out.trans (hbel.mono HB.out.size)
      obtain ⟨cS, fS, zS⟩ := blkC hS.out
      go_wp2
      refine bodyPost_ret (v := .tuple #[fldV 0 0 0 0 (.slice none 0 0), .int .i64 3]) (by simp [results, Try.results43, go_sem, cS]) rfl ?_
      exact .inr ⟨by rw [HX.out]; rfl, .inr ⟨hall, rfl, set5_below hB _ _ _ _ _ _ (by omega)⟩⟩
end Go.Proofs.Ytihjemookgnafaa

/- A mix of a cell with itself is that cell, by value. -/
namespace Go.Proofs.Ytihjemookgnafaa
open Go.RowKit Fl
set_option linter.unusedVariables false

theorem mix_self {x s : Nat} (hx : Bd 20 x) (hs : Bd 20 s) : (FloatKind.f32.format.order (mixW x x s) x == some .eq) = true := by
  obtain ⟨d, p, r, e1, _, e2, _, e3, _⟩ := mix_parts (i := 20) (j := 20) (by decide) (by decide) hx hx hs
  obtain ⟨a, va, ba⟩ := val_bd hx
  obtain ⟨c, vc, _⟩ := val_bd hs
  have vd : vS d = some 0 := by
    have := vS_sub (B := 1) e1 va va (by simp) (by decide)
    rwa [show a - a = 0 by omega, rdS_zero] at this
  have vp : vS p = some 0 := by
    have := vS_mul (c := 0) (B := 1) e2 vd vc (by simp) (by simp) (by decide)
    rwa [rdS_zero] at this
  have vr : vS r = some a := by
    obtain ⟨B, hB⟩ : ∃ B : Nat, B = 1105 := ⟨_, rfl⟩
    obtain ⟨k, hk⟩ : ∃ k : Nat, k = 1074 + 20 := ⟨_, rfl⟩
    rw [← hk] at ba
    have := vS_add (B := B) e3 va vp (by rw [Int.add_zero]; exact Nat.lt_of_le_of_lt ba (Nat.pow_lt_pow_right (by decide) (by omega))) (by omega)
    rwa [Int.add_zero, rdS_self va] at this
  rw [mix_eq e1 e2 e3, f32f, eql_val vr va]; simp

theorem blW_self {n : Nat} {v s : Nat → Nat} (g1 : allB n (fun i => hgtB (v i)) = true) (g2 : allB n (fun i => hgtB (s i)) = true) (i : Nat) (hi : i < n) : (FloatKind.f32.format.order (blW v v s i) (v i) == some .eq) = true :=
  mix_self (hgt_bd (allB_iff.1 g1 i hi)) (hgt_bd (allB_iff.1 g2 i hi))

end Go.Proofs.Ytihjemookgnafaa

/- slices.Repeat of heights, 300 times: heights, 300 times as many. -/
namespace Go.Proofs.Ytihjemookgnafaa
open Go.RowKit Fl
set_option linter.unusedVariables false

theorem and32 (v : Nat) (hv : v < 4294967296) : bits BinOp.and IntKind.u64 (v : Int) 4294967295 = (v : Int) := by
  have := u64_and_nat v 4294967295 (by omega) (by decide)
  have e : v &&& 4294967295 = v := by rw [show (4294967295 : Nat) = 2 ^ 32 - 1 from rfl, Nat.and_two_pow_sub_one_eq_mod]; exact Nat.mod_eq_of_lt hv
  rw [e] at this
  simpa using this

set_option maxHeartbeats 1000000 in
theorem mul64_300 (n : Nat) (hn : n ≤ 256) (w : World) :
    Calls Try.prog 144 #[.int .u64 n, .int .u64 300] w fun e w' => e = .returned (.tuple #[.int .u64 0, .int .u64 ((n * 300 : Nat) : Int)]) ∧ w = w' := by
  have a1 := and32 n (by omega)
  have a2 : bits BinOp.and IntKind.u64 300 4294967295 = 300 := by decide
  have a3 : bits BinOp.and IntKind.u64 0 4294967295 = 0 := by decide
  have d1 : (n : Int) / 4294967296 = 0 := by omega
  have d2 : (n : Int) * 300 / 4294967296 = 0 := by omega
  go_enter Try.func144, Try.ntmps144
  go_wp2
  go_ret2
  exact ⟨by simp, rfl⟩

theorem make_f32L (n : Nat) (hn : n ≤ 1048576) (w : World) :
    (Instr.makeSlice 34 (.int .i64 (n : Int)) (.int .i64 (n : Int))).run Try.prog w = .ok (.slice (some ⟨w.heap.size, 0, none⟩) n n) (w.alloc (.cells (madeCells #[Value.float .f32 0] n) 37)) := by
  have h : (Try.prog.info? 37).map (fun i => (i.zero, i.size, i.bytes)) = some (some (.float .f32 0), 1, 4) := by kernel_rfl
  obtain ⟨i0, hi, hz0, hz1, hz2⟩ := info_parts h
  have hr := run_make (P := Try.prog) w 34 37 i0 (.float .f32 0) Try.underlying34 hi hz0 .i64 .i64 n n (by omega) (by omega) (by rw [hz2]; omega) (by omega)
  rw [hz1, Nat.mul_one, Int.toNat_natCast] at hr
  exact hr

theorem heap_alloc_newR (w : World) (o : Obj) : (w.alloc o).heap[w.heap.size]? = some o := by rw [heap_alloc_get, if_pos rfl]
theorem hgt0R : hgtB 0 = true := by kernel_rfl
theorem fitRow_ltR {w : World} {b n : Nat} (h : FitRow w b n n) : b < w.heap.size := by
  obtain ⟨cs, h1, _⟩ := h
  exact (blkC h1).2.2
/-- Heights copied into a row of heights. -/
theorem copy_heights {w : World} {b M g N s sLen sCap o dLen dCap : Nat} {ty : TypeId} (hs : FitRow w b M M) (hd : FitRow w g N N) (h1 : s + sLen ≤ M) (h2 : o + min sLen dLen ≤ N) :
    ∃ w', (Builtin.copy_ #[34, 34] ty #[.slice (some ⟨g, o, none⟩) dLen dCap, .slice (some ⟨b, s, none⟩) sLen sCap]).run Try.prog w = .ok (.int .i64 ((min sLen dLen : Nat) : Int)) w' ∧ FitRow w' g N N ∧ (∀ k, k ≠ g → w'.heap[k]? = w.heap[k]?) ∧ (∀ B w0, Below B w0 w → B ≤ g → Below B w0 w') ∧ w'.heap.size = w.heap.size := by
  obtain ⟨cs, a1, a2, a3⟩ := hs
  obtain ⟨ds, d1, d2, d3⟩ := hd
  obtain ⟨m, hm⟩ : ∃ m, m = min sLen dLen := ⟨_, rfl⟩
  have hm1 : m ≤ sLen := by omega
  have hinfo : (Try.prog.info? 37).map (·.size) = some 1 := by kernel_rfl
  have hl : ((cs.toList.drop s).take m).length = m := by simp; omega
  have lo : (ds.toList.take o).length = o := by simp; omega
  have hg : ∀ j v, ((cs.toList.drop s).take m)[j]? = some v → cs[s + j]? = some v ∧ j < m := by
    intro j v hj
    rw [List.getElem?_take] at hj
    split at hj
    · rename_i c
      rw [List.getElem?_drop] at hj
      exact ⟨by rw [← Array.getElem?_toList]; exact hj, c⟩
    · cases hj
  have hr := run_copy_row (P := Try.prog) w 34 34 ty 37 g o dLen dCap ⟨b, s, none⟩ sLen sCap ds 37 ((cs.toList.drop s).take m) Try.underlying34 hinfo d1 (by rw [hl, hm])
    (fun j v hj => by rw [Go.WideShapes.add_plain, (blkC a1).1]; exact (hg j v hj).1) (by rw [hl, d2]; omega)
    (fun v hv => by
      obtain ⟨j, hj⟩ := List.getElem?_of_mem hv
      obtain ⟨e1, e2⟩ := hg j v hj
      obtain ⟨x, e3, _⟩ := a3 (s + j) (by omega)
      rw [e3] at e1; cases e1; rfl)
  rw [hl] at hr
  refine ⟨_, by rw [hr, ← hm]; rfl, ⟨_, setRow_heap w g ds _ _ _ d1, ?_, ?_⟩, fun k hk => setRow_other w g k _ hk, fun B w0 hb hB => below_setRow hb hB _, by simp⟩
  · simp; omega
  · intro j hj
    simp only [List.getElem?_toArray]
    by_cases c1 : j < o
    · obtain ⟨x, e1, e2⟩ := d3 j hj
      refine ⟨x, ?_, e2⟩
      rw [List.append_assoc, List.getElem?_append_left (by simp; omega), List.getElem?_take, if_pos c1, Array.getElem?_toList]; exact e1
    · by_cases c2 : j < o + m
      · obtain ⟨x, e1, e2, e3⟩ := a3 (s + (j - o)) (by omega)
        refine ⟨x, ?_, e2, fun _ => e3 (by omega)⟩
        rw [List.append_assoc, List.getElem?_append_right (by rw [lo]; omega), lo, List.getElem?_append_left (by rw [hl]; omega), List.getElem?_take, if_pos (by omega), List.getElem?_drop, Array.getElem?_toList]
        exact e1
      · obtain ⟨x, e1, e2⟩ := d3 j hj
        refine ⟨x, ?_, e2⟩
        rw [List.append_assoc, List.getElem?_append_right (by rw [lo]; omega), lo, List.getElem?_append_right (by rw [hl]; omega), hl, List.getElem?_drop, Array.getElem?_toList, show o + m + (j - o - m) = j by omega]
        exact e1

set_option maxHeartbeats 1000000 in
theorem mul_300 (n : Nat) (hn : n ≤ 256) (w : World) :
    Calls Try.prog 104 #[.int .u64 n, .int .u64 300] w fun e w' => e = .returned (.tuple #[.int .u64 0, .int .u64 ((n * 300 : Nat) : Int)]) ∧ w = w' := by
  have M := Lib.hid (fun w => mul64_300 n hn w)
  clear hn
  go_enter Try.func104, Try.ntmps104
  go_wp2_with (first | (go_at_call 144; refine (M.out _).mono ?_; rintro e w' ⟨rfl, rfl⟩))
  go_ret2
  exact ⟨rfl, rfl⟩

theorem slice_fl_l (g n N : Nat) (hn : n < N) (W : World) : (Instr.slice 34 (.slice (some ⟨g, 0, none⟩) N N) (some (.int .i64 (n : Int))) none none).run Try.prog W = .ok (.slice (some ⟨g, n, none⟩) (N - n) (N - n)) W := by
  have hs : (sizeOf (Try.prog.elem 34)).run Try.prog W = .ok 1 W := by kernel_rfl
  rw [run_slice_l W 34 _ N N (by kernel_rfl) .i64 n (by omega) (by omega), hs]
  show Result.ok (sliced _ _ _ _ _) W = _
  unfold sliced
  rw [if_neg (by omega)]
  simp [Addr.add]; omega
theorem slice_fl_h (g n N : Nat) (hn : n ≤ N) (W : World) : (Instr.slice 34 (.slice (some ⟨g, 0, none⟩) N N) none (some (.int .i64 (n : Int))) none).run Try.prog W = .ok (.slice (some ⟨g, 0, none⟩) n N) W := by
  have hs : (sizeOf (Try.prog.elem 34)).run Try.prog W = .ok 1 W := by kernel_rfl
  rw [run_slice_h W 34 _ N N (by kernel_rfl) .i64 n (by omega) (by omega), hs]
  show Result.ok (sliced _ _ _ _ _) W = _
  unfold sliced
  simp [Addr.add]

set_option maxHeartbeats 4000000 in
set_option maxRecDepth 100000 in
theorem repeat_any (b n : Nat) (w : World) (hb : FitRow w b n n) (h1 : 1 ≤ n) (h2 : n ≤ 256) :
    Calls Try.prog 41 #[.slice (some ⟨b, 0, none⟩) n n, .int .i64 300] w fun e w' =>
      ∃ g, e = .returned (.slice (some ⟨g, 0, none⟩) (n * 300) (n * 300)) ∧ w.heap.size ≤ g ∧ FitRow w' g (n * 300) (n * 300) ∧ Below w.heap.size w w' := by
  have ML := Lib.hid (fun w => mul_300 n h2 w)
  obtain ⟨N, hN⟩ : ∃ N, N = n * 300 := ⟨_, rfl⟩
  rw [← hN] at ML ⊢
  have hN1 : N ≤ 76800 := by omega
  have hnN : n ≤ N := by omega
  have hMK := make_f32L N (by omega)
  have HB := Lib.hid hb
  have z := fitRow_ltR hb
  have HN := Lib.hid hN
  clear hb hN
  have F0 : FitRow (w.alloc (.cells (madeCells #[Value.float .f32 0] N) 37)) w.heap.size N N :=
    ⟨madeCells #[Value.float .f32 0] N, heap_alloc_newR w _, size_madeCells _ _, fun j hj => ⟨0, by simp [madeCells, hj, Nat.mod_one], by omega, fun _ => hgt0R⟩⟩
  have F1 : FitRow (w.alloc (.cells (madeCells #[Value.float .f32 0] N) 37)) b n n := by
    obtain ⟨cs, c1, c2⟩ := HB.out
    exact ⟨cs, by rw [heap_alloc_get, if_neg (by omega)]; exact c1, c2⟩
  obtain ⟨w2, hc, F2, o2, bl2, s2⟩ := copy_heights (ty := 3) (s := 0) (sLen := n) (sCap := n) (o := 0) (dLen := N) (dCap := N) F1 F0 (by omega) (by omega)
  rw [Nat.min_eq_left hnN] at hc
  have B2 : Below w.heap.size w w2 := bl2 _ _ ((Below.refl _ _).alloc (Nat.le_refl _) _) (Nat.le_refl _)
  have BL := Lib.hid B2
  have FL := Lib.hid F2
  clear F0 F1 F2 o2 bl2 s2 B2
  go_enter Try.func41, Try.ntmps41
  go_wp2_with (first | (go_at_call 104; refine (ML.out _).mono ?_; rintro e w' ⟨rfl, rfl⟩))
  clear hMK hc
  go_loopw [8] (fun i wr => ∃ k : Nat, 1 ≤ k ∧ k ≤ N ∧ i = .int .i64 k ∧ FitRow wr w.heap.size N N ∧ Below w.heap.size w wr) (fun i _ => N - (intOf i).toNat)
  case atStart => exact ⟨n, h1, hnN, rfl, FL.out, BL.out⟩
  case round =>
    obtain ⟨k, k1, k2, rfl, hf, hb⟩ := hrel
    by_cases hlt : k < N
    · have s1 := fun W => slice_fl_l w.heap.size k N hlt W
      have s2 := fun W => slice_fl_h w.heap.size k N k2 W
      obtain ⟨w3, hc3, F3, o3, bl3, sz3⟩ := copy_heights (w := wr.drew) (ty := 3) (b := w.heap.size) (g := w.heap.size) (s := 0) (sLen := k) (sCap := N) (o := k) (dLen := N - k) (dCap := N - k) (M := N) (N := N) hf hf (by omega) (by omega)
      have B3 := bl3 _ _ hb.drew (Nat.le_refl _)
      obtain ⟨m, hm⟩ : ∃ m, m = min k (N - k) := ⟨_, rfl⟩
      rw [← hm] at hc3
      have hm1 : 1 ≤ m := by omega
      have hm2 : k + m ≤ N := by omega
      have HF := Lib.hid F3
      have HBL := Lib.hid B3
      clear hm hf hb F3 o3 bl3 sz3 B3
      go_wp2
      go_region
      go_wp2
      go_roundw
      case rel => exact ⟨k + m, by omega, hm2, by go_num, HF.out, HBL.out⟩
      case measure => simp [intOf]; omega
    · obtain rfl : k = N := by omega
      go_wp2
      go_ret
      exact ⟨w.heap.size, rfl, Nat.le_refl _, hf, hb⟩
end Go.Proofs.Ytihjemookgnafaa

/- What CellsBlend wants of the fields that fit makes (FitAt, fit_at as in XCut9, XCutLaw: those texts are not imported). -/
namespace Go.Proofs.Ytihjemookgnafaa
open Go.RowKit Fl
set_option linter.unusedVariables false

/-- A field that fit has made lies in block p, its singles in a block from lo on. -/
structure FitAt (w : World) (p lo : Nat) (X Y : Int) (W H n b : Nat) (v : Nat → Nat) : Prop where
  chk : checkR X Y W H = 0
  num : n = W * H
  pos : 1 ≤ n
  few : n ≤ 256
  fld : w.heap[p]? = some (fldO X Y W H (.slice (some ⟨b, 0, none⟩) n n))
  low : lo ≤ b
  lt : b < w.heap.size
  row : FlAt w b 0 n v
  wf : wf32 n v
  hgt : allB n (fun i => hgtB (v i)) = true
theorem FitAt.stay {w w' : World} {p lo : Nat} {X Y : Int} {W H n b : Nat} {v : Nat → Nat} (h : FitAt w p lo X Y W H n b v) (hb : Below w.heap.size w w') : FitAt w' p lo X Y W H n b v :=
  ⟨h.chk, h.num, h.pos, h.few, blkStay h.fld hb, h.low, Nat.lt_of_lt_of_le h.lt hb.size, flAt_congr h.row (hb.block _ h.lt), h.wf, h.hgt⟩
theorem fit_at {w w0 : World} {X Y W' H' : Int} {b n p lo : Nat} (x1 : -5000 ≤ X) (x2 : X ≤ 5000) (y1 : -5000 ≤ Y) (y2 : Y ≤ 5000) (u1 : 1 ≤ W') (u2 : W' ≤ 16) (h1 : 1 ≤ H') (h2 : H' ≤ 16) (hn : (n : Int) = W' * H') (hn1 : 1 ≤ n) (hn2 : n ≤ 256) (hlo : lo ≤ b) (hrow : FitRow w b n n) (hp : w0.heap[p]? = some (fldO X Y W' H' (.slice (some ⟨b, 0, none⟩) n n))) (hb : w0.heap[b]? = w.heap[b]?) (hlt : b < w0.heap.size) :
    ∃ (W H : Nat) (v : Nat → Nat), W' = W ∧ H' = H ∧ FitAt w0 p lo X Y W H n b v := by
  obtain ⟨W, rfl⟩ : ∃ W : Nat, W' = W := ⟨W'.toNat, by omega⟩
  obtain ⟨H, rfl⟩ : ∃ H : Nat, H' = H := ⟨H'.toNat, by omega⟩
  obtain ⟨v, fv, wv, hv, bv⟩ := fit_fn hrow
  refine ⟨W, H, v, rfl, rfl, fit_check x1 x2 y1 y2 u1 u2 h1 h2 hn hn2, ?_, hn1, hn2, hp, hlo, hlt, flAt_congr fv hb, wv, hv⟩
  have : (n : Int) = ((W * H : Nat) : Int) := by rw [hn]; simp
  omega

theorem fitRow_congr {w w' : World} {b n : Nat} (h : FitRow w b n n) (e : w'.heap[b]? = w.heap[b]?) : FitRow w' b n n := by
  obtain ⟨cs, h1, h2⟩ := h
  exact ⟨cs, by rw [e]; exact h1, h2⟩
theorem fitRow_lt {w : World} {b n : Nat} (h : FitRow w b n n) : b < w.heap.size := by
  obtain ⟨cs, h1, _⟩ := h
  exact (blkC h1).2.2
/-- What stands behind the three calls of fit. -/
def TriAt (w wx : World) : Prop :=
  ∃ (X Y : Int) (W H n b : Nat) (v : Nat → Nat) (X2 Y2 : Int) (W2 H2 n2 b2 : Nat) (v2 : Nat → Nat) (X3 Y3 : Int) (W3 H3 n3 b3 : Nat) (v3 : Nat → Nat), FitAt wx w.heap.size (w.heap.size + 1 + 1 + 1) X Y W H n b v ∧ FitAt wx (w.heap.size + 1) (w.heap.size + 1 + 1 + 1) X2 Y2 W2 H2 n2 b2 v2 ∧ FitAt wx (w.heap.size + 1 + 1) (w.heap.size + 1 + 1 + 1) X3 Y3 W3 H3 n3 b3 v3 ∧ FitRow wx b2 n2 n2 ∧ FitRow wx b3 n3 n3 ∧ Below w.heap.size w wx

theorem tri_rel {w w4 : World} {a0 a1 a2 a3 a4 c0 c1 c2 c3 c4 d0 d1 d2 d3 d4 : Value} {X Y W' H' X2 Y2 W2' H2' X3 Y3 W3' H3' : Int} {b n b2 n2 b3 n3 : Nat}
    (HA : w4.heap[w.heap.size]? = some (.cells #[a0, a1, a2, a3, a4] 36)) (HG : w4.heap[w.heap.size + 1]? = some (.cells #[c0, c1, c2, c3, c4] 36)) (HW : w4.heap[w.heap.size + 1 + 1]? = some (.cells #[d0, d1, d2, d3, d4] 36)) (HB : Below w.heap.size w w4)
    (x1 : -5000 ≤ X) (x2 : X ≤ 5000) (y1 : -5000 ≤ Y) (y2 : Y ≤ 5000) (u1 : 1 ≤ W') (u2 : W' ≤ 16) (h1 : 1 ≤ H') (h2 : H' ≤ 16) (hn : (n : Int) = W' * H') (hn1 : 1 ≤ n) (hn2 : n ≤ 256) (hlo : w.heap.size + 1 + 1 + 1 ≤ b) (hrow : FitRow w4 b n n)
    (gx1 : -5000 ≤ X2) (gx2 : X2 ≤ 5000) (gy1 : -5000 ≤ Y2) (gy2 : Y2 ≤ 5000) (gu1 : 1 ≤ W2') (gu2 : W2' ≤ 16) (gh1 : 1 ≤ H2') (gh2 : H2' ≤ 16) (ghn : (n2 : Int) = W2' * H2') (ghn1 : 1 ≤ n2) (ghn2 : n2 ≤ 256) (ghlo : w.heap.size + 1 + 1 + 1 ≤ b2) (ghrow : FitRow w4 b2 n2 n2)
    (kx1 : -5000 ≤ X3) (kx2 : X3 ≤ 5000) (ky1 : -5000 ≤ Y3) (ky2 : Y3 ≤ 5000) (ku1 : 1 ≤ W3') (ku2 : W3' ≤ 16) (kh1 : 1 ≤ H3') (kh2 : H3' ≤ 16) (khn : (n3 : Int) = W3' * H3') (khn1 : 1 ≤ n3) (khn2 : n3 ≤ 256) (khlo : w.heap.size + 1 + 1 + 1 ≤ b3) (khrow : FitRow w4 b3 n3 n3) :
    TriAt w (set5 (set5 (set5 w4 w.heap.size (.int .i64 X) (.int .i64 Y) (.int .i64 W') (.int .i64 H') (.slice (some ⟨b, 0, none⟩) n n)) (w.heap.size + 1) (.int .i64 X2) (.int .i64 Y2) (.int .i64 W2') (.int .i64 H2') (.slice (some ⟨b2, 0, none⟩) n2 n2)) (w.heap.size + 1 + 1) (.int .i64 X3) (.int .i64 Y3) (.int .i64 W3') (.int .i64 H3') (.slice (some ⟨b3, 0, none⟩) n3 n3)) := by
  have lt1 := fitRow_lt hrow
  have lt2 := fitRow_lt ghrow
  have lt3 := fitRow_lt khrow
  have e : ∀ k, k ≠ w.heap.size → k ≠ w.heap.size + 1 → k ≠ w.heap.size + 1 + 1 → (set5 (set5 (set5 w4 w.heap.size (.int .i64 X) (.int .i64 Y) (.int .i64 W') (.int .i64 H') (.slice (some ⟨b, 0, none⟩) n n)) (w.heap.size + 1) (.int .i64 X2) (.int .i64 Y2) (.int .i64 W2') (.int .i64 H2') (.slice (some ⟨b2, 0, none⟩) n2 n2)) (w.heap.size + 1 + 1) (.int .i64 X3) (.int .i64 Y3) (.int .i64 W3') (.int .i64 H3') (.slice (some ⟨b3, 0, none⟩) n3 n3)).heap[k]? = w4.heap[k]? := fun k k1 k2 k3 => by rw [set5_heap _ _ _ _ _ _ _ _ k3, set5_heap _ _ _ _ _ _ _ _ k2, set5_heap _ _ _ _ _ _ _ _ k1]
  obtain ⟨W, H, v, rfl, rfl, F1⟩ := fit_at (p := w.heap.size) x1 x2 y1 y2 u1 u2 h1 h2 hn hn1 hn2 hlo hrow ((set5_heap _ _ _ _ _ _ _ _ (by omega)).trans ((set5_heap _ _ _ _ _ _ _ _ (by omega)).trans (set5_self _ _ _ _ _ HA))) (e b (by omega) (by omega) (by omega)) (by rw [set5_size, set5_size, set5_size]; exact lt1)
  obtain ⟨W2, H2, v2, rfl, rfl, F2⟩ := fit_at (p := w.heap.size + 1) gx1 gx2 gy1 gy2 gu1 gu2 gh1 gh2 ghn ghn1 ghn2 ghlo ghrow ((set5_heap _ _ _ _ _ _ _ _ (by omega)).trans (set5_self _ _ _ _ _ ((set5_heap _ _ _ _ _ _ _ _ (by omega)).trans HG))) (e b2 (by omega) (by omega) (by omega)) (by rw [set5_size, set5_size, set5_size]; exact lt2)
  obtain ⟨W3, H3, v3, rfl, rfl, F3⟩ := fit_at (p := w.heap.size + 1 + 1) kx1 kx2 ky1 ky2 ku1 ku2 kh1 kh2 khn khn1 khn2 khlo khrow (set5_self _ _ _ _ _ ((set5_heap _ _ _ _ _ _ _ _ (by omega)).trans ((set5_heap _ _ _ _ _ _ _ _ (by omega)).trans HW))) (e b3 (by omega) (by omega) (by omega)) (by rw [set5_size, set5_size, set5_size]; exact lt3)
  exact ⟨X, Y, W, H, n, b, v, X2, Y2, W2, H2, n2, b2, v2, X3, Y3, W3, H3, n3, b3, v3, F1, F2, F3, fitRow_congr ghrow (e b2 (by omega) (by omega) (by omega)), fitRow_congr khrow (e b3 (by omega) (by omega) (by omega)), set5_below (set5_below (set5_below HB _ _ _ _ _ _ (Nat.le_refl _)) _ _ _ _ _ _ (by omega)) _ _ _ _ _ _ (by omega)⟩


/-- What stands behind the copies of the region. -/
def QuadAt (w wx : World) : Prop :=
  ∃ (X Y : Int) (W H n b : Nat) (v : Nat → Nat) (n2 b2 n3 b3 : Nat), FitAt wx w.heap.size (w.heap.size + 1 + 1 + 1) X Y W H n b v ∧ wx.heap[w.heap.size + 1]? = some (fldO X Y W H (.slice (some ⟨b2, 0, none⟩) n2 n2)) ∧ wx.heap[w.heap.size + 1 + 1]? = some (fldO X Y W H (.slice (some ⟨b3, 0, none⟩) n3 n3)) ∧
    FitRow wx b2 n2 n2 ∧ FitRow wx b3 n3 n3 ∧ 1 ≤ n2 ∧ n2 ≤ 256 ∧ 1 ≤ n3 ∧ n3 ≤ 256 ∧ w.heap.size + 1 + 1 + 1 ≤ b2 ∧ w.heap.size + 1 + 1 + 1 ≤ b3 ∧ Below w.heap.size w wx

def set4 (wr : World) (b : Nat) (u1 u2 u3 u4 : Value) : World := (((wr.setCell ⟨b, 0, none⟩ u1).setCell ⟨b, 1, none⟩ u2).setCell ⟨b, 2, none⟩ u3).setCell ⟨b, 3, none⟩ u4
theorem set4_heap (wr : World) (b k : Nat) (u1 u2 u3 u4 : Value) (h : k ≠ b) : (set4 wr b u1 u2 u3 u4).heap[k]? = wr.heap[k]? := by
  unfold set4
  rw [Below.heap_setCell _ _ _ _ h, Below.heap_setCell _ _ _ _ h, Below.heap_setCell _ _ _ _ h, Below.heap_setCell _ _ _ _ h]
theorem set4_below {w wr : World} {B : Nat} (hb : Below B w wr) (b : Nat) (u1 u2 u3 u4 : Value) (h : B ≤ b) : Below B w (set4 wr b u1 u2 u3 u4) :=
  (((hb.setCell (p := ⟨b, 0, none⟩) h u1).setCell (p := ⟨b, 1, none⟩) h u2).setCell (p := ⟨b, 2, none⟩) h u3).setCell (p := ⟨b, 3, none⟩) h u4
theorem set4_size (wr : World) (b : Nat) (u1 u2 u3 u4 : Value) : (set4 wr b u1 u2 u3 u4).heap.size = wr.heap.size := by simp [set4]
theorem set4_self {wr : World} {b : Nat} {a1 a2 a3 a4 a5 : Value} {t : TypeId} (u1 u2 u3 u4 : Value) (h : wr.heap[b]? = some (.cells #[a1, a2, a3, a4, a5] t (0, 0))) :
    (set4 wr b u1 u2 u3 u4).heap[b]? = some (.cells #[u1, u2, u3, u4, a5] t (0, 0)) := by
  have h1 := heap_setCell_same wr b 0 _ _ u1 h
  have h2 := heap_setCell_same _ b 1 _ _ u2 h1
  have h3 := heap_setCell_same _ b 2 _ _ u3 h2
  have h4 := heap_setCell_same _ b 3 _ _ u4 h3
  exact h4

theorem FitAt.congr {w w' : World} {p lo : Nat} {X Y : Int} {W H n b : Nat} {v : Nat → Nat} (h : FitAt w p lo X Y W H n b v) (e1 : w'.heap[p]? = w.heap[p]?) (e2 : w'.heap[b]? = w.heap[b]?) (e3 : w'.heap.size = w.heap.size) : FitAt w' p lo X Y W H n b v :=
  ⟨h.chk, h.num, h.pos, h.few, e1.trans h.fld, h.low, by rw [e3]; exact h.lt, flAt_congr h.row e2, h.wf, h.hgt⟩

theorem quad_rel {w wx : World} {X Y : Int} {W H n b : Nat} {v : Nat → Nat} {X2 Y2 : Int} {W2 H2 n2 b2 : Nat} {v2 : Nat → Nat} {X3 Y3 : Int} {W3 H3 n3 b3 : Nat} {v3 : Nat → Nat} (F1 : FitAt wx w.heap.size (w.heap.size + 1 + 1 + 1) X Y W H n b v) (F2 : FitAt wx (w.heap.size + 1) (w.heap.size + 1 + 1 + 1) X2 Y2 W2 H2 n2 b2 v2) (F3 : FitAt wx (w.heap.size + 1 + 1) (w.heap.size + 1 + 1 + 1) X3 Y3 W3 H3 n3 b3 v3) (r2 : FitRow wx b2 n2 n2) (r3 : FitRow wx b3 n3 n3) (hb : Below w.heap.size w wx) :
    QuadAt w (set4 (set4 wx (w.heap.size + 1) (.int .i64 X) (.int .i64 Y) (.int .i64 W) (.int .i64 H)) (w.heap.size + 1 + 1) (.int .i64 X) (.int .i64 Y) (.int .i64 W) (.int .i64 H)) := by
  have l1 := F1.low
  have l2 := F2.low
  have l3 := F3.low
  have e : ∀ k, k ≠ w.heap.size + 1 → k ≠ w.heap.size + 1 + 1 → (set4 (set4 wx (w.heap.size + 1) (.int .i64 X) (.int .i64 Y) (.int .i64 W) (.int .i64 H)) (w.heap.size + 1 + 1) (.int .i64 X) (.int .i64 Y) (.int .i64 W) (.int .i64 H)).heap[k]? = wx.heap[k]? := fun k k1 k2 => by rw [set4_heap _ _ _ _ _ _ _ k2, set4_heap _ _ _ _ _ _ _ k1]
  exact ⟨X, Y, W, H, n, b, v, n2, b2, n3, b3, F1.congr (e _ (by omega) (by omega)) (e _ (by omega) (by omega)) (by rw [set4_size, set4_size]), (set4_heap _ _ _ _ _ _ _ (by omega)).trans (set4_self _ _ _ _ F2.fld), set4_self _ _ _ _ ((set4_heap _ _ _ _ _ _ _ (by omega)).trans F3.fld), fitRow_congr r2 (e _ (by omega) (by omega)), fitRow_congr r3 (e _ (by omega) (by omega)), F2.pos, F2.few, F3.pos, F3.few, l2, l3, set4_below (set4_below hb _ _ _ _ _ (by omega)) _ _ _ _ _ (by omega)⟩
theorem QuadAt.drew {w wx : World} (h : QuadAt w wx) : QuadAt w wx.drew := by
  obtain ⟨X, Y, W, H, n, b, v, n2, b2, n3, b3, F, g, k, r2, r3, a1, a2, a3, a4, l2, l3, hb⟩ := h
  exact ⟨X, Y, W, H, n, b, v, n2, b2, n3, b3, F.congr rfl rfl rfl, g, k, fitRow_congr r2 rfl, fitRow_congr r3 rfl, a1, a2, a3, a4, l2, l3, hb.drew⟩

/-- Three fields of one region, each with as many right cells as the region has: what the law asks about. -/
def PentAt (w wx : World) : Prop :=
  ∃ (X Y : Int) (W H n b : Nat) (v : Nat → Nat) (g2 N2 : Nat) (v2 : Nat → Nat) (g3 N3 : Nat) (v3 : Nat → Nat), FitAt wx w.heap.size (w.heap.size + 1 + 1 + 1) X Y W H n b v ∧ wx.heap[w.heap.size + 1]? = some (fldO X Y W H (.slice (some ⟨g2, 0, none⟩) n N2)) ∧ wx.heap[w.heap.size + 1 + 1]? = some (fldO X Y W H (.slice (some ⟨g3, 0, none⟩) n N3)) ∧
    (FlAt wx g2 0 n v2 ∧ wf32 n v2 ∧ allB n (fun i => hgtB (v2 i)) = true ∧ g2 < wx.heap.size) ∧ (FlAt wx g3 0 n v3 ∧ wf32 n v3 ∧ allB n (fun i => hgtB (v3 i)) = true ∧ g3 < wx.heap.size) ∧ Below w.heap.size w wx

theorem part_row {w : World} {g n N : Nat} (h : FitRow w g N N) (hn : n ≤ N) : ∃ v, FlAt w g 0 n v ∧ wf32 n v ∧ allB n (fun i => hgtB (v i)) = true ∧ g < w.heap.size := by
  obtain ⟨v, h1, h2, h3, h4⟩ := fit_fn h
  exact ⟨v, fun i hi => h1 i (Nat.lt_of_lt_of_le hi hn), fun i hi => h2 i (Nat.lt_of_lt_of_le hi hn), allB_iff.2 fun i hi => allB_iff.1 h3 i (Nat.lt_of_lt_of_le hi hn), h4⟩

def set1 (wr : World) (b : Nat) (u : Value) : World := wr.setCell ⟨b, 4, none⟩ u
theorem set1_heap (wr : World) (b k : Nat) (u : Value) (h : k ≠ b) : (set1 wr b u).heap[k]? = wr.heap[k]? := by
  unfold set1; rw [Below.heap_setCell _ _ _ _ h]
theorem set1_size (wr : World) (b : Nat) (u : Value) : (set1 wr b u).heap.size = wr.heap.size := by simp [set1]
theorem set1_self {wr : World} {b : Nat} {a1 a2 a3 a4 a5 : Value} {t : TypeId} (u : Value) (h : wr.heap[b]? = some (.cells #[a1, a2, a3, a4, a5] t (0, 0))) : (set1 wr b u).heap[b]? = some (.cells #[a1, a2, a3, a4, u] t (0, 0)) := by
  have h1 := heap_setCell_same wr b 4 _ _ u h
  exact h1
theorem pent_rel {w wx : World} {X Y : Int} {W H n b : Nat} {v : Nat → Nat} {s2 s3 : Value} {g2 N2 g3 N3 : Nat} (F1 : FitAt wx w.heap.size (w.heap.size + 1 + 1 + 1) X Y W H n b v) (hG : wx.heap[w.heap.size + 1]? = some (fldO X Y W H s2)) (hW : wx.heap[w.heap.size + 1 + 1]? = some (fldO X Y W H s3)) (r2 : FitRow wx g2 N2 N2) (r3 : FitRow wx g3 N3 N3) (n2 : n ≤ N2) (n3 : n ≤ N3) (l2 : w.heap.size + 1 + 1 + 1 ≤ g2) (l3 : w.heap.size + 1 + 1 + 1 ≤ g3) (hb : Below w.heap.size w wx) :
    PentAt w (set1 (set1 wx (w.heap.size + 1) (.slice (some ⟨g2, 0, none⟩) n N2)) (w.heap.size + 1 + 1) (.slice (some ⟨g3, 0, none⟩) n N3)) := by
  have l1 := F1.low
  have e : ∀ k, k ≠ w.heap.size + 1 → k ≠ w.heap.size + 1 + 1 → (set1 (set1 wx (w.heap.size + 1) (.slice (some ⟨g2, 0, none⟩) n N2)) (w.heap.size + 1 + 1) (.slice (some ⟨g3, 0, none⟩) n N3)).heap[k]? = wx.heap[k]? := fun k k1 k2 => by rw [set1_heap _ _ _ _ k2, set1_heap _ _ _ _ k1]
  obtain ⟨v2, p1, p2, p3, p4⟩ := part_row (fitRow_congr r2 (e g2 (by omega) (by omega))) n2
  obtain ⟨v3, q1, q2, q3, q4⟩ := part_row (fitRow_congr r3 (e g3 (by omega) (by omega))) n3
  exact ⟨X, Y, W, H, n, b, v, g2, N2, v2, g3, N3, v3, F1.congr (e _ (by omega) (by omega)) (e _ (by omega) (by omega)) (by rw [set1_size, set1_size]), (set1_heap _ _ _ _ (by omega)).trans (set1_self _ hG), set1_self _ ((set1_heap _ _ _ _ (by omega)).trans hW), ⟨p1, p2, p3, p4⟩, ⟨q1, q2, q3, q4⟩, (hb.setCell (p := ⟨w.heap.size + 1, 4, none⟩) (by show w.heap.size ≤ w.heap.size + 1; omega) _).setCell (p := ⟨w.heap.size + 1 + 1, 4, none⟩) (by show w.heap.size ≤ w.heap.size + 1 + 1; omega) _⟩
theorem PentAt.drew {w wx : World} (h : PentAt w wx) : PentAt w wx.drew := by
  obtain ⟨X, Y, W, H, n, b, v, g2, N2, v2, g3, N3, v3, F, g, k, a, c, hb⟩ := h
  exact ⟨X, Y, W, H, n, b, v, g2, N2, v2, g3, N3, v3, F.congr rfl rfl rfl, g, k, ⟨flAt_congr a.1 rfl, a.2⟩, ⟨flAt_congr c.1 rfl, c.2⟩, hb.drew⟩
end Go.Proofs.Ytihjemookgnafaa

/- Three fields of one region in a world, behind calls and stores. -/
namespace Go.Proofs.Ytihjemookgnafaa
open Go.RowKit Fl
set_option linter.unusedVariables false

structure St5 (w wx : World) (X Y : Int) (W H n b : Nat) (v : Nat → Nat) (s2 s3 : Value) : Prop where
  f : FitAt wx w.heap.size (w.heap.size + 1 + 1 + 1) X Y W H n b v
  g : wx.heap[w.heap.size + 1]? = some (fldO X Y W H s2)
  h : wx.heap[w.heap.size + 1 + 1]? = some (fldO X Y W H s3)
  bel : Below w.heap.size w wx
theorem St5.size {w wx : World} {X Y : Int} {W H n b : Nat} {v : Nat → Nat} {s2 s3 : Value} (h : St5 w wx X Y W H n b v s2 s3) : w.heap.size + 1 + 1 + 1 ≤ wx.heap.size := by
  have := h.f.low
  have := h.f.lt
  omega
theorem St5.stay {w wx wy : World} {X Y : Int} {W H n b : Nat} {v : Nat → Nat} {s2 s3 : Value} (h : St5 w wx X Y W H n b v s2 s3) (hb : Below wx.heap.size wx wy) : St5 w wy X Y W H n b v s2 s3 :=
  ⟨h.f.stay hb, blkStay h.g hb, blkStay h.h hb, h.bel.trans (hb.mono h.bel.size)⟩
theorem St5.put2 {w wx : World} {X Y : Int} {W H n b : Nat} {v : Nat → Nat} {s2 s3 : Value} (h : St5 w wx X Y W H n b v s2 s3) (u : Value) : St5 w (wx.setCell ⟨w.heap.size + 1, 4, none⟩ u) X Y W H n b v u s3 := by
  have l := h.f.low
  exact ⟨h.f.congr (set1_heap wx _ _ u (by omega)) (set1_heap wx _ _ u (by omega)) (set1_size wx _ u), set1_self u h.g, (set1_heap wx _ _ u (by omega)).trans h.h, h.bel.setCell (p := ⟨w.heap.size + 1, 4, none⟩) (by show w.heap.size ≤ w.heap.size + 1; omega) _⟩
theorem St5.put3 {w wx : World} {X Y : Int} {W H n b : Nat} {v : Nat → Nat} {s2 s3 : Value} (h : St5 w wx X Y W H n b v s2 s3) (u : Value) : St5 w (wx.setCell ⟨w.heap.size + 1 + 1, 4, none⟩ u) X Y W H n b v s2 u := by
  have l := h.f.low
  exact ⟨h.f.congr (set1_heap wx _ _ u (by omega)) (set1_heap wx _ _ u (by omega)) (set1_size wx _ u), (set1_heap wx _ _ u (by omega)).trans h.g, set1_self u h.h, h.bel.setCell (p := ⟨w.heap.size + 1 + 1, 4, none⟩) (by show w.heap.size ≤ w.heap.size + 1 + 1; omega) _⟩
theorem fitRow_put {wx : World} {g N p : Nat} (r : FitRow wx g N N) (hp : g ≠ p) (u : Value) : FitRow (wx.setCell ⟨p, 4, none⟩ u) g N N := fitRow_congr r (set1_heap wx p g u hp)
theorem pent_mk {w wx : World} {X Y : Int} {W H n b : Nat} {v : Nat → Nat} {g2 N2 g3 N3 : Nat} (s : St5 w wx X Y W H n b v (.slice (some ⟨g2, 0, none⟩) n N2) (.slice (some ⟨g3, 0, none⟩) n N3)) (r2 : FitRow wx g2 N2 N2) (r3 : FitRow wx g3 N3 N3) (n2 : n ≤ N2) (n3 : n ≤ N3) : PentAt w wx := by
  obtain ⟨v2, p1, p2, p3, p4⟩ := part_row r2 n2
  obtain ⟨v3, q1, q2, q3, q4⟩ := part_row r3 n3
  exact ⟨X, Y, W, H, n, b, v, g2, N2, v2, g3, N3, v3, s.f, s.g, s.h, ⟨p1, p2, p3, p4⟩, ⟨q1, q2, q3, q4⟩, s.bel⟩
end Go.Proofs.Ytihjemookgnafaa
