/- Cut of the reference; the closures of Paste, on both sides. -/
import Derived.Test.YtgkpkpbigmcapaaCut3
import Derived.Test.YtgkpkpbigmcapaaRes
namespace Go.Proofs.Ytgkpkpbigmcapaa
open Go.RowKit Fl
set_option linter.unusedVariables false

theorem enters_Paste1 : Enters 73 := by intro args W; simp [callFunc, Try.func73, Try.f73]
theorem enters_rPaste1 : Enters 75 := by intro args W; simp [callFunc, Try.func75, Try.f75]

/-- A field is answered that has been made of f (all of whose values are heights). -/
def OnePost (w : World) (X Y W H : Int) (n : Nat) (f : Nat → Nat) (e : Ending) (w' : World) : Prop :=
  ∃ b cap, e = .returned (fldV X Y W H (.slice (some ⟨b, 0, none⟩) n cap)) ∧ w.heap.size ≤ b ∧ b < w'.heap.size ∧ FlAt w' b 0 n f ∧ Below w.heap.size w w'

theorem cutF_in {v : Nat → Nat} {X Y : Int} {W H n : Nat} {X' Y' : Int} {W1 H1 n1 : Nat} (hn : n = H * W) (hn1 : n1 = H1 * W1) (hW : 1 ≤ W) (hW1 : 1 ≤ W1) (i1 : X ≤ X') (i2 : Y ≤ Y') (i3 : X' + W1 ≤ X + W) (i4 : Y' + H1 ≤ Y + H) {i : Nat} (hi : i < n1) : subN X Y W X' Y' W1 i < n := by
  have hml := Nat.mod_lt i (show 0 < W1 by omega)
  have hdl : i / W1 < H1 := Nat.div_lt_of_lt_mul (by rw [Nat.mul_comm]; omega)
  have e := subN_of (X := X) (Y := Y) (W := W) (X' := X') (Y' := Y') (W' := W1) (i := i) rfl rfl (by have := Int.natCast_nonneg (i % W1); omega) (by have := Int.natCast_nonneg (i / W1); omega)
  generalize i / W1 = q at e hdl
  generalize i % W1 = r at e hml
  exact num_lt hW (by omega) (by omega) (by omega) e hn

theorem cutF_hgt {v : Nat → Nat} {X Y : Int} {W H n : Nat} {X' Y' : Int} {W1 H1 n1 : Nat} (hv : allB n (fun i => hgtB (v i)) = true) (hn : n = H * W) (hn1 : n1 = H1 * W1) (hW : 1 ≤ W) (hW1 : 1 ≤ W1) (i1 : X ≤ X') (i2 : Y ≤ Y') (i3 : X' + W1 ≤ X + W) (i4 : Y' + H1 ≤ Y + H) : allB n1 (fun i => hgtB (cutF v X Y W X' Y' W1 i)) = true :=
  allB_iff.2 fun i hi => allB_iff.1 hv _ (cutF_in (v := v) hn hn1 hW hW1 i1 i2 i3 i4 hi)
theorem cutF_wf {v : Nat → Nat} {X Y : Int} {W H n : Nat} {X' Y' : Int} {W1 H1 n1 : Nat} (hv : wf32 n v) (hn : n = H * W) (hn1 : n1 = H1 * W1) (hW : 1 ≤ W) (hW1 : 1 ≤ W1) (i1 : X ≤ X') (i2 : Y ≤ Y') (i3 : X' + W1 ≤ X + W) (i4 : Y' + H1 ≤ Y + H) : wf32 n1 (cutF v X Y W X' Y' W1) :=
  fun i hi => hv _ (cutF_in (v := v) hn hn1 hW hW1 i1 i2 i3 i4 hi)

set_option maxHeartbeats 2000000 in
theorem rcut_ok (X Y : Int) (W H n b cap : Nat) (v : Nat → Nat) (X' Y' : Int) (W1 H1 n1 : Nat) (w : World) (h0 : checkR X Y W H = 0) (hn : n = W * H) (hc : FlAt w b 0 n v) (hh : allB n (fun i => hgtB (v i)) = true) (hvw : wf32 n v) (he : cutE X Y W H X' Y' W1 H1 = 0) (hn1 : n1 = H1 * W1) :
    Calls Try.prog 23 #[fldV X Y W H (.slice (some ⟨b, 0, none⟩) n cap), reg X' Y' W1 H1] w (OnePost w X' Y' W1 H1 n1 (cutF v X Y W X' Y' W1)) := by
  obtain ⟨b1, b2, b3, b4, b5, b6, b7, b8, b9⟩ := checkR_zero h0
  have h1 : 1 ≤ n := by
    have := Nat.mul_pos (by omega : 0 < W) (by omega : 0 < H)
    omega
  have hlt : b < w.heap.size := World.block_lt_of_cell? w _ (hc 0 h1)
  have en : ((W : Int) * (H : Int)) = (n : Int) := by rw [hn]; simp
  have hn2 : n ≤ 65536 := by omega
  have hnm : n = H * W := by rw [hn]; exact Nat.mul_comm _ _
  unfold cutE at he
  by_cases h0' : checkR X' Y' W1 H1 = 0
  · obtain ⟨c1, c2, c3, c4, c5, c6, c7, c8, c9⟩ := checkR_zero h0'
    rw [if_pos h0'] at he
    cases hi : insideB X' Y' W1 H1 X Y W H with
    | false => rw [hi] at he; simp at he
    | true =>
      obtain ⟨i1, i2, i3, i4⟩ := insideB_iff.1 hi
      have hall' := Lib.hid (cutF_hgt hh hnm hn1 (by omega) (by omega) i1 i2 i3 i4)
      have hwf' := cutF_wf hvw hnm hn1 (by omega) (by omega) i1 i2 i3 i4
      have MP := Lib.hid (fun W' p (hk : W'.heap[p]? = some (fldO X Y W H (.slice (some ⟨b, 0, none⟩) n cap))) (hb : Below w.heap.size w W') => made_any X' Y' W1 H1 n1 71 #[.pointer (some ⟨p, 0, none⟩)] (cutF v X Y W X' Y' W1) W' enters_rCut1 (rcut1_any X Y W H n b cap v p X' Y' W1 H1 W' hk (flAt_congr hc (hb.block _ hlt)) h1 hn2 (by omega) (by omega) (by omega) (by omega) (by omega) (by omega) (by omega) hnm (by omega) i1 i2 i3 i4) hwf' (by omega) (by omega) (by omega) (by omega) (by omega) (by omega) (by omega) (by omega) hn1)
      clear hc hn h0 hh h0' hi he b1 b2 b3 b4 b5 b6 b7 b8 b9 c1 c2 c3 c4 c5 c6 c7 c8 c9 h1 hlt en hn2 i1 i2 i3 i4 hn1 hwf' hvw hnm
      go_enter Try.func23, Try.ntmps23
      go_wp2_with fail
      refine (MP.out _ w.heap.size (by ((simp only [heap_alloc_get, heap_size_alloc, if_true]) <;> ((repeat' split) <;> first | rfl | omega))) (by repeat (first | exact Below.refl _ _ | refine Below.alloc ?_ (by first | omega | (simp; done) | (simp; omega)) _ | refine Below.setCell ?_ (by first | omega | (simp; done) | (simp; omega)) _ | refine Below.drew ?_))).mono ?_
      intro e w5 hmade
      rcases hmade with ⟨hall, b', cap', rfl, hb', hlt', hrow, hbel⟩ | ⟨hall, rfl, hbel⟩
      · have hS := Lib.hid (blkStay (b := w.heap.size + 1 + 1) (o := fldO 0 0 0 0 (.slice none 0 0)) (by ((simp only [heap_alloc_get, heap_size_alloc, if_true]) <;> ((repeat' split) <;> first | rfl | omega))) hbel)
        have hB : Below w.heap.size w w5 := Below.trans (by repeat (first | exact Below.refl _ _ | refine Below.alloc ?_ (by first | omega | (simp; done) | (simp; omega)) _ | refine Below.setCell ?_ (by first | omega | (simp; done) | (simp; omega)) _ | refine Below.drew ?_)) (Below.mono hbel (by simp; try omega))
        obtain ⟨cS, fS, zS⟩ := blkC hS.out
        have HB := Lib.hid hb'
        clear hb'
        go_wp2
        have H6 : ((set5 w5 (w.heap.size + 1 + 1) (.int .i64 X') (.int .i64 Y') (.int .i64 W1) (.int .i64 H1) (.slice (some ⟨b', 0, none⟩) n1 cap')).alloc (fldO X' Y' W1 H1 (.slice (some ⟨b', 0, none⟩) n1 cap'))).heap[w.heap.size + 1 + 1]? = some (fldO X' Y' W1 H1 (.slice (some ⟨b', 0, none⟩) n1 cap')) := (heap_alloc_old _ _ (by rw [set5_size]; exact zS)).trans (set5_self _ _ _ _ _ hS.out)
        obtain ⟨c6, _, _⟩ := blkC H6
        dsimp only [set5] at c6
        refine bodyPost_ret (v := fldV X' Y' W1 H1 (.slice (some ⟨b', 0, none⟩) n1 cap')) (by simp [results, Try.results23, go_sem, c6]) rfl ?_
        have hb' := HB.out
        simp only [heap_size_alloc] at hb'
        have hlt6 : b' < (set5 w5 (w.heap.size + 1 + 1) (.int .i64 X') (.int .i64 Y') (.int .i64 W1) (.int .i64 H1) (.slice (some ⟨b', 0, none⟩) n1 cap')).heap.size := by rw [set5_size]; exact hlt'
        exact ⟨b', cap', rfl, by omega, by rw [heap_size_alloc]; exact Nat.lt_succ_of_lt hlt6, flAt_congr (flAt_congr hrow (set5_heap w5 _ _ _ _ _ _ _ (by omega))) (heap_alloc_old _ _ hlt6), (set5_below hB _ _ _ _ _ _ (by omega)).alloc (by rw [set5_size]; exact hB.size) _⟩
      · exact absurd hall (by rw [hall'.out]; simp)
  · rw [if_neg h0'] at he; exact absurd he h0'
end Go.Proofs.Ytgkpkpbigmcapaa
