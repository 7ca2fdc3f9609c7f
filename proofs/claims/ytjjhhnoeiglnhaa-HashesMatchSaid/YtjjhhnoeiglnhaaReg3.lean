/- Contracts of the regions' functions, continued: the reference's Grow; Common, Inside. -/
import Derived.Test.YtjjhhnoeiglnhaaReg2
namespace Go.Proofs.Ytjjhhnoeiglnhaa
open Go.RowKit

set_option maxHeartbeats 1000000 in
theorem refGrow_any (x y ww hh n : Int) (w : World) :
    Calls Try.prog 19 #[reg x y ww hh, .int .i64 n] w fun e w' => e = .returned (.tuple #[growR x y ww hh n, .int .i64 (growE x y ww hh n)]) ∧ Below w.heap.size w w' := by
  by_cases h0 : checkR x y ww hh = 0
  · have H := Lib.hid h0
    obtain ⟨b1, b2, b3, b4, _, b6, b7, b8, b9⟩ := checkR_zero h0
    clear h0
    have hb : (checkR x y ww hh != 0) = false := by simp [H.out]
    by_cases hn : -512 ≤ n ∧ n ≤ 512
    · obtain ⟨n1, n2⟩ := hn
      have eE : growE x y ww hh n = checkR (x - n) (y - n) (ww + 2 * n) (hh + 2 * n) := by unfold growE; rw [if_pos H.out, if_neg (by omega)]
      have HE := Lib.hid eE
      clear eE
      by_cases h2 : checkR (x - n) (y - n) (ww + 2 * n) (hh + 2 * n) = 0
      · have H2 := Lib.hid h2
        have hb2 : (checkR (x - n) (y - n) (ww + 2 * n) (hh + 2 * n) != 0) = false := by simp [H2.out]
        clear h2
        go_enter Try.func19, Try.ntmps19
        go_wp2_with (first | (go_at_call 17; refine (refCheckRegion_any _ _ _ _ _).mono ?_; rintro e w' ⟨rfl, rfl⟩) | (go_at_call 81; refine (refGrown_any _ _ _ _ _ _ (by omega) (by omega) (by omega) (by omega) (by omega) (by omega) (by omega) (by omega) (by omega) (by omega)).mono ?_; rintro e w' ⟨rfl, hb⟩; obtain ⟨hc, hf⟩ := bcell hb; have hzhb := Below.size hb; simp at hzhb; have hzhb0 : w.heap.size < w'.heap.size := (by omega); have hzhb1 : w.heap.size + 1 < w'.heap.size := (by omega); clear hzhb))
        refine bodyPost_ret (v := .tuple #[reg (x - n) (y - n) (ww + 2 * n) (hh + 2 * n), .int .i64 0]) (by simp [results, Try.results19, go_sem, hc, hzhb0, hzhb1]) rfl ⟨?_, (by repeat (first | exact Below.refl _ _ | refine Below.alloc ?_ (by first | omega | (simp; done) | (simp; omega)) _ | refine Below.setCell ?_ (by first | omega | (simp; done) | (simp; omega)) _ | refine Below.drew ?_ | refine Below.trans ?_ (Below.mono hb (by first | omega | (simp; done) | (simp; omega)))))⟩
        unfold growR; rw [HE.out, if_pos H2.out, H2.out]
      · have H2 := Lib.hid h2
        have hb2 : (checkR (x - n) (y - n) (ww + 2 * n) (hh + 2 * n) != 0) = true := by simp [h2]
        clear h2
        go_enter Try.func19, Try.ntmps19
        go_wp2_with (first | (go_at_call 17; refine (refCheckRegion_any _ _ _ _ _).mono ?_; rintro e w' ⟨rfl, rfl⟩) | (go_at_call 81; refine (refGrown_any _ _ _ _ _ _ (by omega) (by omega) (by omega) (by omega) (by omega) (by omega) (by omega) (by omega) (by omega) (by omega)).mono ?_; rintro e w' ⟨rfl, hb⟩; obtain ⟨hc, hf⟩ := bcell hb; have hzhb := Below.size hb; simp at hzhb; have hzhb0 : w.heap.size < w'.heap.size := (by omega); have hzhb1 : w.heap.size + 1 < w'.heap.size := (by omega); clear hzhb))
        refine bodyPost_ret (v := .tuple #[reg 0 0 0 0, .int .i64 (checkR (x - n) (y - n) (ww + 2 * n) (hh + 2 * n))]) (by simp [results, Try.results19, go_sem, hc, hzhb0, hzhb1]) rfl ⟨?_, (by repeat (first | exact Below.refl _ _ | refine Below.alloc ?_ (by first | omega | (simp; done) | (simp; omega)) _ | refine Below.setCell ?_ (by first | omega | (simp; done) | (simp; omega)) _ | refine Below.drew ?_ | refine Below.trans ?_ (Below.mono hb (by first | omega | (simp; done) | (simp; omega)))))⟩
        unfold growR; rw [HE.out, if_neg H2.out]
    · rcases (show n < -512 ∨ (-512 ≤ n ∧ 512 < n) by omega) with hn1 | ⟨hn1, hn2⟩
      all_goals
        go_enter Try.func19, Try.ntmps19
        go_wp2_with (first | (go_at_call 17; refine (refCheckRegion_any _ _ _ _ _).mono ?_; rintro e w' ⟨rfl, rfl⟩))
        refine bodyPost_ret (v := .tuple #[reg 0 0 0 0, .int .i64 3]) (by simp [results, Try.results19, go_sem]) rfl ⟨?_, (by repeat (first | exact Below.refl _ _ | refine Below.alloc ?_ (by first | omega | (simp; done) | (simp; omega)) _ | refine Below.setCell ?_ (by first | omega | (simp; done) | (simp; omega)) _ | refine Below.drew ?_))⟩
        have e : growE x y ww hh n = 3 := by unfold growE; rw [if_pos H.out, if_pos (by omega)]
        unfold growR; rw [e]; rfl
  · have H := Lib.hid h0
    have hb : (checkR x y ww hh != 0) = true := by simp [h0]
    clear h0
    go_enter Try.func19, Try.ntmps19
    go_wp2_with (first | (go_at_call 17; refine (refCheckRegion_any _ _ _ _ _).mono ?_; rintro e w' ⟨rfl, rfl⟩))
    refine bodyPost_ret (v := .tuple #[reg 0 0 0 0, .int .i64 (checkR x y ww hh)]) (by simp [results, Try.results19, go_sem]) rfl ⟨?_, (by repeat (first | exact Below.refl _ _ | refine Below.alloc ?_ (by first | omega | (simp; done) | (simp; omega)) _ | refine Below.setCell ?_ (by first | omega | (simp; done) | (simp; omega)) _ | refine Below.drew ?_))⟩
    have e : growE x y ww hh n = checkR x y ww hh := by unfold growE; rw [if_neg H.out]
    unfold growR; rw [e, if_neg H.out]


set_option maxHeartbeats 1000000 in
theorem landed_any (w : World) : Calls Try.prog 15 #[] w fun e w' => e = .returned (.bool true) ∧ Below w.heap.size w w' := by
  go_enter Try.func15, Try.ntmps15
  go_wp2
  go_ret
  exact ⟨rfl, (by repeat (first | exact Below.refl _ _ | refine Below.alloc ?_ (by first | omega | (simp; done) | (simp; omega)) _ | refine Below.setCell ?_ (by first | omega | (simp; done) | (simp; omega)) _ | refine Below.drew ?_))⟩

def insideB (x y w h x' y' w' h' : Int) : Bool := decide (x' ≤ x) && decide (y' ≤ y) && decide (x + w ≤ x' + w') && decide (y + h ≤ y' + h')
theorem insideB_iff {x y w h x' y' w' h' : Int} : insideB x y w h x' y' w' h' = true ↔ x' ≤ x ∧ y' ≤ y ∧ x + w ≤ x' + w' ∧ y + h ≤ y' + h' := by simp [insideB]; omega

set_option maxHeartbeats 1000000 in
theorem inside_any (x y ww hh x' y' ww' hh' : Int) (w : World) (a1 : -1073741824 ≤ x) (a2 : x ≤ 1073741824) (a3 : -1073741824 ≤ y) (a4 : y ≤ 1073741824) (a5 : 1 ≤ ww) (a6 : ww ≤ 1073741824) (a7 : 1 ≤ hh) (a8 : hh ≤ 1073741824)
    (b1 : -1073741824 ≤ x') (b2 : x' ≤ 1073741824) (b3 : -1073741824 ≤ y') (b4 : y' ≤ 1073741824) (b5 : 1 ≤ ww') (b6 : ww' ≤ 1073741824) (b7 : 1 ≤ hh') (b8 : hh' ≤ 1073741824) :
    Calls Try.prog 23 #[reg x y ww hh, reg x' y' ww' hh'] w fun e w' => e = .returned (.bool (insideB x y ww hh x' y' ww' hh')) ∧ Below w.heap.size w w' := by
  go_enter Try.func23, Try.ntmps23
  go_wp2
  all_goals go_ret
  all_goals refine ⟨ret_bool ?_, (by repeat (first | exact Below.refl _ _ | refine Below.alloc ?_ (by first | omega | (simp; done) | (simp; omega)) _ | refine Below.setCell ?_ (by first | omega | (simp; done) | (simp; omega)) _ | refine Below.drew ?_))⟩
  all_goals simp [insideB, *]
  all_goals omega

end Go.Proofs.Ytjjhhnoeiglnhaa
