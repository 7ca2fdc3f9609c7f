/- RegionsMatch: CheckRegion, Inside, Common and Grow answer as the references do, for every input. -/
import Derived.Test.YtjjhhnoeiglnhaaReg4
import Derived.Test.YtjjhhnoeiglnhaaBlk
import Derived.Deep.DeepCutAuto
namespace Go.Proofs.Ytjjhhnoeiglnhaa
open Go.RowKit

theorem growR_reg (x y w h n : Int) : ∃ a b c d : Int, growR x y w h n = reg a b c d := by
  unfold growR; split <;> exact ⟨_, _, _, _, rfl⟩
theorem comR_reg (x y w h x' y' w' h' : Int) : ∃ a b c d : Int, comR x y w h x' y' w' h' = reg a b c d := by
  unfold comR; split <;> exact ⟨_, _, _, _, rfl⟩

theorem keepI {W w' : World} (k : Below W.heap.size W w') :
    (∀ b o, b < W.heap.size → w'.cell? ⟨b, o, none⟩ = W.cell? ⟨b, o, none⟩) ∧ Below W.heap.size W w' :=
  ⟨fun b o hb' => k.cell (p := ⟨b, o, none⟩) hb', k⟩

def smallB (x y w h : Int) : Bool := decide (1 ≤ w ∧ w ≤ 1073741824 ∧ 1 ≤ h ∧ h ≤ 1073741824 ∧ -1073741824 ≤ x ∧ -1073741824 ≤ y ∧ x ≤ 1073741824 ∧ y ≤ 1073741824)
theorem small_is (x y ww hh : Int) (k : Bool) (h : smallB x y ww hh = k) (w : World) :
    Calls Try.prog 20 #[reg x y ww hh] w fun e w' => e = .returned (.bool k) ∧ Below w.heap.size w w' := by
  subst h; exact small_any x y ww hh w

set_option maxHeartbeats 2000000 in
theorem regionsMatch_far (x y ww hh x' y' ww' hh' n : Int) (w : World) (hs : smallB x y ww hh = false) :
    Calls Try.prog 3 #[reg x y ww hh, reg x' y' ww' hh', .int .i64 n] w fun e w' => e = .returned (.bool true) ∧ Below w.heap.size w w' := by
  obtain ⟨g1, g2, g3, g4, hg⟩ := growR_reg x y ww hh n
  have GF := Lib.hid fun w => grow_any x y ww hh n w
  have GR := Lib.hid fun w => refGrow_any x y ww hh n w
  rw [hg] at GF GR
  clear hg
  have SM := Lib.hid fun w => small_is x y ww hh _ hs w
  clear hs
  go_enter Try.func3, Try.ntmps3
  go_wp2_with (first | (go_at_call 15; refine (landed_any _).mono ?_; rintro e w1 ⟨rfl, hb1⟩; have HA1 := Lib.hid (blkStay (b := w.heap.size) (o := regObj x y ww hh) (by simp only [heap_alloc_get, heap_size_alloc]; simp) hb1); obtain ⟨cA1, fA1, zA1⟩ := blkC HA1.out; have HB1 := Lib.hid (blkStay (b := w.heap.size + 1) (o := regObj x' y' ww' hh') (by simp only [heap_alloc_get, heap_size_alloc]; simp) hb1); obtain ⟨cB1, fB1, zB1⟩ := blkC HB1.out; have hB1 : Below w.heap.size w w1 := Below.trans (by repeat (first | exact Below.refl _ _ | refine Below.alloc ?_ (by first | omega | (simp; done) | (simp; omega)) _ | refine Below.setCell ?_ (by first | omega | (simp; done) | (simp; omega)) _ | refine Below.drew ?_)) (Below.mono hb1 (by first | omega | (simp; done) | (simp; omega))); clear hb1))
  go_region_held3 (fun w' => (∀ o, w'.cell? ⟨w.heap.size, o, none⟩ = #[.int .i64 x, .int .i64 y, .int .i64 ww, .int .i64 hh][o]?) ∧ Below w1.heap.size w1 w') (first | exact ⟨(blkC (blkStay HA1.out (by repeat (first | exact Below.refl _ _ | refine Below.alloc ?_ (by first | omega | (simp; done) | (simp; omega)) _ | refine Below.setCell ?_ (by first | omega | (simp; done) | (simp; omega)) _ | refine Below.drew ?_)))).1, (by repeat (first | exact Below.refl _ _ | refine Below.alloc ?_ (by first | omega | (simp; done) | (simp; omega)) _ | refine Below.setCell ?_ (by first | omega | (simp; done) | (simp; omega)) _ | refine Below.drew ?_))⟩) (first | (go_at_call 16; refine (checkRegion_any _ _ _ _ _).mono ?_; rintro e w' ⟨rfl, rfl⟩) | (go_at_call 17; refine (refCheckRegion_any _ _ _ _ _).mono ?_; rintro e w' ⟨rfl, rfl⟩))
  rename_i hHeld
  clear hHeld
  go_wp2_with (first | (go_at_call 18; refine (GF.out _).mono ?_; rintro e w2 ⟨rfl, hb2⟩; have hB2 : Below w1.heap.size w1 w2 := Below.trans (by repeat (first | exact Below.refl _ _ | refine Below.alloc ?_ (by first | omega | (simp; done) | (simp; omega)) _ | refine Below.setCell ?_ (by first | omega | (simp; done) | (simp; omega)) _ | refine Below.drew ?_)) (Below.mono hb2 (by first | omega | (simp; done) | (simp; omega))); have hC2 : Below w.heap.size w w2 := Below.trans hB1 (Below.mono hB2 (by omega)); clear hb2; have HA2 := Lib.hid (blkStay HA1.out hB2); obtain ⟨cA2, fA2, zA2⟩ := blkC HA2.out; have HB2 := Lib.hid (blkStay HB1.out hB2); obtain ⟨cB2, fB2, zB2⟩ := blkC HB2.out) | (go_at_call 19; refine (GR.out _).mono ?_; rintro e w3 ⟨rfl, hb3⟩; have hB3 : Below w2.heap.size w2 w3 := Below.trans (by repeat (first | exact Below.refl _ _ | refine Below.alloc ?_ (by first | omega | (simp; done) | (simp; omega)) _ | refine Below.setCell ?_ (by first | omega | (simp; done) | (simp; omega)) _ | refine Below.drew ?_)) (Below.mono hb3 (by first | omega | (simp; done) | (simp; omega))); have hC3 : Below w.heap.size w w3 := Below.trans hC2 (Below.mono hB3 (by omega)); have HA3 := Lib.hid (blkStay HA2.out hB3); obtain ⟨cA3, fA3, zA3⟩ := blkC HA3.out; have HB3 := Lib.hid (blkStay HB2.out hB3); obtain ⟨cB3, fB3, zB3⟩ := blkC HB3.out; have HG3 := Lib.hid (blkStay (b := w2.heap.size) (o := regObj g1 g2 g3 g4) (by simp only [heap_alloc_get]; simp) hb3); obtain ⟨cG3, fG3, zG3⟩ := blkC HG3.out; clear hb3) | (go_at_call 20; refine (SM.out _).mono ?_; rintro e w4 ⟨rfl, hb4⟩))
  go_ret
  exact ⟨rfl, Below.trans hC3 (by repeat (first | exact Below.refl _ _ | refine Below.alloc ?_ (by first | omega | (simp; done) | (simp; omega)) _ | refine Below.setCell ?_ (by first | omega | (simp; done) | (simp; omega)) _ | refine Below.drew ?_ | refine Below.trans ?_ (Below.mono hb4 (by first | omega | (simp; done) | (simp; omega)))))⟩

set_option maxHeartbeats 2000000 in
theorem regionsMatch_mid (x y ww hh x' y' ww' hh' n : Int) (w : World) (hs : smallB x y ww hh = true) (hs2 : smallB x' y' ww' hh' = false) :
    Calls Try.prog 3 #[reg x y ww hh, reg x' y' ww' hh', .int .i64 n] w fun e w' => e = .returned (.bool true) ∧ Below w.heap.size w w' := by
  obtain ⟨g1, g2, g3, g4, hg⟩ := growR_reg x y ww hh n
  have GF := Lib.hid fun w => grow_any x y ww hh n w
  have GR := Lib.hid fun w => refGrow_any x y ww hh n w
  rw [hg] at GF GR
  clear hg
  have SM := Lib.hid fun w => small_is x y ww hh _ hs w
  have SM2 := Lib.hid fun w => small_is x' y' ww' hh' _ hs2 w
  clear hs hs2
  go_enter Try.func3, Try.ntmps3
  go_wp2_with (first | (go_at_call 15; refine (landed_any _).mono ?_; rintro e w1 ⟨rfl, hb1⟩; have HA1 := Lib.hid (blkStay (b := w.heap.size) (o := regObj x y ww hh) (by simp only [heap_alloc_get, heap_size_alloc]; simp) hb1); obtain ⟨cA1, fA1, zA1⟩ := blkC HA1.out; have HB1 := Lib.hid (blkStay (b := w.heap.size + 1) (o := regObj x' y' ww' hh') (by simp only [heap_alloc_get, heap_size_alloc]; simp) hb1); obtain ⟨cB1, fB1, zB1⟩ := blkC HB1.out; have hB1 : Below w.heap.size w w1 := Below.trans (by repeat (first | exact Below.refl _ _ | refine Below.alloc ?_ (by first | omega | (simp; done) | (simp; omega)) _ | refine Below.setCell ?_ (by first | omega | (simp; done) | (simp; omega)) _ | refine Below.drew ?_)) (Below.mono hb1 (by first | omega | (simp; done) | (simp; omega))); clear hb1))
  go_region_held3 (fun w' => (∀ o, w'.cell? ⟨w.heap.size, o, none⟩ = #[.int .i64 x, .int .i64 y, .int .i64 ww, .int .i64 hh][o]?) ∧ Below w1.heap.size w1 w') (first | exact ⟨(blkC (blkStay HA1.out (by repeat (first | exact Below.refl _ _ | refine Below.alloc ?_ (by first | omega | (simp; done) | (simp; omega)) _ | refine Below.setCell ?_ (by first | omega | (simp; done) | (simp; omega)) _ | refine Below.drew ?_)))).1, (by repeat (first | exact Below.refl _ _ | refine Below.alloc ?_ (by first | omega | (simp; done) | (simp; omega)) _ | refine Below.setCell ?_ (by first | omega | (simp; done) | (simp; omega)) _ | refine Below.drew ?_))⟩) (first | (go_at_call 16; refine (checkRegion_any _ _ _ _ _).mono ?_; rintro e w' ⟨rfl, rfl⟩) | (go_at_call 17; refine (refCheckRegion_any _ _ _ _ _).mono ?_; rintro e w' ⟨rfl, rfl⟩))
  rename_i hHeld
  clear hHeld
  go_wp2_with (first | (go_at_call 18; refine (GF.out _).mono ?_; rintro e w2 ⟨rfl, hb2⟩; have hB2 : Below w1.heap.size w1 w2 := Below.trans (by repeat (first | exact Below.refl _ _ | refine Below.alloc ?_ (by first | omega | (simp; done) | (simp; omega)) _ | refine Below.setCell ?_ (by first | omega | (simp; done) | (simp; omega)) _ | refine Below.drew ?_)) (Below.mono hb2 (by first | omega | (simp; done) | (simp; omega))); have hC2 : Below w.heap.size w w2 := Below.trans hB1 (Below.mono hB2 (by omega)); clear hb2; have HA2 := Lib.hid (blkStay HA1.out hB2); obtain ⟨cA2, fA2, zA2⟩ := blkC HA2.out; have HB2 := Lib.hid (blkStay HB1.out hB2); obtain ⟨cB2, fB2, zB2⟩ := blkC HB2.out) | (go_at_call 19; refine (GR.out _).mono ?_; rintro e w3 ⟨rfl, hb3⟩; have hB3 : Below w2.heap.size w2 w3 := Below.trans (by repeat (first | exact Below.refl _ _ | refine Below.alloc ?_ (by first | omega | (simp; done) | (simp; omega)) _ | refine Below.setCell ?_ (by first | omega | (simp; done) | (simp; omega)) _ | refine Below.drew ?_)) (Below.mono hb3 (by first | omega | (simp; done) | (simp; omega))); have hC3 : Below w.heap.size w w3 := Below.trans hC2 (Below.mono hB3 (by omega)); have HA3 := Lib.hid (blkStay HA2.out hB3); obtain ⟨cA3, fA3, zA3⟩ := blkC HA3.out; have HB3 := Lib.hid (blkStay HB2.out hB3); obtain ⟨cB3, fB3, zB3⟩ := blkC HB3.out; have HG3 := Lib.hid (blkStay (b := w2.heap.size) (o := regObj g1 g2 g3 g4) (by simp only [heap_alloc_get]; simp) hb3); obtain ⟨cG3, fG3, zG3⟩ := blkC HG3.out; clear hb3) | (go_at_call 20; refine (SM.out _).mono ?_; rintro e w4 ⟨rfl, hb4⟩; have hB4 : Below w3.heap.size w3 w4 := Below.trans (by repeat (first | exact Below.refl _ _ | refine Below.alloc ?_ (by first | omega | (simp; done) | (simp; omega)) _ | refine Below.setCell ?_ (by first | omega | (simp; done) | (simp; omega)) _ | refine Below.drew ?_)) (Below.mono hb4 (by first | omega | (simp; done) | (simp; omega))); have hC4 : Below w.heap.size w w4 := Below.trans hC3 (Below.mono hB4 (by omega)); clear hb4; have HA4 := Lib.hid (blkStay HA3.out hB4); obtain ⟨cA4, fA4, zA4⟩ := blkC HA4.out; have HB4 := Lib.hid (blkStay HB3.out hB4); obtain ⟨cB4, fB4, zB4⟩ := blkC HB4.out; clear SM) | (go_at_call 20; refine (SM2.out _).mono ?_; rintro e w5 ⟨rfl, hb5⟩))
  go_ret
  exact ⟨rfl, Below.trans hC4 (by repeat (first | exact Below.refl _ _ | refine Below.alloc ?_ (by first | omega | (simp; done) | (simp; omega)) _ | refine Below.setCell ?_ (by first | omega | (simp; done) | (simp; omega)) _ | refine Below.drew ?_ | refine Below.trans ?_ (Below.mono hb5 (by first | omega | (simp; done) | (simp; omega)))))⟩

set_option maxHeartbeats 2000000 in
theorem regionsMatch_near (x y ww hh x' y' ww' hh' n : Int) (w : World) (hs : smallB x y ww hh = true) (hs2 : smallB x' y' ww' hh' = true) :
    Calls Try.prog 3 #[reg x y ww hh, reg x' y' ww' hh', .int .i64 n] w fun e w' => e = .returned (.bool true) ∧ Below w.heap.size w w' := by
  obtain ⟨g1, g2, g3, g4, hg⟩ := growR_reg x y ww hh n
  have GF := Lib.hid fun w => grow_any x y ww hh n w
  have GR := Lib.hid fun w => refGrow_any x y ww hh n w
  rw [hg] at GF GR
  clear hg
  have SM := Lib.hid fun w => small_is x y ww hh _ hs w
  have SM2 := Lib.hid fun w => small_is x' y' ww' hh' _ hs2 w
  obtain ⟨a1, a2, a3, a4, a5, a6, a7, a8⟩ := of_decide_eq_true hs
  obtain ⟨b1, b2, b3, b4, b5, b6, b7, b8⟩ := of_decide_eq_true hs2
  obtain ⟨c1, c2, c3, c4, hc⟩ := comR_reg x y ww hh x' y' ww' hh'
  have CF := Lib.hid fun w => common_any x y ww hh x' y' ww' hh' w a5 a7 a6 a8 a1 a2 a3 a4 b5 b7 b6 b8 b1 b2 b3 b4
  have CR := Lib.hid fun w => refCommon_any x y ww hh x' y' ww' hh' w a5 a7 a6 a8 a1 a2 a3 a4 b5 b7 b6 b8 b1 b2 b3 b4
  have IF := Lib.hid fun w => inside_any x y ww hh x' y' ww' hh' w a5 a7 a6 a8 a1 a2 a3 a4 b5 b7 b6 b8 b1 b2 b3 b4
  have IR := Lib.hid fun w => refInside_any x y ww hh x' y' ww' hh' w a5 a7 a6 a8 a1 a2 a3 a4 b5 b7 b6 b8 b1 b2 b3 b4
  rw [hc] at CF CR
  clear hs hs2 hc a1 a2 a3 a4 a5 a6 a7 a8 b1 b2 b3 b4 b5 b6 b7 b8
  go_enter Try.func3, Try.ntmps3
  go_wp2_with (first | (go_at_call 15; refine (landed_any _).mono ?_; rintro e w1 ⟨rfl, hb1⟩; have HA1 := Lib.hid (blkStay (b := w.heap.size) (o := regObj x y ww hh) (by simp only [heap_alloc_get, heap_size_alloc]; simp) hb1); obtain ⟨cA1, fA1, zA1⟩ := blkC HA1.out; have HB1 := Lib.hid (blkStay (b := w.heap.size + 1) (o := regObj x' y' ww' hh') (by simp only [heap_alloc_get, heap_size_alloc]; simp) hb1); obtain ⟨cB1, fB1, zB1⟩ := blkC HB1.out; have hB1 : Below w.heap.size w w1 := Below.trans (by repeat (first | exact Below.refl _ _ | refine Below.alloc ?_ (by first | omega | (simp; done) | (simp; omega)) _ | refine Below.setCell ?_ (by first | omega | (simp; done) | (simp; omega)) _ | refine Below.drew ?_)) (Below.mono hb1 (by first | omega | (simp; done) | (simp; omega))); clear hb1))
  go_region_held3 (fun w' => (∀ o, w'.cell? ⟨w.heap.size, o, none⟩ = #[.int .i64 x, .int .i64 y, .int .i64 ww, .int .i64 hh][o]?) ∧ Below w1.heap.size w1 w') (first | exact ⟨(blkC (blkStay HA1.out (by repeat (first | exact Below.refl _ _ | refine Below.alloc ?_ (by first | omega | (simp; done) | (simp; omega)) _ | refine Below.setCell ?_ (by first | omega | (simp; done) | (simp; omega)) _ | refine Below.drew ?_)))).1, (by repeat (first | exact Below.refl _ _ | refine Below.alloc ?_ (by first | omega | (simp; done) | (simp; omega)) _ | refine Below.setCell ?_ (by first | omega | (simp; done) | (simp; omega)) _ | refine Below.drew ?_))⟩) (first | (go_at_call 16; refine (checkRegion_any _ _ _ _ _).mono ?_; rintro e w' ⟨rfl, rfl⟩) | (go_at_call 17; refine (refCheckRegion_any _ _ _ _ _).mono ?_; rintro e w' ⟨rfl, rfl⟩))
  rename_i hHeld
  clear hHeld
  go_wp2_with (first | (go_at_call 18; refine (GF.out _).mono ?_; rintro e w2 ⟨rfl, hb2⟩; have hB2 : Below w1.heap.size w1 w2 := Below.trans (by repeat (first | exact Below.refl _ _ | refine Below.alloc ?_ (by first | omega | (simp; done) | (simp; omega)) _ | refine Below.setCell ?_ (by first | omega | (simp; done) | (simp; omega)) _ | refine Below.drew ?_)) (Below.mono hb2 (by first | omega | (simp; done) | (simp; omega))); have hC2 : Below w.heap.size w w2 := Below.trans hB1 (Below.mono hB2 (by omega)); clear hb2; have HA2 := Lib.hid (blkStay HA1.out hB2); obtain ⟨cA2, fA2, zA2⟩ := blkC HA2.out; have HB2 := Lib.hid (blkStay HB1.out hB2); obtain ⟨cB2, fB2, zB2⟩ := blkC HB2.out) | (go_at_call 19; refine (GR.out _).mono ?_; rintro e w3 ⟨rfl, hb3⟩; have hB3 : Below w2.heap.size w2 w3 := Below.trans (by repeat (first | exact Below.refl _ _ | refine Below.alloc ?_ (by first | omega | (simp; done) | (simp; omega)) _ | refine Below.setCell ?_ (by first | omega | (simp; done) | (simp; omega)) _ | refine Below.drew ?_)) (Below.mono hb3 (by first | omega | (simp; done) | (simp; omega))); have hC3 : Below w.heap.size w w3 := Below.trans hC2 (Below.mono hB3 (by omega)); have HA3 := Lib.hid (blkStay HA2.out hB3); obtain ⟨cA3, fA3, zA3⟩ := blkC HA3.out; have HB3 := Lib.hid (blkStay HB2.out hB3); obtain ⟨cB3, fB3, zB3⟩ := blkC HB3.out; have HG3 := Lib.hid (blkStay (b := w2.heap.size) (o := regObj g1 g2 g3 g4) (by simp only [heap_alloc_get]; simp) hb3); obtain ⟨cG3, fG3, zG3⟩ := blkC HG3.out; clear hb3) | (go_at_call 20; refine (SM.out _).mono ?_; rintro e w4 ⟨rfl, hb4⟩; have hB4 : Below w3.heap.size w3 w4 := Below.trans (by repeat (first | exact Below.refl _ _ | refine Below.alloc ?_ (by first | omega | (simp; done) | (simp; omega)) _ | refine Below.setCell ?_ (by first | omega | (simp; done) | (simp; omega)) _ | refine Below.drew ?_)) (Below.mono hb4 (by first | omega | (simp; done) | (simp; omega))); have hC4 : Below w.heap.size w w4 := Below.trans hC3 (Below.mono hB4 (by omega)); clear hb4; have HA4 := Lib.hid (blkStay HA3.out hB4); obtain ⟨cA4, fA4, zA4⟩ := blkC HA4.out; have HB4 := Lib.hid (blkStay HB3.out hB4); obtain ⟨cB4, fB4, zB4⟩ := blkC HB4.out; clear SM) | (go_at_call 20; refine (SM2.out _).mono ?_; rintro e w5 ⟨rfl, hb5⟩; have hB5 : Below w4.heap.size w4 w5 := Below.trans (by repeat (first | exact Below.refl _ _ | refine Below.alloc ?_ (by first | omega | (simp; done) | (simp; omega)) _ | refine Below.setCell ?_ (by first | omega | (simp; done) | (simp; omega)) _ | refine Below.drew ?_)) (Below.mono hb5 (by first | omega | (simp; done) | (simp; omega))); have hC5 : Below w.heap.size w w5 := Below.trans hC4 (Below.mono hB5 (by omega)); clear hb5; have HA5 := Lib.hid (blkStay HA4.out hB5); obtain ⟨cA5, fA5, zA5⟩ := blkC HA5.out; have HB5 := Lib.hid (blkStay HB4.out hB5); obtain ⟨cB5, fB5, zB5⟩ := blkC HB5.out))
  go_wp2_with (first | (go_at_call 21; refine (CF.out _).mono ?_; rintro e w6 ⟨rfl, hb6⟩; have hB6 : Below w5.heap.size w5 w6 := Below.trans (by repeat (first | exact Below.refl _ _ | refine Below.alloc ?_ (by first | omega | (simp; done) | (simp; omega)) _ | refine Below.setCell ?_ (by first | omega | (simp; done) | (simp; omega)) _ | refine Below.drew ?_)) (Below.mono hb6 (by first | omega | (simp; done) | (simp; omega))); have hC6 : Below w.heap.size w w6 := Below.trans hC5 (Below.mono hB6 (by omega)); clear hb6; have HA6 := Lib.hid (blkStay HA5.out hB6); obtain ⟨cA6, fA6, zA6⟩ := blkC HA6.out; have HB6 := Lib.hid (blkStay HB5.out hB6); obtain ⟨cB6, fB6, zB6⟩ := blkC HB6.out; clear CF) | (go_at_call 22; refine (CR.out _).mono ?_; rintro e w7 ⟨rfl, hb7⟩; have hB7 : Below w6.heap.size w6 w7 := Below.trans (by repeat (first | exact Below.refl _ _ | refine Below.alloc ?_ (by first | omega | (simp; done) | (simp; omega)) _ | refine Below.setCell ?_ (by first | omega | (simp; done) | (simp; omega)) _ | refine Below.drew ?_)) (Below.mono hb7 (by first | omega | (simp; done) | (simp; omega))); have hC7 : Below w.heap.size w w7 := Below.trans hC6 (Below.mono hB7 (by omega)); have HA7 := Lib.hid (blkStay HA6.out hB7); obtain ⟨cA7, fA7, zA7⟩ := blkC HA7.out; have HB7 := Lib.hid (blkStay HB6.out hB7); obtain ⟨cB7, fB7, zB7⟩ := blkC HB7.out; have HG7 := Lib.hid (blkStay (b := w6.heap.size) (o := regObj c1 c2 c3 c4) (by simp only [heap_alloc_get]; simp) hb7); obtain ⟨cG7, fG7, zG7⟩ := blkC HG7.out; clear hb7))
  generalize hW : w7.alloc (regObj c1 c2 c3 c4) = w8
  have hB8 : Below w7.heap.size w7 w8 := by subst hW; exact (by repeat (first | exact Below.refl _ _ | refine Below.alloc ?_ (by first | omega | (simp; done) | (simp; omega)) _ | refine Below.setCell ?_ (by first | omega | (simp; done) | (simp; omega)) _ | refine Below.drew ?_))
  have HD8 := Lib.hid (show w8.heap[w7.heap.size]? = some (regObj c1 c2 c3 c4) by subst hW; simp only [heap_alloc_get]; simp)
  clear hW
  have hC8 : Below w.heap.size w w8 := Below.trans hC7 (Below.mono hB8 (by omega))
  have HA8 := Lib.hid (blkStay HA7.out hB8)
  have HB8 := Lib.hid (blkStay HB7.out hB8)
  have HG8 := Lib.hid (blkStay HG7.out hB8)
  obtain ⟨cA8, fA8, zA8⟩ := blkC HA8.out
  obtain ⟨cB8, fB8, zB8⟩ := blkC HB8.out
  obtain ⟨cG8, fG8, zG8⟩ := blkC HG8.out
  obtain ⟨cD8, fD8, zD8⟩ := blkC HD8.out
  go_region_held3 (fun w' => ((∀ o, w'.cell? ⟨w.heap.size, o, none⟩ = #[.int .i64 x, .int .i64 y, .int .i64 ww, .int .i64 hh][o]?) ∧ (∀ o, w'.cell? ⟨w.heap.size + 1, o, none⟩ = #[.int .i64 x', .int .i64 y', .int .i64 ww', .int .i64 hh'][o]?) ∧ (∀ o, w'.cell? ⟨w6.heap.size, o, none⟩ = #[.int .i64 c1, .int .i64 c2, .int .i64 c3, .int .i64 c4][o]?) ∧ (∀ o, w'.cell? ⟨w7.heap.size, o, none⟩ = #[.int .i64 c1, .int .i64 c2, .int .i64 c3, .int .i64 c4][o]?)) ∧ Below w8.heap.size w8 w') (first | exact (fun K => ⟨⟨(blkC (blkStay HA8.out K)).1, (blkC (blkStay HB8.out K)).1, (blkC (blkStay HG8.out K)).1, (blkC (blkStay HD8.out K)).1⟩, K⟩) (hold ‹_ ∧ Below w8.heap.size w8 _› hb) | exact (fun K => ⟨⟨(blkC (blkStay HA8.out K)).1, (blkC (blkStay HB8.out K)).1, (blkC (blkStay HG8.out K)).1, (blkC (blkStay HD8.out K)).1⟩, K⟩) (Below.drew (Below.refl _ _))) (first | (go_at_call 23; refine (IF.out _).mono ?_; rintro e w' ⟨rfl, hb⟩) | (go_at_call 24; refine (IR.out _).mono ?_; rintro e w' ⟨rfl, hb⟩))
  rename_i hHeld
  go_wp2
  go_ret
  exact ⟨rfl, Below.trans hC8 (Below.mono hHeld.2 (by omega))⟩

theorem regionsMatch_any (x y ww hh x' y' ww' hh' n : Int) (w : World) :
    Calls Try.prog 3 #[reg x y ww hh, reg x' y' ww' hh', .int .i64 n] w fun e w' => e = .returned (.bool true) ∧ Below w.heap.size w w' := by
  cases h : smallB x y ww hh with
  | false => exact regionsMatch_far x y ww hh x' y' ww' hh' n w h
  | true =>
    cases h' : smallB x' y' ww' hh' with
    | false => exact regionsMatch_mid x y ww hh x' y' ww' hh' n w h h'
    | true => exact regionsMatch_near x y ww hh x' y' ww' hh' n w h h'

end Go.Proofs.Ytjjhhnoeiglnhaa
