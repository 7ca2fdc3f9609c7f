/- Contracts: inner, around, inclines, normal, greater of the reference. -/
import Derived.Test.YtjjhhnoeiglnhabSha3
namespace Go.Proofs.Ytjjhhnoeiglnhab
open Go.RowKit Fl
set_option linter.unusedVariables false

set_option maxHeartbeats 1000000 in
theorem rinner_any (X Y : Int) (W H n b cap : Nat) (w : World) (h0 : checkR X Y W H = 0) :
    Calls Try.prog 75 #[fldV X Y W H (.slice (some ⟨b, 0, none⟩) n cap), .int .i64 1] w fun e w' => e = .returned (.tuple #[if innB W H then reg (X + 1) (Y + 1) (W - 2) (H - 2) else reg 0 0 0 0, .int .i64 (if innB W H then 0 else 10)]) ∧ Below w.heap.size w w' := by
  obtain ⟨b1, b2, b3, b4, b5, b6, b7, b8, b9⟩ := checkR_zero h0
  have GR := Lib.hid (fun w => show Calls Try.prog 165 #[reg X Y W H, .int .i64 (-1)] w fun e w' => e = .returned (reg (X + 1) (Y + 1) (W - 2) (H - 2)) ∧ Below w.heap.size w w' by
    have := refGrown_any X Y W H (-1) w (by omega) (by omega) (by omega) (by omega) (by omega) (by omega) (by omega) (by omega) (by omega) (by omega)
    simpa [Int.sub_eq_add_neg] using this)
  unfold innB
  by_cases c1 : (W : Int) < 3
  · have e : decide (3 ≤ (W : Int) ∧ 3 ≤ (H : Int)) = false := by simp; omega
    rw [e]
    clear e
    go_enter Try.func75, Try.ntmps75
    go_wp2_with (first | (go_at_call 165; refine (GR.out _).mono ?_; rintro e w3 ⟨rfl, hb3⟩; have HS3 := Lib.hid (blkStay (b := w.heap.size + 1) (o := regObj 0 0 0 0) (by ((simp only [heap_alloc_get, heap_size_alloc, if_true]) <;> ((repeat' split) <;> first | rfl | omega))) hb3); have hB3 : Below w.heap.size w w3 := Below.trans (by repeat (first | exact Below.refl _ _ | refine Below.alloc ?_ (by first | omega | (simp; done) | (simp; omega)) _ | refine Below.setCell ?_ (by first | omega | (simp; done) | (simp; omega)) _ | refine Below.drew ?_)) (Below.mono hb3 (by first | omega | (simp; done) | (simp; omega))); clear hb3; obtain ⟨cS, fS, zS⟩ := blkC HS3.out))
    all_goals
      have HRES := fun (u1 u2 u3 u4 : Value) (o : Obj) => (blkC ((heap_alloc_old (set4 w3 (w.heap.size + 1) u1 u2 u3 u4) o (by rw [set4_size]; exact zS)).trans (set4_self u1 u2 u3 u4 HS3.out))).1
      simp only [set4] at HRES
      refine bodyPost_ret (v := .tuple #[reg 0 0 0 0, .int .i64 10]) (by simp [results, Try.results75, go_sem, HRES]) rfl ?_
      exact ⟨rfl, by repeat (first | exact hB3 | refine Below.alloc ?_ (by first | omega | (simp; done) | (simp; omega)) _ | refine Below.setCell ?_ (by first | omega | (simp; done) | (simp; omega)) _)⟩
  · by_cases c2 : (H : Int) < 3
    · have e : decide (3 ≤ (W : Int) ∧ 3 ≤ (H : Int)) = false := by simp; omega
      rw [e]
      clear e
      go_enter Try.func75, Try.ntmps75
      go_wp2_with (first | (go_at_call 165; refine (GR.out _).mono ?_; rintro e w3 ⟨rfl, hb3⟩; have HS3 := Lib.hid (blkStay (b := w.heap.size + 1) (o := regObj 0 0 0 0) (by ((simp only [heap_alloc_get, heap_size_alloc, if_true]) <;> ((repeat' split) <;> first | rfl | omega))) hb3); have hB3 : Below w.heap.size w w3 := Below.trans (by repeat (first | exact Below.refl _ _ | refine Below.alloc ?_ (by first | omega | (simp; done) | (simp; omega)) _ | refine Below.setCell ?_ (by first | omega | (simp; done) | (simp; omega)) _ | refine Below.drew ?_)) (Below.mono hb3 (by first | omega | (simp; done) | (simp; omega))); clear hb3; obtain ⟨cS, fS, zS⟩ := blkC HS3.out))
      all_goals
        have HRES := fun (u1 u2 u3 u4 : Value) (o : Obj) => (blkC ((heap_alloc_old (set4 w3 (w.heap.size + 1) u1 u2 u3 u4) o (by rw [set4_size]; exact zS)).trans (set4_self u1 u2 u3 u4 HS3.out))).1
        simp only [set4] at HRES
        refine bodyPost_ret (v := .tuple #[reg 0 0 0 0, .int .i64 10]) (by simp [results, Try.results75, go_sem, HRES]) rfl ?_
        exact ⟨rfl, by repeat (first | exact hB3 | refine Below.alloc ?_ (by first | omega | (simp; done) | (simp; omega)) _ | refine Below.setCell ?_ (by first | omega | (simp; done) | (simp; omega)) _)⟩
    · have e : decide (3 ≤ (W : Int) ∧ 3 ≤ (H : Int)) = true := by simp; omega
      rw [e]
      clear e
      go_enter Try.func75, Try.ntmps75
      go_wp2_with (first | (go_at_call 165; refine (GR.out _).mono ?_; rintro e w3 ⟨rfl, hb3⟩; have HS3 := Lib.hid (blkStay (b := w.heap.size + 1) (o := regObj 0 0 0 0) (by ((simp only [heap_alloc_get, heap_size_alloc, if_true]) <;> ((repeat' split) <;> first | rfl | omega))) hb3); have hB3 : Below w.heap.size w w3 := Below.trans (by repeat (first | exact Below.refl _ _ | refine Below.alloc ?_ (by first | omega | (simp; done) | (simp; omega)) _ | refine Below.setCell ?_ (by first | omega | (simp; done) | (simp; omega)) _ | refine Below.drew ?_)) (Below.mono hb3 (by first | omega | (simp; done) | (simp; omega))); clear hb3; obtain ⟨cS, fS, zS⟩ := blkC HS3.out))
      all_goals
        have HRES := fun (u1 u2 u3 u4 : Value) (o : Obj) => (blkC ((heap_alloc_old (set4 w3 (w.heap.size + 1) u1 u2 u3 u4) o (by rw [set4_size]; exact zS)).trans (set4_self u1 u2 u3 u4 HS3.out))).1
        simp only [set4] at HRES
        refine bodyPost_ret (v := .tuple #[reg (X + 1) (Y + 1) (W - 2) (H - 2), .int .i64 0]) (by simp [results, Try.results75, go_sem, HRES]) rfl ?_
        exact ⟨rfl, by repeat (first | exact hB3 | refine Below.alloc ?_ (by first | omega | (simp; done) | (simp; omega)) _ | refine Below.setCell ?_ (by first | omega | (simp; done) | (simp; omega)) _)⟩

set_option maxHeartbeats 4000000 in
set_option maxRecDepth 100000 in
theorem around_any (X Y : Int) (W H n b cap i : Nat) (v : Nat → Nat) (x y : Int) (w : World) (h0 : checkR X Y W H = 0) (hn : n = H * W) (hc : FlAt w b 0 n v)
    (h1 : X + 1 ≤ x) (h2 : x + 1 < X + W) (h3 : Y + 1 ≤ y) (h4 : y + 1 < Y + H) (hi : (i : Int) = (y - Y) * W + (x - X)) :
    Calls Try.prog 85 #[fldV X Y W H (.slice (some ⟨b, 0, none⟩) n cap), .int .i64 x, .int .i64 y] w fun e w' => e = .returned (.tuple #[.float .f32 (v i), .float .f32 (v (i - W)), .float .f32 (v (i + W)), .float .f32 (v (i + 1)), .float .f32 (v (i - 1))]) ∧ Below w.heap.size w w' := by
  obtain ⟨b1, b2, b3, b4, b5, b6, b7, b8, b9⟩ := checkR_zero h0
  have hn2 : n ≤ 65536 := by
    have : ((W : Int) * (H : Int)) = (n : Int) := by rw [hn, Nat.mul_comm]; simp
    omega
  have q0 : (W : Int) ≤ (y - Y) * W := by
    have := Int.mul_le_mul_of_nonneg_right (show (1 : Int) ≤ y - Y by omega) (show (0 : Int) ≤ W by omega); omega
  have q1 : (y - Y) * W ≤ (n : Int) - 2 * W := by
    have a : (y - Y) * W ≤ ((H : Int) - 2) * W := Int.mul_le_mul_of_nonneg_right (by omega) (by omega)
    have b : ((H : Int) - 2) * W = (n : Int) - 2 * W := by rw [hn, Int.sub_mul]; simp
    omega
  have zb : b < w.heap.size := World.block_lt_of_cell? w _ (hc i (by omega))
  have A0 := Lib.hid (fun W' (hb : Below w.heap.size w W') => refAt_any X Y W H n b cap i v x y W' (by omega) (by omega) (by omega) (by omega) (by omega) (by omega) (by omega) (by omega) (by omega) (by omega) (by omega) hi (by omega) hn2 (flAt_congr hc (hb.block _ zb)))
  have A1 := Lib.hid (fun W' (hb : Below w.heap.size w W') => refAt_any X Y W H n b cap (i - W) v x (y - 1) W' (by omega) (by omega) (by omega) (by omega) (by omega) (by omega) (by omega) (by omega) (by omega) (by omega) (by omega) (by rw [show y - 1 - Y = (y - Y) - 1 by omega, Int.sub_mul]; omega) (by omega) hn2 (flAt_congr hc (hb.block _ zb)))
  have A2 := Lib.hid (fun W' (hb : Below w.heap.size w W') => refAt_any X Y W H n b cap (i + W) v x (y + 1) W' (by omega) (by omega) (by omega) (by omega) (by omega) (by omega) (by omega) (by omega) (by omega) (by omega) (by omega) (by rw [show y + 1 - Y = (y - Y) + 1 by omega, Int.add_mul]; omega) (by omega) hn2 (flAt_congr hc (hb.block _ zb)))
  have A3 := Lib.hid (fun W' (hb : Below w.heap.size w W') => refAt_any X Y W H n b cap (i + 1) v (x + 1) y W' (by omega) (by omega) (by omega) (by omega) (by omega) (by omega) (by omega) (by omega) (by omega) (by omega) (by omega) (by omega) (by omega) hn2 (flAt_congr hc (hb.block _ zb)))
  have A4 := Lib.hid (fun W' (hb : Below w.heap.size w W') => refAt_any X Y W H n b cap (i - 1) v (x - 1) y W' (by omega) (by omega) (by omega) (by omega) (by omega) (by omega) (by omega) (by omega) (by omega) (by omega) (by omega) (by omega) (by omega) hn2 (flAt_congr hc (hb.block _ zb)))
  have u1 : IntKind.i64.wrap (y - 1) = y - 1 := IntWalk.i64_in _ (by omega)
  have u2 : IntKind.i64.wrap (y + 1) = y + 1 := IntWalk.i64_in _ (by omega)
  have u3 : IntKind.i64.wrap (x + 1) = x + 1 := IntWalk.i64_in _ (by omega)
  have u4 : IntKind.i64.wrap (x - 1) = x - 1 := IntWalk.i64_in _ (by omega)
  have GF := Lib.hid (show (w.alloc (fldO X Y W H (.slice (some ⟨b, 0, none⟩) n cap))).heap[w.heap.size]? = some (fldO X Y W H (.slice (some ⟨b, 0, none⟩) n cap)) from heap_alloc_new _ _)
  have zF : w.heap.size < (w.alloc (fldO X Y W H (.slice (some ⟨b, 0, none⟩) n cap))).heap.size := by simp
  clear hc h0 hi q0 q1 b1 b2 b3 b4 b5 b6 b7 b8 b9 h1 h2 h3 h4 hn hn2
  generalize v i = v0 at *
  generalize v (i - W) = v1 at *
  generalize v (i + W) = v2 at *
  generalize v (i + 1) = v3 at *
  generalize v (i - 1) = v4 at *
  go_enter Try.func85, Try.ntmps85
  go_wp2
  go_region_held3 (fun w' => (∀ o, w'.cell? ⟨w.heap.size, o, none⟩ = #[.int .i64 X, .int .i64 Y, .int .i64 W, .int .i64 H, .slice (some ⟨b, 0, none⟩) n cap][o]?) ∧ Below (w.alloc (fldO X Y W H (.slice (some ⟨b, 0, none⟩) n cap))).heap.size (w.alloc (fldO X Y W H (.slice (some ⟨b, 0, none⟩) n cap))) w') (first | exact ⟨(blkC (blkStay GF.out (by repeat (first | exact Below.refl _ _ | refine Below.alloc ?_ (by first | omega | (simp; done) | (simp; omega)) _ | refine Below.setCell ?_ (by first | omega | (simp; done) | (simp; omega)) _ | refine Below.drew ?_)))).1, (by repeat (first | exact Below.refl _ _ | refine Below.alloc ?_ (by first | omega | (simp; done) | (simp; omega)) _ | refine Below.setCell ?_ (by first | omega | (simp; done) | (simp; omega)) _ | refine Below.drew ?_))⟩) (first
    | (go_at_call 67; (with_reducible refine Calls.mono (A0.out _ ?_) ?_); exact (by repeat (first | exact Below.refl _ _ | refine Below.alloc ?_ (by first | omega | (simp; done) | (simp; omega)) _ | refine Below.setCell ?_ (by first | omega | (simp; done) | (simp; omega)) _ | refine Below.drew ?_)); rintro e w' ⟨rfl, rfl⟩)
    | (go_at_call 67; (with_reducible refine Calls.mono (A1.out _ ?_) ?_); exact (by repeat (first | exact Below.refl _ _ | refine Below.alloc ?_ (by first | omega | (simp; done) | (simp; omega)) _ | refine Below.setCell ?_ (by first | omega | (simp; done) | (simp; omega)) _ | refine Below.drew ?_)); rintro e w' ⟨rfl, rfl⟩)
    | (go_at_call 67; (with_reducible refine Calls.mono (A2.out _ ?_) ?_); exact (by repeat (first | exact Below.refl _ _ | refine Below.alloc ?_ (by first | omega | (simp; done) | (simp; omega)) _ | refine Below.setCell ?_ (by first | omega | (simp; done) | (simp; omega)) _ | refine Below.drew ?_)); rintro e w' ⟨rfl, rfl⟩)
    | (go_at_call 67; (with_reducible refine Calls.mono (A3.out _ ?_) ?_); exact (by repeat (first | exact Below.refl _ _ | refine Below.alloc ?_ (by first | omega | (simp; done) | (simp; omega)) _ | refine Below.setCell ?_ (by first | omega | (simp; done) | (simp; omega)) _ | refine Below.drew ?_)); rintro e w' ⟨rfl, rfl⟩)
    | (go_at_call 67; (with_reducible refine Calls.mono (A4.out _ ?_) ?_); exact (by repeat (first | exact Below.refl _ _ | refine Below.alloc ?_ (by first | omega | (simp; done) | (simp; omega)) _ | refine Below.setCell ?_ (by first | omega | (simp; done) | (simp; omega)) _ | refine Below.drew ?_)); rintro e w' ⟨rfl, rfl⟩))
  rename_i wh hHeld
  go_wp2
  refine bodyPost_ret (v := .tuple #[.float .f32 v0, .float .f32 v1, .float .f32 v2, .float .f32 v3, .float .f32 v4]) (by simp [results, Try.results85, go_sem]) rfl ?_
  exact ⟨rfl, Below.trans ((Below.refl _ _).alloc (Nat.le_refl _) _) (hHeld.2.mono (by simp))⟩
end Go.Proofs.Ytjjhhnoeiglnhab
