/- BrushesMatch: CheckBrush, Weight, Stamp and Box answer as the references do; weights lie from 0 to 1, and are 0 outside of the box. -/
import Derived.Test.YtjjhhnoeiglnhabBru7
import Derived.Test.YtjjhhnoeiglnhabHshLaw
namespace Go.Proofs.Ytjjhhnoeiglnhab
open Go.RowKit Fl
set_option linter.unusedVariables false

theorem al_below (w : World) (o : Obj) : Below w.heap.size w (w.alloc o) := (Below.refl _ _).alloc (Nat.le_refl _) o

/-- What the law asks of a weight V, its error E and a box, behind the brush's error er. -/
def BruSaid (k X Y R : Int) (h : Nat) (x y er : Int) (V : Nat) (E q1 q2 q3 q4 : Int) : Prop :=
  (er ≠ 0 ∧ E = er ∧ V = 0 ∧ q1 = 0 ∧ q2 = 0 ∧ q3 = 0 ∧ q4 = 0) ∨
  (er = 0 ∧ E = 5 ∧ V = 0 ∧ (x < -4194304 ∨ (-4194304 ≤ x ∧ 4194304 < x) ∨ (-4194304 ≤ x ∧ x ≤ 4194304 ∧ y < -4194304) ∨ (-4194304 ≤ x ∧ x ≤ 4194304 ∧ -4194304 ≤ y ∧ 4194304 < y))) ∨
  (er = 0 ∧ E = 0 ∧ V = weiW k (sqD x y X Y) R ∧ BruOk k X Y R h ∧ -4194304 ≤ x ∧ x ≤ 4194304 ∧ -4194304 ≤ y ∧ y ≤ 4194304 ∧ q1 = X - R + 1 ∧ q2 = Y - R + 1 ∧ q3 = 2 * R - 1 ∧ q4 = 2 * R - 1)

theorem bru_said (k X Y R : Int) (h : Nat) (x y : Int) : ∃ q1 q2 q3 q4, boxR k X Y R h = reg q1 q2 q3 q4 ∧ BruSaid k X Y R h x y (bruE k X Y R h) (weiV k X Y R h x y) (weiE k X Y R h x y) q1 q2 q3 q4 := by
  unfold boxR weiV weiE
  by_cases c : bruE k X Y R h = 0
  · have K := bru_ok c
    rw [if_pos c]
    refine ⟨_, _, _, _, rfl, ?_⟩
    rw [if_pos c]
    rcases plcE_cases x y with d | d
    · obtain ⟨p1, p2, p3, p4⟩ := plc_ok d
      rw [d, if_pos rfl, c]
      exact .inr (.inr ⟨rfl, rfl, rfl, K, p1, p2, p3, p4, rfl, rfl, rfl, rfl⟩)
    · have o : ¬ (-4194304 ≤ x ∧ x ≤ 4194304 ∧ -4194304 ≤ y ∧ y ≤ 4194304) := by
        intro q
        unfold plcE at d
        rw [if_pos ⟨withinB_iff.2 ⟨q.1, q.2.1⟩, withinB_iff.2 ⟨q.2.2.1, q.2.2.2⟩⟩] at d
        cases d
      rw [d, if_neg (by decide), c]
      exact .inr (.inl ⟨rfl, rfl, rfl, by omega⟩)
  · rw [if_neg c]
    refine ⟨0, 0, 0, 0, rfl, ?_⟩
    rw [if_neg c, if_neg c]
    exact .inl ⟨c, rfl, rfl, rfl, rfl, rfl, rfl⟩

theorem sq_far {d R : Int} (r1 : 1 ≤ R) (h : d ≤ -R ∨ R ≤ d) : R * R ≤ d * d := by
  rcases h with h | h
  · have := Int.mul_le_mul (show R ≤ -d by omega) (show R ≤ -d by omega) (by omega) (by omega)
    rwa [Int.neg_mul_neg] at this
  · exact Int.mul_le_mul h h (by omega) (by omega)

/-- Outside of its box a brush weighs nothing. -/
theorem wei_out {k X Y R : Int} {h : Nat} {x y : Int} (K : BruOk k X Y R h) (o : insideB x y 1 1 (X - R + 1) (Y - R + 1) (2 * R - 1) (2 * R - 1) = false) : weiW k (sqD x y X Y) R = 0 := by
  have o' : ¬ (X - R + 1 ≤ x ∧ Y - R + 1 ≤ y ∧ x + 1 ≤ X - R + 1 + (2 * R - 1) ∧ y + 1 ≤ Y - R + 1 + (2 * R - 1)) := by
    intro q
    have := insideB_iff.2 q
    rw [this] at o; cases o
  have r1 := K.r1
  have sq : ∀ d : Int, 0 ≤ d * d := fun d => by rw [← Int.natAbs_mul_self' d]; exact Int.mul_nonneg (Int.natCast_nonneg _) (Int.natCast_nonneg _)
  have a := sq (x - X)
  have b := sq (y - Y)
  unfold weiW
  rw [if_pos]
  unfold sqD
  by_cases c : x - X ≤ -R ∨ R ≤ x - X
  · have := sq_far r1 c; omega
  · have := sq_far (d := y - Y) r1 (by omega); omega

set_option maxHeartbeats 8000000 in
set_option maxRecDepth 100000 in
theorem brushesMatch_any (k X' Y' R : Int) (h : Nat) (X0 Y0 W0 H0 : Int) (sl : Value) (x y : Int) (w : World) (hl : h < 4294967296)
    (hfit : ∀ W', Below w.heap.size w W' → Calls Try.prog 13 #[fldV X0 Y0 W0 H0 sl] W' (FitPost W')) :
    Calls Try.prog 6 #[bru k X' Y' R h, fldV X0 Y0 W0 H0 sl, .int .i64 x, .int .i64 y] w fun e w' => e = .returned (.bool true) ∧ Below w.heap.size w w' := by
  have HF := Lib.hid hfit
  have CR := Lib.hid (fun w => refCheckBrush_any k X' Y' R h hl w)
  have CB := Lib.hid (fun w => checkBrush_any k X' Y' R h w)
  have WX := Lib.hid (fun w => weightX_any k X' Y' R h x y w)
  have BX := Lib.hid (fun w => box_any k X' Y' R h w)
  have SP := Lib.hid (fun (X Y : Int) (W H n b : Nat) (v : Nat → Nat) W' h0 hnn hf hv => stamp_any X Y W H n b n v k X' Y' R h W' h0 hnn hf hv)
  have SR := Lib.hid (fun (X Y : Int) (W H n b : Nat) (v : Nat → Nat) W' h0 hnn hf hv => rstamp_any X Y W H n b n v k X' Y' R h W' h0 hnn hf hv hl)
  obtain ⟨q1, q2, q3, q4, hq, hsaid⟩ := bru_said k X' Y' R h x y
  rw [hq] at BX
  have SA := Lib.hid hsaid
  generalize bruE k X' Y' R h = er at *
  generalize weiV k X' Y' R h x y = V at *
  generalize weiE k X' Y' R h x y = E at *
  clear hfit hq hsaid
  go_enter Try.func6, Try.ntmps6
  go_wp2_with (first | (go_at_call 12; refine (landed_any _).mono ?_; rintro e w1 ⟨rfl, hb1⟩; have HB1 := Lib.hid (blkStay (b := w.heap.size) (o := bruObj k X' Y' R h) (by ((simp only [heap_alloc_get, heap_size_alloc, if_true]) <;> ((repeat' split) <;> first | rfl | omega))) hb1); have HA1 := Lib.hid (blkStay (b := w.heap.size + 1) (o := fldO X0 Y0 W0 H0 sl) (by ((simp only [heap_alloc_get, heap_size_alloc, if_true]) <;> ((repeat' split) <;> first | rfl | omega))) hb1); have hB1 : Below w.heap.size w w1 := Below.trans (by repeat (first | exact Below.refl _ _ | refine Below.alloc ?_ (by first | omega | (simp; done) | (simp; omega)) _ | refine Below.setCell ?_ (by first | omega | (simp; done) | (simp; omega)) _ | refine Below.drew ?_)) (Below.mono hb1 (by first | omega | (simp; done) | (simp; omega))); clear hb1; obtain ⟨cB, fB, zB⟩ := blkC HB1.out; obtain ⟨cA, fA, zA⟩ := blkC HA1.out) | (go_at_call 33; refine (CR.out _).mono ?_; rintro e w2 ⟨rfl, hb2⟩; clear cB fB zB cA fA zA; have HB2 := Lib.hid (blkStay HB1.out hb2); have HA2 := Lib.hid (blkStay HA1.out hb2); have hB2 := hB1.trans (hb2.mono hB1.size); clear HB1 HA1 hB1; clear hb2; obtain ⟨cB, fB, zB⟩ := blkC HB2.out; obtain ⟨cA, fA, zA⟩ := blkC HA2.out) | (go_at_call 34; refine (CB.out _).mono ?_; rintro e w3 ⟨rfl, hb3⟩; clear cB fB zB cA fA zA; have HB3 := Lib.hid (blkStay HB2.out hb3); have HA3 := Lib.hid (blkStay HA2.out hb3); have hB3 := hB2.trans (hb3.mono hB2.size); clear HB2 HA2 hB2; clear hb3; obtain ⟨cB, fB, zB⟩ := blkC HB3.out; obtain ⟨cA, fA, zA⟩ := blkC HA3.out) | (go_at_call 35; refine (WX.out _).mono ?_; rintro e w4 ⟨rfl, hb4⟩; clear cB fB zB cA fA zA; have HB4 := Lib.hid (blkStay HB3.out hb4); have HA4 := Lib.hid (blkStay HA3.out hb4); have hB4 := hB3.trans (hb4.mono hB3.size); clear HB3 HA3 hB3; clear hb4; obtain ⟨cB, fB, zB⟩ := blkC HB4.out; obtain ⟨cA, fA, zA⟩ := blkC HA4.out) | (go_at_call 36; refine (BX.out _).mono ?_; rintro e w5 ⟨rfl, hb5⟩; clear cB fB zB cA fA zA; have HB5 := Lib.hid (blkStay HB4.out hb5); have HA5 := Lib.hid (blkStay HA4.out hb5); have hB5 := hB4.trans (hb5.mono hB4.size); clear HB4 HA4 hB4; clear hb5; obtain ⟨cB, fB, zB⟩ := blkC HB5.out; obtain ⟨cA, fA, zA⟩ := blkC HA5.out))
  -- fit
  have hB5a := hB5.alloc hB5.size (regObj q1 q2 q3 q4)
  refine (HF.out _ hB5a).mono ?_
  rintro e w6 ⟨X, Y, W', H', b, n, rfl, x1, x2, y1, y2, u1, u2, h1, h2, hn, hn1, hn2, hlo, hrow, hb6⟩
  have HB6 := Lib.hid (blkStay ((heap_alloc_old w5 (regObj q1 q2 q3 q4) zB).trans HB5.out) hb6)
  have HA6 := Lib.hid (blkStay ((heap_alloc_old w5 (regObj q1 q2 q3 q4) zA).trans HA5.out) hb6)
  have HX6 := Lib.hid (blkStay (heap_alloc_new w5 (regObj q1 q2 q3 q4)) hb6)
  have hB6 : Below w.heap.size w w6 := hB5a.trans (hb6.mono hB5a.size)
  have z5 := hB5.size
  have z56 : w5.heap.size < w6.heap.size := by have := hb6.size; simp at this; omega
  obtain ⟨W, rfl⟩ : ∃ W : Nat, W' = W := ⟨W'.toNat, by omega⟩
  obtain ⟨H, rfl⟩ : ∃ H : Nat, H' = H := ⟨H'.toNat, by omega⟩
  obtain ⟨v, fv, wv, hv, bv⟩ := fit_fn hrow
  have h0 := fit_check x1 x2 y1 y2 u1 u2 h1 h2 hn hn2
  have hnn : n = W * H := by
    have : (n : Int) = ((W * H : Nat) : Int) := by rw [hn]; simp
    omega
  have S1 := Lib.hid (fun W' (hf : FlAt W' b 0 n v) => SP.out X Y W H n b v W' h0 hnn hf hv)
  have S2 := Lib.hid (fun W' (hf : FlAt W' b 0 n v) => SR.out X Y W H n b v W' h0 hnn hf hv)
  simp only [heap_size_alloc] at hlo
  have hbp : b ≠ w.heap.size + 1 := by omega
  generalize staF v k X' Y' R h X Y W = sF at *
  clear cB fB cA fA HB5 HA5 hB5 hB5a hb6 hrow hv x1 x2 y1 y2 u1 u2 h1 h2 hn h0 hnn SP SR CR CB WX BX
  obtain ⟨cA, fA, zA6⟩ := blkC HA6.out
  obtain ⟨cB, fB, zB6⟩ := blkC HB6.out
  have HA7 := Lib.hid (set5_self (.int .i64 X) (.int .i64 Y) (.int .i64 W) (.int .i64 H) (.slice (some ⟨b, 0, none⟩) n n) HA6.out)
  have HB7 := Lib.hid ((set5_heap w6 (w.heap.size + 1) w.heap.size (.int .i64 X) (.int .i64 Y) (.int .i64 W) (.int .i64 H) (.slice (some ⟨b, 0, none⟩) n n) (by omega)).trans HB6.out)
  have HX7 := Lib.hid ((set5_heap w6 (w.heap.size + 1) w5.heap.size (.int .i64 X) (.int .i64 Y) (.int .i64 W) (.int .i64 H) (.slice (some ⟨b, 0, none⟩) n n) (by omega)).trans HX6.out)
  have F7 := Lib.hid (flAt_congr fv (set5_heap w6 (w.heap.size + 1) b (.int .i64 X) (.int .i64 Y) (.int .i64 W) (.int .i64 H) (.slice (some ⟨b, 0, none⟩) n n) hbp))
  have hB7 := set5_below hB6 (w.heap.size + 1) (.int .i64 X) (.int .i64 Y) (.int .i64 W) (.int .i64 H) (.slice (some ⟨b, 0, none⟩) n n) (by omega)
  have hx := set5_size w6 (w.heap.size + 1) (.int .i64 X) (.int .i64 Y) (.int .i64 W) (.int .i64 H) (.slice (some ⟨b, 0, none⟩) n n)
  go_wp2_with fail
  refine (S1.out _ F7.out).mono ?_
  intro e w8 hp
  obtain ⟨x1, y1, u1, h1, p1, l1, g1, k1, rfl, r1, hb8⟩ := made_res hp
  have F8 := Lib.hid (flAt_congr F7.out (hb8.block b (by rw [hx]; exact bv)))
  have HA8 := Lib.hid (blkStay HA7.out hb8)
  have HB8 := Lib.hid (blkStay HB7.out hb8)
  have HX8 := Lib.hid (blkStay HX7.out hb8)
  have hB8 := hB7.trans (hb8.mono hB7.size)
  have bv8 : b < w8.heap.size := by have := hb8.size; rw [hx] at this; omega
  have z58 : w5.heap.size < w8.heap.size := by have := hb8.size; rw [hx] at this; omega
  clear hp
  rw [hx] at r1
  clear hb8 HA7 HB7 HX7 F7 hB7 hx cA fA zA6 cB fB zB6 HA6 HB6 HX6 hB6 hlo fv bv z56 hbp
  obtain ⟨cA, fA, zA8⟩ := blkC HA8.out
  obtain ⟨cB, fB, zB8⟩ := blkC HB8.out
  -- the reference's Stamp
  have hb9 := al_below w8 (fldO x1 y1 u1 h1 (.slice p1 l1 g1))
  have F9 := Lib.hid (flAt_congr F8.out (heap_alloc_old w8 (fldO x1 y1 u1 h1 (.slice p1 l1 g1)) bv8))
  have HA9 := Lib.hid ((heap_alloc_old w8 (fldO x1 y1 u1 h1 (.slice p1 l1 g1)) zA8).trans HA8.out)
  have HB9 := Lib.hid ((heap_alloc_old w8 (fldO x1 y1 u1 h1 (.slice p1 l1 g1)) zB8).trans HB8.out)
  have HX9 := Lib.hid ((heap_alloc_old w8 (fldO x1 y1 u1 h1 (.slice p1 l1 g1)) z58).trans HX8.out)
  have HQ9 := Lib.hid (heap_alloc_new w8 (fldO x1 y1 u1 h1 (.slice p1 l1 g1)))
  have R9 := Lib.hid (r1.stay hb9)
  go_wp2_with fail
  refine (S2.out _ F9.out).mono ?_
  intro e w10 hp
  obtain ⟨x2, y2, u2, h2, p2, l2, g2, k2, rfl, r2, hb10⟩ := made_res hp
  have hb810 := hb9.trans (hb10.mono hb9.size)
  have HB10 := Lib.hid (blkStay HB9.out hb10)
  have HX10 := Lib.hid (blkStay HX9.out hb10)
  have HQ10 := Lib.hid (blkStay HQ9.out hb10)
  have R10 := Lib.hid (R9.out.stay hb10)
  have hB10 := hB8.trans (hb810.mono hB8.size)
  clear r1 R9 HQ9 HA9 HB9 HX9 F9 hb9 hb810 hp F8 HA8 HB8 HX8 hb10 cA fA cB fB
  obtain ⟨cB, fB, zB10⟩ := blkC HB10.out
  obtain ⟨cX, fX, zX10⟩ := blkC HX10.out
  obtain ⟨cQ, fQ, zQ10⟩ := blkC HQ10.out
  -- same
  have hb11 := al_below w10 (fldO x2 y2 u2 h2 (.slice p2 l2 g2))
  have HB11 := Lib.hid ((heap_alloc_old w10 (fldO x2 y2 u2 h2 (.slice p2 l2 g2)) zB10).trans HB10.out)
  have HX11 := Lib.hid ((heap_alloc_old w10 (fldO x2 y2 u2 h2 (.slice p2 l2 g2)) zX10).trans HX10.out)
  have R11 := Lib.hid (R10.out.stay hb11)
  have T11 := Lib.hid (r2.stay hb11)
  go_wp2_with fail
  refine (same_res hn1 (by omega) R11.out T11.out).mono ?_
  rintro e w12 ⟨rfl, hb12⟩
  have HB12 := Lib.hid (blkStay HB11.out hb12)
  have HX12 := Lib.hid (blkStay HX11.out hb12)
  have hB12 : Below w.heap.size w w12 := (hB10.trans (hb11.mono hB10.size)).trans (hb12.mono (by have := hB10.size; have := hb11.size; omega))
  clear hb11 hb12 R11 T11 R10 r2 HB11 HX11 HB10 HX10 HQ10 hB10 cB fB zB10 cX fX zX10 cQ fQ zQ10 S1 S2 hB8 HF bv8 z58 zA8 zB8 wv hn1 hn2
  obtain ⟨cB, fB, zB12⟩ := blkC HB12.out
  obtain ⟨cX, fX, zX12⟩ := blkC HX12.out
  have z0 : (FloatKind.f32.format.order 0 0 == some .eq) = true := by rw [f32f, eql_val vS_zero vS_zero]; simp
  have hsaid := SA.out
  clear SA
  rcases hsaid with ⟨hne, rfl, rfl, rfl, rfl, rfl, rfl⟩ | ⟨rfl, rfl, rfl, hout⟩ | ⟨rfl, rfl, rfl, K, i1, i2, i3, i4, rfl, rfl, rfl, rfl⟩
  · have hzb : (E != 0) = true := by simp [hne]
    clear hne
    go_wp2
    go_ret
    exact ⟨rfl, hB12⟩
  · rcases hout with o | ⟨o, o'⟩ | ⟨o, o', o''⟩ | ⟨o, o', o'', o3⟩
    all_goals
      go_wp2
      go_ret
      exact ⟨rfl, hB12⟩
  · have n0 : 0 ≤ sqD x y X' Y' := by
      have sq : ∀ d : Int, 0 ≤ d * d := fun d => by rw [← Int.natAbs_mul_self' d]; exact Int.mul_nonneg (Int.natCast_nonneg _) (Int.natCast_nonneg _)
      have := sq (x - X')
      have := sq (y - Y')
      unfold sqD; omega
    obtain ⟨d, hd, d0, d1⟩ := wei_in (k := k) n0 K.r1 K.r2
    have RW := Lib.hid (fun w => rweight_any k X' Y' R h x y w K.k1 K.k3 K.X1 K.X2 K.Y1 K.Y2 K.r1 K.r2 i1 i2 i3 i4)
    have BB := Lib.hid (fun w => brushBox_any k X' Y' R h w K)
    have hk1 := K.X1
    have hk2 := K.X2
    have hk3 := K.Y1
    have hk4 := K.Y2
    have hk5 := K.r1
    have hk6 := K.r2
    have IN := Lib.hid (fun w => refInside_any x y 1 1 (X' - R + 1) (Y' - R + 1) (2 * R - 1) (2 * R - 1) w (by omega) (by omega) (by omega) (by omega) (by omega) (by omega) (by omega) (by omega) (by omega) (by omega) (by omega) (by omega) (by omega) (by omega) (by omega) (by omega))
    have hge : (FloatKind.f32.format.order (weiW k (sqD x y X' Y') R) 0 == some .gt || FloatKind.f32.format.order (weiW k (sqD x y X' Y') R) 0 == some .eq) = true := by rw [f32f, geq_val hd vS_zero]; simpa using d0
    have hle : (FloatKind.f32.format.order (weiW k (sqD x y X' Y') R) 1065353216 == some .lt || FloatKind.f32.format.order (weiW k (sqD x y X' Y') R) 1065353216 == some .eq) = true := by rw [f32f, leq_val hd vS_one]; simpa using d1
    have BS := Lib.hid (fun w => bits_self (weiW k (sqD x y X' Y') R) w)
    cases hin : insideB x y 1 1 (X' - R + 1) (Y' - R + 1) (2 * R - 1) (2 * R - 1) with
    | true =>
      rw [hin] at IN
      generalize weiW k (sqD x y X' Y') R = V at *
      clear hin n0 hd d0 d1 K
      go_wp2_with (first | (go_at_call 39; refine (IN.out _).mono ?_; rintro e w13 ⟨rfl, hb13⟩; have HB13 := Lib.hid (blkStay HB12.out hb13); have HX13 := Lib.hid (blkStay HX12.out hb13); have hB13 := hB12.trans (hb13.mono hB12.size); clear hb13 cB fB zB12 cX fX zX12; obtain ⟨cB, fB, zB13⟩ := blkC HB13.out; obtain ⟨cX, fX, zX13⟩ := blkC HX13.out))
      (first | go_region_held (fun w' => (∀ o, w'.cell? ⟨w.heap.size, o, none⟩ = #[.int .i64 k, .int .i64 X', .int .i64 Y', .int .i64 R, .float .f32 h][o]?) ∧ (∀ o, w'.cell? ⟨w5.heap.size, o, none⟩ = #[.int .i64 (X' - R + 1), .int .i64 (Y' - R + 1), .int .i64 (2 * R - 1), .int .i64 (2 * R - 1)][o]?) ∧ Below w13.heap.size w13 w') (first | exact ⟨(blkC (blkStay HB13.out hb9)).1, (blkC (blkStay HX13.out hb9)).1, hb9⟩ | exact ⟨(blkC (blkStay HB13.out (by repeat (first | exact Below.refl _ _ | refine Below.alloc ?_ (by first | omega | (simp; done) | (simp; omega)) _ | refine Below.setCell ?_ (by first | omega | (simp; done) | (simp; omega)) _ | refine Below.drew ?_)))).1, (blkC (blkStay HX13.out (by repeat (first | exact Below.refl _ _ | refine Below.alloc ?_ (by first | omega | (simp; done) | (simp; omega)) _ | refine Below.setCell ?_ (by first | omega | (simp; done) | (simp; omega)) _ | refine Below.drew ?_)))).1, (by repeat (first | exact Below.refl _ _ | refine Below.alloc ?_ (by first | omega | (simp; done) | (simp; omega)) _ | refine Below.setCell ?_ (by first | omega | (simp; done) | (simp; omega)) _ | refine Below.drew ?_))⟩) (first | (go_at_call 40; (with_reducible refine Calls.mono (RW.out _) ?_); rintro e w' ⟨rfl, hb8⟩; have hb9 : Below w13.heap.size w13 w' := Below.trans (by first | exact hb9 | exact hb9.drew | exact (by repeat (first | exact Below.refl _ _ | refine Below.alloc ?_ (by first | omega | (simp; done) | (simp; omega)) _ | refine Below.setCell ?_ (by first | omega | (simp; done) | (simp; omega)) _ | refine Below.drew ?_))) (Below.mono hb8 (by first | exact Nat.le_refl _ | (simp; done) | (simp; omega) | exact hb9.size)); clear hb8) | (go_at_call 41; (with_reducible refine Calls.mono (BB.out _) ?_); rintro e w' ⟨rfl, hb8⟩; have hb9 : Below w13.heap.size w13 w' := Below.trans (by first | exact hb9 | exact hb9.drew | exact (by repeat (first | exact Below.refl _ _ | refine Below.alloc ?_ (by first | omega | (simp; done) | (simp; omega)) _ | refine Below.setCell ?_ (by first | omega | (simp; done) | (simp; omega)) _ | refine Below.drew ?_))) (Below.mono hb8 (by first | exact hb9.size | exact Nat.le_refl _ | (simp; done) | (simp; omega))); clear hb8) | (go_at_call 24; refine (BS.out _).mono ?_; rintro e w' ⟨rfl, rfl⟩)) | fail)
      rename_i wh hHeld
      go_wp2
      go_ret
      exact ⟨rfl, hB13.trans (hHeld.2.2.mono hB13.size)⟩
    | false =>
      have hV := wei_out K hin
      rw [hin] at IN
      have hz : (FloatKind.f32.format.order (weiW k (sqD x y X' Y') R) 0 == some .eq) = true := by rw [hV]; exact z0
      generalize weiW k (sqD x y X' Y') R = V at *
      clear hin n0 hd d0 d1 K hV
      go_wp2_with (first | (go_at_call 39; refine (IN.out _).mono ?_; rintro e w13 ⟨rfl, hb13⟩; have HB13 := Lib.hid (blkStay HB12.out hb13); have HX13 := Lib.hid (blkStay HX12.out hb13); have hB13 := hB12.trans (hb13.mono hB12.size); clear hb13 cB fB zB12 cX fX zX12; obtain ⟨cB, fB, zB13⟩ := blkC HB13.out; obtain ⟨cX, fX, zX13⟩ := blkC HX13.out))
      go_region_held3 (fun w' => (∀ o, w'.cell? ⟨w.heap.size, o, none⟩ = #[.int .i64 k, .int .i64 X', .int .i64 Y', .int .i64 R, .float .f32 h][o]?) ∧ (∀ o, w'.cell? ⟨w5.heap.size, o, none⟩ = #[.int .i64 (X' - R + 1), .int .i64 (Y' - R + 1), .int .i64 (2 * R - 1), .int .i64 (2 * R - 1)][o]?) ∧ Below w13.heap.size w13 w') (first | exact ⟨(blkC (blkStay HB13.out hb9)).1, (blkC (blkStay HX13.out hb9)).1, hb9⟩ | exact ⟨(blkC (blkStay HB13.out (by repeat (first | exact Below.refl _ _ | refine Below.alloc ?_ (by first | omega | (simp; done) | (simp; omega)) _ | refine Below.setCell ?_ (by first | omega | (simp; done) | (simp; omega)) _ | refine Below.drew ?_)))).1, (blkC (blkStay HX13.out (by repeat (first | exact Below.refl _ _ | refine Below.alloc ?_ (by first | omega | (simp; done) | (simp; omega)) _ | refine Below.setCell ?_ (by first | omega | (simp; done) | (simp; omega)) _ | refine Below.drew ?_)))).1, (by repeat (first | exact Below.refl _ _ | refine Below.alloc ?_ (by first | omega | (simp; done) | (simp; omega)) _ | refine Below.setCell ?_ (by first | omega | (simp; done) | (simp; omega)) _ | refine Below.drew ?_))⟩) (first | (go_at_call 40; (with_reducible refine Calls.mono (RW.out _) ?_); rintro e w' ⟨rfl, hb8⟩; have hb9 : Below w13.heap.size w13 w' := Below.trans (by first | exact hb9 | exact hb9.drew | exact (by repeat (first | exact Below.refl _ _ | refine Below.alloc ?_ (by first | omega | (simp; done) | (simp; omega)) _ | refine Below.setCell ?_ (by first | omega | (simp; done) | (simp; omega)) _ | refine Below.drew ?_))) (Below.mono hb8 (by first | exact Nat.le_refl _ | (simp; done) | (simp; omega) | exact hb9.size)); clear hb8) | (go_at_call 41; (with_reducible refine Calls.mono (BB.out _) ?_); rintro e w' ⟨rfl, hb8⟩; have hb9 : Below w13.heap.size w13 w' := Below.trans (by first | exact hb9 | exact hb9.drew | exact (by repeat (first | exact Below.refl _ _ | refine Below.alloc ?_ (by first | omega | (simp; done) | (simp; omega)) _ | refine Below.setCell ?_ (by first | omega | (simp; done) | (simp; omega)) _ | refine Below.drew ?_))) (Below.mono hb8 (by first | exact hb9.size | exact Nat.le_refl _ | (simp; done) | (simp; omega))); clear hb8) | (go_at_call 24; refine (BS.out _).mono ?_; rintro e w' ⟨rfl, rfl⟩))
      rename_i wh hHeld
      go_wp2
      go_ret
      exact ⟨rfl, hB13.trans (hHeld.2.2.mono hB13.size)⟩
end Go.Proofs.Ytjjhhnoeiglnhab
