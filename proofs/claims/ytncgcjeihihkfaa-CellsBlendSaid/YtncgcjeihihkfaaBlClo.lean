/- The closures of Blend, on both sides. -/
import Derived.Test.YtncgcjeihihkfaaMix
namespace Go.Proofs.Ytncgcjeihihkfaa
open Go.RowKit Fl
set_option linter.unusedVariables false

theorem enters_Blend1 : Enters 64 := by intro args W; simp [callFunc, Try.func64, Try.f64]
theorem enters_rBlend2 : Enters 69 := by intro args W; simp [callFunc, Try.func69, Try.f69]

/-- What Blend makes of a cell. -/
def blW (v1 v2 v3 : Nat → Nat) (i : Nat) : Nat := mixW (v1 i) (v2 i) (v3 i)

/-- A field in a box, and its singles. -/
structure Boxed (w : World) (X Y : Int) (W H n p b cap : Nat) (v : Nat → Nat) : Prop where
  fld : w.heap[p]? = some (fldO X Y W H (.slice (some ⟨b, 0, none⟩) n cap))
  row : FlAt w b 0 n v
  hgt : allB n (fun i => hgtB (v i)) = true
theorem Boxed.stay {w w' : World} {X Y : Int} {W H n p b cap : Nat} {v : Nat → Nat} (h : Boxed w X Y W H n p b cap v) (hn : 1 ≤ n) (hb : Below w.heap.size w w') : Boxed w' X Y W H n p b cap v :=
  ⟨blkStay h.fld hb, flAt_congr h.row (hb.block _ (World.block_lt_of_cell? w _ (h.row 0 hn))), h.hgt⟩
theorem Boxed.cell {w : World} {X Y : Int} {W H n p b cap : Nat} {v : Nat → Nat} (h : Boxed w X Y W H n p b cap v) {i : Nat} (hi : i < n) : w.cell? ⟨b, i, none⟩ = some (.float .f32 (v i)) ∧ b < w.heap.size := by
  have hc := h.row i hi
  rw [Nat.zero_add] at hc
  exact ⟨hc, World.block_lt_of_cell? w _ hc⟩

set_option maxHeartbeats 1000000 in
theorem blend1_any (X Y : Int) (W H n p1 b1 c1 p2 b2 c2 p3 b3 c3 : Nat) (v1 v2 v3 : Nat → Nat) (w : World) (k1 : Boxed w X Y W H n p1 b1 c1 v1) (k2 : Boxed w X Y W H n p2 b2 c2 v2) (k3 : Boxed w X Y W H n p3 b3 c3 v3) (hn : n ≤ 65536) :
    Clos1 64 #[.pointer (some ⟨p1, 0, none⟩), .pointer (some ⟨p2, 0, none⟩), .pointer (some ⟨p3, 0, none⟩)] n (blW v1 v2 v3) w := by
  intro i w2 hi hb
  have K1 := k1.stay (by omega) hb
  have K2 := k2.stay (by omega) hb
  have K3 := k3.stay (by omega) hb
  obtain ⟨d, q, r, e1, _, e2, _, e3, _, _, _⟩ := mix_parts (i := 20) (j := 20) (by omega) (by omega) (hgt_bd (allB_iff.1 k1.hgt i hi)) (hgt_bd (allB_iff.1 k2.hgt i hi)) (hgt_bd (allB_iff.1 k3.hgt i hi))
  show Calls _ _ _ _ fun e w' => e = .returned (.float .f32 (mixW (v1 i) (v2 i) (v3 i))) ∧ _
  rw [mix_eq e1 e2 e3]
  have MX := Lib.hid (fun w => mix_any (v1 i) (v2 i) (v3 i) d q r e1 e2 e3 w)
  obtain ⟨cF, fF, zF⟩ := blkC K1.fld
  obtain ⟨cG, fG, zG⟩ := blkC K2.fld
  obtain ⟨cH, fH, zH⟩ := blkC K3.fld
  obtain ⟨h1, z1⟩ := K1.cell hi
  obtain ⟨h2, z2⟩ := K2.cell hi
  obtain ⟨h3, z3⟩ := K3.cell hi
  have hi2 : (i : Int) < (n : Int) := by omega
  clear K1 K2 K3 k1 k2 k3 hb e1 e2 e3
  go_enter Try.func64, Try.ntmps64
  go_wp2
  go_quiet (first | (go_at_call 65; exact Calls.quiet_of_same ((MX.out _).mono fun _ _ h => ⟨h.1, h.2.symm⟩)))
  go_wp2
  go_ret
  exact ⟨rfl, below_drewN _ _⟩

set_option maxHeartbeats 4000000 in
set_option maxRecDepth 100000 in
theorem rblend2_any (X Y : Int) (W H n p1 b1 c1 p2 b2 c2 p3 b3 c3 : Nat) (v1 v2 v3 : Nat → Nat) (w : World) (k1 : Boxed w X Y W H n p1 b1 c1 v1) (k2 : Boxed w X Y W H n p2 b2 c2 v2) (k3 : Boxed w X Y W H n p3 b3 c3 v3) (hn : n ≤ 65536)
    (hX1 : -16777216 ≤ X) (hX2 : X ≤ 16777216) (hY1 : -16777216 ≤ Y) (hY2 : Y ≤ 16777216) (hW1 : 1 ≤ W) (hW2 : W ≤ 512) (hH2 : H ≤ 512) (hnn : n = H * W) :
    Clos2 69 #[.pointer (some ⟨p1, 0, none⟩), .pointer (some ⟨p2, 0, none⟩), .pointer (some ⟨p3, 0, none⟩)] X Y W H (blW v1 v2 v3) w := by
  intro x y i w2 h1 h2 h3 h4 h5 hb
  have hi : i < n := by
    have a : (y - Y) * W ≤ ((H : Int) - 1) * W := Int.mul_le_mul_of_nonneg_right (by omega) (by omega)
    have b : ((H : Int) - 1) * W = (n : Int) - W := by rw [hnn, Int.sub_mul]; simp
    omega
  have K1 := k1.stay (by omega) hb
  have K2 := k2.stay (by omega) hb
  have K3 := k3.stay (by omega) hb
  obtain ⟨d, q, r, e1, s1, e2, s2, e3, s3, _, _⟩ := mix_parts (i := 20) (j := 20) (by omega) (by omega) (hgt_bd (allB_iff.1 k1.hgt i hi)) (hgt_bd (allB_iff.1 k2.hgt i hi)) (hgt_bd (allB_iff.1 k3.hgt i hi))
  show Calls _ _ _ _ fun e w' => e = .returned (.float .f32 (mixW (v1 i) (v2 i) (v3 i))) ∧ _
  rw [mix_eq e1 e2 e3]
  have LP := Lib.hid (fun w => lerp_any _ _ _ (v1 i) (v2 i) (v3 i) d q r e1 s1 e2 s2 e3 s3 w)
  have z1 := (K1.cell hi).2
  have z2 := (K2.cell hi).2
  have z3 := (K3.cell hi).2
  have A1 := Lib.hid (fun W' (hb : Below w2.heap.size w2 W') => refAt_any X Y W H n b1 c1 i v1 x y W' hX1 hX2 hY1 hY2 hW1 hW2 hH2 h1 h2 h3 h4 h5 hi hn (flAt_congr K1.row (hb.block _ z1)))
  have A2 := Lib.hid (fun W' (hb : Below w2.heap.size w2 W') => refAt_any X Y W H n b2 c2 i v2 x y W' hX1 hX2 hY1 hY2 hW1 hW2 hH2 h1 h2 h3 h4 h5 hi hn (flAt_congr K2.row (hb.block _ z2)))
  have A3 := Lib.hid (fun W' (hb : Below w2.heap.size w2 W') => refAt_any X Y W H n b3 c3 i v3 x y W' hX1 hX2 hY1 hY2 hW1 hW2 hH2 h1 h2 h3 h4 h5 hi hn (flAt_congr K3.row (hb.block _ z3)))
  have G1 := Lib.hid K1.fld
  have G2 := Lib.hid K2.fld
  have G3 := Lib.hid K3.fld
  obtain ⟨cF, fF, zF⟩ := blkC K1.fld
  obtain ⟨cG, fG, zG⟩ := blkC K2.fld
  obtain ⟨cH, fH, zH⟩ := blkC K3.fld
  clear K1 K2 K3 k1 k2 k3 e1 e2 e3 s1 s2 s3 hb h1 h2 h3 h4 h5 hX1 hX2 hY1 hY2 hW1 hW2 hH2 hnn hi hn
  go_enter Try.func69, Try.ntmps69
  go_wp2
  go_region_held3 (fun w' => (∀ o, w'.cell? ⟨p1, o, none⟩ = #[.int .i64 X, .int .i64 Y, .int .i64 W, .int .i64 H, .slice (some ⟨b1, 0, none⟩) n c1][o]?) ∧ (∀ o, w'.cell? ⟨p2, o, none⟩ = #[.int .i64 X, .int .i64 Y, .int .i64 W, .int .i64 H, .slice (some ⟨b2, 0, none⟩) n c2][o]?) ∧ (∀ o, w'.cell? ⟨p3, o, none⟩ = #[.int .i64 X, .int .i64 Y, .int .i64 W, .int .i64 H, .slice (some ⟨b3, 0, none⟩) n c3][o]?) ∧ Below w2.heap.size w2 w') (first | exact ⟨(blkC (blkStay G1.out (by repeat (first | exact Below.refl _ _ | refine Below.alloc ?_ (by first | omega | (simp; done) | (simp; omega)) _ | refine Below.setCell ?_ (by first | omega | (simp; done) | (simp; omega)) _ | refine Below.drew ?_)))).1, (blkC (blkStay G2.out (by repeat (first | exact Below.refl _ _ | refine Below.alloc ?_ (by first | omega | (simp; done) | (simp; omega)) _ | refine Below.setCell ?_ (by first | omega | (simp; done) | (simp; omega)) _ | refine Below.drew ?_)))).1, (blkC (blkStay G3.out (by repeat (first | exact Below.refl _ _ | refine Below.alloc ?_ (by first | omega | (simp; done) | (simp; omega)) _ | refine Below.setCell ?_ (by first | omega | (simp; done) | (simp; omega)) _ | refine Below.drew ?_)))).1, (by repeat (first | exact Below.refl _ _ | refine Below.alloc ?_ (by first | omega | (simp; done) | (simp; omega)) _ | refine Below.setCell ?_ (by first | omega | (simp; done) | (simp; omega)) _ | refine Below.drew ?_))⟩) (first | (go_at_call 50; (with_reducible refine Calls.mono (A1.out _ ?_) ?_); exact (by repeat (first | exact Below.refl _ _ | refine Below.alloc ?_ (by first | omega | (simp; done) | (simp; omega)) _ | refine Below.setCell ?_ (by first | omega | (simp; done) | (simp; omega)) _ | refine Below.drew ?_)); rintro e w' ⟨rfl, rfl⟩) | (go_at_call 50; (with_reducible refine Calls.mono (A2.out _ ?_) ?_); exact (by repeat (first | exact Below.refl _ _ | refine Below.alloc ?_ (by first | omega | (simp; done) | (simp; omega)) _ | refine Below.setCell ?_ (by first | omega | (simp; done) | (simp; omega)) _ | refine Below.drew ?_)); rintro e w' ⟨rfl, rfl⟩) | (go_at_call 50; (with_reducible refine Calls.mono (A3.out _ ?_) ?_); exact (by repeat (first | exact Below.refl _ _ | refine Below.alloc ?_ (by first | omega | (simp; done) | (simp; omega)) _ | refine Below.setCell ?_ (by first | omega | (simp; done) | (simp; omega)) _ | refine Below.drew ?_)); rintro e w' ⟨rfl, rfl⟩) | (go_at_call 70; refine (LP.out _).mono ?_; rintro e w' ⟨rfl, rfl⟩))
  rename_i hHeld
  go_wp2
  go_ret
  exact ⟨rfl, hHeld.2.2.2⟩

end Go.Proofs.Ytncgcjeihihkfaa
