/- The closures of Scale and Clamp, on both sides. -/
import Derived.Test.YtjjhhnoeiglnhaaGen
namespace Go.Proofs.Ytjjhhnoeiglnhaa
open Go.RowKit Fl
set_option linter.unusedVariables false

theorem enters_Scale1 : Enters 85 := by intro args W; simp [callFunc, Try.func85, Try.f85]
theorem enters_rScale1 : Enters 87 := by intro args W; simp [callFunc, Try.func87, Try.f87]
theorem enters_Clamp1 : Enters 90 := by intro args W; simp [callFunc, Try.func90, Try.f90]
theorem enters_rClamp1 : Enters 93 := by intro args W; simp [callFunc, Try.func93, Try.f93]

/-- What Scale makes of a cell. -/
def sclW (v : Nat → Nat) (m c : Nat) (i : Nat) : Nat := (floatBits .add .f32 ((floatBits .mul .f32 (v i) m).getD 0) c).getD 0
theorem scl_parts {x m c : Nat} (hx : hgtB x = true) (hm : hgtB m = true) (hc : hgtB c = true) :
    ∃ r s, floatBits .mul .f32 x m = some r ∧ Same2 .mul 40 x m ∧ floatBits .add .f32 r c = some s ∧ Same2 .add 41 r c ∧ s < 4294967296 := by
  have h1 : Same2 .mul 40 x m := mul_same (by omega) (hgt_bd hx) (hgt_bd hm)
  obtain ⟨X, Y, Z, r, _, _, _, _, e1, b1⟩ := h1.ex
  have h2 : Same2 .add 41 r c := add_same (by omega) b1 (bd_up (hgt_bd hc) (by omega))
  obtain ⟨X2, Y2, Z2, s, _, _, _, _, e2, b2⟩ := h2.ex
  exact ⟨r, s, e1, h1, e2, h2, opt_lt (d := (Ieee.single.read r).sum (Ieee.single.read c)) e2⟩
theorem scl_eq {v : Nat → Nat} {m c i r s : Nat} (h1 : floatBits .mul .f32 (v i) m = some r) (h2 : floatBits .add .f32 r c = some s) : sclW v m c i = s := by
  unfold sclW; rw [h1]; show (floatBits .add .f32 r c).getD 0 = s; rw [h2]; rfl

/-- What the two closures hold: the field, two singles. -/
structure Caps (w : World) (X Y : Int) (W H n b cap : Nat) (v : Nat → Nat) (p m c : Nat) : Prop where
  fld : w.heap[p]? = some (fldO X Y W H (.slice (some ⟨b, 0, none⟩) n cap))
  one : w.heap[p + 1]? = some (flObj m)
  two : w.heap[p + 1 + 1]? = some (flObj c)
  row : FlAt w b 0 n v
theorem Caps.stay {w w' : World} {X Y : Int} {W H n b cap : Nat} {v : Nat → Nat} {p m c : Nat} (h : Caps w X Y W H n b cap v p m c) (hn : 1 ≤ n) (hb : Below w.heap.size w w') : Caps w' X Y W H n b cap v p m c :=
  ⟨blkStay h.fld hb, blkStay h.one hb, blkStay h.two hb, flAt_congr h.row (hb.block _ (World.block_lt_of_cell? w _ (h.row 0 hn)))⟩

set_option maxHeartbeats 1000000 in
theorem scale1_any (X Y : Int) (W H n b cap : Nat) (v : Nat → Nat) (p m c : Nat) (w : World) (hk : Caps w X Y W H n b cap v p m c) (hn : n ≤ 65536) (hv : allB n (fun i => hgtB (v i)) = true) (hm : hgtB m = true) (hc : hgtB c = true) :
    Clos1 85 #[.pointer (some ⟨p, 0, none⟩), .pointer (some ⟨p + 1, 0, none⟩), .pointer (some ⟨p + 1 + 1, 0, none⟩)] n (sclW v m c) w := by
  intro i w2 hi hb
  have K := hk.stay (by omega) hb
  obtain ⟨r, s, e1, _, e2, _, _⟩ := scl_parts (allB_iff.1 hv i hi) hm hc
  rw [scl_eq e1 e2]
  have a1 := fun (W : World) => run_float_arith (P := Try.prog) W .mul 37 .f32 (v i) m r e1
  have a2 := fun (W : World) => run_float_arith (P := Try.prog) W .add 37 .f32 r c s e2
  obtain ⟨cF, fF, zF⟩ := blkC K.fld
  obtain ⟨c1, f1, z1⟩ := blkC K.one
  obtain ⟨c2, f2, z2⟩ := blkC K.two
  have hcell := K.row i hi
  rw [Nat.zero_add] at hcell
  have hz : b < w2.heap.size := World.block_lt_of_cell? w2 _ hcell
  clear K hk hv hm hc e1 e2 hb
  go_enter Try.func85, Try.ntmps85
  have hi2 : (i : Int) < (n : Int) := by omega
  go_wp2
  go_quiet (fail)
  go_wp2
  go_ret
  exact ⟨rfl, below_drewN _ _⟩

set_option maxHeartbeats 400000 in
theorem scaled_any (x m c r s : Nat) (e1 : floatBits .mul .f32 x m = some r) (s1 : Same2 .mul 40 x m) (e2 : floatBits .add .f32 r c = some s) (s2 : Same2 .add 41 r c) (w : World) :
    Calls Try.prog 88 #[.float .f32 x, .float .f32 m, .float .f32 c] w fun e w' => e = .returned (.float .f32 s) ∧ w = w' := by
  have A := Lib.hid (fun w => refMul_any 40 x m r s1 e1 w)
  have B := Lib.hid (fun w => refAdd_any 41 r c s s2 e2 w)
  clear e1 e2 s1 s2
  go_enter Try.func88, Try.ntmps88
  go_wp2_with (first | (go_at_call 113; refine (A.out _).mono ?_; rintro e w' ⟨rfl, rfl⟩) | (go_at_call 121; refine (B.out _).mono ?_; rintro e w' ⟨rfl, rfl⟩))
  go_ret
  exact ⟨rfl, rfl⟩

set_option maxHeartbeats 1000000 in
theorem rscale1_any (X Y : Int) (W H n b cap : Nat) (v : Nat → Nat) (p m c : Nat) (w : World) (hk : Caps w X Y W H n b cap v p m c) (hn : n ≤ 65536) (hv : allB n (fun i => hgtB (v i)) = true) (hm : hgtB m = true) (hc : hgtB c = true)
    (hX1 : -16777216 ≤ X) (hX2 : X ≤ 16777216) (hY1 : -16777216 ≤ Y) (hY2 : Y ≤ 16777216) (hW1 : 1 ≤ W) (hW2 : W ≤ 512) (hH2 : H ≤ 512) (hnn : n = H * W) :
    Clos2 87 #[.pointer (some ⟨p, 0, none⟩), .pointer (some ⟨p + 1, 0, none⟩), .pointer (some ⟨p + 1 + 1, 0, none⟩)] X Y W H (sclW v m c) w := by
  intro x y i w2 h1 h2 h3 h4 h5 hb
  have hi : i < n := by
    have a : (y - Y) * W ≤ ((H : Int) - 1) * W := Int.mul_le_mul_of_nonneg_right (by omega) (by omega)
    have b : ((H : Int) - 1) * W = (n : Int) - W := by rw [hnn, Int.sub_mul]; simp
    omega
  have K := hk.stay (by omega) hb
  obtain ⟨r, s, e1, s1, e2, s2, _⟩ := scl_parts (allB_iff.1 hv i hi) hm hc
  rw [scl_eq e1 e2]
  have SC := Lib.hid (fun w => scaled_any (v i) m c r s e1 s1 e2 s2 w)
  have hz : b < w2.heap.size := World.block_lt_of_cell? w2 _ (K.row i hi)
  have AT := Lib.hid (fun W' (hb : Below w2.heap.size w2 W') => refAt_any X Y W H n b cap i v x y W' hX1 hX2 hY1 hY2 hW1 hW2 hH2 h1 h2 h3 h4 h5 hi hn (flAt_congr K.row (hb.block _ hz)))
  have HF := Lib.hid K.fld
  have H1 := Lib.hid K.one
  have H2 := Lib.hid K.two
  obtain ⟨cF, fF, zF⟩ := blkC K.fld
  obtain ⟨c1, f1, z1⟩ := blkC K.one
  obtain ⟨c2, f2, z2⟩ := blkC K.two
  clear K hk hv hm hc e1 e2 s1 s2 hb h1 h2 h3 h4 h5 hX1 hX2 hY1 hY2 hW1 hW2 hH2 hnn hi hn
  go_enter Try.func87, Try.ntmps87
  go_wp2
  go_region_held3 (fun w' => (∀ o, w'.cell? ⟨p, o, none⟩ = #[.int .i64 X, .int .i64 Y, .int .i64 W, .int .i64 H, .slice (some ⟨b, 0, none⟩) n cap][o]?) ∧ (∀ o, w'.cell? ⟨p + 1, o, none⟩ = #[.float .f32 m][o]?) ∧ (∀ o, w'.cell? ⟨p + 1 + 1, o, none⟩ = #[.float .f32 c][o]?) ∧ Below w2.heap.size w2 w') (first | exact ⟨(blkC (blkStay HF.out (by repeat (first | exact Below.refl _ _ | refine Below.alloc ?_ (by first | omega | (simp; done) | (simp; omega)) _ | refine Below.setCell ?_ (by first | omega | (simp; done) | (simp; omega)) _ | refine Below.drew ?_)))).1, (blkC (blkStay H1.out (by repeat (first | exact Below.refl _ _ | refine Below.alloc ?_ (by first | omega | (simp; done) | (simp; omega)) _ | refine Below.setCell ?_ (by first | omega | (simp; done) | (simp; omega)) _ | refine Below.drew ?_)))).1, (blkC (blkStay H2.out (by repeat (first | exact Below.refl _ _ | refine Below.alloc ?_ (by first | omega | (simp; done) | (simp; omega)) _ | refine Below.setCell ?_ (by first | omega | (simp; done) | (simp; omega)) _ | refine Below.drew ?_)))).1, (by repeat (first | exact Below.refl _ _ | refine Below.alloc ?_ (by first | omega | (simp; done) | (simp; omega)) _ | refine Below.setCell ?_ (by first | omega | (simp; done) | (simp; omega)) _ | refine Below.drew ?_))⟩) (first | (go_at_call 89; refine (AT.out _ (by repeat (first | exact Below.refl _ _ | refine Below.alloc ?_ (by first | omega | (simp; done) | (simp; omega)) _ | refine Below.setCell ?_ (by first | omega | (simp; done) | (simp; omega)) _ | refine Below.drew ?_))).mono ?_; rintro e w' ⟨rfl, rfl⟩) | (go_at_call 88; refine (SC.out _).mono ?_; rintro e w' ⟨rfl, rfl⟩))
  rename_i hHeld
  go_wp2
  go_ret
  exact ⟨rfl, hHeld.2.2.2⟩

theorem clp_lt {v : Nat → Nat} {a b i : Nat} (h1 : v i < 4294967296) (h2 : a < 4294967296) (h3 : b < 4294967296) : clpW (v i) a b < 4294967296 := by
  unfold clpW; split
  · exact h2
  · split
    · exact h3
    · exact h1

set_option maxHeartbeats 1000000 in
theorem clamp1_any (X Y : Int) (W H n b cap : Nat) (v : Nat → Nat) (p m c : Nat) (w : World) (hk : Caps w X Y W H n b cap v p m c) (hn : n ≤ 65536) (hv : allB n (fun i => hgtB (v i)) = true) (hm : hgtB m = true) (hc : hgtB c = true)
    (hmc : (FloatKind.f32.format.order m c == some .gt) = false) :
    Clos1 90 #[.pointer (some ⟨p, 0, none⟩), .pointer (some ⟨p + 1, 0, none⟩), .pointer (some ⟨p + 1 + 1, 0, none⟩)] n (fun i => clpW (v i) m c) w := by
  intro i w2 hi hb
  have K := hk.stay (by omega) hb
  show Calls _ _ _ _ fun e w' => e = .returned (.float .f32 (clpW (v i) m c)) ∧ _
  rw [← clp_eq (hgt_fin (allB_iff.1 hv i hi)) (hgt_fin hm) (hgt_fin hc) hmc]
  obtain ⟨cF, fF, zF⟩ := blkC K.fld
  obtain ⟨c1, f1, z1⟩ := blkC K.one
  obtain ⟨c2, f2, z2⟩ := blkC K.two
  have hcell := K.row i hi
  rw [Nat.zero_add] at hcell
  have hz : b < w2.heap.size := World.block_lt_of_cell? w2 _ hcell
  have hi2 : (i : Int) < (n : Int) := by omega
  clear K hk hv hm hc hb hmc
  go_enter Try.func90, Try.ntmps90
  go_wp2
  go_quiet (first | (go_at_call 92; exact Calls.quiet_of_same ((greater_any _ _ _).mono fun _ _ h => ⟨h.1, h.2.symm⟩)) | (go_at_call 91; exact Calls.quiet_of_same ((lesser_any _ _ _).mono fun _ _ h => ⟨h.1, h.2.symm⟩)))
  go_wp2
  go_ret
  exact ⟨rfl, below_drewN _ _⟩

set_option maxHeartbeats 1000000 in
theorem rclamp1_any (X Y : Int) (W H n b cap : Nat) (v : Nat → Nat) (p m c : Nat) (w : World) (hk : Caps w X Y W H n b cap v p m c) (hn : n ≤ 65536)
    (hX1 : -16777216 ≤ X) (hX2 : X ≤ 16777216) (hY1 : -16777216 ≤ Y) (hY2 : Y ≤ 16777216) (hW1 : 1 ≤ W) (hW2 : W ≤ 512) (hH2 : H ≤ 512) (hnn : n = H * W) (hn1 : 1 ≤ n) :
    Clos2 93 #[.pointer (some ⟨p, 0, none⟩), .pointer (some ⟨p + 1, 0, none⟩), .pointer (some ⟨p + 1 + 1, 0, none⟩)] X Y W H (fun i => clpW (v i) m c) w := by
  intro x y i w2 h1 h2 h3 h4 h5 hb
  have hi : i < n := by
    have a : (y - Y) * W ≤ ((H : Int) - 1) * W := Int.mul_le_mul_of_nonneg_right (by omega) (by omega)
    have b : ((H : Int) - 1) * W = (n : Int) - W := by rw [hnn, Int.sub_mul]; simp
    omega
  have K := hk.stay (by omega) hb
  show Calls _ _ _ _ fun e w' => e = .returned (.float .f32 (clpW (v i) m c)) ∧ _
  have SC := Lib.hid (fun w => clamped_any (v i) m c w)
  have hz : b < w2.heap.size := World.block_lt_of_cell? w2 _ (K.row i hi)
  have AT := Lib.hid (fun W' (hb : Below w2.heap.size w2 W') => refAt_any X Y W H n b cap i v x y W' hX1 hX2 hY1 hY2 hW1 hW2 hH2 h1 h2 h3 h4 h5 hi hn (flAt_congr K.row (hb.block _ hz)))
  have HF := Lib.hid K.fld
  have H1 := Lib.hid K.one
  have H2 := Lib.hid K.two
  obtain ⟨cF, fF, zF⟩ := blkC K.fld
  obtain ⟨c1, f1, z1⟩ := blkC K.one
  obtain ⟨c2, f2, z2⟩ := blkC K.two
  clear K hk hb h1 h2 h3 h4 h5 hX1 hX2 hY1 hY2 hW1 hW2 hH2 hnn hi hn
  go_enter Try.func93, Try.ntmps93
  go_wp2
  go_region_held3 (fun w' => (∀ o, w'.cell? ⟨p, o, none⟩ = #[.int .i64 X, .int .i64 Y, .int .i64 W, .int .i64 H, .slice (some ⟨b, 0, none⟩) n cap][o]?) ∧ (∀ o, w'.cell? ⟨p + 1, o, none⟩ = #[.float .f32 m][o]?) ∧ (∀ o, w'.cell? ⟨p + 1 + 1, o, none⟩ = #[.float .f32 c][o]?) ∧ Below w2.heap.size w2 w') (first | exact ⟨(blkC (blkStay HF.out (by repeat (first | exact Below.refl _ _ | refine Below.alloc ?_ (by first | omega | (simp; done) | (simp; omega)) _ | refine Below.setCell ?_ (by first | omega | (simp; done) | (simp; omega)) _ | refine Below.drew ?_)))).1, (blkC (blkStay H1.out (by repeat (first | exact Below.refl _ _ | refine Below.alloc ?_ (by first | omega | (simp; done) | (simp; omega)) _ | refine Below.setCell ?_ (by first | omega | (simp; done) | (simp; omega)) _ | refine Below.drew ?_)))).1, (blkC (blkStay H2.out (by repeat (first | exact Below.refl _ _ | refine Below.alloc ?_ (by first | omega | (simp; done) | (simp; omega)) _ | refine Below.setCell ?_ (by first | omega | (simp; done) | (simp; omega)) _ | refine Below.drew ?_)))).1, (by repeat (first | exact Below.refl _ _ | refine Below.alloc ?_ (by first | omega | (simp; done) | (simp; omega)) _ | refine Below.setCell ?_ (by first | omega | (simp; done) | (simp; omega)) _ | refine Below.drew ?_))⟩) (first | (go_at_call 89; refine (AT.out _ (by repeat (first | exact Below.refl _ _ | refine Below.alloc ?_ (by first | omega | (simp; done) | (simp; omega)) _ | refine Below.setCell ?_ (by first | omega | (simp; done) | (simp; omega)) _ | refine Below.drew ?_))).mono ?_; rintro e w' ⟨rfl, rfl⟩) | (go_at_call 94; refine (SC.out _).mono ?_; rintro e w' ⟨rfl, rfl⟩))
  rename_i hHeld
  go_wp2
  go_ret
  exact ⟨rfl, hHeld.2.2.2⟩

end Go.Proofs.Ytjjhhnoeiglnhaa
