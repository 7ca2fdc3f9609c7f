/- DithersMatch, for every field, every seed and every single: what Dither and Speckle answer is what the references answer, bit by bit. No condition. -/
import Derived.Test.YtihjemookgnafaaDthJB
import Derived.ProofKit
import Derived.OpenShut
import Derived.Lib.SmallJoins
import Derived.Laws.Cover2
import Derived.Deep.Slices

/- The closures of Scale and Clamp, on both sides. -/
namespace Go.Proofs.Ytihjemookgnafaa
open Go.RowKit Fl
set_option linter.unusedVariables false

theorem enters_Scale1 : Enters 96 := by intro args W; simp [callFunc, Try.func96, Try.f96]
theorem enters_rScale1 : Enters 97 := by intro args W; simp [callFunc, Try.func97, Try.f97]
theorem enters_Clamp1 : Enters 99 := by intro args W; simp [callFunc, Try.func99, Try.f99]
theorem enters_rClamp1 : Enters 102 := by intro args W; simp [callFunc, Try.func102, Try.f102]

/-- What Scale makes of a cell. -/
def sclW (v : Nat → Nat) (m c : Nat) (i : Nat) : Nat := (floatBits .add .f32 ((floatBits .mul .f32 (v i) m).getD 0) c).getD 0
theorem scl_parts {x m c : Nat} (hx : hgtB x = true) (hm : hgtB m = true) (hc : hgtB c = true) :
    ∃ r s, floatBits .mul .f32 x m = some r ∧ Same2 .mul 40 x m ∧ floatBits .add .f32 r c = some s ∧ Same2 .add 41 r c ∧ s < 4294967296 := by
  have h1 : Same2 .mul 40 x m := mul_same (by omega) (hgt_bd hx) (hgt_bd hm)
  obtain ⟨X, Y, Z, r, _, _, _, _, e1, b1⟩ := h1.ex
  have h2 : Same2 .add 41 r c := add_same (by omega) b1 (bd_up (hgt_bd hc) (by omega))
  obtain ⟨X2, Y2, Z2, s, _, _, _, _, e2, b2⟩ := h2.ex
  exact ⟨r, s, e1, h1, e2, h2, opt_lt (d := (Ieee.single.read r).sum (Ieee.single.read c)) e2⟩
theorem scl_eq {v : Nat → Nat} {m c i r s : Nat} (h1 : floatBits .mul .f32 (v i) m = some r) (h2 : floatBits .add .f32 r c = some s) : sclW v m c i = s := by
  unfold sclW; rw [h1]; show (floatBits .add .f32 r c).getD 0 = s; rw [h2]; rfl

/-- What the two closures hold: the field, two singles. -/
structure Caps (w : World) (X Y : Int) (W H n b cap : Nat) (v : Nat → Nat) (p m c : Nat) : Prop where
  fld : w.heap[p]? = some (fldO X Y W H (.slice (some ⟨b, 0, none⟩) n cap))
  one : w.heap[p + 1]? = some (flObj m)
  two : w.heap[p + 1 + 1]? = some (flObj c)
  row : FlAt w b 0 n v
theorem Caps.stay {w w' : World} {X Y : Int} {W H n b cap : Nat} {v : Nat → Nat} {p m c : Nat} (h : Caps w X Y W H n b cap v p m c) (hn : 1 ≤ n) (hb : Below w.heap.size w w') : Caps w' X Y W H n b cap v p m c :=
  ⟨blkStay h.fld hb, blkStay h.one hb, blkStay h.two hb, flAt_congr h.row (hb.block _ (World.block_lt_of_cell? w _ (h.row 0 hn)))⟩

set_option maxHeartbeats 1000000 in
theorem scale1_any (X Y : Int) (W H n b cap : Nat) (v : Nat → Nat) (p m c : Nat) (w : World) (hk : Caps w X Y W H n b cap v p m c) (hn : n ≤ 65536) (hv : allB n (fun i => hgtB (v i)) = true) (hm : hgtB m = true) (hc : hgtB c = true) :
    Clos1 96 #[.pointer (some ⟨p, 0, none⟩), .pointer (some ⟨p + 1, 0, none⟩), .pointer (some ⟨p + 1 + 1, 0, none⟩)] n (sclW v m c) w := by
  intro i w2 hi hb
  have K := hk.stay (by omega) hb
  obtain ⟨r, s, e1, _, e2, _, _⟩ := scl_parts (allB_iff.1 hv i hi) hm hc
  rw [scl_eq e1 e2]
  have a1 := fun (W : World) => run_float_arith (P := Try.prog) W .mul 37 .f32 (v i) m r e1
  have a2 := fun (W : World) => run_float_arith (P := Try.prog) W .add 37 .f32 r c s e2
  obtain ⟨cF, fF, zF⟩ := blkC K.fld
  obtain ⟨c1, f1, z1⟩ := blkC K.one
  obtain ⟨c2, f2, z2⟩ := blkC K.two
  have hcell := K.row i hi
  rw [Nat.zero_add] at hcell
  have hz : b < w2.heap.size := World.block_lt_of_cell? w2 _ hcell
  clear K hk hv hm hc e1 e2 hb
  go_enter Try.func96, Try.ntmps96
  have hi2 : (i : Int) < (n : Int) := by omega
  go_wp2
  go_quiet (fail)
  go_wp2
  go_ret
  exact ⟨rfl, below_drewN _ _⟩

set_option maxHeartbeats 400000 in
theorem scaled_any (x m c r s : Nat) (e1 : floatBits .mul .f32 x m = some r) (s1 : Same2 .mul 40 x m) (e2 : floatBits .add .f32 r c = some s) (s2 : Same2 .add 41 r c) (w : World) :
    Calls Try.prog 98 #[.float .f32 x, .float .f32 m, .float .f32 c] w fun e w' => e = .returned (.float .f32 s) ∧ w = w' := by
  have A := Lib.hid (fun w => refMul_any 40 x m r s1 e1 w)
  have B := Lib.hid (fun w => refAdd_any 41 r c s s2 e2 w)
  clear e1 e2 s1 s2
  go_enter Try.func98, Try.ntmps98
  go_wp2_with (first | (go_at_call 125; refine (A.out _).mono ?_; rintro e w' ⟨rfl, rfl⟩) | (go_at_call 131; refine (B.out _).mono ?_; rintro e w' ⟨rfl, rfl⟩))
  go_ret
  exact ⟨rfl, rfl⟩

set_option maxHeartbeats 1000000 in
theorem rscale1_any (X Y : Int) (W H n b cap : Nat) (v : Nat → Nat) (p m c : Nat) (w : World) (hk : Caps w X Y W H n b cap v p m c) (hn : n ≤ 65536) (hv : allB n (fun i => hgtB (v i)) = true) (hm : hgtB m = true) (hc : hgtB c = true)
    (hX1 : -16777216 ≤ X) (hX2 : X ≤ 16777216) (hY1 : -16777216 ≤ Y) (hY2 : Y ≤ 16777216) (hW1 : 1 ≤ W) (hW2 : W ≤ 512) (hH2 : H ≤ 512) (hnn : n = H * W) :
    Clos2 97 #[.pointer (some ⟨p, 0, none⟩), .pointer (some ⟨p + 1, 0, none⟩), .pointer (some ⟨p + 1 + 1, 0, none⟩)] X Y W H (sclW v m c) w := by
  intro x y i w2 h1 h2 h3 h4 h5 hb
  have hi : i < n := by
    have a : (y - Y) * W ≤ ((H : Int) - 1) * W := Int.mul_le_mul_of_nonneg_right (by omega) (by omega)
    have b : ((H : Int) - 1) * W = (n : Int) - W := by rw [hnn, Int.sub_mul]; simp
    omega
  have K := hk.stay (by omega) hb
  obtain ⟨r, s, e1, s1, e2, s2, _⟩ := scl_parts (allB_iff.1 hv i hi) hm hc
  rw [scl_eq e1 e2]
  have SC := Lib.hid (fun w => scaled_any (v i) m c r s e1 s1 e2 s2 w)
  have hz : b < w2.heap.size := World.block_lt_of_cell? w2 _ (K.row i hi)
  have AT := Lib.hid (fun W' (hb : Below w2.heap.size w2 W') => refAt_any X Y W H n b cap i v x y W' hX1 hX2 hY1 hY2 hW1 hW2 hH2 h1 h2 h3 h4 h5 hi hn (flAt_congr K.row (hb.block _ hz)))
  have HF := Lib.hid K.fld
  have H1 := Lib.hid K.one
  have H2 := Lib.hid K.two
  obtain ⟨cF, fF, zF⟩ := blkC K.fld
  obtain ⟨c1, f1, z1⟩ := blkC K.one
  obtain ⟨c2, f2, z2⟩ := blkC K.two
  clear K hk hv hm hc e1 e2 s1 s2 hb h1 h2 h3 h4 h5 hX1 hX2 hY1 hY2 hW1 hW2 hH2 hnn hi hn
  go_enter Try.func97, Try.ntmps97
  go_wp2
  go_region_held3 (fun w' => (∀ o, w'.cell? ⟨p, o, none⟩ = #[.int .i64 X, .int .i64 Y, .int .i64 W, .int .i64 H, .slice (some ⟨b, 0, none⟩) n cap][o]?) ∧ (∀ o, w'.cell? ⟨p + 1, o, none⟩ = #[.float .f32 m][o]?) ∧ (∀ o, w'.cell? ⟨p + 1 + 1, o, none⟩ = #[.float .f32 c][o]?) ∧ Below w2.heap.size w2 w') (first | exact ⟨(blkC (blkStay HF.out (by repeat (first | exact Below.refl _ _ | refine Below.alloc ?_ (by first | omega | (simp; done) | (simp; omega)) _ | refine Below.setCell ?_ (by first | omega | (simp; done) | (simp; omega)) _ | refine Below.drew ?_)))).1, (blkC (blkStay H1.out (by repeat (first | exact Below.refl _ _ | refine Below.alloc ?_ (by first | omega | (simp; done) | (simp; omega)) _ | refine Below.setCell ?_ (by first | omega | (simp; done) | (simp; omega)) _ | refine Below.drew ?_)))).1, (blkC (blkStay H2.out (by repeat (first | exact Below.refl _ _ | refine Below.alloc ?_ (by first | omega | (simp; done) | (simp; omega)) _ | refine Below.setCell ?_ (by first | omega | (simp; done) | (simp; omega)) _ | refine Below.drew ?_)))).1, (by repeat (first | exact Below.refl _ _ | refine Below.alloc ?_ (by first | omega | (simp; done) | (simp; omega)) _ | refine Below.setCell ?_ (by first | omega | (simp; done) | (simp; omega)) _ | refine Below.drew ?_))⟩) (first | (go_at_call 90; refine (AT.out _ (by repeat (first | exact Below.refl _ _ | refine Below.alloc ?_ (by first | omega | (simp; done) | (simp; omega)) _ | refine Below.setCell ?_ (by first | omega | (simp; done) | (simp; omega)) _ | refine Below.drew ?_))).mono ?_; rintro e w' ⟨rfl, rfl⟩) | (go_at_call 98; refine (SC.out _).mono ?_; rintro e w' ⟨rfl, rfl⟩))
  rename_i hHeld
  go_wp2
  go_ret
  exact ⟨rfl, hHeld.2.2.2⟩

theorem clp_lt {v : Nat → Nat} {a b i : Nat} (h1 : v i < 4294967296) (h2 : a < 4294967296) (h3 : b < 4294967296) : clpW (v i) a b < 4294967296 := by
  unfold clpW; split
  · exact h2
  · split
    · exact h3
    · exact h1

set_option maxHeartbeats 1000000 in
theorem clamp1_any (X Y : Int) (W H n b cap : Nat) (v : Nat → Nat) (p m c : Nat) (w : World) (hk : Caps w X Y W H n b cap v p m c) (hn : n ≤ 65536) (hv : allB n (fun i => hgtB (v i)) = true) (hm : hgtB m = true) (hc : hgtB c = true)
    (hmc : (FloatKind.f32.format.order m c == some .gt) = false) :
    Clos1 99 #[.pointer (some ⟨p, 0, none⟩), .pointer (some ⟨p + 1, 0, none⟩), .pointer (some ⟨p + 1 + 1, 0, none⟩)] n (fun i => clpW (v i) m c) w := by
  intro i w2 hi hb
  have K := hk.stay (by omega) hb
  show Calls _ _ _ _ fun e w' => e = .returned (.float .f32 (clpW (v i) m c)) ∧ _
  rw [← clp_eq (hgt_fin (allB_iff.1 hv i hi)) (hgt_fin hm) (hgt_fin hc) hmc]
  obtain ⟨cF, fF, zF⟩ := blkC K.fld
  obtain ⟨c1, f1, z1⟩ := blkC K.one
  obtain ⟨c2, f2, z2⟩ := blkC K.two
  have hcell := K.row i hi
  rw [Nat.zero_add] at hcell
  have hz : b < w2.heap.size := World.block_lt_of_cell? w2 _ hcell
  have hi2 : (i : Int) < (n : Int) := by omega
  clear K hk hv hm hc hb hmc
  go_enter Try.func99, Try.ntmps99
  go_wp2
  go_quiet (first | (go_at_call 101; exact Calls.quiet_of_same ((greater_any _ _ _).mono fun _ _ h => ⟨h.1, h.2.symm⟩)) | (go_at_call 100; exact Calls.quiet_of_same ((lesser_any _ _ _).mono fun _ _ h => ⟨h.1, h.2.symm⟩)))
  go_wp2
  go_ret
  exact ⟨rfl, below_drewN _ _⟩

set_option maxHeartbeats 1000000 in
theorem rclamp1_any (X Y : Int) (W H n b cap : Nat) (v : Nat → Nat) (p m c : Nat) (w : World) (hk : Caps w X Y W H n b cap v p m c) (hn : n ≤ 65536)
    (hX1 : -16777216 ≤ X) (hX2 : X ≤ 16777216) (hY1 : -16777216 ≤ Y) (hY2 : Y ≤ 16777216) (hW1 : 1 ≤ W) (hW2 : W ≤ 512) (hH2 : H ≤ 512) (hnn : n = H * W) (hn1 : 1 ≤ n) :
    Clos2 102 #[.pointer (some ⟨p, 0, none⟩), .pointer (some ⟨p + 1, 0, none⟩), .pointer (some ⟨p + 1 + 1, 0, none⟩)] X Y W H (fun i => clpW (v i) m c) w := by
  intro x y i w2 h1 h2 h3 h4 h5 hb
  have hi : i < n := by
    have a : (y - Y) * W ≤ ((H : Int) - 1) * W := Int.mul_le_mul_of_nonneg_right (by omega) (by omega)
    have b : ((H : Int) - 1) * W = (n : Int) - W := by rw [hnn, Int.sub_mul]; simp
    omega
  have K := hk.stay (by omega) hb
  show Calls _ _ _ _ fun e w' => e = .returned (.float .f32 (clpW (v i) m c)) ∧ _
  have SC := Lib.hid (fun w => clamped_any (v i) m c w)
  have hz : b < w2.heap.size := World.block_lt_of_cell? w2 _ (K.row i hi)
  have AT := Lib.hid (fun W' (hb : Below w2.heap.size w2 W') => refAt_any X Y W H n b cap i v x y W' hX1 hX2 hY1 hY2 hW1 hW2 hH2 h1 h2 h3 h4 h5 hi hn (flAt_congr K.row (hb.block _ hz)))
  have HF := Lib.hid K.fld
  have H1 := Lib.hid K.one
  have H2 := Lib.hid K.two
  obtain ⟨cF, fF, zF⟩ := blkC K.fld
  obtain ⟨c1, f1, z1⟩ := blkC K.one
  obtain ⟨c2, f2, z2⟩ := blkC K.two
  clear K hk hb h1 h2 h3 h4 h5 hX1 hX2 hY1 hY2 hW1 hW2 hH2 hnn hi hn
  go_enter Try.func102, Try.ntmps102
  go_wp2
  go_region_held3 (fun w' => (∀ o, w'.cell? ⟨p, o, none⟩ = #[.int .i64 X, .int .i64 Y, .int .i64 W, .int .i64 H, .slice (some ⟨b, 0, none⟩) n cap][o]?) ∧ (∀ o, w'.cell? ⟨p + 1, o, none⟩ = #[.float .f32 m][o]?) ∧ (∀ o, w'.cell? ⟨p + 1 + 1, o, none⟩ = #[.float .f32 c][o]?) ∧ Below w2.heap.size w2 w') (first | exact ⟨(blkC (blkStay HF.out (by repeat (first | exact Below.refl _ _ | refine Below.alloc ?_ (by first | omega | (simp; done) | (simp; omega)) _ | refine Below.setCell ?_ (by first | omega | (simp; done) | (simp; omega)) _ | refine Below.drew ?_)))).1, (blkC (blkStay H1.out (by repeat (first | exact Below.refl _ _ | refine Below.alloc ?_ (by first | omega | (simp; done) | (simp; omega)) _ | refine Below.setCell ?_ (by first | omega | (simp; done) | (simp; omega)) _ | refine Below.drew ?_)))).1, (blkC (blkStay H2.out (by repeat (first | exact Below.refl _ _ | refine Below.alloc ?_ (by first | omega | (simp; done) | (simp; omega)) _ | refine Below.setCell ?_ (by first | omega | (simp; done) | (simp; omega)) _ | refine Below.drew ?_)))).1, (by repeat (first | exact Below.refl _ _ | refine Below.alloc ?_ (by first | omega | (simp; done) | (simp; omega)) _ | refine Below.setCell ?_ (by first | omega | (simp; done) | (simp; omega)) _ | refine Below.drew ?_))⟩) (first | (go_at_call 90; refine (AT.out _ (by repeat (first | exact Below.refl _ _ | refine Below.alloc ?_ (by first | omega | (simp; done) | (simp; omega)) _ | refine Below.setCell ?_ (by first | omega | (simp; done) | (simp; omega)) _ | refine Below.drew ?_))).mono ?_; rintro e w' ⟨rfl, rfl⟩) | (go_at_call 103; refine (SC.out _).mono ?_; rintro e w' ⟨rfl, rfl⟩))
  rename_i hHeld
  go_wp2
  go_ret
  exact ⟨rfl, hHeld.2.2.2⟩

end Go.Proofs.Ytihjemookgnafaa

/- Scale and Clamp, on both sides, of a right field. -/
namespace Go.Proofs.Ytihjemookgnafaa
open Go.RowKit Fl
set_option linter.unusedVariables false

set_option maxHeartbeats 2000000 in
theorem scale_any (X Y : Int) (W H n b cap : Nat) (v : Nat → Nat) (m c : Nat) (w : World) (h0 : checkR X Y W H = 0) (hn : n = W * H) (hc : FlAt w b 0 n v) (hh : allB n (fun i => hgtB (v i)) = true) :
    Calls Try.prog 36 #[fldV X Y W H (.slice (some ⟨b, 0, none⟩) n cap), .float .f32 m, .float .f32 c] w (ScPost w X Y W H n (sclW v m c) (fldE 2 (two m c))) := by
  obtain ⟨b1, b2, b3, b4, b5, _⟩ := checkR_zero h0
  have en : ((W : Int) * (H : Int)) = (n : Int) := by rw [hn]; simp
  have hn2 : n ≤ 65536 := by omega
  have h1 : 1 ≤ n := by
    have := Nat.mul_pos (by omega : 0 < W) (by omega : 0 < H)
    omega
  have hlt : b < w.heap.size := World.block_lt_of_cell? w _ (hc 0 h1)
  have CK := Lib.hid (fun W' (hb : Below w.heap.size w W') => check_ok X Y W H n b cap v W' h0 hn (flAt_congr hc (hb.block _ hlt)) hh)
  have CS := Lib.hid (fun bb W' (hb : W'.heap[bb]? = some (.cells #[.float .f32 m, .float .f32 c] 37)) => CheckHeights_row bb 0 2 2 (two m c) (by omega) W' (flAt_two hb))
  by_cases hz : fldE 2 (two m c) = 0
  · obtain ⟨hm, hcc⟩ := two_hgt hz
    have BY := Lib.hid (fun W' p (hk : Caps W' X Y W H n b cap v p m c) => byCell_any X Y W H n 96 _ (sclW v m c) W' enters_Scale1 (scale1_any X Y W H n b cap v p m c W' hk hn2 hh hm hcc) en.symm h1 hn2)
    rw [hz] at CS
    have HC := Lib.hid hc
    have HZ := Lib.hid hz
    clear hc hn h0 hh hm hcc en hz b5
    go_enter Try.func36, Try.ntmps36
    go_wp2_with (first | (go_at_call 82; refine (CK.out _ (by repeat (first | exact Below.refl _ _ | refine Below.alloc ?_ (by first | omega | (simp; done) | (simp; omega)) _ | refine Below.setCell ?_ (by first | omega | (simp; done) | (simp; omega)) _ | refine Below.drew ?_))).mono ?_; rintro e w2 ⟨rfl, hb2⟩; have HF2 := Lib.hid (blkStay (b := w.heap.size) (o := fldO X Y W H (.slice (some ⟨b, 0, none⟩) n cap)) (by ((simp only [heap_alloc_get, heap_size_alloc, if_true]) <;> ((repeat' split) <;> first | rfl | omega))) hb2); have HM2 := Lib.hid (blkStay (b := w.heap.size + 1) (o := flObj m) (by ((simp only [heap_alloc_get, heap_size_alloc, if_true]) <;> ((repeat' split) <;> first | rfl | omega))) hb2); have HC2 := Lib.hid (blkStay (b := w.heap.size + 1 + 1) (o := flObj c) (by ((simp only [heap_alloc_get, heap_size_alloc, if_true]) <;> ((repeat' split) <;> first | rfl | omega))) hb2); have HS2 := Lib.hid (blkStay (b := w.heap.size + 1 + 1 + 1) (o := fldO 0 0 0 0 (.slice none 0 0)) (by ((simp only [heap_alloc_get, heap_size_alloc, if_true]) <;> ((repeat' split) <;> first | rfl | omega))) hb2); have hB2 : Below w.heap.size w w2 := Below.trans (by repeat (first | exact Below.refl _ _ | refine Below.alloc ?_ (by first | omega | (simp; done) | (simp; omega)) _ | refine Below.setCell ?_ (by first | omega | (simp; done) | (simp; omega)) _ | refine Below.drew ?_)) (Below.mono hb2 (by first | omega | (simp; done) | (simp; omega))); obtain ⟨cF, fF, zF⟩ := blkC HF2.out; obtain ⟨cM, fM, zM⟩ := blkC HM2.out; obtain ⟨cC, fC, zC⟩ := blkC HC2.out; clear hb2) | (go_at_call 75; refine (CS.out _ _ (heap_alloc_new _ _)).mono ?_; rintro e w3 ⟨rfl, rfl⟩))
    have K2 : Caps w2 X Y W H n b cap v w.heap.size m c := ⟨HF2.out, HM2.out, HC2.out, flAt_congr HC.out (hB2.block _ hlt)⟩
    refine (BY.out _ w.heap.size (K2.stay h1 (by repeat (first | exact Below.refl _ _ | refine Below.alloc ?_ (by first | omega | (simp; done) | (simp; omega)) _ | refine Below.setCell ?_ (by first | omega | (simp; done) | (simp; omega)) _ | refine Below.drew ?_)))).mono ?_
    intro e w4 hmade
    rcases hmade with ⟨hall, b', cap', rfl, hb', hlt', hrow, hbel⟩ | ⟨hall, rfl, hbel⟩
    · have hb24 : Below w2.heap.size w2 w4 := Below.trans (by repeat (first | exact Below.refl _ _ | refine Below.alloc ?_ (by first | omega | (simp; done) | (simp; omega)) _ | refine Below.setCell ?_ (by first | omega | (simp; done) | (simp; omega)) _ | refine Below.drew ?_)) (Below.mono hbel (by simp))
      obtain ⟨cS, fS, zS⟩ := blkC (blkStay HS2.out hb24)
      go_wp2
      refine bodyPost_ret (v := .tuple #[fldV X Y W H (.slice (some ⟨b', 0, none⟩) n cap'), .int .i64 0]) (by simp [results, Try.results36, go_sem, cS]) rfl ?_
      have z2 := hB2.size
      rw [heap_size_alloc] at hb'
      exact .inr ⟨HZ.out, .inl ⟨hall, b', cap', rfl, by omega, by rw [set5_size]; exact hlt', flAt_congr hrow (set5_heap w4 _ _ _ _ _ _ _ (by have := HS2.out; have := (blkC this).2.2; omega)), set5_below (hB2.trans (hb24.mono z2)) _ _ _ _ _ _ (by omega)⟩⟩
    · have hb24 : Below w2.heap.size w2 w4 := Below.trans (by repeat (first | exact Below.refl _ _ | refine Below.alloc ?_ (by first | omega | (simp; done) | (simp; omega)) _ | refine Below.setCell ?_ (by first | omega | (simp; done) | (simp; omega)) _ | refine Below.drew ?_)) (Below.mono hbel (by simp))
      obtain ⟨cS, fS, zS⟩ := blkC (blkStay HS2.out hb24)
      go_wp2
      refine bodyPost_ret (v := .tuple #[fldV 0 0 0 0 (.slice none 0 0), .int .i64 3]) (by simp [results, Try.results36, go_sem, cS]) rfl ?_
      have z2 := hB2.size
      exact .inr ⟨HZ.out, .inr ⟨hall, rfl, set5_below (hB2.trans (hb24.mono z2)) _ _ _ _ _ _ (by omega)⟩⟩
  · have hzb : (fldE 2 (two m c) != 0) = true := by simp [hz]
    have HZ := Lib.hid hz
    clear hc hn h0 hh en hz b5
    go_enter Try.func36, Try.ntmps36
    go_wp2_with (first | (go_at_call 82; refine (CK.out _ (by repeat (first | exact Below.refl _ _ | refine Below.alloc ?_ (by first | omega | (simp; done) | (simp; omega)) _ | refine Below.setCell ?_ (by first | omega | (simp; done) | (simp; omega)) _ | refine Below.drew ?_))).mono ?_; rintro e w2 ⟨rfl, hb2⟩; have HF2 := Lib.hid (blkStay (b := w.heap.size) (o := fldO X Y W H (.slice (some ⟨b, 0, none⟩) n cap)) (by ((simp only [heap_alloc_get, heap_size_alloc, if_true]) <;> ((repeat' split) <;> first | rfl | omega))) hb2); have HM2 := Lib.hid (blkStay (b := w.heap.size + 1) (o := flObj m) (by ((simp only [heap_alloc_get, heap_size_alloc, if_true]) <;> ((repeat' split) <;> first | rfl | omega))) hb2); have HC2 := Lib.hid (blkStay (b := w.heap.size + 1 + 1) (o := flObj c) (by ((simp only [heap_alloc_get, heap_size_alloc, if_true]) <;> ((repeat' split) <;> first | rfl | omega))) hb2); have HS2 := Lib.hid (blkStay (b := w.heap.size + 1 + 1 + 1) (o := fldO 0 0 0 0 (.slice none 0 0)) (by ((simp only [heap_alloc_get, heap_size_alloc, if_true]) <;> ((repeat' split) <;> first | rfl | omega))) hb2); have hB2 : Below w.heap.size w w2 := Below.trans (by repeat (first | exact Below.refl _ _ | refine Below.alloc ?_ (by first | omega | (simp; done) | (simp; omega)) _ | refine Below.setCell ?_ (by first | omega | (simp; done) | (simp; omega)) _ | refine Below.drew ?_)) (Below.mono hb2 (by first | omega | (simp; done) | (simp; omega))); obtain ⟨cF, fF, zF⟩ := blkC HF2.out; obtain ⟨cM, fM, zM⟩ := blkC HM2.out; obtain ⟨cC, fC, zC⟩ := blkC HC2.out; clear hb2) | (go_at_call 75; refine (CS.out _ _ (heap_alloc_new _ _)).mono ?_; rintro e w3 ⟨rfl, hw3⟩; have hb23 : Below w2.heap.size w2 w3 := (by rw [← hw3]; exact (by repeat (first | exact Below.refl _ _ | refine Below.alloc ?_ (by first | omega | (simp; done) | (simp; omega)) _ | refine Below.setCell ?_ (by first | omega | (simp; done) | (simp; omega)) _ | refine Below.drew ?_))); clear hw3; obtain ⟨cS, fS, zS⟩ := blkC (blkStay HS2.out hb23)))
    refine bodyPost_ret (v := .tuple #[fldV 0 0 0 0 (.slice none 0 0), .int .i64 (fldE 2 (two m c))]) (by simp [results, Try.results36, go_sem, cS]) rfl ?_
    exact .inl ⟨HZ.out, rfl, set5_below (hB2.trans (hb23.mono hB2.size)) _ _ _ _ _ _ (by omega)⟩

end Go.Proofs.Ytihjemookgnafaa

/- The reference's Scale. -/
namespace Go.Proofs.Ytihjemookgnafaa
open Go.RowKit Fl
set_option linter.unusedVariables false

theorem two_wf {m c : Nat} (h1 : m < 4294967296) (h2 : c < 4294967296) : wf32 2 (two m c) := by
  intro i _; unfold two; split
  · exact h1
  · exact h2
theorem scl_wf {n m c : Nat} {v : Nat → Nat} (hh : allB n (fun i => hgtB (v i)) = true) (hm : hgtB m = true) (hc : hgtB c = true) : wf32 n (sclW v m c) := by
  intro i hi
  obtain ⟨r, s, e1, _, e2, _, e3⟩ := scl_parts (allB_iff.1 hh i hi) hm hc
  rw [scl_eq e1 e2]; exact e3

set_option maxHeartbeats 2000000 in
theorem rscale_any (X Y : Int) (W H n b cap : Nat) (v : Nat → Nat) (m c : Nat) (w : World) (h0 : checkR X Y W H = 0) (hn : n = W * H) (hc : FlAt w b 0 n v) (hh : allB n (fun i => hgtB (v i)) = true) (hvw : wf32 n v) (hm32 : m < 4294967296) (hc32 : c < 4294967296) :
    Calls Try.prog 37 #[fldV X Y W H (.slice (some ⟨b, 0, none⟩) n cap), .float .f32 m, .float .f32 c] w (ScPost w X Y W H n (sclW v m c) (fldE 2 (two m c))) := by
  obtain ⟨b1, b2, b3, b4, b5, b6, b7, b8, b9⟩ := checkR_zero h0
  have en : ((W : Int) * (H : Int)) = (n : Int) := by rw [hn]; simp
  have hn2 : n ≤ 65536 := by omega
  have h1 : 1 ≤ n := by
    have := Nat.mul_pos (by omega : 0 < W) (by omega : 0 < H)
    omega
  have hlt : b < w.heap.size := World.block_lt_of_cell? w _ (hc 0 h1)
  have CS := Lib.hid (fun bb W' (hb : W'.heap[bb]? = some (.cells #[.float .f32 m, .float .f32 c] 37)) => refHeight_row bb 0 2 2 (two m c) (by omega) W' (flAt_two hb) (two_wf hm32 hc32))
  by_cases hz : fldE 2 (two m c) = 0
  · obtain ⟨hm, hcc⟩ := two_hgt hz
    have BY := Lib.hid (fun W' p (hk : Caps W' X Y W H n b cap v p m c) => made_any X Y W H n 97 _ (sclW v m c) W' enters_rScale1 (rscale1_any X Y W H n b cap v p m c W' hk hn2 hh hm hcc (by omega) (by omega) (by omega) (by omega) (by omega) (by omega) (by omega) (by rw [hn]; exact Nat.mul_comm _ _)) (scl_wf hh hm hcc) (by omega) (by omega) (by omega) (by omega) (by omega) (by omega) (by omega) (by omega) (by rw [hn]; exact Nat.mul_comm _ _))
    rw [hz] at CS
    have HC := Lib.hid hc
    have HZ := Lib.hid hz
    clear hc hn h0 hh hm hcc en hz b5 hvw
    go_enter Try.func37, Try.ntmps37
    go_wp2_with (first | (go_at_call 26; refine (CS.out _ _ (by ((simp only [heap_alloc_get, heap_size_alloc, if_true]) <;> ((repeat' split) <;> first | rfl | omega)))).mono ?_; rintro e w2 ⟨rfl, hw3⟩; have hw2 : Below w.heap.size w w2 := (by rw [← hw3]; exact (by repeat (first | exact Below.refl _ _ | refine Below.alloc ?_ (by first | omega | (simp; done) | (simp; omega)) _ | refine Below.setCell ?_ (by first | omega | (simp; done) | (simp; omega)) _ | refine Below.drew ?_))); have HF2 := Lib.hid (show w2.heap[w.heap.size]? = some (fldO X Y W H (.slice (some ⟨b, 0, none⟩) n cap)) by rw [← hw3]; ((simp only [heap_alloc_get, heap_size_alloc, if_true]) <;> ((repeat' split) <;> first | rfl | omega))); have HM2 := Lib.hid (show w2.heap[w.heap.size + 1]? = some (flObj m) by rw [← hw3]; ((simp only [heap_alloc_get, heap_size_alloc, if_true]) <;> ((repeat' split) <;> first | rfl | omega))); have HC2 := Lib.hid (show w2.heap[w.heap.size + 1 + 1]? = some (flObj c) by rw [← hw3]; ((simp only [heap_alloc_get, heap_size_alloc, if_true]) <;> ((repeat' split) <;> first | rfl | omega))); have HS2 := Lib.hid (show w2.heap[w.heap.size + 1 + 1 + 1]? = some (fldO 0 0 0 0 (.slice none 0 0)) by rw [← hw3]; ((simp only [heap_alloc_get, heap_size_alloc, if_true]) <;> ((repeat' split) <;> first | rfl | omega))); have hB2 := hw2; obtain ⟨cF, fF, zF⟩ := blkC HF2.out; obtain ⟨cM, fM, zM⟩ := blkC HM2.out; obtain ⟨cC, fC, zC⟩ := blkC HC2.out; obtain ⟨cS, fS, zS⟩ := blkC HS2.out; clear hw3))
    have K2 : Caps w2 X Y W H n b cap v w.heap.size m c := ⟨HF2.out, HM2.out, HC2.out, flAt_congr HC.out (hB2.block _ hlt)⟩
    clear cS fS zS
    refine (BY.out _ w.heap.size (K2.stay h1 (by repeat (first | exact Below.refl _ _ | refine Below.alloc ?_ (by first | omega | (simp; done) | (simp; omega)) _ | refine Below.setCell ?_ (by first | omega | (simp; done) | (simp; omega)) _ | refine Below.drew ?_)))).mono ?_
    intro e w4 hmade
    rcases hmade with ⟨hall, b', cap', rfl, hb', hlt', hrow, hbel⟩ | ⟨hall, rfl, hbel⟩
    · have hb24 : Below w2.heap.size w2 w4 := Below.trans (by repeat (first | exact Below.refl _ _ | refine Below.alloc ?_ (by first | omega | (simp; done) | (simp; omega)) _ | refine Below.setCell ?_ (by first | omega | (simp; done) | (simp; omega)) _ | refine Below.drew ?_)) (Below.mono hbel (by first | exact Nat.le_refl _ | simp))
      obtain ⟨cS, fS, zS⟩ := blkC (blkStay HS2.out hb24)
      go_wp2
      refine bodyPost_ret (v := .tuple #[fldV X Y W H (.slice (some ⟨b', 0, none⟩) n cap'), .int .i64 0]) (by simp [results, Try.results37, go_sem, cS]) rfl ?_
      have z2 := hB2.size
      exact .inr ⟨HZ.out,  .inl ⟨hall, b', cap', rfl, by omega, by rw [set5_size]; exact hlt', flAt_congr hrow (set5_heap w4 _ _ _ _ _ _ _ (by have := HS2.out; have := (blkC this).2.2; omega)), set5_below (hB2.trans (hb24.mono z2)) _ _ _ _ _ _ (by omega)⟩⟩
    · have hb24 : Below w2.heap.size w2 w4 := Below.trans (by repeat (first | exact Below.refl _ _ | refine Below.alloc ?_ (by first | omega | (simp; done) | (simp; omega)) _ | refine Below.setCell ?_ (by first | omega | (simp; done) | (simp; omega)) _ | refine Below.drew ?_)) (Below.mono hbel (by first | exact Nat.le_refl _ | simp))
      obtain ⟨cS, fS, zS⟩ := blkC (blkStay HS2.out hb24)
      go_wp2
      refine bodyPost_ret (v := .tuple #[fldV 0 0 0 0 (.slice none 0 0), .int .i64 3]) (by simp [results, Try.results37, go_sem, cS]) rfl ?_
      have z2 := hB2.size
      exact .inr ⟨HZ.out,  .inr ⟨hall, rfl, set5_below (hB2.trans (hb24.mono z2)) _ _ _ _ _ _ (by omega)⟩⟩
  · have hzb : (fldE 2 (two m c) != 0) = true := by simp [hz]
    have HZ := Lib.hid hz
    clear hc hn h0 hh en hz b5 hvw
    go_enter Try.func37, Try.ntmps37
    go_wp2_with (first | (go_at_call 26; refine (CS.out _ _ (by ((simp only [heap_alloc_get, heap_size_alloc, if_true]) <;> ((repeat' split) <;> first | rfl | omega)))).mono ?_; rintro e w2 ⟨rfl, hw3⟩; have hw2 : Below w.heap.size w w2 := (by rw [← hw3]; exact (by repeat (first | exact Below.refl _ _ | refine Below.alloc ?_ (by first | omega | (simp; done) | (simp; omega)) _ | refine Below.setCell ?_ (by first | omega | (simp; done) | (simp; omega)) _ | refine Below.drew ?_))); have HF2 := Lib.hid (show w2.heap[w.heap.size]? = some (fldO X Y W H (.slice (some ⟨b, 0, none⟩) n cap)) by rw [← hw3]; ((simp only [heap_alloc_get, heap_size_alloc, if_true]) <;> ((repeat' split) <;> first | rfl | omega))); have HM2 := Lib.hid (show w2.heap[w.heap.size + 1]? = some (flObj m) by rw [← hw3]; ((simp only [heap_alloc_get, heap_size_alloc, if_true]) <;> ((repeat' split) <;> first | rfl | omega))); have HC2 := Lib.hid (show w2.heap[w.heap.size + 1 + 1]? = some (flObj c) by rw [← hw3]; ((simp only [heap_alloc_get, heap_size_alloc, if_true]) <;> ((repeat' split) <;> first | rfl | omega))); have HS2 := Lib.hid (show w2.heap[w.heap.size + 1 + 1 + 1]? = some (fldO 0 0 0 0 (.slice none 0 0)) by rw [← hw3]; ((simp only [heap_alloc_get, heap_size_alloc, if_true]) <;> ((repeat' split) <;> first | rfl | omega))); have hB2 := hw2; obtain ⟨cF, fF, zF⟩ := blkC HF2.out; obtain ⟨cM, fM, zM⟩ := blkC HM2.out; obtain ⟨cC, fC, zC⟩ := blkC HC2.out; obtain ⟨cS, fS, zS⟩ := blkC HS2.out; clear hw3))
    refine bodyPost_ret (v := .tuple #[fldV 0 0 0 0 (.slice none 0 0), .int .i64 (fldE 2 (two m c))]) (by simp [results, Try.results37, go_sem, cS]) rfl ?_
    exact .inl ⟨HZ.out, rfl, set5_below hB2 _ _ _ _ _ _ (by omega)⟩

end Go.Proofs.Ytihjemookgnafaa

/- Dither of the program and of the reference, of a right field. -/
namespace Go.Proofs.Ytihjemookgnafaa
open Go.RowKit Fl
set_option linter.unusedVariables false

theorem dth_wf {n : Nat} {v : Nat → Nat} {st : Nat} {sd X Y : Int} {W : Nat} (hh : allB n (fun i => hgtB (v i)) = true) (hs : StepOk st) : wf32 n (dthF v st sd X Y W) := by
  intro i hi
  obtain ⟨q, d, c, j, r, D⟩ := dth_parts (hashI sd (X + ((i % W : Nat) : Int)) (Y + ((i / W : Nat) : Int)) 8) (allB_iff.1 hh i hi) hs
  unfold dthF; rw [D.w]; exact D.lt

set_option maxHeartbeats 2000000 in
theorem dither_any (X Y : Int) (W H n b cap : Nat) (v : Nat → Nat) (sd : Int) (st : Nat) (w : World) (h0 : checkR X Y W H = 0) (hn : n = W * H) (hc : FlAt w b 0 n v) (hh : allB n (fun i => hgtB (v i)) = true) :
    Calls Try.prog 63 #[fldV X Y W H (.slice (some ⟨b, 0, none⟩) n cap), .int .u32 sd, .float .f32 st] w (ScPost w X Y W H n (dthF v st sd X Y W) (wiE st 981467136 1149239296)) := by
  obtain ⟨b1, b2, b3, b4, b5, b6, b7, b8, b9⟩ := checkR_zero h0
  have en : ((W : Int) * (H : Int)) = (n : Int) := by rw [hn]; simp
  have hn2 : n ≤ 65536 := by omega
  have hnn : n = H * W := by rw [hn]; exact Nat.mul_comm _ _
  have h1 : 1 ≤ n := by
    have := Nat.mul_pos (by omega : 0 < W) (by omega : 0 < H)
    omega
  have hlt : b < w.heap.size := World.block_lt_of_cell? w _ (hc 0 h1)
  have CK := Lib.hid (fun W' (hb : Below w.heap.size w W') => check_ok X Y W H n b cap v W' h0 hn (flAt_congr hc (hb.block _ hlt)) hh)
  have CW := Lib.hid (fun w => checkWithin_any st 981467136 1149239296 w)
  by_cases hz : wiE st 981467136 1149239296 = 0
  · have hs := step_ok hz
    have MK := Lib.hid (fun W' p (hk : DCaps W' X Y W H n b cap v p st sd) => make_ok X Y W H n 129 _ (dthF v st sd X Y W) W' enters_Dither1 (dither1_any X Y W H n b cap v p st sd W' hk hn2 hh hs (by omega) (by omega) (by omega) (by omega) (by omega) (by omega) (by omega) hnn) h0 hnn)
    rw [hz] at CW
    have HC := Lib.hid hc
    have HZ := Lib.hid hz
    clear hc hn h0 hh en hz b5 hs hnn
    go_enter Try.func63, Try.ntmps63
    go_wp2_with (first | (go_at_call 82; refine (CK.out _ (by repeat (first | exact Below.refl _ _ | refine Below.alloc ?_ (by first | omega | (simp; done) | (simp; omega)) _ | refine Below.setCell ?_ (by first | omega | (simp; done) | (simp; omega)) _ | refine Below.drew ?_))).mono ?_; rintro e w2 ⟨rfl, hb2⟩; have HF2 := Lib.hid (blkStay (b := w.heap.size) (o := fldO X Y W H (.slice (some ⟨b, 0, none⟩) n cap)) (by ((simp only [heap_alloc_get, heap_size_alloc, if_true]) <;> ((repeat' split) <;> first | rfl | omega))) hb2); have HM2 := Lib.hid (blkStay (b := w.heap.size + 1) (o := u32Obj sd) (by ((simp only [heap_alloc_get, heap_size_alloc, if_true]) <;> ((repeat' split) <;> first | rfl | omega))) hb2); have HC2 := Lib.hid (blkStay (b := w.heap.size + 1 + 1) (o := flObj st) (by ((simp only [heap_alloc_get, heap_size_alloc, if_true]) <;> ((repeat' split) <;> first | rfl | omega))) hb2); have HS2 := Lib.hid (blkStay (b := w.heap.size + 1 + 1 + 1) (o := fldO 0 0 0 0 (.slice none 0 0)) (by ((simp only [heap_alloc_get, heap_size_alloc, if_true]) <;> ((repeat' split) <;> first | rfl | omega))) hb2); have hB2 : Below w.heap.size w w2 := Below.trans (by repeat (first | exact Below.refl _ _ | refine Below.alloc ?_ (by first | omega | (simp; done) | (simp; omega)) _ | refine Below.setCell ?_ (by first | omega | (simp; done) | (simp; omega)) _ | refine Below.drew ?_)) (Below.mono hb2 (by first | omega | (simp; done) | (simp; omega))); obtain ⟨cF, fF, zF⟩ := blkC HF2.out; obtain ⟨cM, fM, zM⟩ := blkC HM2.out; obtain ⟨cC, fC, zC⟩ := blkC HC2.out; clear hb2) | (go_at_call 126; refine (CW.out _).mono ?_; rintro e w3 ⟨rfl, rfl⟩))
    have K2 : DCaps w2 X Y W H n b cap v w.heap.size st sd := ⟨HF2.out, HM2.out, HC2.out, flAt_congr HC.out (hB2.block _ hlt)⟩
    refine (MK.out _ w.heap.size (K2.stay h1 (by repeat (first | exact Below.refl _ _ | refine Below.alloc ?_ (by first | omega | (simp; done) | (simp; omega)) _ | refine Below.setCell ?_ (by first | omega | (simp; done) | (simp; omega)) _ | refine Below.drew ?_)))).mono ?_
    intro e w4 hmade
    rcases hmade with ⟨hall, b', cap', rfl, hb', hlt', hrow, hbel⟩ | ⟨hall, rfl, hbel⟩
    · have hb24 : Below w2.heap.size w2 w4 := Below.trans (by repeat (first | exact Below.refl _ _ | refine Below.alloc ?_ (by first | omega | (simp; done) | (simp; omega)) _ | refine Below.setCell ?_ (by first | omega | (simp; done) | (simp; omega)) _ | refine Below.drew ?_)) (Below.mono hbel (by first | exact Nat.le_refl _ | simp))
      obtain ⟨cS, fS, zS⟩ := blkC (blkStay HS2.out hb24)
      go_wp2
      refine bodyPost_ret (v := .tuple #[fldV X Y W H (.slice (some ⟨b', 0, none⟩) n cap'), .int .i64 0]) (by simp [results, Try.results63, go_sem, cS]) rfl ?_
      have z2 := hB2.size
      exact .inr ⟨HZ.out, .inl ⟨hall, b', cap', rfl, by omega, by rw [set5_size]; exact hlt', flAt_congr hrow (set5_heap w4 _ _ _ _ _ _ _ (by have := HS2.out; have := (blkC this).2.2; omega)), set5_below (hB2.trans (hb24.mono z2)) _ _ _ _ _ _ (by omega)⟩⟩
    · have hb24 : Below w2.heap.size w2 w4 := Below.trans (by repeat (first | exact Below.refl _ _ | refine Below.alloc ?_ (by first | omega | (simp; done) | (simp; omega)) _ | refine Below.setCell ?_ (by first | omega | (simp; done) | (simp; omega)) _ | refine Below.drew ?_)) (Below.mono hbel (by first | exact Nat.le_refl _ | simp))
      obtain ⟨cS, fS, zS⟩ := blkC (blkStay HS2.out hb24)
      go_wp2
      refine bodyPost_ret (v := .tuple #[fldV 0 0 0 0 (.slice none 0 0), .int .i64 3]) (by simp [results, Try.results63, go_sem, cS]) rfl ?_
      have z2 := hB2.size
      exact .inr ⟨HZ.out, .inr ⟨hall, rfl, set5_below (hB2.trans (hb24.mono z2)) _ _ _ _ _ _ (by omega)⟩⟩
  · have hzb : (wiE st 981467136 1149239296 != 0) = true := by simp [hz]
    have HZ := Lib.hid hz
    generalize wiE st 981467136 1149239296 = er at *
    clear hc hn h0 hh en hz b5 hnn
    go_enter Try.func63, Try.ntmps63
    go_wp2_with (first | (go_at_call 82; refine (CK.out _ (by repeat (first | exact Below.refl _ _ | refine Below.alloc ?_ (by first | omega | (simp; done) | (simp; omega)) _ | refine Below.setCell ?_ (by first | omega | (simp; done) | (simp; omega)) _ | refine Below.drew ?_))).mono ?_; rintro e w2 ⟨rfl, hb2⟩; have HF2 := Lib.hid (blkStay (b := w.heap.size) (o := fldO X Y W H (.slice (some ⟨b, 0, none⟩) n cap)) (by ((simp only [heap_alloc_get, heap_size_alloc, if_true]) <;> ((repeat' split) <;> first | rfl | omega))) hb2); have HC2 := Lib.hid (blkStay (b := w.heap.size + 1 + 1) (o := flObj st) (by ((simp only [heap_alloc_get, heap_size_alloc, if_true]) <;> ((repeat' split) <;> first | rfl | omega))) hb2); have HS2 := Lib.hid (blkStay (b := w.heap.size + 1 + 1 + 1) (o := fldO 0 0 0 0 (.slice none 0 0)) (by ((simp only [heap_alloc_get, heap_size_alloc, if_true]) <;> ((repeat' split) <;> first | rfl | omega))) hb2); have hB2 : Below w.heap.size w w2 := Below.trans (by repeat (first | exact Below.refl _ _ | refine Below.alloc ?_ (by first | omega | (simp; done) | (simp; omega)) _ | refine Below.setCell ?_ (by first | omega | (simp; done) | (simp; omega)) _ | refine Below.drew ?_)) (Below.mono hb2 (by first | omega | (simp; done) | (simp; omega))); obtain ⟨cF, fF, zF⟩ := blkC HF2.out; obtain ⟨cC, fC, zC⟩ := blkC HC2.out; obtain ⟨cS, fS, zS⟩ := blkC HS2.out; clear hb2) | (go_at_call 126; refine (CW.out _).mono ?_; rintro e w3 ⟨rfl, rfl⟩))
    refine bodyPost_ret (v := .tuple #[fldV 0 0 0 0 (.slice none 0 0), .int .i64 er]) (by simp [results, Try.results63, go_sem, cS]) rfl ?_
    exact .inl ⟨HZ.out, rfl, set5_below hB2 _ _ _ _ _ _ (by omega)⟩
end Go.Proofs.Ytihjemookgnafaa

/- Contracts: the laws' bits, one: a single, with its error, told by both sides. -/
namespace Go.Proofs.Ytihjemookgnafaa
open Go.RowKit Fl
set_option linter.unusedVariables false

set_option maxHeartbeats 400000 in
theorem bits_self (x : Nat) (w : World) :
    Calls Try.prog 29 #[.float .f32 x, .float .f32 x] w fun e w' => e = .returned (.bool true) ∧ w = w' := by
  have h1 := f32bits
  go_enter Try.func29, Try.ntmps29
  go_wp2
  go_ret
  exact ⟨rfl, rfl⟩

set_option maxHeartbeats 400000 in
theorem one_ok (x : Nat) (w : World) :
    Calls Try.prog 46 #[.float .f32 x, .int .i64 0, .float .f32 x, .int .i64 0] w fun e w' => e = .returned (.bool true) ∧ w = w' := by
  go_enter Try.func46, Try.ntmps46
  go_wp2_with (go_at_call 29; refine (bits_self _ _).mono ?_; rintro e w' ⟨rfl, rfl⟩)
  go_ret
  exact ⟨rfl, rfl⟩

set_option maxHeartbeats 400000 in
theorem one_err (b : Nat) (k : Int) (hk : k = 2 ∨ k = 3 ∨ k = 4 ∨ k = 5) (w : World) :
    Calls Try.prog 46 #[.float .f32 0, .int .i64 k, .float .f32 b, .int .i64 k] w fun e w' => e = .returned (.bool true) ∧ w = w' := by
  rcases hk with rfl | rfl | rfl | rfl
  all_goals go_enter Try.func46, Try.ntmps46
  all_goals go_wp2_with (go_at_call 29; refine (bits_self _ _).mono ?_; rintro e w' ⟨rfl, rfl⟩)
  all_goals go_ret
  all_goals exact ⟨rfl, rfl⟩

set_option maxHeartbeats 400000 in
theorem one_errX (b : Nat) (k : Int) (hk : k ≠ 0) (w : World) :
    Calls Try.prog 46 #[.float .f32 0, .int .i64 k, .float .f32 b, .int .i64 k] w fun e w' => e = .returned (.bool true) ∧ w = w' := by
  have hb : (k != 0) = true := by simp [hk]
  clear hk
  go_enter Try.func46, Try.ntmps46
  go_wp2_with (go_at_call 29; refine (bits_self _ _).mono ?_; rintro e w' ⟨rfl, rfl⟩)
  go_ret
  exact ⟨rfl, rfl⟩

end Go.Proofs.Ytihjemookgnafaa

/- Contracts of the regions' functions, continued: the reference's Grow; Common, Inside. -/
namespace Go.Proofs.Ytihjemookgnafaa
open Go.RowKit

set_option maxHeartbeats 1000000 in
theorem refGrow_any (x y ww hh n : Int) (w : World) :
    Calls Try.prog 18 #[reg x y ww hh, .int .i64 n] w fun e w' => e = .returned (.tuple #[growR x y ww hh n, .int .i64 (growE x y ww hh n)]) ∧ Below w.heap.size w w' := by
  by_cases h0 : checkR x y ww hh = 0
  · have H := Lib.hid h0
    obtain ⟨b1, b2, b3, b4, _, b6, b7, b8, b9⟩ := checkR_zero h0
    clear h0
    have hb : (checkR x y ww hh != 0) = false := by simp [H.out]
    by_cases hn : -512 ≤ n ∧ n ≤ 512
    · obtain ⟨n1, n2⟩ := hn
      have eE : growE x y ww hh n = checkR (x - n) (y - n) (ww + 2 * n) (hh + 2 * n) := by unfold growE; rw [if_pos H.out, if_neg (by omega)]
      have HE := Lib.hid eE
      clear eE
      by_cases h2 : checkR (x - n) (y - n) (ww + 2 * n) (hh + 2 * n) = 0
      · have H2 := Lib.hid h2
        have hb2 : (checkR (x - n) (y - n) (ww + 2 * n) (hh + 2 * n) != 0) = false := by simp [H2.out]
        clear h2
        go_enter Try.func18, Try.ntmps18
        go_wp2_with (first | (go_at_call 16; refine (refCheckRegion_any _ _ _ _ _).mono ?_; rintro e w' ⟨rfl, rfl⟩) | (go_at_call 74; refine (refGrown_any _ _ _ _ _ _ (by omega) (by omega) (by omega) (by omega) (by omega) (by omega) (by omega) (by omega) (by omega) (by omega)).mono ?_; rintro e w' ⟨rfl, hb⟩; obtain ⟨hc, hf⟩ := bcell hb; have hzhb := Below.size hb; simp at hzhb; have hzhb0 : w.heap.size < w'.heap.size := (by omega); have hzhb1 : w.heap.size + 1 < w'.heap.size := (by omega); clear hzhb))
        refine bodyPost_ret (v := .tuple #[reg (x - n) (y - n) (ww + 2 * n) (hh + 2 * n), .int .i64 0]) (by simp [results, Try.results18, go_sem, hc, hzhb0, hzhb1]) rfl ⟨?_, (by repeat (first | exact Below.refl _ _ | refine Below.alloc ?_ (by first | omega | (simp; done) | (simp; omega)) _ | refine Below.setCell ?_ (by first | omega | (simp; done) | (simp; omega)) _ | refine Below.drew ?_ | refine Below.trans ?_ (Below.mono hb (by first | omega | (simp; done) | (simp; omega)))))⟩
        unfold growR; rw [HE.out, if_pos H2.out, H2.out]
      · have H2 := Lib.hid h2
        have hb2 : (checkR (x - n) (y - n) (ww + 2 * n) (hh + 2 * n) != 0) = true := by simp [h2]
        clear h2
        go_enter Try.func18, Try.ntmps18
        go_wp2_with (first | (go_at_call 16; refine (refCheckRegion_any _ _ _ _ _).mono ?_; rintro e w' ⟨rfl, rfl⟩) | (go_at_call 74; refine (refGrown_any _ _ _ _ _ _ (by omega) (by omega) (by omega) (by omega) (by omega) (by omega) (by omega) (by omega) (by omega) (by omega)).mono ?_; rintro e w' ⟨rfl, hb⟩; obtain ⟨hc, hf⟩ := bcell hb; have hzhb := Below.size hb; simp at hzhb; have hzhb0 : w.heap.size < w'.heap.size := (by omega); have hzhb1 : w.heap.size + 1 < w'.heap.size := (by omega); clear hzhb))
        refine bodyPost_ret (v := .tuple #[reg 0 0 0 0, .int .i64 (checkR (x - n) (y - n) (ww + 2 * n) (hh + 2 * n))]) (by simp [results, Try.results18, go_sem, hc, hzhb0, hzhb1]) rfl ⟨?_, (by repeat (first | exact Below.refl _ _ | refine Below.alloc ?_ (by first | omega | (simp; done) | (simp; omega)) _ | refine Below.setCell ?_ (by first | omega | (simp; done) | (simp; omega)) _ | refine Below.drew ?_ | refine Below.trans ?_ (Below.mono hb (by first | omega | (simp; done) | (simp; omega)))))⟩
        unfold growR; rw [HE.out, if_neg H2.out]
    · rcases (show n < -512 ∨ (-512 ≤ n ∧ 512 < n) by omega) with hn1 | ⟨hn1, hn2⟩
      all_goals
        go_enter Try.func18, Try.ntmps18
        go_wp2_with (first | (go_at_call 16; refine (refCheckRegion_any _ _ _ _ _).mono ?_; rintro e w' ⟨rfl, rfl⟩))
        refine bodyPost_ret (v := .tuple #[reg 0 0 0 0, .int .i64 3]) (by simp [results, Try.results18, go_sem]) rfl ⟨?_, (by repeat (first | exact Below.refl _ _ | refine Below.alloc ?_ (by first | omega | (simp; done) | (simp; omega)) _ | refine Below.setCell ?_ (by first | omega | (simp; done) | (simp; omega)) _ | refine Below.drew ?_))⟩
        have e : growE x y ww hh n = 3 := by unfold growE; rw [if_pos H.out, if_pos (by omega)]
        unfold growR; rw [e]; rfl
  · have H := Lib.hid h0
    have hb : (checkR x y ww hh != 0) = true := by simp [h0]
    clear h0
    go_enter Try.func18, Try.ntmps18
    go_wp2_with (first | (go_at_call 16; refine (refCheckRegion_any _ _ _ _ _).mono ?_; rintro e w' ⟨rfl, rfl⟩))
    refine bodyPost_ret (v := .tuple #[reg 0 0 0 0, .int .i64 (checkR x y ww hh)]) (by simp [results, Try.results18, go_sem]) rfl ⟨?_, (by repeat (first | exact Below.refl _ _ | refine Below.alloc ?_ (by first | omega | (simp; done) | (simp; omega)) _ | refine Below.setCell ?_ (by first | omega | (simp; done) | (simp; omega)) _ | refine Below.drew ?_))⟩
    have e : growE x y ww hh n = checkR x y ww hh := by unfold growE; rw [if_neg H.out]
    unfold growR; rw [e, if_neg H.out]


set_option maxHeartbeats 1000000 in
theorem landed_any (w : World) : Calls Try.prog 14 #[] w fun e w' => e = .returned (.bool true) ∧ Below w.heap.size w w' := by
  go_enter Try.func14, Try.ntmps14
  go_wp2
  go_ret
  exact ⟨rfl, (by repeat (first | exact Below.refl _ _ | refine Below.alloc ?_ (by first | omega | (simp; done) | (simp; omega)) _ | refine Below.setCell ?_ (by first | omega | (simp; done) | (simp; omega)) _ | refine Below.drew ?_))⟩

def insideB (x y w h x' y' w' h' : Int) : Bool := decide (x' ≤ x) && decide (y' ≤ y) && decide (x + w ≤ x' + w') && decide (y + h ≤ y' + h')
theorem insideB_iff {x y w h x' y' w' h' : Int} : insideB x y w h x' y' w' h' = true ↔ x' ≤ x ∧ y' ≤ y ∧ x + w ≤ x' + w' ∧ y + h ≤ y' + h' := by simp [insideB]; omega

set_option maxHeartbeats 1000000 in
theorem inside_any (x y ww hh x' y' ww' hh' : Int) (w : World) (a1 : -1073741824 ≤ x) (a2 : x ≤ 1073741824) (a3 : -1073741824 ≤ y) (a4 : y ≤ 1073741824) (a5 : 1 ≤ ww) (a6 : ww ≤ 1073741824) (a7 : 1 ≤ hh) (a8 : hh ≤ 1073741824)
    (b1 : -1073741824 ≤ x') (b2 : x' ≤ 1073741824) (b3 : -1073741824 ≤ y') (b4 : y' ≤ 1073741824) (b5 : 1 ≤ ww') (b6 : ww' ≤ 1073741824) (b7 : 1 ≤ hh') (b8 : hh' ≤ 1073741824) :
    Calls Try.prog 22 #[reg x y ww hh, reg x' y' ww' hh'] w fun e w' => e = .returned (.bool (insideB x y ww hh x' y' ww' hh')) ∧ Below w.heap.size w w' := by
  go_enter Try.func22, Try.ntmps22
  go_wp2
  all_goals go_ret
  all_goals refine ⟨ret_bool ?_, (by repeat (first | exact Below.refl _ _ | refine Below.alloc ?_ (by first | omega | (simp; done) | (simp; omega)) _ | refine Below.setCell ?_ (by first | omega | (simp; done) | (simp; omega)) _ | refine Below.drew ?_))⟩
  all_goals simp [insideB, *]
  all_goals omega

end Go.Proofs.Ytihjemookgnafaa

/- Contracts of the regions' functions, continued: the reference's Inside; Common. -/
namespace Go.Proofs.Ytihjemookgnafaa
open Go.RowKit

set_option maxHeartbeats 1000000 in
theorem refInside_any (x y ww hh x' y' ww' hh' : Int) (w : World) (_ : -1073741824 ≤ x) (_ : x ≤ 1073741824) (_ : -1073741824 ≤ y) (_ : y ≤ 1073741824) (a5 : 1 ≤ ww) (a6 : ww ≤ 1073741824) (a7 : 1 ≤ hh) (a8 : hh ≤ 1073741824)
    (b1 : -1073741824 ≤ x') (b2 : x' ≤ 1073741824) (b3 : -1073741824 ≤ y') (b4 : y' ≤ 1073741824) (b5 : 1 ≤ ww') (b6 : ww' ≤ 1073741824) (b7 : 1 ≤ hh') (b8 : hh' ≤ 1073741824) :
    Calls Try.prog 23 #[reg x y ww hh, reg x' y' ww' hh'] w fun e w' => e = .returned (.bool (insideB x y ww hh x' y' ww' hh')) ∧ Below w.heap.size w w' := by
  go_enter Try.func23, Try.ntmps23
  go_wp2
  all_goals go_ret
  all_goals refine ⟨ret_bool ?_, (by repeat (first | exact Below.refl _ _ | refine Below.alloc ?_ (by first | omega | (simp; done) | (simp; omega)) _ | refine Below.setCell ?_ (by first | omega | (simp; done) | (simp; omega)) _ | refine Below.drew ?_))⟩
  all_goals (rw [Bool.eq_iff_iff, insideB_iff]; simp; omega)


set_option maxHeartbeats 1000000 in
theorem small_any (x y ww hh : Int) (w : World) :
    Calls Try.prog 19 #[reg x y ww hh] w fun e w' => e = .returned (.bool (decide (1 ≤ ww ∧ ww ≤ 1073741824 ∧ 1 ≤ hh ∧ hh ≤ 1073741824 ∧ -1073741824 ≤ x ∧ -1073741824 ≤ y ∧ x ≤ 1073741824 ∧ y ≤ 1073741824))) ∧ Below w.heap.size w w' := by
  go_enter Try.func19, Try.ntmps19
  go_wp2
  all_goals go_ret
  all_goals refine ⟨ret_bool ?_, (by repeat (first | exact Below.refl _ _ | refine Below.alloc ?_ (by first | omega | (simp; done) | (simp; omega)) _ | refine Below.setCell ?_ (by first | omega | (simp; done) | (simp; omega)) _ | refine Below.drew ?_))⟩
  all_goals (rw [Bool.eq_iff_iff]; simp; omega)

def maxI (a b : Int) : Int := if a < b then b else a
def minI (a b : Int) : Int := if b < a then b else a
theorem maxI_le (a b : Int) : a ≤ maxI a b ∧ b ≤ maxI a b ∧ (maxI a b = a ∨ maxI a b = b) := by unfold maxI; split <;> omega
theorem minI_le (a b : Int) : minI a b ≤ a ∧ minI a b ≤ b ∧ (minI a b = a ∨ minI a b = b) := by unfold minI; split <;> omega

/-- What Common answers. -/
def comB (x y w h x' y' w' h' : Int) : Bool := decide (1 ≤ minI (x + w) (x' + w') - maxI x x') && decide (1 ≤ minI (y + h) (y' + h') - maxI y y')
def comR (x y w h x' y' w' h' : Int) : Value :=
  if comB x y w h x' y' w' h' then reg (maxI x x') (maxI y y') (minI (x + w) (x' + w') - maxI x x') (minI (y + h) (y' + h') - maxI y y') else reg 0 0 0 0
theorem comB_iff {x y w h x' y' w' h' : Int} : comB x y w h x' y' w' h' = true ↔ 1 ≤ minI (x + w) (x' + w') - maxI x x' ∧ 1 ≤ minI (y + h) (y' + h') - maxI y y' := by simp [comB]
theorem comB_no {x y w h x' y' w' h' : Int} : comB x y w h x' y' w' h' = false ↔ minI (x + w) (x' + w') - maxI x x' < 1 ∨ minI (y + h) (y' + h') - maxI y y' < 1 := by
  rw [← Bool.not_eq_true, comB_iff]; omega

set_option maxHeartbeats 1000000 in
theorem common_any (x y ww hh x' y' ww' hh' : Int) (w : World) (a1 : -1073741824 ≤ x) (a2 : x ≤ 1073741824) (a3 : -1073741824 ≤ y) (a4 : y ≤ 1073741824) (a5 : 1 ≤ ww) (a6 : ww ≤ 1073741824) (a7 : 1 ≤ hh) (a8 : hh ≤ 1073741824)
    (b1 : -1073741824 ≤ x') (b2 : x' ≤ 1073741824) (b3 : -1073741824 ≤ y') (b4 : y' ≤ 1073741824) (b5 : 1 ≤ ww') (b6 : ww' ≤ 1073741824) (b7 : 1 ≤ hh') (b8 : hh' ≤ 1073741824) :
    Calls Try.prog 20 #[reg x y ww hh, reg x' y' ww' hh'] w fun e w' => e = .returned (.tuple #[comR x y ww hh x' y' ww' hh', .bool (comB x y ww hh x' y' ww' hh')]) ∧ Below w.heap.size w w' := by
  have hx : (if x < x' then x' else x) = maxI x x' := rfl
  have hy : (if y < y' then y' else y) = maxI y y' := rfl
  have ex : (if x' + ww' < x + ww then x' + ww' else x + ww) = minI (x + ww) (x' + ww') := rfl
  have ey : (if y' + hh' < y + hh then y' + hh' else y + hh) = minI (y + hh) (y' + hh') := rfl
  obtain ⟨x1, x2, x3⟩ := maxI_le x x'
  obtain ⟨y1, y2, y3⟩ := maxI_le y y'
  obtain ⟨x4, x5, x6⟩ := minI_le (x + ww) (x' + ww')
  obtain ⟨y4, y5, y6⟩ := minI_le (y + hh) (y' + hh')
  have x7 : -1073741824 ≤ maxI x x' ∧ maxI x x' ≤ 1073741824 ∧ -1073741824 ≤ minI (x + ww) (x' + ww') ∧ minI (x + ww) (x' + ww') ≤ 2147483648 := by omega
  have y7 : -1073741824 ≤ maxI y y' ∧ maxI y y' ≤ 1073741824 ∧ -1073741824 ≤ minI (y + hh) (y' + hh') ∧ minI (y + hh) (y' + hh') ≤ 2147483648 := by omega
  clear x3 y3 x6 y6
  obtain ⟨x7, x8, x9, xa⟩ := x7
  obtain ⟨y7, y8, y9, ya⟩ := y7
  rcases (show (1 ≤ minI (x + ww) (x' + ww') - maxI x x' ∧ 1 ≤ minI (y + hh) (y' + hh') - maxI y y') ∨ (1 ≤ minI (x + ww) (x' + ww') - maxI x x' ∧ minI (y + hh) (y' + hh') - maxI y y' < 1) ∨ minI (x + ww) (x' + ww') - maxI x x' < 1 by omega) with ⟨t1, t2⟩ | ⟨t1, t2⟩ | t1
  · have hb : comB x y ww hh x' y' ww' hh' = true := comB_iff.2 ⟨t1, t2⟩
    have hr : comR x y ww hh x' y' ww' hh' = reg (maxI x x') (maxI y y') (minI (x + ww) (x' + ww') - maxI x x') (minI (y + hh) (y' + hh') - maxI y y') := by unfold comR; rw [if_pos hb]
    rw [hb, hr]
    clear hb hr
    go_enter Try.func20, Try.ntmps20
    go_wp2
    go_region
    go_wp2
    exact bodyPost_ret (v := .tuple #[reg (maxI x x') (maxI y y') (minI (x + ww) (x' + ww') - maxI x x') (minI (y + hh) (y' + hh') - maxI y y'), .bool true]) (by simp [results, Try.results20, go_sem]) rfl ⟨rfl, (by repeat (first | exact Below.refl _ _ | refine Below.alloc ?_ (by first | omega | (simp; done) | (simp; omega)) _ | refine Below.setCell ?_ (by first | omega | (simp; done) | (simp; omega)) _ | refine Below.drew ?_))⟩
  all_goals
    have hb : comB x y ww hh x' y' ww' hh' = false := comB_no.2 (by omega)
    have hr : comR x y ww hh x' y' ww' hh' = reg 0 0 0 0 := by unfold comR; rw [hb]; rfl
    rw [hb, hr]
    clear hb hr
    go_enter Try.func20, Try.ntmps20
    go_wp2
    go_region
    go_wp2
    exact bodyPost_ret (v := .tuple #[reg 0 0 0 0, .bool false]) (by simp [results, Try.results20, go_sem]) rfl ⟨rfl, (by repeat (first | exact Below.refl _ _ | refine Below.alloc ?_ (by first | omega | (simp; done) | (simp; omega)) _ | refine Below.setCell ?_ (by first | omega | (simp; done) | (simp; omega)) _ | refine Below.drew ?_))⟩

set_option maxHeartbeats 1000000 in
theorem refCommon_any (x y ww hh x' y' ww' hh' : Int) (w : World) (a1 : -1073741824 ≤ x) (a2 : x ≤ 1073741824) (a3 : -1073741824 ≤ y) (a4 : y ≤ 1073741824) (a5 : 1 ≤ ww) (a6 : ww ≤ 1073741824) (a7 : 1 ≤ hh) (a8 : hh ≤ 1073741824)
    (b1 : -1073741824 ≤ x') (b2 : x' ≤ 1073741824) (b3 : -1073741824 ≤ y') (b4 : y' ≤ 1073741824) (b5 : 1 ≤ ww') (b6 : ww' ≤ 1073741824) (b7 : 1 ≤ hh') (b8 : hh' ≤ 1073741824) :
    Calls Try.prog 21 #[reg x y ww hh, reg x' y' ww' hh'] w fun e w' => e = .returned (.tuple #[comR x y ww hh x' y' ww' hh', .bool (comB x y ww hh x' y' ww' hh')]) ∧ Below w.heap.size w w' := by
  have hx : (if x < x' then x' else x) = maxI x x' := rfl
  have hy : (if y < y' then y' else y) = maxI y y' := rfl
  have ex : (if x' + ww' < x + ww then x' + ww' else x + ww) = minI (x + ww) (x' + ww') := rfl
  have ey : (if y' + hh' < y + hh then y' + hh' else y + hh) = minI (y + hh) (y' + hh') := rfl
  obtain ⟨x1, x2, x3⟩ := maxI_le x x'
  obtain ⟨y1, y2, y3⟩ := maxI_le y y'
  obtain ⟨x4, x5, x6⟩ := minI_le (x + ww) (x' + ww')
  obtain ⟨y4, y5, y6⟩ := minI_le (y + hh) (y' + hh')
  have x7 : -1073741824 ≤ maxI x x' ∧ maxI x x' ≤ 1073741824 ∧ -1073741824 ≤ minI (x + ww) (x' + ww') ∧ minI (x + ww) (x' + ww') ≤ 2147483648 := by omega
  have y7 : -1073741824 ≤ maxI y y' ∧ maxI y y' ≤ 1073741824 ∧ -1073741824 ≤ minI (y + hh) (y' + hh') ∧ minI (y + hh) (y' + hh') ≤ 2147483648 := by omega
  clear x3 y3 x6 y6
  obtain ⟨x7, x8, x9, xa⟩ := x7
  obtain ⟨y7, y8, y9, ya⟩ := y7
  rcases (show (1 ≤ minI (x + ww) (x' + ww') - maxI x x' ∧ 1 ≤ minI (y + hh) (y' + hh') - maxI y y') ∨ (1 ≤ minI (x + ww) (x' + ww') - maxI x x' ∧ minI (y + hh) (y' + hh') - maxI y y' < 1) ∨ minI (x + ww) (x' + ww') - maxI x x' < 1 by omega) with ⟨t1, t2⟩ | ⟨t1, t2⟩ | t1
  · have hb : comB x y ww hh x' y' ww' hh' = true := comB_iff.2 ⟨t1, t2⟩
    have hr : comR x y ww hh x' y' ww' hh' = reg (maxI x x') (maxI y y') (minI (x + ww) (x' + ww') - maxI x x') (minI (y + hh) (y' + hh') - maxI y y') := by unfold comR; rw [if_pos hb]
    rw [hb, hr]
    clear hb hr
    go_enter Try.func21, Try.ntmps21
    go_wp2
    go_region
    go_wp2
    exact bodyPost_ret (v := .tuple #[reg (maxI x x') (maxI y y') (minI (x + ww) (x' + ww') - maxI x x') (minI (y + hh) (y' + hh') - maxI y y'), .bool true]) (by simp [results, Try.results21, go_sem]) rfl ⟨rfl, (by repeat (first | exact Below.refl _ _ | refine Below.alloc ?_ (by first | omega | (simp; done) | (simp; omega)) _ | refine Below.setCell ?_ (by first | omega | (simp; done) | (simp; omega)) _ | refine Below.drew ?_))⟩
  all_goals
    have hb : comB x y ww hh x' y' ww' hh' = false := comB_no.2 (by omega)
    have hr : comR x y ww hh x' y' ww' hh' = reg 0 0 0 0 := by unfold comR; rw [hb]; rfl
    rw [hb, hr]
    clear hb hr
    go_enter Try.func21, Try.ntmps21
    go_wp2
    go_region
    go_wp2
    exact bodyPost_ret (v := .tuple #[reg 0 0 0 0, .bool false]) (by simp [results, Try.results21, go_sem]) rfl ⟨rfl, (by repeat (first | exact Below.refl _ _ | refine Below.alloc ?_ (by first | omega | (simp; done) | (simp; omega)) _ | refine Below.setCell ?_ (by first | omega | (simp; done) | (simp; omega)) _ | refine Below.drew ?_))⟩

end Go.Proofs.Ytihjemookgnafaa

/- HashesMatch: Hash, Unit and Signed answer as the references do; units are from 0 to below 1, signed ones from -1. -/
namespace Go.Proofs.Ytihjemookgnafaa
open Go.RowKit Fl
set_option linter.unusedVariables false

theorem unit_cmp {h : Int} (h0 : 0 ≤ h) (h1 : h < 4294967296) : (FloatKind.f32.format.order (unitW h) 0 == some .gt || FloatKind.f32.format.order (unitW h) 0 == some .eq) = true ∧ (FloatKind.f32.format.order (unitW h) 1065353216 == some .lt) = true := by
  obtain ⟨a, v, a0, a1⟩ := unit_in h0 h1
  rw [show FloatKind.f32.format = Ieee.single from rfl]
  exact ⟨by rw [geq_val v vS_zero]; simpa using a0, by rw [lss_val v vS_one]; simpa using a1⟩
theorem sgn_cmp {h : Int} (h0 : 0 ≤ h) (h1 : h < 4294967296) : (FloatKind.f32.format.order (sgnW h) 3212836864 == some .gt || FloatKind.f32.format.order (sgnW h) 3212836864 == some .eq) = true ∧ (FloatKind.f32.format.order (sgnW h) 1065353216 == some .lt) = true := by
  obtain ⟨a, v, a0, a1⟩ := sgn_in h0 h1
  rw [show FloatKind.f32.format = Ieee.single from rfl]
  exact ⟨by rw [geq_val v vS_mone]; simpa using a0, by rw [lss_val v vS_one]; simpa using a1⟩

set_option maxHeartbeats 1000000 in
theorem hashesMatch_any (s x y n h : Int) (w : World) (h0 : 0 ≤ h) (h1 : h < 4294967296) :
    Calls Try.prog 9 #[.int .u32 s, .int .i64 x, .int .i64 y, .int .i64 n, .int .u32 h] w fun e w' => e = .returned (.bool true) ∧ Below w.heap.size w w' := by
  obtain ⟨c1, c2⟩ := unit_cmp h0 h1
  obtain ⟨c3, c4⟩ := sgn_cmp h0 h1
  go_enter Try.func9, Try.ntmps9
  go_wp2_with (first | (go_at_call 14; refine (landed_any _).mono ?_; rintro e w1 ⟨rfl, hb1⟩) | (go_at_call 49; refine (unit_any _ _ h0 h1).mono ?_; rintro e w' ⟨rfl, rfl⟩) | (go_at_call 50; refine (signed_any _ _ h0 h1).mono ?_; rintro e w' ⟨rfl, rfl⟩) | (go_at_call 51; refine (hash_any _ _ _ _ _).mono ?_; rintro e w' ⟨rfl, rfl⟩) | (go_at_call 52; refine (refHash_any _ _ _ _ _).mono ?_; rintro e w2 ⟨rfl, hb2⟩) | (go_at_call 53; refine (refUnit_any _ _ h0 h1).mono ?_; rintro e w' ⟨rfl, rfl⟩) | (go_at_call 54; refine (refSigned_any _ _ h0 h1).mono ?_; rintro e w' ⟨rfl, rfl⟩) | (go_at_call 29; refine (bits_self _ _).mono ?_; rintro e w' ⟨rfl, rfl⟩))
  go_ret
  exact ⟨rfl, Below.trans hb1 (Below.mono hb2 (by have := hb1.size; omega))⟩
end Go.Proofs.Ytihjemookgnafaa

/- EaseMatches: Ease answers as the reference does, and from 0 to 1. -/
namespace Go.Proofs.Ytihjemookgnafaa
open Go.RowKit Fl
set_option linter.unusedVariables false

theorem zero_geq : (FloatKind.f32.format.order 0 0 == some .gt || FloatKind.f32.format.order 0 0 == some .eq) = true := by rw [f32f, geq_val vS_zero vS_zero]; simp
theorem zero_leq : (FloatKind.f32.format.order 0 1065353216 == some .lt || FloatKind.f32.format.order 0 1065353216 == some .eq) = true := by
  rw [f32f, leq_val vS_zero vS_one]; simp
set_option maxHeartbeats 1000000 in
theorem easeMatches_bad (t : Nat) (k k' : Int) (hk : k = 2 ∨ k = 3) (ht : t < 4294967296) (h1 : wiE t 0 1065353216 = k) (h2 : fldE 1 (fun _ => t) = k') 
    (h3 : (k' = k) ∨ (k' = 0 ∧ k = 3 ∧ (FloatKind.f32.format.order t 0 == some .lt) = true) ∨ (k' = 0 ∧ k = 3 ∧ (FloatKind.f32.format.order t 0 == some .lt) = false ∧ (FloatKind.f32.format.order t 1065353216 == some .gt) = true)) (w : World) :
    Calls Try.prog 10 #[.float .f32 t] w fun e w' => e = .returned (.bool true) ∧ Below w.heap.size w w' := by
  have EN := Lib.hid (fun w => easeX_no t k h1 hk w)
  have HT := Lib.hid (fun w => refHeight_one t ht w)
  have ON := Lib.hid (fun b w => one_err b k (by omega) w)
  rw [h2] at HT
  have z1 := zero_geq
  have z2 := zero_leq
  clear h1 h2 ht
  rcases h3 with rfl | ⟨rfl, rfl, c1⟩ | ⟨rfl, rfl, c1, c2⟩
  · rcases hk with rfl | rfl
    all_goals go_enter Try.func10, Try.ntmps10
    all_goals go_wp2_with (first | (go_at_call 14; refine (landed_any _).mono ?_; rintro e w1 ⟨rfl, hb1⟩) | (go_at_call 55; refine (EN.out _).mono ?_; rintro e w' ⟨rfl, rfl⟩) | (go_at_call 26; refine (HT.out _).mono ?_; rintro e w' ⟨rfl, rfl⟩) | (go_at_call 56; refine (refEase_loose _ _).mono ?_; rintro e w' ⟨r, n, rfl, rfl⟩) | (go_at_call 46; refine (ON.out _ _).mono ?_; rintro e w' ⟨rfl, rfl⟩))
    all_goals go_ret
    all_goals exact ⟨rfl, Below.trans hb1 (Below.mono (Go.below_drewN (Below.alloc (Below.refl w1.heap.size w1) (Nat.le_refl _) _) _) (by have := hb1.size; omega))⟩
  all_goals clear hk
  all_goals go_enter Try.func10, Try.ntmps10
  all_goals go_wp2_with (first | (go_at_call 14; refine (landed_any _).mono ?_; rintro e w1 ⟨rfl, hb1⟩) | (go_at_call 55; refine (EN.out _).mono ?_; rintro e w' ⟨rfl, rfl⟩) | (go_at_call 26; refine (HT.out _).mono ?_; rintro e w' ⟨rfl, rfl⟩) | (go_at_call 56; refine (refEase_loose _ _).mono ?_; rintro e w' ⟨r, n, rfl, rfl⟩) | (go_at_call 46; refine (ON.out _ _).mono ?_; rintro e w' ⟨rfl, rfl⟩))
  all_goals go_ret
  all_goals exact ⟨rfl, Below.trans hb1 (Below.mono (Go.below_drewN (Below.alloc (Below.refl w1.heap.size w1) (Nat.le_refl _) _) _) (by have := hb1.size; omega))⟩

set_option maxHeartbeats 1000000 in
theorem easeMatches_good (t p q r v : Nat) (E : EaseAt t p q r v) (ht : t < 4294967296) (h1 : wiE t 0 1065353216 = 0) (h2 : fldE 1 (fun _ => t) = 0)
    (c1 : (FloatKind.f32.format.order t 0 == some .lt) = false) (c2 : (FloatKind.f32.format.order t 1065353216 == some .gt) = false)
    (c3 : (FloatKind.f32.format.order (easeW t) 0 == some .gt || FloatKind.f32.format.order (easeW t) 0 == some .eq) = true) (c4 : (FloatKind.f32.format.order (easeW t) 1065353216 == some .lt || FloatKind.f32.format.order (easeW t) 1065353216 == some .eq) = true) (w : World) :
    Calls Try.prog 10 #[.float .f32 t] w fun e w' => e = .returned (.bool true) ∧ Below w.heap.size w w' := by
  have EN := Lib.hid (fun w => easeX_ok t p q r v E h1 w)
  have RN := Lib.hid (fun w => refEase_any t p q r v E w)
  have HT := Lib.hid (fun w => refHeight_one t ht w)
  rw [h2] at HT
  clear h1 h2 ht E
  go_enter Try.func10, Try.ntmps10
  go_wp2_with (first | (go_at_call 14; refine (landed_any _).mono ?_; rintro e w1 ⟨rfl, hb1⟩) | (go_at_call 55; refine (EN.out _).mono ?_; rintro e w' ⟨rfl, rfl⟩) | (go_at_call 26; refine (HT.out _).mono ?_; rintro e w' ⟨rfl, rfl⟩) | (go_at_call 56; refine (RN.out _).mono ?_; rintro e w' ⟨rfl, rfl⟩) | (go_at_call 46; refine (one_ok _ _).mono ?_; rintro e w' ⟨rfl, rfl⟩))
  go_ret
  exact ⟨rfl, Below.trans hb1 (Below.mono (Below.alloc (Below.refl w1.heap.size w1) (Nat.le_refl _) _) (by have := hb1.size; omega))⟩

theorem easeMatches_any (t : Nat) (ht : t < 4294967296) (w : World) :
    Calls Try.prog 10 #[.float .f32 t] w fun e w' => e = .returned (.bool true) ∧ Below w.heap.size w w' := by
  cases hf : finB t with
  | false => exact easeMatches_bad t 2 2 (.inl rfl) ht (by unfold wiE; rw [if_pos hf]) (by simp [fldE, allB, List.range_succ, hf]) (.inl rfl) w
  | true =>
    obtain ⟨a, ha⟩ := Option.isSome_iff_exists.1 (show (vS t).isSome = true from hf)
    have l0 := lss_val ha vS_zero
    have g1 := gtr_val ha vS_one
    rw [← f32f] at l0 g1
    have hw : ∀ P : Prop, ((FloatKind.f32.format.order t 0 == some .lt) = true ∨ (FloatKind.f32.format.order t 1065353216 == some .gt) = true) → wiE t 0 1065353216 = 3 := fun _ c => by
      unfold wiE; rw [if_neg (by rw [hf]; simp), if_pos c]
    cases hh : hgtB t with
    | false =>
      refine easeMatches_bad t 3 3 (.inr rfl) ht (hw True ?_) (by simp [fldE, hgtE, allB, List.range_succ, hf, hh]) (.inl rfl) w
      have := one_vTop
      have h0 : (0 : Int) < (one : Int) := Int.natCast_pos.2 one_pos
      unfold hgtB at hh
      rw [ha] at hh
      rw [l0, g1]
      simp at hh ⊢
      omega
    | true =>
      have h2 : fldE 1 (fun _ => t) = 0 := fldE_one_ok hh
      cases c1 : (FloatKind.f32.format.order t 0 == some .lt) with
      | true => exact easeMatches_bad t 3 0 (.inr rfl) ht (hw True (.inl c1)) h2 (.inr (.inl ⟨rfl, rfl, c1⟩)) w
      | false =>
        cases c2 : (FloatKind.f32.format.order t 1065353216 == some .gt) with
        | true => exact easeMatches_bad t 3 0 (.inr rfl) ht (hw True (.inr c2)) h2 (.inr (.inr ⟨rfl, rfl, c1, c2⟩)) w
        | false =>
          rw [c1] at l0
          rw [c2] at g1
          have a0 : 0 ≤ a := by have := l0.symm; simp at this; omega
          have a1 : a ≤ (one : Int) := by have := g1.symm; simp at this; omega
          obtain ⟨p, q, r, v, E⟩ := ease_parts (bd_unit ha (by omega) a1)
          obtain ⟨c, hc, b0, b1⟩ := ease_in ha a0 a1
          exact easeMatches_good t p q r v E ht (by unfold wiE; rw [if_neg (by rw [hf]; simp), if_neg (by rw [c1, c2]; simp)]) h2 c1 c2 (by rw [f32f, geq_val hc vS_zero]; simpa using b0) (by rw [f32f, leq_val hc vS_one]; simpa using b1) w
end Go.Proofs.Ytihjemookgnafaa

/- The error of a single that should lie between two others, by the tests of the reference. -/
namespace Go.Proofs.Ytihjemookgnafaa
open Go.RowKit Fl
set_option linter.unusedVariables false

/-- The error of a single that should be from lo to hi, told by the reference's tests. -/
def WithinCases (st lo hi : Nat) : Prop :=
    ((fldE 1 (fun _ => st) = 2 ∨ fldE 1 (fun _ => st) = 3) ∧ wiE st lo hi = fldE 1 (fun _ => st)) ∨
    (fldE 1 (fun _ => st) = 0 ∧ wiE st lo hi = 3 ∧ (FloatKind.f32.format.order st lo == some .lt) = true) ∨
    (fldE 1 (fun _ => st) = 0 ∧ wiE st lo hi = 3 ∧ (FloatKind.f32.format.order st lo == some .lt) = false ∧ (FloatKind.f32.format.order st hi == some .gt) = true) ∨
    (fldE 1 (fun _ => st) = 0 ∧ wiE st lo hi = 0 ∧ (FloatKind.f32.format.order st lo == some .lt) = false ∧ (FloatKind.f32.format.order st hi == some .gt) = false)
theorem within_cases {st lo hi : Nat} {l h : Int} (hl : vS lo = some l) (hh : vS hi = some h) (l1 : -vTop ≤ l) (h1 : h ≤ vTop) : WithinCases st lo hi := by
  unfold WithinCases
  cases hf : finB st with
  | false =>
    have e : fldE 1 (fun _ => st) = 2 := by simp [fldE, allB, List.range_succ, hf]
    exact .inl ⟨.inl e, by rw [e]; unfold wiE; rw [if_pos hf]⟩
  | true =>
    obtain ⟨a, ha⟩ := Option.isSome_iff_exists.1 (show (vS st).isSome = true from hf)
    have l0 := lss_val ha hl
    have g1 := gtr_val ha hh
    rw [← f32f] at l0 g1
    have hw : ((FloatKind.f32.format.order st lo == some .lt) = true ∨ (FloatKind.f32.format.order st hi == some .gt) = true) → wiE st lo hi = 3 := fun c => by
      unfold wiE; rw [if_neg (by rw [hf]; simp), if_pos c]
    cases hgt : hgtB st with
    | false =>
      have e : fldE 1 (fun _ => st) = 3 := by simp [fldE, hgtE, allB, List.range_succ, hf, hgt]
      refine .inl ⟨.inr e, ?_⟩
      rw [e]
      refine hw ?_
      unfold hgtB at hgt
      rw [ha] at hgt
      rw [l0, g1]
      simp at hgt ⊢
      omega
    | true =>
      have e : fldE 1 (fun _ => st) = 0 := fldE_one_ok hgt
      cases c1 : (FloatKind.f32.format.order st lo == some .lt) with
      | true => exact .inr (.inl ⟨e, hw (.inl c1), rfl⟩)
      | false =>
        cases c2 : (FloatKind.f32.format.order st hi == some .gt) with
        | true => exact .inr (.inr (.inl ⟨e, hw (.inr c2), rfl, rfl⟩))
        | false => exact .inr (.inr (.inr ⟨e, by unfold wiE; rw [if_neg (by rw [hf]; simp), if_neg (by rw [c1, c2]; simp)], rfl, rfl⟩))

theorem vTop_one : vTop = 1048576 * (one : Int) := by
  obtain ⟨J, hJ⟩ : ∃ J : Nat, J = 1074 := ⟨_, rfl⟩
  unfold vTop
  rw [one_pow hJ, Nat.one_mul, show ((20 : Int) + 1074).toNat = 20 + J by omega, Nat.pow_add, Int.natCast_mul]; rfl
theorem step_cases (st : Nat) : WithinCases st 981467136 1149239296 := by
  obtain ⟨j, hj⟩ : ∃ j : Nat, j = 1064 := ⟨_, rfl⟩
  have hj' : j + 20 = 1084 := by omega
  have e1 : one = 1024 * 2 ^ j := by rw [one_split (a := 10) (j := j) (by omega)]
  have e2 : 2 ^ (j + 20) = 1048576 * 2 ^ j := by rw [Nat.pow_add, Nat.mul_comm]
  have hp := Nat.two_pow_pos j
  exact within_cases (st := st) (vS_lo hj) (vS_hi hj') (by rw [vTop_one, e1]; generalize 2 ^ j = U at *; omega) (by rw [vTop_one, e1, e2]; generalize 2 ^ j = U at *; omega)

theorem flAt_one_of {w : World} {b x : Nat} (h : w.heap[b]? = some (flObj x)) : FlAt w b 0 1 (fun _ => x) := by
  intro i hi
  have : i = 0 := by omega
  subst this
  exact (blkC h).1 0
theorem refHeight_of (x : Nat) (hx : x < 4294967296) (bb : Nat) (w : World) (h : w.heap[bb]? = some (flObj x)) :
    Calls Try.prog 26 #[.slice (some ⟨bb, 0, none⟩) 1 1] w fun e w' => e = .returned (.int .i64 (fldE 1 (fun _ => x))) ∧ w = w' :=
  refHeight_row bb 0 1 1 (fun _ => x) (by omega) w (flAt_one_of h) (fun _ _ => hx)

end Go.Proofs.Ytihjemookgnafaa

/- Dither of the reference, of a right field. -/
namespace Go.Proofs.Ytihjemookgnafaa
open Go.RowKit Fl
set_option linter.unusedVariables false

set_option maxHeartbeats 2000000 in
theorem rdither_any (X Y : Int) (W H n b cap : Nat) (v : Nat → Nat) (sd : Int) (st : Nat) (w : World) (h0 : checkR X Y W H = 0) (hn : n = W * H) (hc : FlAt w b 0 n v) (hh : allB n (fun i => hgtB (v i)) = true) (hst : st < 4294967296) :
    Calls Try.prog 64 #[fldV X Y W H (.slice (some ⟨b, 0, none⟩) n cap), .int .u32 sd, .float .f32 st] w (ScPost w X Y W H n (dthF v st sd X Y W) (wiE st 981467136 1149239296)) := by
  obtain ⟨b1, b2, b3, b4, b5, b6, b7, b8, b9⟩ := checkR_zero h0
  have en : ((W : Int) * (H : Int)) = (n : Int) := by rw [hn]; simp
  have hn2 : n ≤ 65536 := by omega
  have hnn : n = H * W := by rw [hn]; exact Nat.mul_comm _ _
  have h1 : 1 ≤ n := by
    have := Nat.mul_pos (by omega : 0 < W) (by omega : 0 < H)
    omega
  have hlt : b < w.heap.size := World.block_lt_of_cell? w _ (hc 0 h1)
  have HT := Lib.hid (fun bb w => refHeight_of st hst bb w)
  rcases step_cases st with ⟨hk, he⟩ | ⟨h2, he, c1⟩ | ⟨h2, he, c1, c2⟩ | ⟨h2, he, c1, c2⟩
  · rw [he]
    generalize fldE 1 (fun _ => st) = er at *
    have hzb : (er != 0) = true := by rcases hk with rfl | rfl <;> rfl
    have HZ := Lib.hid (show er ≠ 0 by rcases hk with rfl | rfl <;> decide)
    clear hc hn h0 hh en b5 hnn he hk
    go_enter Try.func64, Try.ntmps64
    go_wp2_with (first | (go_at_call 26; refine (HT.out _ _ (by ((simp only [heap_alloc_get, heap_size_alloc, if_true]) <;> ((repeat' split) <;> first | rfl | omega)))).mono ?_; rintro e w2 ⟨rfl, rfl⟩))
    refine bodyPost_ret (v := .tuple #[fldV 0 0 0 0 (.slice none 0 0), .int .i64 er]) (by simp [results, Try.results64, go_sem]) rfl ?_
    exact .inl ⟨HZ.out, rfl, (by repeat (first | exact Below.refl _ _ | refine Below.alloc ?_ (by first | omega | (simp; done) | (simp; omega)) _ | refine Below.setCell ?_ (by first | omega | (simp; done) | (simp; omega)) _ | refine Below.drew ?_))⟩
  · rw [he]
    rw [h2] at HT
    clear hc hn h0 hh en b5 hnn he h2
    go_enter Try.func64, Try.ntmps64
    go_wp2_with (first | (go_at_call 26; refine (HT.out _ _ (by ((simp only [heap_alloc_get, heap_size_alloc, if_true]) <;> ((repeat' split) <;> first | rfl | omega)))).mono ?_; rintro e w2 ⟨rfl, rfl⟩))
    refine bodyPost_ret (v := .tuple #[fldV 0 0 0 0 (.slice none 0 0), .int .i64 3]) (by simp [results, Try.results64, go_sem]) rfl ?_
    exact .inl ⟨by decide, rfl, (by repeat (first | exact Below.refl _ _ | refine Below.alloc ?_ (by first | omega | (simp; done) | (simp; omega)) _ | refine Below.setCell ?_ (by first | omega | (simp; done) | (simp; omega)) _ | refine Below.drew ?_))⟩
  · rw [he]
    rw [h2] at HT
    clear hc hn h0 hh en b5 hnn he h2
    go_enter Try.func64, Try.ntmps64
    go_wp2_with (first | (go_at_call 26; refine (HT.out _ _ (by ((simp only [heap_alloc_get, heap_size_alloc, if_true]) <;> ((repeat' split) <;> first | rfl | omega)))).mono ?_; rintro e w2 ⟨rfl, rfl⟩))
    refine bodyPost_ret (v := .tuple #[fldV 0 0 0 0 (.slice none 0 0), .int .i64 3]) (by simp [results, Try.results64, go_sem]) rfl ?_
    exact .inl ⟨by decide, rfl, (by repeat (first | exact Below.refl _ _ | refine Below.alloc ?_ (by first | omega | (simp; done) | (simp; omega)) _ | refine Below.setCell ?_ (by first | omega | (simp; done) | (simp; omega)) _ | refine Below.drew ?_))⟩
  · have hs := step_ok he
    have BY := Lib.hid (fun W' p (hk : DCaps W' X Y W H n b cap v p st sd) => made_any X Y W H n 130 _ (dthF v st sd X Y W) W' enters_rDither1 (rdither1_any X Y W H n b cap v p st sd W' hk hn2 hh hs (by omega) (by omega) (by omega) (by omega) (by omega) (by omega) (by omega) hnn) (dth_wf hh hs) (by omega) (by omega) (by omega) (by omega) (by omega) (by omega) (by omega) (by omega) hnn)
    rw [he]
    rw [h2] at HT
    have HC := Lib.hid hc
    clear hc hn h0 hh en b5 hs hnn he h2
    go_enter Try.func64, Try.ntmps64
    go_wp2_with (first | (go_at_call 26; refine (HT.out _ _ (by ((simp only [heap_alloc_get, heap_size_alloc, if_true]) <;> ((repeat' split) <;> first | rfl | omega)))).mono ?_; rintro e w2 ⟨rfl, hw3⟩; have hw2 : Below w.heap.size w w2 := (by rw [← hw3]; exact (by repeat (first | exact Below.refl _ _ | refine Below.alloc ?_ (by first | omega | (simp; done) | (simp; omega)) _ | refine Below.setCell ?_ (by first | omega | (simp; done) | (simp; omega)) _ | refine Below.drew ?_))); have HF2 := Lib.hid (show w2.heap[w.heap.size]? = some (fldO X Y W H (.slice (some ⟨b, 0, none⟩) n cap)) by rw [← hw3]; ((simp only [heap_alloc_get, heap_size_alloc, if_true]) <;> ((repeat' split) <;> first | rfl | omega))); have HM2 := Lib.hid (show w2.heap[w.heap.size + 1]? = some (u32Obj sd) by rw [← hw3]; ((simp only [heap_alloc_get, heap_size_alloc, if_true]) <;> ((repeat' split) <;> first | rfl | omega))); have HC2 := Lib.hid (show w2.heap[w.heap.size + 1 + 1]? = some (flObj st) by rw [← hw3]; ((simp only [heap_alloc_get, heap_size_alloc, if_true]) <;> ((repeat' split) <;> first | rfl | omega))); have HS2 := Lib.hid (show w2.heap[w.heap.size + 1 + 1 + 1]? = some (fldO 0 0 0 0 (.slice none 0 0)) by rw [← hw3]; ((simp only [heap_alloc_get, heap_size_alloc, if_true]) <;> ((repeat' split) <;> first | rfl | omega))); have hB2 := hw2; obtain ⟨cF, fF, zF⟩ := blkC HF2.out; obtain ⟨cC, fC, zC⟩ := blkC HC2.out; obtain ⟨cS, fS, zS⟩ := blkC HS2.out; clear hw3 hw2))
    have K2 : DCaps w2 X Y W H n b cap v w.heap.size st sd := ⟨HF2.out, HM2.out, HC2.out, flAt_congr HC.out (hB2.block _ hlt)⟩
    clear cS fS zS
    refine (BY.out _ w.heap.size (K2.stay h1 (by repeat (first | exact Below.refl _ _ | refine Below.alloc ?_ (by first | omega | (simp; done) | (simp; omega)) _ | refine Below.setCell ?_ (by first | omega | (simp; done) | (simp; omega)) _ | refine Below.drew ?_)))).mono ?_
    intro e w4 hmade
    rcases hmade with ⟨hall, b', cap', rfl, hb', hlt', hrow, hbel⟩ | ⟨hall, rfl, hbel⟩
    · have hb24 : Below w2.heap.size w2 w4 := Below.trans (by repeat (first | exact Below.refl _ _ | refine Below.alloc ?_ (by first | omega | (simp; done) | (simp; omega)) _ | refine Below.setCell ?_ (by first | omega | (simp; done) | (simp; omega)) _ | refine Below.drew ?_)) (Below.mono hbel (by first | exact Nat.le_refl _ | simp))
      obtain ⟨cS, fS, zS⟩ := blkC (blkStay HS2.out hb24)
      go_wp2
      refine bodyPost_ret (v := .tuple #[fldV X Y W H (.slice (some ⟨b', 0, none⟩) n cap'), .int .i64 0]) (by simp [results, Try.results64, go_sem, cS]) rfl ?_
      have z2 := hB2.size
      exact .inr ⟨rfl, .inl ⟨hall, b', cap', rfl, by omega, by rw [set5_size]; exact hlt', flAt_congr hrow (set5_heap w4 _ _ _ _ _ _ _ (by have := HS2.out; have := (blkC this).2.2; omega)), set5_below (hB2.trans (hb24.mono z2)) _ _ _ _ _ _ (by omega)⟩⟩
    · have hb24 : Below w2.heap.size w2 w4 := Below.trans (by repeat (first | exact Below.refl _ _ | refine Below.alloc ?_ (by first | omega | (simp; done) | (simp; omega)) _ | refine Below.setCell ?_ (by first | omega | (simp; done) | (simp; omega)) _ | refine Below.drew ?_)) (Below.mono hbel (by first | exact Nat.le_refl _ | simp))
      obtain ⟨cS, fS, zS⟩ := blkC (blkStay HS2.out hb24)
      go_wp2
      refine bodyPost_ret (v := .tuple #[fldV 0 0 0 0 (.slice none 0 0), .int .i64 3]) (by simp [results, Try.results64, go_sem, cS]) rfl ?_
      have z2 := hB2.size
      exact .inr ⟨rfl, .inr ⟨hall, rfl, set5_below (hB2.trans (hb24.mono z2)) _ _ _ _ _ _ (by omega)⟩⟩
end Go.Proofs.Ytihjemookgnafaa

/- Speckle of the program and of the reference, of a right region. -/
namespace Go.Proofs.Ytihjemookgnafaa
open Go.RowKit Fl
set_option linter.unusedVariables false

theorem unit_cases (st : Nat) : WithinCases st 0 1065353216 := by
  have hp := one_pos
  exact within_cases (st := st) vS_zero vS_one (by rw [vTop_one]; generalize one = O at *; omega) (by rw [vTop_one]; generalize one = O at *; omega)

set_option maxHeartbeats 1000000 in
theorem share_any (st : Nat) (hst : st < 4294967296) (w : World) :
    Calls Try.prog 133 #[.float .f32 st, .float .f32 1065353216] w fun e w' => e = .returned (.int .i64 (wiE st 0 1065353216)) ∧ w.alloc (flObj st) = w' := by
  have HT := Lib.hid (fun bb w => refHeight_of st hst bb w)
  rcases unit_cases st with ⟨hk, he⟩ | ⟨h2, he, c1⟩ | ⟨h2, he, c1, c2⟩ | ⟨h2, he, c1, c2⟩
  · rw [he]
    generalize fldE 1 (fun _ => st) = er at *
    have hzb : (er != 0) = true := by rcases hk with rfl | rfl <;> rfl
    clear he hk
    go_enter Try.func133, Try.ntmps133
    go_wp2_with (first | (go_at_call 26; refine (HT.out _ _ (by ((simp only [heap_alloc_get, if_true]) <;> ((repeat' split) <;> first | rfl | omega)))).mono ?_; rintro e w2 ⟨rfl, rfl⟩))
    go_ret
    exact ⟨rfl, rfl⟩
  all_goals
    rw [he]
    rw [h2] at HT
    clear he h2
    go_enter Try.func133, Try.ntmps133
    go_wp2_with (first | (go_at_call 26; refine (HT.out _ _ (by ((simp only [heap_alloc_get, if_true]) <;> ((repeat' split) <;> first | rfl | omega)))).mono ?_; rintro e w2 ⟨rfl, rfl⟩))
    go_ret
    exact ⟨rfl, rfl⟩

theorem spk_wf (n : Nat) (st : Nat) (sd X Y : Int) (W : Nat) : wf32 n (spkF st sd X Y W) := by
  intro i hi
  unfold spkF spkW
  split <;> decide

set_option maxHeartbeats 2000000 in
theorem speckle_any (X Y : Int) (W H n : Nat) (sd : Int) (st : Nat) (w : World) (h0 : checkR X Y W H = 0) (hn : n = W * H) :
    Calls Try.prog 65 #[reg X Y W H, .int .u32 sd, .float .f32 st] w (ScPost w X Y W H n (spkF st sd X Y W) (wiE st 0 1065353216)) := by
  obtain ⟨b1, b2, b3, b4, b5, b6, b7, b8, b9⟩ := checkR_zero h0
  have hnn : n = H * W := by rw [hn]; exact Nat.mul_comm _ _
  have RC := Lib.hid (fun w => checkRegion_any X Y W H w)
  have CW := Lib.hid (fun w => checkWithin_any st 0 1065353216 w)
  have MK := Lib.hid (fun W' p (hk : SCaps W' p st sd) => make_ok X Y W H n 132 _ (spkF st sd X Y W) W' enters_Speckle1 (speckle1_any X Y W H n p st sd W' hk (by omega) hnn) h0 hnn)
  rw [h0] at RC
  by_cases hz : wiE st 0 1065353216 = 0
  · rw [hz] at CW
    have HZ := Lib.hid hz
    clear hn h0 hz b1 b2 b3 b4 b5 b6 b7 b8 b9 hnn
    go_enter Try.func65, Try.ntmps65
    go_wp2_with (first | (go_at_call 15; refine (RC.out _).mono ?_; rintro e w2 ⟨rfl, hw2⟩; have hB2 : Below w.heap.size w w2 := (by rw [hw2]; exact (by repeat (first | exact Below.refl _ _ | refine Below.alloc ?_ (by first | omega | (simp; done) | (simp; omega)) _ | refine Below.setCell ?_ (by first | omega | (simp; done) | (simp; omega)) _ | refine Below.drew ?_))); have HF2 := Lib.hid (show w2.heap[w.heap.size]? = some (regObj X Y W H) by rw [hw2]; ((simp only [heap_alloc_get, heap_size_alloc, if_true]) <;> ((repeat' split) <;> first | rfl | omega))); have HM2 := Lib.hid (show w2.heap[w.heap.size + 1]? = some (u32Obj sd) by rw [hw2]; ((simp only [heap_alloc_get, heap_size_alloc, if_true]) <;> ((repeat' split) <;> first | rfl | omega))); have HC2 := Lib.hid (show w2.heap[w.heap.size + 1 + 1]? = some (flObj st) by rw [hw2]; ((simp only [heap_alloc_get, heap_size_alloc, if_true]) <;> ((repeat' split) <;> first | rfl | omega))); have HS2 := Lib.hid (show w2.heap[w.heap.size + 1 + 1 + 1]? = some (fldO 0 0 0 0 (.slice none 0 0)) by rw [hw2]; ((simp only [heap_alloc_get, heap_size_alloc, if_true]) <;> ((repeat' split) <;> first | rfl | omega))); clear hw2; obtain ⟨cF, fF, zF⟩ := blkC HF2.out; obtain ⟨cC, fC, zC⟩ := blkC HC2.out) | (go_at_call 126; refine (CW.out _).mono ?_; rintro e w3 ⟨rfl, rfl⟩))
    have K2 : SCaps w2 (w.heap.size + 1) st sd := ⟨HM2.out, HC2.out⟩
    refine (MK.out _ (w.heap.size + 1) (K2.stay (by repeat (first | exact Below.refl _ _ | refine Below.alloc ?_ (by first | omega | (simp; done) | (simp; omega)) _ | refine Below.setCell ?_ (by first | omega | (simp; done) | (simp; omega)) _ | refine Below.drew ?_)))).mono ?_
    intro e w4 hmade
    rcases hmade with ⟨hall, b', cap', rfl, hb', hlt', hrow, hbel⟩ | ⟨hall, rfl, hbel⟩
    · have hb24 : Below w2.heap.size w2 w4 := Below.trans (by repeat (first | exact Below.refl _ _ | refine Below.alloc ?_ (by first | omega | (simp; done) | (simp; omega)) _ | refine Below.setCell ?_ (by first | omega | (simp; done) | (simp; omega)) _ | refine Below.drew ?_)) (Below.mono hbel (by first | exact Nat.le_refl _ | simp))
      obtain ⟨cS, fS, zS⟩ := blkC (blkStay HS2.out hb24)
      go_wp2
      refine bodyPost_ret (v := .tuple #[fldV X Y W H (.slice (some ⟨b', 0, none⟩) n cap'), .int .i64 0]) (by simp [results, Try.results65, go_sem, cS]) rfl ?_
      have z2 := hB2.size
      exact .inr ⟨HZ.out, .inl ⟨hall, b', cap', rfl, by omega, by rw [set5_size]; exact hlt', flAt_congr hrow (set5_heap w4 _ _ _ _ _ _ _ (by have := HS2.out; have := (blkC this).2.2; omega)), set5_below (hB2.trans (hb24.mono z2)) _ _ _ _ _ _ (by omega)⟩⟩
    · have hb24 : Below w2.heap.size w2 w4 := Below.trans (by repeat (first | exact Below.refl _ _ | refine Below.alloc ?_ (by first | omega | (simp; done) | (simp; omega)) _ | refine Below.setCell ?_ (by first | omega | (simp; done) | (simp; omega)) _ | refine Below.drew ?_)) (Below.mono hbel (by first | exact Nat.le_refl _ | simp))
      obtain ⟨cS, fS, zS⟩ := blkC (blkStay HS2.out hb24)
      go_wp2
      refine bodyPost_ret (v := .tuple #[fldV 0 0 0 0 (.slice none 0 0), .int .i64 3]) (by simp [results, Try.results65, go_sem, cS]) rfl ?_
      have z2 := hB2.size
      exact .inr ⟨HZ.out, .inr ⟨hall, rfl, set5_below (hB2.trans (hb24.mono z2)) _ _ _ _ _ _ (by omega)⟩⟩
  · have hzb : (wiE st 0 1065353216 != 0) = true := by simp [hz]
    have HZ := Lib.hid hz
    generalize wiE st 0 1065353216 = er at *
    clear hn h0 hz b1 b2 b3 b4 b5 b6 b7 b8 b9 hnn MK
    go_enter Try.func65, Try.ntmps65
    go_wp2_with (first | (go_at_call 15; refine (RC.out _).mono ?_; rintro e w2 ⟨rfl, hw2⟩; have hB2 : Below w.heap.size w w2 := (by rw [hw2]; exact (by repeat (first | exact Below.refl _ _ | refine Below.alloc ?_ (by first | omega | (simp; done) | (simp; omega)) _ | refine Below.setCell ?_ (by first | omega | (simp; done) | (simp; omega)) _ | refine Below.drew ?_))); have HC2 := Lib.hid (show w2.heap[w.heap.size + 1 + 1]? = some (flObj st) by rw [hw2]; ((simp only [heap_alloc_get, heap_size_alloc, if_true]) <;> ((repeat' split) <;> first | rfl | omega))); have HS2 := Lib.hid (show w2.heap[w.heap.size + 1 + 1 + 1]? = some (fldO 0 0 0 0 (.slice none 0 0)) by rw [hw2]; ((simp only [heap_alloc_get, heap_size_alloc, if_true]) <;> ((repeat' split) <;> first | rfl | omega))); clear hw2; obtain ⟨cC, fC, zC⟩ := blkC HC2.out; obtain ⟨cS, fS, zS⟩ := blkC HS2.out) | (go_at_call 126; refine (CW.out _).mono ?_; rintro e w3 ⟨rfl, rfl⟩))
    refine bodyPost_ret (v := .tuple #[fldV 0 0 0 0 (.slice none 0 0), .int .i64 er]) (by simp [results, Try.results65, go_sem, cS]) rfl ?_
    exact .inl ⟨HZ.out, rfl, set5_below hB2 _ _ _ _ _ _ (by omega)⟩

set_option maxHeartbeats 2000000 in
theorem rspeckle_any (X Y : Int) (W H n : Nat) (sd : Int) (st : Nat) (w : World) (h0 : checkR X Y W H = 0) (hn : n = W * H) (hst : st < 4294967296) :
    Calls Try.prog 66 #[reg X Y W H, .int .u32 sd, .float .f32 st] w (ScPost w X Y W H n (spkF st sd X Y W) (wiE st 0 1065353216)) := by
  obtain ⟨b1, b2, b3, b4, b5, b6, b7, b8, b9⟩ := checkR_zero h0
  have hnn : n = H * W := by rw [hn]; exact Nat.mul_comm _ _
  have RC := Lib.hid (fun w => refCheckRegion_any X Y W H w)
  have CW := Lib.hid (fun w => share_any st hst w)
  have MK := Lib.hid (fun W' p (hk : SCaps W' p st sd) => made_any X Y W H n 134 _ (spkF st sd X Y W) W' enters_rSpeckle1 (rspeckle1_any X Y W H n p st sd W' hk (by omega) hnn) (spk_wf n st sd X Y W) (by omega) (by omega) (by omega) (by omega) (by omega) (by omega) (by omega) (by omega) hnn)
  rw [h0] at RC
  by_cases hz : wiE st 0 1065353216 = 0
  · rw [hz] at CW
    have HZ := Lib.hid hz
    clear hn h0 hz b1 b2 b3 b4 b5 b6 b7 b8 b9 hnn hst
    go_enter Try.func66, Try.ntmps66
    go_wp2_with (first | (go_at_call 16; refine (RC.out _).mono ?_; rintro e w2 ⟨rfl, hw2⟩; have hB2 : Below w.heap.size w w2 := (by rw [hw2]; exact (by repeat (first | exact Below.refl _ _ | refine Below.alloc ?_ (by first | omega | (simp; done) | (simp; omega)) _ | refine Below.setCell ?_ (by first | omega | (simp; done) | (simp; omega)) _ | refine Below.drew ?_))); have HF2 := Lib.hid (show w2.heap[w.heap.size]? = some (regObj X Y W H) by rw [hw2]; ((simp only [heap_alloc_get, heap_size_alloc, if_true]) <;> ((repeat' split) <;> first | rfl | omega))); have HM2 := Lib.hid (show w2.heap[w.heap.size + 1]? = some (u32Obj sd) by rw [hw2]; ((simp only [heap_alloc_get, heap_size_alloc, if_true]) <;> ((repeat' split) <;> first | rfl | omega))); have HC2 := Lib.hid (show w2.heap[w.heap.size + 1 + 1]? = some (flObj st) by rw [hw2]; ((simp only [heap_alloc_get, heap_size_alloc, if_true]) <;> ((repeat' split) <;> first | rfl | omega))); have HS2 := Lib.hid (show w2.heap[w.heap.size + 1 + 1 + 1]? = some (fldO 0 0 0 0 (.slice none 0 0)) by rw [hw2]; ((simp only [heap_alloc_get, heap_size_alloc, if_true]) <;> ((repeat' split) <;> first | rfl | omega))); clear hw2; obtain ⟨cF, fF, zF⟩ := blkC HF2.out; obtain ⟨cC, fC, zC⟩ := blkC HC2.out) | (go_at_call 133; refine (CW.out _).mono ?_; rintro e w3 ⟨rfl, rfl⟩))
    have K2 : SCaps w2 (w.heap.size + 1) st sd := ⟨HM2.out, HC2.out⟩
    refine (MK.out _ (w.heap.size + 1) (K2.stay (by repeat (first | exact Below.refl _ _ | refine Below.alloc ?_ (by first | omega | (simp; done) | (simp; omega)) _ | refine Below.setCell ?_ (by first | omega | (simp; done) | (simp; omega)) _ | refine Below.drew ?_)))).mono ?_
    intro e w4 hmade
    rcases hmade with ⟨hall, b', cap', rfl, hb', hlt', hrow, hbel⟩ | ⟨hall, rfl, hbel⟩
    · have hb24 : Below w2.heap.size w2 w4 := Below.trans (by repeat (first | exact Below.refl _ _ | refine Below.alloc ?_ (by first | omega | (simp; done) | (simp; omega)) _ | refine Below.setCell ?_ (by first | omega | (simp; done) | (simp; omega)) _ | refine Below.drew ?_)) (Below.mono hbel (by first | exact Nat.le_refl _ | simp))
      obtain ⟨cS, fS, zS⟩ := blkC (blkStay HS2.out hb24)
      have HB := Lib.hid (show w2.heap.size ≤ b' by (simp only [heap_size_alloc] at hb'; omega))
      clear hb'
      go_wp2
      refine bodyPost_ret (v := .tuple #[fldV X Y W H (.slice (some ⟨b', 0, none⟩) n cap'), .int .i64 0]) (by simp [results, Try.results66, go_sem, cS]) rfl ?_
      have z2 := hB2.size
      have hb' := HB.out
      exact .inr ⟨HZ.out, .inl ⟨hall, b', cap', rfl, by omega, by rw [set5_size]; exact hlt', flAt_congr hrow (set5_heap w4 _ _ _ _ _ _ _ (by have := HS2.out; have := (blkC this).2.2; omega)), set5_below (hB2.trans (hb24.mono z2)) _ _ _ _ _ _ (by omega)⟩⟩
    · have hb24 : Below w2.heap.size w2 w4 := Below.trans (by repeat (first | exact Below.refl _ _ | refine Below.alloc ?_ (by first | omega | (simp; done) | (simp; omega)) _ | refine Below.setCell ?_ (by first | omega | (simp; done) | (simp; omega)) _ | refine Below.drew ?_)) (Below.mono hbel (by first | exact Nat.le_refl _ | simp))
      obtain ⟨cS, fS, zS⟩ := blkC (blkStay HS2.out hb24)
      go_wp2
      refine bodyPost_ret (v := .tuple #[fldV 0 0 0 0 (.slice none 0 0), .int .i64 3]) (by simp [results, Try.results66, go_sem, cS]) rfl ?_
      have z2 := hB2.size
      exact .inr ⟨HZ.out, .inr ⟨hall, rfl, set5_below (hB2.trans (hb24.mono z2)) _ _ _ _ _ _ (by omega)⟩⟩
  · have hzb : (wiE st 0 1065353216 != 0) = true := by simp [hz]
    have HZ := Lib.hid hz
    generalize wiE st 0 1065353216 = er at *
    clear hn h0 hz b1 b2 b3 b4 b5 b6 b7 b8 b9 hnn MK hst
    go_enter Try.func66, Try.ntmps66
    go_wp2_with (first | (go_at_call 16; refine (RC.out _).mono ?_; rintro e w2 ⟨rfl, hw2⟩; have hB2 : Below w.heap.size w w2 := (by rw [hw2]; exact (by repeat (first | exact Below.refl _ _ | refine Below.alloc ?_ (by first | omega | (simp; done) | (simp; omega)) _ | refine Below.setCell ?_ (by first | omega | (simp; done) | (simp; omega)) _ | refine Below.drew ?_))); have HC2 := Lib.hid (show w2.heap[w.heap.size + 1 + 1]? = some (flObj st) by rw [hw2]; ((simp only [heap_alloc_get, heap_size_alloc, if_true]) <;> ((repeat' split) <;> first | rfl | omega))); have HS2 := Lib.hid (show w2.heap[w.heap.size + 1 + 1 + 1]? = some (fldO 0 0 0 0 (.slice none 0 0)) by rw [hw2]; ((simp only [heap_alloc_get, heap_size_alloc, if_true]) <;> ((repeat' split) <;> first | rfl | omega))); clear hw2; obtain ⟨cC, fC, zC⟩ := blkC HC2.out; obtain ⟨cS, fS, zS⟩ := blkC HS2.out) | (go_at_call 133; refine (CW.out _).mono ?_; rintro e w3 ⟨rfl, hw3⟩; have hb23 : Below w2.heap.size w2 w3 := (by rw [← hw3]; exact (Below.refl _ _).alloc (Nat.le_refl _) _); clear hw3; obtain ⟨cS3, fS3, zS3⟩ := blkC (blkStay HS2.out hb23)))
    refine bodyPost_ret (v := .tuple #[fldV 0 0 0 0 (.slice none 0 0), .int .i64 er]) (by simp [results, Try.results66, go_sem, cS3]) rfl ?_
    exact .inl ⟨HZ.out, rfl, set5_below (hB2.trans (hb23.mono hB2.size)) _ _ _ _ _ _ (by omega)⟩
end Go.Proofs.Ytihjemookgnafaa

/- DithersMatch: Dither and Speckle answer as the references do, for every field that fit makes, any seed and any single. -/
namespace Go.Proofs.Ytihjemookgnafaa
open Go.RowKit Fl
set_option linter.unusedVariables false

theorem al_below' (w : World) (o : Obj) : Below w.heap.size w (w.alloc o) := (Below.refl _ _).alloc (Nat.le_refl _) o

set_option maxHeartbeats 4000000 in
theorem dithersMatch_any (X0 Y0 W0 H0 : Int) (sl : Value) (sd : Int) (st : Nat) (w : World) (hst : st < 4294967296)
    (hfit : ∀ W', Below w.heap.size w W' → Calls Try.prog 24 #[fldV X0 Y0 W0 H0 sl] W' (FitPost W')) :
    Calls Try.prog 12 #[fldV X0 Y0 W0 H0 sl, .int .u32 sd, .float .f32 st] w fun e w' => e = .returned (.bool true) ∧ Below w.heap.size w w' := by
  have HF := Lib.hid hfit
  clear hfit
  go_enter Try.func12, Try.ntmps12
  go_wp2_with (first | (go_at_call 14; refine (landed_any _).mono ?_; rintro e w1 ⟨rfl, hb1⟩; have HA1 := Lib.hid (blkStay (b := w.heap.size) (o := fldO X0 Y0 W0 H0 sl) (heap_alloc_new w _) hb1); have hB1 : Below w.heap.size w w1 := Below.trans (by repeat (first | exact Below.refl _ _ | refine Below.alloc ?_ (by first | omega | (simp; done) | (simp; omega)) _ | refine Below.setCell ?_ (by first | omega | (simp; done) | (simp; omega)) _ | refine Below.drew ?_)) (Below.mono hb1 (by first | omega | (simp; done) | (simp; omega))); obtain ⟨cA, fA, zA⟩ := blkC HA1.out; clear hb1))
  refine (HF.out w1 hB1).mono ?_
  rintro e w2 ⟨X, Y, W', H', b, n, rfl, x1, x2, y1, y2, u1, u2, h1, h2, hn, hn1, hn2, hlo, hrow, hb2⟩
  obtain ⟨W, rfl⟩ : ∃ W : Nat, W' = W := ⟨W'.toNat, by omega⟩
  obtain ⟨H, rfl⟩ : ∃ H : Nat, H' = H := ⟨H'.toNat, by omega⟩
  obtain ⟨v, fv, wv, hv, bv⟩ := fit_fn hrow
  have h0 := fit_check x1 x2 y1 y2 u1 u2 h1 h2 hn hn2
  have hnn : n = W * H := by
    have : (n : Int) = ((W * H : Nat) : Int) := by rw [hn]; simp
    omega
  have HA2 := Lib.hid (blkStay HA1.out hb2)
  have hB2 : Below w.heap.size w w2 := hB1.trans (hb2.mono hB1.size)
  obtain ⟨cA, fA, zA⟩ := blkC HA2.out
  have S1 := Lib.hid (fun W' (hf : FlAt W' b 0 n v) => dither_any X Y W H n b n v sd st W' h0 hnn hf hv)
  have S2 := Lib.hid (fun W' (hf : FlAt W' b 0 n v) => rdither_any X Y W H n b n v sd st W' h0 hnn hf hv hst)
  have C1 := Lib.hid (fun W' => speckle_any X Y W H n sd st W' h0 hnn)
  have C2 := Lib.hid (fun W' => rspeckle_any X Y W H n sd st W' h0 hnn hst)
  clear x1 x2 y1 y2 u1 u2 h1 h2 hn h0 hnn hrow hv wv
  have hbp : b ≠ w.heap.size := by have := hB1.size; omega
  have HA3 := Lib.hid (set5_self (.int .i64 X) (.int .i64 Y) (.int .i64 W) (.int .i64 H) (.slice (some ⟨b, 0, none⟩) n n) HA2.out)
  have F3 := Lib.hid (flAt_congr fv (set5_heap w2 w.heap.size b (.int .i64 X) (.int .i64 Y) (.int .i64 W) (.int .i64 H) (.slice (some ⟨b, 0, none⟩) n n) hbp))
  have hB3 := set5_below hB2 w.heap.size (.int .i64 X) (.int .i64 Y) (.int .i64 W) (.int .i64 H) (.slice (some ⟨b, 0, none⟩) n n) (Nat.le_refl _)
  clear hb2
  go_wp2_with fail
  refine (S1.out _ F3.out).mono ?_
  intro e w4 hp
  obtain ⟨x1, y1, u1, h1, p1, l1, q1, k1, rfl, r1, hb4⟩ := made_res hp
  have hx := set5_size w2 w.heap.size (.int .i64 X) (.int .i64 Y) (.int .i64 W) (.int .i64 H) (.slice (some ⟨b, 0, none⟩) n n)
  have F4 := Lib.hid (flAt_congr F3.out (hb4.block b (by rw [hx]; exact bv)))
  have HA4 := Lib.hid (blkStay HA3.out hb4)
  have hB4 := hB3.trans (hb4.mono hB3.size)
  have bv4 : b < w4.heap.size := by have := hb4.size; rw [hx] at this; omega
  clear hp
  rw [hx] at r1
  clear hb4 HA3 F3 hB3 hx cA fA zA HA2 hB2 hlo fv bv
  obtain ⟨cA, fA, zA⟩ := blkC HA4.out
  -- the reference's Scale
  have hb5 := al_below' w4 (fldO x1 y1 u1 h1 (.slice p1 l1 q1))
  have F5 := Lib.hid (flAt_congr F4.out (heap_alloc_old w4 (fldO x1 y1 u1 h1 (.slice p1 l1 q1)) bv4))
  have HA5 := Lib.hid ((heap_alloc_old w4 (fldO x1 y1 u1 h1 (.slice p1 l1 q1)) zA).trans HA4.out)
  have HQ5 := Lib.hid (heap_alloc_new w4 (fldO x1 y1 u1 h1 (.slice p1 l1 q1)))
  have R5 := Lib.hid (r1.stay hb5)
  go_wp2_with fail
  refine (S2.out _ F5.out).mono ?_
  intro e w6 hp
  obtain ⟨x2, y2, u2, h2, p2, l2, q2, k2, rfl, r2, hb6⟩ := made_res hp
  have hb46 := hb5.trans (hb6.mono hb5.size)
  have F6 := Lib.hid (flAt_congr F5.out (hb6.block b (by have := hb5.size; omega)))
  have HA6 := Lib.hid (blkStay HA5.out hb6)
  have HQ6 := Lib.hid (blkStay HQ5.out hb6)
  have R6 := Lib.hid (R5.out.stay hb6)
  have hB6 := hB4.trans (hb46.mono hB4.size)
  have bv6 : b < w6.heap.size := by have := hb46.size; omega
  clear r1 R5 HQ5 HA5 F5 hb5 hb46 hp F4 HA4 hb6 cA fA
  obtain ⟨cA, fA, zA6⟩ := blkC HA6.out
  obtain ⟨cQ, fQ, zQ6⟩ := blkC HQ6.out
  -- same
  have hb7 := al_below' w6 (fldO x2 y2 u2 h2 (.slice p2 l2 q2))
  have F7 := Lib.hid (flAt_congr F6.out (heap_alloc_old w6 (fldO x2 y2 u2 h2 (.slice p2 l2 q2)) bv6))
  have HA7 := Lib.hid ((heap_alloc_old w6 (fldO x2 y2 u2 h2 (.slice p2 l2 q2)) zA6).trans HA6.out)
  have HQ7 := Lib.hid ((heap_alloc_old w6 (fldO x2 y2 u2 h2 (.slice p2 l2 q2)) zQ6).trans HQ6.out)
  have HR7 := Lib.hid (heap_alloc_new w6 (fldO x2 y2 u2 h2 (.slice p2 l2 q2)))
  have R7 := Lib.hid (R6.out.stay hb7)
  have T7 := Lib.hid (r2.stay hb7)
  go_wp2_with fail
  refine (same_res hn1 (by omega) R7.out T7.out).mono ?_
  rintro e w8 ⟨rfl, hb8⟩
  have hb68 := hb7.trans (hb8.mono hb7.size)
  have F8 := Lib.hid (flAt_congr F7.out (hb8.block b (by have := hb7.size; omega)))
  have HA8 := Lib.hid (blkStay HA7.out hb8)
  have HQ8 := Lib.hid (blkStay HQ7.out hb8)
  have HR8 := Lib.hid (blkStay HR7.out hb8)
  have hB8 := hB6.trans (hb68.mono hB6.size)
  have bv8 : b < w8.heap.size := by have := hb68.size; omega
  clear R6 r2 R7 T7 HR7 HQ7 HA7 F7 hb7 hb8 hb68 HQ6 HA6 F6 cA fA cQ fQ
  obtain ⟨cA, fA, zA8⟩ := blkC HA8.out
  obtain ⟨cQ, fQ, zQ8⟩ := blkC HQ8.out
  obtain ⟨cR, fR, zR8⟩ := blkC HR8.out
  go_wp2_with fail
  refine (C1.out _).mono ?_
  intro e w9 hp
  obtain ⟨x3, y3, u3, h3, p3, l3, q3, k3, rfl, r3, hb9⟩ := made_res hp
  have F9 := Lib.hid (flAt_congr F8.out (hb9.block b bv8))
  have HA9 := Lib.hid (blkStay HA8.out hb9)
  have HQ9 := Lib.hid (blkStay HQ8.out hb9)
  have HR9 := Lib.hid (blkStay HR8.out hb9)
  have hB9 := hB8.trans (hb9.mono hB8.size)
  have bv9 : b < w9.heap.size := by have := hb9.size; omega
  clear cA fA cQ fQ cR fR hp F8 HA8 HQ8 HR8
  obtain ⟨cA, fA, zA9⟩ := blkC HA9.out
  obtain ⟨cQ, fQ, zQ9⟩ := blkC HQ9.out
  obtain ⟨cR, fR, zR9⟩ := blkC HR9.out
  -- the reference's Clamp
  have hx := set5_size w9 w4.heap.size (.int .i64 x3) (.int .i64 y3) (.int .i64 u3) (.int .i64 h3) (.slice p3 l3 q3)
  have F10 := Lib.hid (flAt_congr F9.out (set5_heap w9 w4.heap.size b (.int .i64 x3) (.int .i64 y3) (.int .i64 u3) (.int .i64 h3) (.slice p3 l3 q3) (by omega)))
  have HQ10 := Lib.hid (set5_self (.int .i64 x3) (.int .i64 y3) (.int .i64 u3) (.int .i64 h3) (.slice p3 l3 q3) HQ9.out)
  have HR10 := Lib.hid ((set5_heap w9 w4.heap.size w6.heap.size (.int .i64 x3) (.int .i64 y3) (.int .i64 u3) (.int .i64 h3) (.slice p3 l3 q3) (by omega)).trans HR9.out)
  have R10 := Lib.hid (r3.heap (w' := set5 w9 w4.heap.size (.int .i64 x3) (.int .i64 y3) (.int .i64 u3) (.int .i64 h3) (.slice p3 l3 q3)) (p := w4.heap.size) (by rw [hx]; exact Nat.le_refl _) (by omega) (fun k hk _ => set5_heap w9 w4.heap.size k (.int .i64 x3) (.int .i64 y3) (.int .i64 u3) (.int .i64 h3) (.slice p3 l3 q3) hk))
  have hB10 := set5_below hB9 w4.heap.size (.int .i64 x3) (.int .i64 y3) (.int .i64 u3) (.int .i64 h3) (.slice p3 l3 q3) (by omega)
  go_wp2_with fail
  refine (C2.out _).mono ?_
  intro e w11 hp
  obtain ⟨x4, y4, u4, h4, p4, l4, q4, k4, rfl, r4, hb11⟩ := made_res hp
  rw [hx] at r4
  have HQ11 := Lib.hid (blkStay HQ10.out hb11)
  have HR11 := Lib.hid (blkStay HR10.out hb11)
  have R11 := Lib.hid (R10.out.stay hb11)
  have hB11 := hB10.trans (hb11.mono hB10.size)
  have z11 : w9.heap.size ≤ w11.heap.size := by have := hb11.size; rw [hx] at this; exact this
  have z98 := hb9.size
  clear cA fA cQ fQ cR fR hp F10 HQ10 HR10 R10 r3 hb11 hb9
  obtain ⟨cQ, fQ, zQ11⟩ := blkC HQ11.out
  obtain ⟨cR, fR, zR11⟩ := blkC HR11.out
  have hx2 := set5_size w11 w6.heap.size (.int .i64 x4) (.int .i64 y4) (.int .i64 u4) (.int .i64 h4) (.slice p4 l4 q4)
  have R12 := Lib.hid (R11.out.heap (w' := set5 w11 w6.heap.size (.int .i64 x4) (.int .i64 y4) (.int .i64 u4) (.int .i64 h4) (.slice p4 l4 q4)) (p := w6.heap.size) (by rw [hx2]; exact Nat.le_refl _) (by omega) (fun k hk _ => set5_heap w11 w6.heap.size k (.int .i64 x4) (.int .i64 y4) (.int .i64 u4) (.int .i64 h4) (.slice p4 l4 q4) hk))
  have T12 := Lib.hid (r4.heap (w' := set5 w11 w6.heap.size (.int .i64 x4) (.int .i64 y4) (.int .i64 u4) (.int .i64 h4) (.slice p4 l4 q4)) (p := w6.heap.size) (by rw [hx2]; exact Nat.le_refl _) (by omega) (fun k hk _ => set5_heap w11 w6.heap.size k (.int .i64 x4) (.int .i64 y4) (.int .i64 u4) (.int .i64 h4) (.slice p4 l4 q4) hk))
  have hB12 := set5_below hB11 w6.heap.size (.int .i64 x4) (.int .i64 y4) (.int .i64 u4) (.int .i64 h4) (.slice p4 l4 q4) (by omega)
  go_wp2_with fail
  refine (same_res hn1 (by omega) R12.out T12.out).mono ?_
  rintro e w13 ⟨rfl, hb13⟩
  have hB13 := hB12.trans (hb13.mono hB12.size)
  clear hb13 hB12
  go_wp2
  go_ret
  exact ⟨rfl, hB13⟩

end Go.Proofs.Ytihjemookgnafaa

/- A field that came in, opened: four integers, and a slice of singles that is empty or known cell by cell. -/
namespace Go.Proofs.Ytihjemookgnafaa
open Go.ChangeShapes Go.WideShapes Go.ChangeAt Go.RowKit Go.Joins Fl

section
variable {H : Type} {enc : TypeId × Value → H} {w : World} {base : Nat} {spare : Nat → Bool} {held : Bool}

theorem trod_f32 {P : Program} {t : TypeId} {fuel : Nat} {v : Value} {y : DataW H × List MemPlace} (ht : P.underlying t = some (.float .f32)) (h : DataW.trod enc P w base spare held fuel t [v] = some y) : ∃ b, v = .float .f32 b ∧ b < 4294967296 := by
  cases fuel with
  | zero => simp [DataW.trod] at h
  | succ n =>
    unfold DataW.trod at h
    rw [ht] at h
    cases v <;> simp at h
    rename_i k b
    obtain ⟨⟨rfl, hw⟩, _⟩ := h
    exact ⟨b, rfl, by simpa [Lit.wf] using hw⟩

theorem array5 {α : Type} {cs : Array α} (h : cs.size = 5) : ∃ c0 c1 c2 c3 c4, cs = #[c0, c1, c2, c3, c4] := by
  obtain ⟨l⟩ := cs
  match l, h with
  | [c0, c1, c2, c3, c4], _ => exact ⟨c0, c1, c2, c3, c4, rfl⟩

theorem flAt_congr' {w w' : World} {b off n : Nat} {f : Nat → Nat} (h : FlAt w b off n f) (e : w'.heap[b]? = w.heap[b]?) : FlAt w' b off n f := fun i hi => by
  rw [← h i hi]; exact World.cell?_of_block (w := w) (a := ⟨b, off + i, none⟩) e

/-- What a slice of singles is: empty, or known cell by cell. -/
def SlF (w : World) (s : Value) : Prop :=
  (∃ a cap, s = .slice a 0 cap) ∨ ∃ b off len cap x, s = .slice (some ⟨b, off, none⟩) len cap ∧ 0 < len ∧ len ≤ 9223372036854775807 ∧ FlAt w b off len x ∧ wf32 len x

theorem open_singles {t e : TypeId} {fuel : Nat} {cs : List Value} {y : DataW H × List MemPlace} (ht : Try.prog.underlying t = some (.slice e)) (he : Try.prog.underlying e = some (.float .f32)) (hc : Try.prog.cellsOf e = 1)
    (h : DataW.trod enc Try.prog w base spare held fuel t cs = some y) : ∃ s, cs = [s] ∧ SlF w s := by
  rcases Go.Deep.open_slice1 ht hc h with ⟨rfl, _⟩ | ⟨a, len, cap, m, n, V, D, Pl, rfl, hb, hl, hm, hmm, _, hx⟩
  · exact ⟨_, rfl, .inl ⟨none, 0, rfl⟩⟩
  · refine ⟨_, rfl, ?_⟩
    rcases Nat.eq_zero_or_pos len with z | z
    · subst z; exact .inl ⟨_, _, rfl⟩
    · have hlm : len ≤ m := by rw [hmm]; split <;> omega
      have h0 := (hx 0 (by omega)).1
      obtain ⟨b, off, spot⟩ := a
      have hspot : spot = none := by simpa [Addr.add] using World.cell?_spot h0
      subst hspot
      have hv : ∀ i, i < len → ∃ x, V i = .float .f32 x ∧ x < 4294967296 := fun i hi => trod_f32 he (hx i (by omega)).2
      refine .inr ⟨b, off, len, cap, fun i => match V i with | .float _ x => x | _ => 0, rfl, z, ?_, fun i hi => ?_, fun i hi => ?_⟩
      · exact Nat.le_trans hl (Nat.le_trans hm (by decide))
      · have h1 := (hx i (by omega)).1
        obtain ⟨x, e1, _⟩ := hv i hi
        rw [← Go.WideShapes.add_plain, h1]
        simp only [e1]
      · obtain ⟨x, e1, e2⟩ := hv i hi
        simp only [e1]; exact e2

theorem cellsF : Try.prog.cellsOf 36 = 5 := by kernel_rfl
theorem cellsR : Try.prog.cellsOf 23 = 4 := by kernel_rfl
theorem cellsS : Try.prog.cellsOf 34 = 1 := by kernel_rfl
theorem cells1 : Try.prog.cellsOf 37 = 1 := by kernel_rfl
theorem cellsI : Try.prog.cellsOf 3 = 1 := by kernel_rfl

set_option maxRecDepth 100000 in
theorem open_field {r : Reach} {b0 : Nat} {v : Value} {d : DataW H} {p : List MemPlace} (hv : Value.okWide Try.prog w r b0 36 v) (h : DataW.Trod enc Try.prog w base spare held 36 v d p) :
    ∃ X Y W' H' : Int, ∃ s, v = fldV X Y W' H' s ∧ SlF w s := by
  obtain ⟨cs, rfl, hsz⟩ := okWide_struct Try.underlying36 hv
  obtain ⟨c0, c1, c2, c3, c4, rfl⟩ := array5 (hsz.trans cellsF)
  obtain ⟨fuel, hf⟩ := h
  obtain ⟨y0, y1, n, _, _, h0, h1⟩ := trod_struct2 Try.underlying36 hf
  rw [cellsR] at h0
  rw [cellsS] at h1
  obtain ⟨s, e4, hs⟩ := open_singles Try.underlying34 Try.underlying37 cells1 h1
  obtain ⟨z0, z1, z2, z3, n2, _, _, g0, g1, g2, g3⟩ := trod_struct4 Try.underlying23 h0
  rw [cellsI] at g0 g1 g2 g3
  obtain ⟨x0, e0, _, _⟩ := DataW.trod_int Try.underlying3 g0
  obtain ⟨x1, e1, _, _⟩ := DataW.trod_int Try.underlying3 g1
  obtain ⟨x2, e2, _, _⟩ := DataW.trod_int Try.underlying3 g2
  obtain ⟨x3, e3, _, _⟩ := DataW.trod_int Try.underlying3 g3
  simp [Value.cells] at e0 e1 e2 e3 e4
  subst e0 e1 e2 e3 e4
  exact ⟨x0, x1, x2, x3, _, rfl, hs⟩
end

theorem SlF.stay {w w' : World} {s : Value} (h : SlF w s) (hb : Below w.heap.size w w') : SlF w' s := by
  rcases h with h | ⟨b, off, len, cap, x, rfl, h1, h2, h3, h4⟩
  · exact .inl h
  · exact .inr ⟨b, off, len, cap, x, rfl, h1, h2, flAt_congr' h3 (hb.block _ (World.block_lt_of_cell? w _ (h3 0 h1))), h4⟩

/-- fit, of whatever slice. -/
theorem fit_any {X Y W H : Int} {s : Value} {w : World} (h : SlF w s) : Calls Try.prog 24 #[fldV X Y W H s] w (FitPost w) := by
  rcases h with ⟨a, cap, rfl⟩ | ⟨b, off, len, cap, x, rfl, h1, h2, h3, h4⟩
  · exact fit_none X Y W H a cap w
  · exact fit_some X Y W H b off len cap x w h1 h2 h3 h4

theorem laidOut : laidOutB Try.prog = true := by kernel_rfl
end Go.Proofs.Ytihjemookgnafaa

/- DithersMatch, for every field, every seed and every single: what Dither and Speckle answer is what the references answer, bit by bit. No condition. -/
namespace Go.Proofs.Ytihjemookgnafaa.dithersMatch
open Go.ChangeShapes Go.WideShapes Go.ChangeAt Go.RowKit Go.Joins
set_option linter.unusedVariables false

theorem own : ownKnob Try.prog.godebug = none := by kernel_rfl

set_option maxRecDepth 100000 in
theorem lifted (os : Os) (started : os.Started) (H : Type) (enc : TypeId × Value → H) :
    ReturnsInHanded {} Try.checked os 12 .any (Rows.dithersMatchSpec.pre6 enc Try.prog Try.f12 Rows.dithersMatchRow.domain false) (Rows.dithersMatchSpec.post enc Try.prog Try.f12 false true false false) := by
  refine returnsInHanded_of_change (C := Try.checked) own started (by kernel_rfl) Try.func12
    (ChangeSpec.witness6 (enc := enc) (C := Try.checked) false ⟨#[], #[fldV 0 0 0 0 (.slice none 0 0), .int .u32 0, .float .f32 0], []⟩ 8 (by kernel_rfl) (by kernel_rfl) (by kernel_rfl) (by kernel_rfl)) ?_
  intro W base args ds gs before hval0 hW hcnd _
  have hval : ∀ (j : Nat) t v, Try.f12.params[j]? = some t → args[j]? = some v → Value.okWide Try.prog W .any base t v := hval0
  have hW' := hW
  have hplt : ∀ x ∈ before, x.block < W.heap.size := fun x hx => by simpa using hW'.lt x hx
  obtain ⟨p, q, hA0, hV, rfl, hfz, hnd⟩ := hW
  have hA : DataW.TrodAll enc Try.prog W 0 (fun _ => true) true Try.f12.params.toList args.toList ds p := hA0
  rw [Try.params12] at hA hval
  obtain ⟨v0, vs0, d0, ds0, p0, q0, hargs, rfl, rfl, h0, r0⟩ := trodAll_cons hA
  obtain ⟨v1, vs1, d1, ds1, p1, q1, rfl, rfl, rfl, h1, r1⟩ := trodAll_cons r0
  obtain ⟨v2, vs2, d2, ds2, p2, q2, rfl, rfl, rfl, h2, r2⟩ := trodAll_cons r1
  obtain ⟨rfl, rfl, rfl⟩ := trodAll_nil r2
  obtain rfl : args = #[v0, v1, v2] := by cases args; simp_all
  obtain ⟨rfl, rfl⟩ := trodVars_none hV
  obtain ⟨X, Y, W0, H0, s, rfl, hs⟩ := open_field (hval 0 36 v0 rfl rfl) h0
  obtain ⟨m, rfl, rfl, rfl, wm⟩ := open_int Try.underlying62 (hval 1 62 v1 rfl rfl) h1
  obtain ⟨c, rfl, rfl, rfl, wc⟩ := open_float Try.underlying37 (hval 2 37 v2 rfl rfl) h2
  have lc : c < 4294967296 := by simpa [Lit.wf] using wc
  have hlt : ∀ x ∈ p0, x.block < W.heap.size := fun x hx => hplt x (by simp [hx])
  clear hA0 hval0 hplt
  simp only [List.append_nil] at hW'
  refine (dithersMatch_any X Y W0 H0 s m c W lc (fun W' hb => fit_any (hs.stay hb))).mono fun e W' ⟨he, hb⟩ => ?_
  subst he
  exact ⟨_, rfl, _, _, _, [], _, [], hW', trodAll_cons_mk (shut_bool Try.underlying4 _) trodAll_mk0, trodAll_cons_mk (Below.trod laidOut (by kernel_rfl) (of_decide_eq_true (by kernel_rfl)) h0 hb hlt) (trodAll_cons_mk (shut_int Try.underlying62 wm) (trodAll_cons_mk (shut_float Try.underlying37 wc) trodAll_mk0)), rfl, hb.frame _, fun h => by cases h⟩

theorem over : Rows.dithersMatchRow.holds Try.pinned (OpenSpec.ofChange Rows.dithersMatchSpec) :=
  OpenClaim.holds_of_wide 12 Try.f12 rfl rfl rfl rfl rfl rfl rfl ⟨rfl, rfl, rfl, rfl, rfl⟩ rfl rfl rfl rfl rfl (by kernel_rfl) Try.func12 (by kernel_rfl)
    (of_decide_eq_true (by kernel_rfl)) (by unfold Func.isWrapper; rw [if_neg (of_decide_eq_false (by kernel_rfl))]; exact ⟨rfl, rfl⟩)
    (fun os started H enc _ => lifted os started H enc)

theorem proved : Rows.DithersMatchSaid :=
  over
#print axioms proved
end Go.Proofs.Ytihjemookgnafaa.dithersMatch
