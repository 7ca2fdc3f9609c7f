/- Lemmas and contracts for the proof that the last text of this claim holds. -/
import Derived.Test.YtihjemookgnafaaRsmJB
import Derived.Deep.RegionHeld3

/- What many laws want: two singles as a list, what a function that makes a field answers, the number of a cell. -/
namespace Go.Proofs.Ytihjemookgnafaa
open Go.RowKit Fl
set_option linter.unusedVariables false

theorem heap_alloc_new (w : World) (o : Obj) : (w.alloc o).heap[w.heap.size]? = some o := by rw [heap_alloc_get, if_pos rfl]

/-- A single in a block of its own. -/
abbrev flObj (x : Nat) : Obj := .cells #[.float .f32 x] 37

theorem below_drewN (w : World) (k : Nat) : Below w.heap.size w (w.drewN k) := by
  induction k with
  | zero => exact Below.refl _ _
  | succ k ih => exact ih.drew

/-- Two singles, as a list. -/
def two (m c : Nat) (i : Nat) : Nat := if i = 0 then m else c
theorem flAt_two {w : World} {b m c : Nat} (h : w.heap[b]? = some (.cells #[.float .f32 m, .float .f32 c] 37)) : FlAt w b 0 2 (two m c) := by
  intro i hi
  rw [Nat.zero_add, (blkC h).1 i]
  have : i = 0 ∨ i = 1 := by omega
  rcases this with rfl | rfl <;> rfl
theorem two_hgt {m c : Nat} (h : fldE 2 (two m c) = 0) : hgtB m = true ∧ hgtB c = true := by
  have := allB_iff.1 (fldE_zero.1 h)
  exact ⟨this 0 (by omega), this 1 (by omega)⟩

/-- What Scale and Clamp answer: the error of their singles, another error, or a field that is made. -/
def ScPost (w : World) (X Y W H : Int) (n : Nat) (f : Nat → Nat) (er : Int) (e : Ending) (w' : World) : Prop :=
  (er ≠ 0 ∧ e = .returned (.tuple #[fldV 0 0 0 0 (.slice none 0 0), .int .i64 er]) ∧ Below w.heap.size w w') ∨ (er = 0 ∧ MadePost w X Y W H n f e w')

theorem num_lt {X Y x y : Int} {W H n i : Nat} (hW1 : 1 ≤ W) (h1 : X ≤ x) (h2 : x < X + W) (h4 : y < Y + H) (h5 : (i : Int) = (y - Y) * W + (x - X)) (hnn : n = H * W) : i < n := by
  have a : (y - Y) * W ≤ ((H : Int) - 1) * W := Int.mul_le_mul_of_nonneg_right (by omega) (by omega)
  have b : ((H : Int) - 1) * W = (n : Int) - W := by rw [hnn, Int.sub_mul]; simp
  omega

theorem f32f : FloatKind.f32.format = Ieee.single := rfl
theorem one_vTop : (one : Int) ≤ vTop := by
  obtain ⟨J, hJ⟩ : ∃ J : Nat, J = 1074 := ⟨_, rfl⟩
  rw [one_pow hJ]; unfold vTop
  rw [Nat.one_mul]
  exact Int.ofNat_le.2 (Nat.pow_le_pow_right (by omega) (by omega))

end Go.Proofs.Ytihjemookgnafaa

/- Contracts: Divide of the program, quotient of the reference; the share of a rest. -/
namespace Go.Proofs.Ytihjemookgnafaa
open Go.RowKit Fl
set_option linter.unusedVariables false

/-- The share of a rest, as a word. -/
def shW (r b : Int) : Nat := (floatBits .quo .f32 (floatOfInt .f32 r) (floatOfInt .f32 b)).getD 0
/-- int_val, up to 2 ^ 24 itself. -/
theorem int_val' {n : Int} (h : n.natAbs ≤ 16777216) : vS (Go.floatOfInt .f32 n) = some (n * (one : Int)) := by
  rcases Nat.lt_or_ge n.natAbs 16777216 with c | c
  · exact (int_val c).1
  · obtain ⟨j, hj⟩ : ∃ j : Nat, j = 1074 := ⟨_, rfl⟩
    have e : 2 ^ (25 + j) = 33554432 * one := by rw [one_pow hj, Nat.pow_add]
    have p := one_pos
    have hn : (n * (one : Int)).natAbs < 2 ^ (25 + j) := by
      rw [Int.natAbs_mul, Int.natAbs_natCast, e]
      exact Nat.mul_lt_mul_of_pos_right (by omega) p
    have v := vS_int hn (by omega)
    obtain ⟨t, ht⟩ : ∃ t, t = n / 2 := ⟨_, rfl⟩
    have ht2 : n = t * 2 := by omega
    rw [rdS_exact t (j + 1) (by omega) (by omega) (by rw [ht2, one_pow hj, Nat.pow_succ, Int.natCast_mul, Int.mul_assoc, Int.mul_comm 2]; rfl)] at v
    exact v
theorem sh_parts {r b : Int} (r0 : 0 ≤ r) (r1 : r < b) (b2 : b ≤ 16777216) : floatBits .quo .f32 (floatOfInt .f32 r) (floatOfInt .f32 b) = some (shW r b) ∧ Same2 .quo 0 (floatOfInt .f32 r) (floatOfInt .f32 b) ∧ Bd 1 (shW r b) := by
  obtain ⟨vr, _⟩ := int_val (n := r) (by omega)
  have vb := int_val' (n := b) (by omega)
  have hp := one_pos
  have hb : (b * (one : Int)) ≠ 0 := by
    have := Int.mul_pos (show 0 < b by omega) (Int.natCast_pos.2 hp); omega
  have S : Same2 .quo 0 (floatOfInt .f32 r) (floatOfInt .f32 b) := div_val vr vb hb (by omega) (by
    rw [Nat.pow_zero, Nat.mul_one, Int.natAbs_mul, Int.natAbs_mul, Int.natAbs_natCast]
    exact Nat.mul_le_mul_right _ (by omega))
  obtain ⟨_, _, _, s, _, _, _, _, e, bs⟩ := S.ex
  have hs : shW r b = s := by unfold shW; rw [e]; rfl
  rw [hs]
  exact ⟨e, S, bd_up bs (by omega)⟩

theorem tparts (a b : Int) (b1 : 1 ≤ b) : a = b * a.tdiv b + a.tmod b ∧ -b < a.tmod b ∧ a.tmod b < b := by
  have h := Int.mul_tdiv_add_tmod a b
  have n : (a.tmod b).natAbs = a.natAbs % b.natAbs := Int.natAbs_tmod a b
  have l := Nat.mod_lt a.natAbs (show 0 < b.natAbs by omega)
  exact ⟨by omega, by omega, by omega⟩

theorem tquo_bd {a b : Int} (b1 : 1 ≤ b) (a1 : -1099511627776 ≤ a) (a2 : a ≤ 1099511627776) : -1099511627776 ≤ a.tdiv b ∧ a.tdiv b ≤ 1099511627776 := by
  have n : (a.tdiv b).natAbs = a.natAbs / b.natAbs := Int.natAbs_tdiv a b
  have l := Nat.div_le_self a.natAbs b.natAbs
  omega

set_option maxHeartbeats 1000000 in
theorem divide_any (a b : Int) (w : World) (b1 : 1 ≤ b) (b2 : b ≤ 16777216) (a1 : -1099511627776 ≤ a) (a2 : a ≤ 1099511627776) :
    Calls Try.prog 119 #[.int .i64 a, .int .i64 b] w fun e w' => e = .returned (.tuple #[.int .i64 (a / b), .float .f32 (shW (a % b) b)]) ∧ Below w.heap.size w w' := by
  obtain ⟨h1, h2, h3⟩ := tparts a b b1
  obtain ⟨q1, q2⟩ := tquo_bd b1 a1 a2
  have hm0 := Int.emod_nonneg a (show b ≠ 0 by omega)
  have hm1 := Int.emod_lt_of_pos a (show 0 < b by omega)
  obtain ⟨e1, _, _⟩ := sh_parts hm0 hm1 b2
  have x1 := fun (W : World) => run_float_arith (P := Try.prog) W .quo 37 .f32 (floatOfInt .f32 (a % b)) (floatOfInt .f32 b) (shW (a % b) b) e1
  have w0 : ¬ (b = 0) := by omega
  obtain ⟨q, hq⟩ : ∃ q, a.tdiv b = q := ⟨_, rfl⟩
  obtain ⟨r, hr⟩ : ∃ r, a.tmod b = r := ⟨_, rfl⟩
  rw [hq, hr] at h1
  rw [hr] at h2 h3
  rw [hq] at q1 q2
  have u3 : IntKind.i64.wrap q = q := IntWalk.i64_in _ (by omega)
  by_cases c : r < 0
  · obtain ⟨d1, d2⟩ := (Int.ediv_emod_unique (a := a) (b := b) (q := q - 1) (r := r + b) (by omega)).2 ⟨by rw [Int.mul_sub]; omega, by omega, by omega⟩
    rw [d1, d2]
    rw [d2] at x1
    clear h1 hm0 hm1 e1 d1 d2
    go_enter Try.func119, Try.ntmps119
    go_wp2
    go_quiet (fail)
    go_wp2
    go_ret2
    exact ⟨rfl, below_drewN _ _⟩
  · obtain ⟨d1, d2⟩ := (Int.ediv_emod_unique (a := a) (b := b) (q := q) (r := r) (by omega)).2 ⟨by omega, by omega, by omega⟩
    rw [d1, d2]
    rw [d2] at x1
    have c' : 0 ≤ r := by omega
    clear h1 hm0 hm1 e1 d1 d2 c
    go_enter Try.func119, Try.ntmps119
    go_wp2
    go_quiet (fail)
    go_wp2
    go_ret2
    exact ⟨rfl, below_drewN _ _⟩

set_option maxHeartbeats 1000000 in
theorem quotient2_any (n num b : Int) (w : World) (b1 : 1 ≤ b) (b2 : b ≤ 16777216) (p1 : -1099511627776 ≤ n * num) (p2 : n * num ≤ 1099511627776) :
    Calls Try.prog 121 #[.int .i64 n, .int .i64 num, .int .i64 b] w fun e w' => e = .returned (.tuple #[.int .i64 (n * num / b), .int .i64 (n * num % b)]) ∧ w = w' := by
  obtain ⟨a, ha⟩ : ∃ a, n * num = a := ⟨_, rfl⟩
  have e1 : wrap64 (n * num) = a := by rw [← ha]; exact IntWalk.wrap64_in _ ⟨by omega, by omega⟩
  rw [ha] at p1 p2 ⊢
  obtain ⟨h1, h2, h3⟩ := tparts a b b1
  obtain ⟨q1, q2⟩ := tquo_bd b1 p1 p2
  have w0 : ¬ (b = 0) := by omega
  obtain ⟨q, hq⟩ : ∃ q, a.tdiv b = q := ⟨_, rfl⟩
  obtain ⟨r, hr⟩ : ∃ r, a.tmod b = r := ⟨_, rfl⟩
  rw [hq, hr] at h1
  rw [hr] at h2 h3
  rw [hq] at q1 q2
  have u4 : wrap64 q = q := IntWalk.wrap64_in _ ⟨by omega, by omega⟩
  clear ha
  by_cases c : r < 0
  · obtain ⟨d1, d2⟩ := (Int.ediv_emod_unique (a := a) (b := b) (q := q - 1) (r := r + b) (by omega)).2 ⟨by rw [Int.mul_sub]; omega, by omega, by omega⟩
    rw [d1, d2]
    have f1 : wrap64 ((q - 1) * b) = a - (r + b) := by
      rw [show (q - 1) * b = a - (r + b) by rw [Int.sub_mul, Int.mul_comm q]; omega]; exact IntWalk.wrap64_in _ ⟨by omega, by omega⟩
    clear h1 d1 d2
    go_enter Try.func121, Try.ntmps121
    go_wp2
    go_ret2
    exact ⟨by rw [show a - (a - (r + b)) = r + b by omega]; rfl, rfl⟩
  · obtain ⟨d1, d2⟩ := (Int.ediv_emod_unique (a := a) (b := b) (q := q) (r := r) (by omega)).2 ⟨by omega, by omega, by omega⟩
    rw [d1, d2]
    have c' : 0 ≤ r := by omega
    have f1 : wrap64 (q * b) = a - r := by
      rw [show q * b = a - r by rw [Int.mul_comm]; omega]; exact IntWalk.wrap64_in _ ⟨by omega, by omega⟩
    clear h1 d1 d2 c
    go_enter Try.func121, Try.ntmps121
    go_wp2
    go_ret2
    exact ⟨by rw [show a - (a - r) = r by omega]; rfl, rfl⟩

theorem quotient_any (n num b : Int) (w : World) (b1 : 1 ≤ b) (b2 : b ≤ 4096) (m1 : 1 ≤ num) (m2 : num ≤ 64) (n1 : -16777216 ≤ n) (n2 : n ≤ 16777216) :
    Calls Try.prog 121 #[.int .i64 n, .int .i64 num, .int .i64 b] w fun e w' => e = .returned (.tuple #[.int .i64 (n * num / b), .int .i64 (n * num % b)]) ∧ w = w' :=
  quotient2_any n num b w b1 (by omega)
    (by have := Int.mul_le_mul_of_nonneg_right n1 (show 0 ≤ num by omega); omega)
    (by have := Int.mul_le_mul_of_nonneg_right n2 (show 0 ≤ num by omega); omega)
end Go.Proofs.Ytihjemookgnafaa

/- The closures of Scale and Clamp, on both sides. -/
namespace Go.Proofs.Ytihjemookgnafaa
open Go.RowKit Fl
set_option linter.unusedVariables false

theorem enters_Scale1 : Enters 96 := by intro args W; simp [callFunc, Try.func96, Try.f96]
theorem enters_rScale1 : Enters 97 := by intro args W; simp [callFunc, Try.func97, Try.f97]
theorem enters_Clamp1 : Enters 99 := by intro args W; simp [callFunc, Try.func99, Try.f99]
theorem enters_rClamp1 : Enters 102 := by intro args W; simp [callFunc, Try.func102, Try.f102]

/-- What Scale makes of a cell. -/
def sclW (v : Nat → Nat) (m c : Nat) (i : Nat) : Nat := (floatBits .add .f32 ((floatBits .mul .f32 (v i) m).getD 0) c).getD 0
theorem scl_parts {x m c : Nat} (hx : hgtB x = true) (hm : hgtB m = true) (hc : hgtB c = true) :
    ∃ r s, floatBits .mul .f32 x m = some r ∧ Same2 .mul 40 x m ∧ floatBits .add .f32 r c = some s ∧ Same2 .add 41 r c ∧ s < 4294967296 := by
  have h1 : Same2 .mul 40 x m := mul_same (by omega) (hgt_bd hx) (hgt_bd hm)
  obtain ⟨X, Y, Z, r, _, _, _, _, e1, b1⟩ := h1.ex
  have h2 : Same2 .add 41 r c := add_same (by omega) b1 (bd_up (hgt_bd hc) (by omega))
  obtain ⟨X2, Y2, Z2, s, _, _, _, _, e2, b2⟩ := h2.ex
  exact ⟨r, s, e1, h1, e2, h2, opt_lt (d := (Ieee.single.read r).sum (Ieee.single.read c)) e2⟩
theorem scl_eq {v : Nat → Nat} {m c i r s : Nat} (h1 : floatBits .mul .f32 (v i) m = some r) (h2 : floatBits .add .f32 r c = some s) : sclW v m c i = s := by
  unfold sclW; rw [h1]; show (floatBits .add .f32 r c).getD 0 = s; rw [h2]; rfl

/-- What the two closures hold: the field, two singles. -/
structure Caps (w : World) (X Y : Int) (W H n b cap : Nat) (v : Nat → Nat) (p m c : Nat) : Prop where
  fld : w.heap[p]? = some (fldO X Y W H (.slice (some ⟨b, 0, none⟩) n cap))
  one : w.heap[p + 1]? = some (flObj m)
  two : w.heap[p + 1 + 1]? = some (flObj c)
  row : FlAt w b 0 n v
theorem Caps.stay {w w' : World} {X Y : Int} {W H n b cap : Nat} {v : Nat → Nat} {p m c : Nat} (h : Caps w X Y W H n b cap v p m c) (hn : 1 ≤ n) (hb : Below w.heap.size w w') : Caps w' X Y W H n b cap v p m c :=
  ⟨blkStay h.fld hb, blkStay h.one hb, blkStay h.two hb, flAt_congr h.row (hb.block _ (World.block_lt_of_cell? w _ (h.row 0 hn)))⟩

set_option maxHeartbeats 1000000 in
theorem scale1_any (X Y : Int) (W H n b cap : Nat) (v : Nat → Nat) (p m c : Nat) (w : World) (hk : Caps w X Y W H n b cap v p m c) (hn : n ≤ 65536) (hv : allB n (fun i => hgtB (v i)) = true) (hm : hgtB m = true) (hc : hgtB c = true) :
    Clos1 96 #[.pointer (some ⟨p, 0, none⟩), .pointer (some ⟨p + 1, 0, none⟩), .pointer (some ⟨p + 1 + 1, 0, none⟩)] n (sclW v m c) w := by
  intro i w2 hi hb
  have K := hk.stay (by omega) hb
  obtain ⟨r, s, e1, _, e2, _, _⟩ := scl_parts (allB_iff.1 hv i hi) hm hc
  rw [scl_eq e1 e2]
  have a1 := fun (W : World) => run_float_arith (P := Try.prog) W .mul 37 .f32 (v i) m r e1
  have a2 := fun (W : World) => run_float_arith (P := Try.prog) W .add 37 .f32 r c s e2
  obtain ⟨cF, fF, zF⟩ := blkC K.fld
  obtain ⟨c1, f1, z1⟩ := blkC K.one
  obtain ⟨c2, f2, z2⟩ := blkC K.two
  have hcell := K.row i hi
  rw [Nat.zero_add] at hcell
  have hz : b < w2.heap.size := World.block_lt_of_cell? w2 _ hcell
  clear K hk hv hm hc e1 e2 hb
  go_enter Try.func96, Try.ntmps96
  have hi2 : (i : Int) < (n : Int) := by omega
  go_wp2
  go_quiet (fail)
  go_wp2
  go_ret
  exact ⟨rfl, below_drewN _ _⟩

set_option maxHeartbeats 400000 in
theorem scaled_any (x m c r s : Nat) (e1 : floatBits .mul .f32 x m = some r) (s1 : Same2 .mul 40 x m) (e2 : floatBits .add .f32 r c = some s) (s2 : Same2 .add 41 r c) (w : World) :
    Calls Try.prog 98 #[.float .f32 x, .float .f32 m, .float .f32 c] w fun e w' => e = .returned (.float .f32 s) ∧ w = w' := by
  have A := Lib.hid (fun w => refMul_any 40 x m r s1 e1 w)
  have B := Lib.hid (fun w => refAdd_any 41 r c s s2 e2 w)
  clear e1 e2 s1 s2
  go_enter Try.func98, Try.ntmps98
  go_wp2_with (first | (go_at_call 125; refine (A.out _).mono ?_; rintro e w' ⟨rfl, rfl⟩) | (go_at_call 131; refine (B.out _).mono ?_; rintro e w' ⟨rfl, rfl⟩))
  go_ret
  exact ⟨rfl, rfl⟩

set_option maxHeartbeats 1000000 in
theorem rscale1_any (X Y : Int) (W H n b cap : Nat) (v : Nat → Nat) (p m c : Nat) (w : World) (hk : Caps w X Y W H n b cap v p m c) (hn : n ≤ 65536) (hv : allB n (fun i => hgtB (v i)) = true) (hm : hgtB m = true) (hc : hgtB c = true)
    (hX1 : -16777216 ≤ X) (hX2 : X ≤ 16777216) (hY1 : -16777216 ≤ Y) (hY2 : Y ≤ 16777216) (hW1 : 1 ≤ W) (hW2 : W ≤ 512) (hH2 : H ≤ 512) (hnn : n = H * W) :
    Clos2 97 #[.pointer (some ⟨p, 0, none⟩), .pointer (some ⟨p + 1, 0, none⟩), .pointer (some ⟨p + 1 + 1, 0, none⟩)] X Y W H (sclW v m c) w := by
  intro x y i w2 h1 h2 h3 h4 h5 hb
  have hi : i < n := by
    have a : (y - Y) * W ≤ ((H : Int) - 1) * W := Int.mul_le_mul_of_nonneg_right (by omega) (by omega)
    have b : ((H : Int) - 1) * W = (n : Int) - W := by rw [hnn, Int.sub_mul]; simp
    omega
  have K := hk.stay (by omega) hb
  obtain ⟨r, s, e1, s1, e2, s2, _⟩ := scl_parts (allB_iff.1 hv i hi) hm hc
  rw [scl_eq e1 e2]
  have SC := Lib.hid (fun w => scaled_any (v i) m c r s e1 s1 e2 s2 w)
  have hz : b < w2.heap.size := World.block_lt_of_cell? w2 _ (K.row i hi)
  have AT := Lib.hid (fun W' (hb : Below w2.heap.size w2 W') => refAt_any X Y W H n b cap i v x y W' hX1 hX2 hY1 hY2 hW1 hW2 hH2 h1 h2 h3 h4 h5 hi hn (flAt_congr K.row (hb.block _ hz)))
  have HF := Lib.hid K.fld
  have H1 := Lib.hid K.one
  have H2 := Lib.hid K.two
  obtain ⟨cF, fF, zF⟩ := blkC K.fld
  obtain ⟨c1, f1, z1⟩ := blkC K.one
  obtain ⟨c2, f2, z2⟩ := blkC K.two
  clear K hk hv hm hc e1 e2 s1 s2 hb h1 h2 h3 h4 h5 hX1 hX2 hY1 hY2 hW1 hW2 hH2 hnn hi hn
  go_enter Try.func97, Try.ntmps97
  go_wp2
  go_region_held3 (fun w' => (∀ o, w'.cell? ⟨p, o, none⟩ = #[.int .i64 X, .int .i64 Y, .int .i64 W, .int .i64 H, .slice (some ⟨b, 0, none⟩) n cap][o]?) ∧ (∀ o, w'.cell? ⟨p + 1, o, none⟩ = #[.float .f32 m][o]?) ∧ (∀ o, w'.cell? ⟨p + 1 + 1, o, none⟩ = #[.float .f32 c][o]?) ∧ Below w2.heap.size w2 w') (first | exact ⟨(blkC (blkStay HF.out (by repeat (first | exact Below.refl _ _ | refine Below.alloc ?_ (by first | omega | (simp; done) | (simp; omega)) _ | refine Below.setCell ?_ (by first | omega | (simp; done) | (simp; omega)) _ | refine Below.drew ?_)))).1, (blkC (blkStay H1.out (by repeat (first | exact Below.refl _ _ | refine Below.alloc ?_ (by first | omega | (simp; done) | (simp; omega)) _ | refine Below.setCell ?_ (by first | omega | (simp; done) | (simp; omega)) _ | refine Below.drew ?_)))).1, (blkC (blkStay H2.out (by repeat (first | exact Below.refl _ _ | refine Below.alloc ?_ (by first | omega | (simp; done) | (simp; omega)) _ | refine Below.setCell ?_ (by first | omega | (simp; done) | (simp; omega)) _ | refine Below.drew ?_)))).1, (by repeat (first | exact Below.refl _ _ | refine Below.alloc ?_ (by first | omega | (simp; done) | (simp; omega)) _ | refine Below.setCell ?_ (by first | omega | (simp; done) | (simp; omega)) _ | refine Below.drew ?_))⟩) (first | (go_at_call 90; refine (AT.out _ (by repeat (first | exact Below.refl _ _ | refine Below.alloc ?_ (by first | omega | (simp; done) | (simp; omega)) _ | refine Below.setCell ?_ (by first | omega | (simp; done) | (simp; omega)) _ | refine Below.drew ?_))).mono ?_; rintro e w' ⟨rfl, rfl⟩) | (go_at_call 98; refine (SC.out _).mono ?_; rintro e w' ⟨rfl, rfl⟩))
  rename_i hHeld
  go_wp2
  go_ret
  exact ⟨rfl, hHeld.2.2.2⟩

theorem clp_lt {v : Nat → Nat} {a b i : Nat} (h1 : v i < 4294967296) (h2 : a < 4294967296) (h3 : b < 4294967296) : clpW (v i) a b < 4294967296 := by
  unfold clpW; split
  · exact h2
  · split
    · exact h3
    · exact h1

set_option maxHeartbeats 1000000 in
theorem clamp1_any (X Y : Int) (W H n b cap : Nat) (v : Nat → Nat) (p m c : Nat) (w : World) (hk : Caps w X Y W H n b cap v p m c) (hn : n ≤ 65536) (hv : allB n (fun i => hgtB (v i)) = true) (hm : hgtB m = true) (hc : hgtB c = true)
    (hmc : (FloatKind.f32.format.order m c == some .gt) = false) :
    Clos1 99 #[.pointer (some ⟨p, 0, none⟩), .pointer (some ⟨p + 1, 0, none⟩), .pointer (some ⟨p + 1 + 1, 0, none⟩)] n (fun i => clpW (v i) m c) w := by
  intro i w2 hi hb
  have K := hk.stay (by omega) hb
  show Calls _ _ _ _ fun e w' => e = .returned (.float .f32 (clpW (v i) m c)) ∧ _
  rw [← clp_eq (hgt_fin (allB_iff.1 hv i hi)) (hgt_fin hm) (hgt_fin hc) hmc]
  obtain ⟨cF, fF, zF⟩ := blkC K.fld
  obtain ⟨c1, f1, z1⟩ := blkC K.one
  obtain ⟨c2, f2, z2⟩ := blkC K.two
  have hcell := K.row i hi
  rw [Nat.zero_add] at hcell
  have hz : b < w2.heap.size := World.block_lt_of_cell? w2 _ hcell
  have hi2 : (i : Int) < (n : Int) := by omega
  clear K hk hv hm hc hb hmc
  go_enter Try.func99, Try.ntmps99
  go_wp2
  go_quiet (first | (go_at_call 101; exact Calls.quiet_of_same ((greater_any _ _ _).mono fun _ _ h => ⟨h.1, h.2.symm⟩)) | (go_at_call 100; exact Calls.quiet_of_same ((lesser_any _ _ _).mono fun _ _ h => ⟨h.1, h.2.symm⟩)))
  go_wp2
  go_ret
  exact ⟨rfl, below_drewN _ _⟩

set_option maxHeartbeats 1000000 in
theorem rclamp1_any (X Y : Int) (W H n b cap : Nat) (v : Nat → Nat) (p m c : Nat) (w : World) (hk : Caps w X Y W H n b cap v p m c) (hn : n ≤ 65536)
    (hX1 : -16777216 ≤ X) (hX2 : X ≤ 16777216) (hY1 : -16777216 ≤ Y) (hY2 : Y ≤ 16777216) (hW1 : 1 ≤ W) (hW2 : W ≤ 512) (hH2 : H ≤ 512) (hnn : n = H * W) (hn1 : 1 ≤ n) :
    Clos2 102 #[.pointer (some ⟨p, 0, none⟩), .pointer (some ⟨p + 1, 0, none⟩), .pointer (some ⟨p + 1 + 1, 0, none⟩)] X Y W H (fun i => clpW (v i) m c) w := by
  intro x y i w2 h1 h2 h3 h4 h5 hb
  have hi : i < n := by
    have a : (y - Y) * W ≤ ((H : Int) - 1) * W := Int.mul_le_mul_of_nonneg_right (by omega) (by omega)
    have b : ((H : Int) - 1) * W = (n : Int) - W := by rw [hnn, Int.sub_mul]; simp
    omega
  have K := hk.stay (by omega) hb
  show Calls _ _ _ _ fun e w' => e = .returned (.float .f32 (clpW (v i) m c)) ∧ _
  have SC := Lib.hid (fun w => clamped_any (v i) m c w)
  have hz : b < w2.heap.size := World.block_lt_of_cell? w2 _ (K.row i hi)
  have AT := Lib.hid (fun W' (hb : Below w2.heap.size w2 W') => refAt_any X Y W H n b cap i v x y W' hX1 hX2 hY1 hY2 hW1 hW2 hH2 h1 h2 h3 h4 h5 hi hn (flAt_congr K.row (hb.block _ hz)))
  have HF := Lib.hid K.fld
  have H1 := Lib.hid K.one
  have H2 := Lib.hid K.two
  obtain ⟨cF, fF, zF⟩ := blkC K.fld
  obtain ⟨c1, f1, z1⟩ := blkC K.one
  obtain ⟨c2, f2, z2⟩ := blkC K.two
  clear K hk hb h1 h2 h3 h4 h5 hX1 hX2 hY1 hY2 hW1 hW2 hH2 hnn hi hn
  go_enter Try.func102, Try.ntmps102
  go_wp2
  go_region_held3 (fun w' => (∀ o, w'.cell? ⟨p, o, none⟩ = #[.int .i64 X, .int .i64 Y, .int .i64 W, .int .i64 H, .slice (some ⟨b, 0, none⟩) n cap][o]?) ∧ (∀ o, w'.cell? ⟨p + 1, o, none⟩ = #[.float .f32 m][o]?) ∧ (∀ o, w'.cell? ⟨p + 1 + 1, o, none⟩ = #[.float .f32 c][o]?) ∧ Below w2.heap.size w2 w') (first | exact ⟨(blkC (blkStay HF.out (by repeat (first | exact Below.refl _ _ | refine Below.alloc ?_ (by first | omega | (simp; done) | (simp; omega)) _ | refine Below.setCell ?_ (by first | omega | (simp; done) | (simp; omega)) _ | refine Below.drew ?_)))).1, (blkC (blkStay H1.out (by repeat (first | exact Below.refl _ _ | refine Below.alloc ?_ (by first | omega | (simp; done) | (simp; omega)) _ | refine Below.setCell ?_ (by first | omega | (simp; done) | (simp; omega)) _ | refine Below.drew ?_)))).1, (blkC (blkStay H2.out (by repeat (first | exact Below.refl _ _ | refine Below.alloc ?_ (by first | omega | (simp; done) | (simp; omega)) _ | refine Below.setCell ?_ (by first | omega | (simp; done) | (simp; omega)) _ | refine Below.drew ?_)))).1, (by repeat (first | exact Below.refl _ _ | refine Below.alloc ?_ (by first | omega | (simp; done) | (simp; omega)) _ | refine Below.setCell ?_ (by first | omega | (simp; done) | (simp; omega)) _ | refine Below.drew ?_))⟩) (first | (go_at_call 90; refine (AT.out _ (by repeat (first | exact Below.refl _ _ | refine Below.alloc ?_ (by first | omega | (simp; done) | (simp; omega)) _ | refine Below.setCell ?_ (by first | omega | (simp; done) | (simp; omega)) _ | refine Below.drew ?_))).mono ?_; rintro e w' ⟨rfl, rfl⟩) | (go_at_call 103; refine (SC.out _).mono ?_; rintro e w' ⟨rfl, rfl⟩))
  rename_i hHeld
  go_wp2
  go_ret
  exact ⟨rfl, hHeld.2.2.2⟩

end Go.Proofs.Ytihjemookgnafaa

/- Contracts: mix of the program, lerp of the reference: one word. -/
namespace Go.Proofs.Ytihjemookgnafaa
open Go.RowKit Fl
set_option linter.unusedVariables false

/-- a + (b - a) * s, each step rounded, as words. -/
def mixW (x y s : Nat) : Nat := (floatBits .add .f32 x ((floatBits .mul .f32 ((floatBits .sub .f32 y x).getD 0) s).getD 0)).getD 0

theorem mix_parts {i j x y s : Nat} (hi : i ≤ 60) (hj : j ≤ 30) (hx : Bd i x) (hy : Bd i y) (hs : Bd j s) :
    ∃ d p r, floatBits .sub .f32 y x = some d ∧ Same2 .sub (i + 1) y x ∧ floatBits .mul .f32 d s = some p ∧ Same2 .mul (i + 1 + j) d s ∧ floatBits .add .f32 x p = some r ∧ Same2 .add (i + 1 + j + 1) x p ∧ r < 4294967296 ∧ Bd (i + 1 + j + 1) r := by
  have h1 : Same2 .sub (i + 1) y x := sub_same (by omega) hy hx
  obtain ⟨X, Y, Z, d, _, _, _, _, e1, b1⟩ := h1.ex
  have h2 : Same2 .mul (i + 1 + j) d s := mul_same (by omega) b1 hs
  obtain ⟨X2, Y2, Z2, p, _, _, _, _, e2, b2⟩ := h2.ex
  have h3 : Same2 .add (i + 1 + j + 1) x p := add_same (by omega) (bd_up hx (by omega)) b2
  obtain ⟨X3, Y3, Z3, r, _, _, _, _, e3, b3⟩ := h3.ex
  exact ⟨d, p, r, e1, h1, e2, h2, e3, h3, opt_lt (d := (Ieee.single.read x).sum (Ieee.single.read p)) e3, b3⟩
theorem mix_eq {x y s d p r : Nat} (h1 : floatBits .sub .f32 y x = some d) (h2 : floatBits .mul .f32 d s = some p) (h3 : floatBits .add .f32 x p = some r) : mixW x y s = r := by
  unfold mixW
  rw [h1]
  show (floatBits .add .f32 x ((floatBits .mul .f32 d s).getD 0)).getD 0 = r
  rw [h2]
  show (floatBits .add .f32 x p).getD 0 = r
  rw [h3]; rfl

set_option maxHeartbeats 400000 in
theorem mix_any (x y s d p r : Nat) (h1 : floatBits .sub .f32 y x = some d) (h2 : floatBits .mul .f32 d s = some p) (h3 : floatBits .add .f32 x p = some r) (w : World) :
    Calls Try.prog 106 #[.float .f32 x, .float .f32 y, .float .f32 s] w fun e w' => e = .returned (.float .f32 r) ∧ w = w' := by
  have a1 := fun (W : World) => run_float_arith (P := Try.prog) W .sub 37 .f32 y x d h1
  have a2 := fun (W : World) => run_float_arith (P := Try.prog) W .mul 37 .f32 d s p h2
  have a3 := fun (W : World) => run_float_arith (P := Try.prog) W .add 37 .f32 x p r h3
  go_enter Try.func106, Try.ntmps106
  go_wp2
  go_ret
  exact ⟨rfl, rfl⟩

set_option maxHeartbeats 400000 in
theorem lerp_any (k1 k2 k3 x y s d p r : Nat) (h1 : floatBits .sub .f32 y x = some d) (s1 : Same2 .sub k1 y x) (h2 : floatBits .mul .f32 d s = some p) (s2 : Same2 .mul k2 d s) (h3 : floatBits .add .f32 x p = some r) (s3 : Same2 .add k3 x p) (w : World) :
    Calls Try.prog 109 #[.float .f32 x, .float .f32 y, .float .f32 s] w fun e w' => e = .returned (.float .f32 r) ∧ w = w' := by
  have A := Lib.hid (fun w => refSub_any k1 y x d s1 h1 w)
  have B := Lib.hid (fun w => refMul_any k2 d s p s2 h2 w)
  have C := Lib.hid (fun w => refAdd_any k3 x p r s3 h3 w)
  clear h1 h2 h3 s1 s2 s3
  go_enter Try.func109, Try.ntmps109
  go_wp2_with (first | (go_at_call 117; refine (A.out _).mono ?_; rintro e w' ⟨rfl, rfl⟩) | (go_at_call 125; refine (B.out _).mono ?_; rintro e w' ⟨rfl, rfl⟩) | (go_at_call 131; refine (C.out _).mono ?_; rintro e w' ⟨rfl, rfl⟩))
  go_ret
  exact ⟨rfl, rfl⟩

end Go.Proofs.Ytihjemookgnafaa

/- A whole single as an integer; magnitudes of singles. -/
namespace Go.Proofs.Ytihjemookgnafaa.Fl
open Ieee

theorem cut_zero (s : Bool) (M k : Nat) : Toward.zero.cut s M k = M / 2 ^ k := by
  unfold Toward.cut
  simp only [Nat.one_shiftLeft]
  rcases Nat.le_total k (M.log2 + 2) with c | c
  · rw [Nat.min_eq_left c]; simp
  · rw [Nat.min_eq_right c]
    have h : M < 2 ^ (M.log2 + 2) := by
      rcases Nat.eq_zero_or_pos M with z | z
      · subst z; exact Nat.two_pow_pos _
      · exact Nat.lt_trans (Nat.lt_log2_self) (Nat.pow_lt_pow_right (by omega) (by omega))
    have h' : M < 2 ^ k := Nat.lt_of_lt_of_le h (Nat.pow_le_pow_right (by omega) c)
    rw [Nat.div_eq_of_lt h, Nat.div_eq_of_lt h']; simp

theorem integral_zero {s : Bool} {M : Nat} {I : Int} {A : Nat} (hI : -1074 ≤ I) (hA : M * 2 ^ (I + 1074).toNat = A) :
    (Datum.number s M I).integral .zero = .number s (A / one) 0 := by
  show Datum.number s (Toward.zero.cut s (M <<< I.toNat) (-I).toNat) 0 = _
  rw [cut_zero, Nat.shiftLeft_eq]
  congr 1
  obtain ⟨j, hj⟩ : ∃ j : Nat, j = 1074 := ⟨_, rfl⟩
  rcases Int.le_total 0 I with c | c
  · have e : (I + 1074).toNat = I.toNat + j := by omega
    rw [e, Nat.pow_add, ← Nat.mul_assoc] at hA
    rw [show (-I).toNat = 0 by omega, Nat.pow_zero, Nat.div_one, ← hA, one_pow hj, Nat.mul_div_cancel _ (Nat.two_pow_pos j)]
  · obtain ⟨k, hk⟩ : ∃ k : Nat, k = (-I).toNat := ⟨_, rfl⟩
    have eo : one = 2 ^ k * 2 ^ (I + 1074).toNat := one_split (by omega)
    have p : 0 < 2 ^ (I + 1074).toNat := Nat.two_pow_pos _
    rw [show I.toNat = 0 by omega, Nat.pow_zero, Nat.mul_one, ← hk, ← hA, eo, Nat.mul_div_mul_right _ _ p]

theorem toInt_whole {x : Nat} {g : Int} (h : vS x = some (g * (one : Int))) (hb : -1073741824 ≤ g) (hb' : g ≤ 1073741824) : Go.floatToIntVal .f32 x .i64 = some g := by
  obtain ⟨s, m, p, e, hv⟩ := vS_some h
  have lo := (read_single e).low
  obtain ⟨A, hA⟩ : ∃ A, m * 2 ^ (p + 1074).toNat = A := ⟨_, rfl⟩
  have hp : (0 : Int) < (one : Int) := Int.natCast_pos.2 one_pos
  have hs : g * (one : Int) = (if s then -1 else 1) * (A : Int) := by rw [← hv]; unfold vOf; rw [signed_eq, hA]
  have hAg : A = g.natAbs * one := by
    have := congrArg Int.natAbs hs
    rw [Int.natAbs_mul, Int.natAbs_mul, Int.natAbs_natCast, Int.natAbs_natCast] at this
    cases s <;> simpa using this.symm
  have hq : A / one = g.natAbs := by rw [hAg, Nat.mul_div_cancel _ one_pos]
  have hg : (if s then -1 else 1) * (g.natAbs : Int) = g := by
    refine Int.eq_of_mul_eq_mul_right (Int.ne_of_gt hp) ?_
    rw [hs, hAg, Int.natCast_mul, Int.mul_assoc]
  unfold Go.floatToIntVal
  have hd : Go.FloatKind.f32.decode x = .number s m p := e
  have ht : (Datum.number s m p).toInt .zero = some g := by
    unfold Datum.toInt
    rw [integral_zero (s := s) (by omega) hA, hq]
    show some (signed s g.natAbs 0) = some g
    rw [signed_eq, Nat.pow_zero, Nat.mul_one, hg]
  rw [hd, ht]
  have e1 : Go.IntKind.i64.min = -9223372036854775808 := by decide
  have e2 : Go.IntKind.i64.max = 9223372036854775807 := by decide
  simp only [e1, e2]
  rw [if_pos ⟨by omega, by omega⟩]

theorem flV_whole (a : Int) : ∃ g : Int, g = a / (one : Int) ∧ flV a = g * (one : Int) := ⟨_, rfl, rfl⟩

theorem abs_val {x : Nat} {a : Int} (h : vS x = some a) : vS (x % 2147483648) = some ((a.natAbs : Nat) : Int) := by
  obtain ⟨s, m, p, e, rfl⟩ := vS_some h
  have hr := read_abs single x
  rw [swS, e] at hr
  rw [vS_num hr]
  unfold vOf
  rw [signed_eq, signed_eq, Int.natAbs_mul, Int.natAbs_natCast]
  cases s <;> simp

end Go.Proofs.Ytihjemookgnafaa.Fl

/- Contracts of the regions' functions, continued: the reference's Grow; Common, Inside. -/
namespace Go.Proofs.Ytihjemookgnafaa
open Go.RowKit

set_option maxHeartbeats 1000000 in
theorem refGrow_any (x y ww hh n : Int) (w : World) :
    Calls Try.prog 18 #[reg x y ww hh, .int .i64 n] w fun e w' => e = .returned (.tuple #[growR x y ww hh n, .int .i64 (growE x y ww hh n)]) ∧ Below w.heap.size w w' := by
  by_cases h0 : checkR x y ww hh = 0
  · have H := Lib.hid h0
    obtain ⟨b1, b2, b3, b4, _, b6, b7, b8, b9⟩ := checkR_zero h0
    clear h0
    have hb : (checkR x y ww hh != 0) = false := by simp [H.out]
    by_cases hn : -512 ≤ n ∧ n ≤ 512
    · obtain ⟨n1, n2⟩ := hn
      have eE : growE x y ww hh n = checkR (x - n) (y - n) (ww + 2 * n) (hh + 2 * n) := by unfold growE; rw [if_pos H.out, if_neg (by omega)]
      have HE := Lib.hid eE
      clear eE
      by_cases h2 : checkR (x - n) (y - n) (ww + 2 * n) (hh + 2 * n) = 0
      · have H2 := Lib.hid h2
        have hb2 : (checkR (x - n) (y - n) (ww + 2 * n) (hh + 2 * n) != 0) = false := by simp [H2.out]
        clear h2
        go_enter Try.func18, Try.ntmps18
        go_wp2_with (first | (go_at_call 16; refine (refCheckRegion_any _ _ _ _ _).mono ?_; rintro e w' ⟨rfl, rfl⟩) | (go_at_call 74; refine (refGrown_any _ _ _ _ _ _ (by omega) (by omega) (by omega) (by omega) (by omega) (by omega) (by omega) (by omega) (by omega) (by omega)).mono ?_; rintro e w' ⟨rfl, hb⟩; obtain ⟨hc, hf⟩ := bcell hb; have hzhb := Below.size hb; simp at hzhb; have hzhb0 : w.heap.size < w'.heap.size := (by omega); have hzhb1 : w.heap.size + 1 < w'.heap.size := (by omega); clear hzhb))
        refine bodyPost_ret (v := .tuple #[reg (x - n) (y - n) (ww + 2 * n) (hh + 2 * n), .int .i64 0]) (by simp [results, Try.results18, go_sem, hc, hzhb0, hzhb1]) rfl ⟨?_, (by repeat (first | exact Below.refl _ _ | refine Below.alloc ?_ (by first | omega | (simp; done) | (simp; omega)) _ | refine Below.setCell ?_ (by first | omega | (simp; done) | (simp; omega)) _ | refine Below.drew ?_ | refine Below.trans ?_ (Below.mono hb (by first | omega | (simp; done) | (simp; omega)))))⟩
        unfold growR; rw [HE.out, if_pos H2.out, H2.out]
      · have H2 := Lib.hid h2
        have hb2 : (checkR (x - n) (y - n) (ww + 2 * n) (hh + 2 * n) != 0) = true := by simp [h2]
        clear h2
        go_enter Try.func18, Try.ntmps18
        go_wp2_with (first | (go_at_call 16; refine (refCheckRegion_any _ _ _ _ _).mono ?_; rintro e w' ⟨rfl, rfl⟩) | (go_at_call 74; refine (refGrown_any _ _ _ _ _ _ (by omega) (by omega) (by omega) (by omega) (by omega) (by omega) (by omega) (by omega) (by omega) (by omega)).mono ?_; rintro e w' ⟨rfl, hb⟩; obtain ⟨hc, hf⟩ := bcell hb; have hzhb := Below.size hb; simp at hzhb; have hzhb0 : w.heap.size < w'.heap.size := (by omega); have hzhb1 : w.heap.size + 1 < w'.heap.size := (by omega); clear hzhb))
        refine bodyPost_ret (v := .tuple #[reg 0 0 0 0, .int .i64 (checkR (x - n) (y - n) (ww + 2 * n) (hh + 2 * n))]) (by simp [results, Try.results18, go_sem, hc, hzhb0, hzhb1]) rfl ⟨?_, (by repeat (first | exact Below.refl _ _ | refine Below.alloc ?_ (by first | omega | (simp; done) | (simp; omega)) _ | refine Below.setCell ?_ (by first | omega | (simp; done) | (simp; omega)) _ | refine Below.drew ?_ | refine Below.trans ?_ (Below.mono hb (by first | omega | (simp; done) | (simp; omega)))))⟩
        unfold growR; rw [HE.out, if_neg H2.out]
    · rcases (show n < -512 ∨ (-512 ≤ n ∧ 512 < n) by omega) with hn1 | ⟨hn1, hn2⟩
      all_goals
        go_enter Try.func18, Try.ntmps18
        go_wp2_with (first | (go_at_call 16; refine (refCheckRegion_any _ _ _ _ _).mono ?_; rintro e w' ⟨rfl, rfl⟩))
        refine bodyPost_ret (v := .tuple #[reg 0 0 0 0, .int .i64 3]) (by simp [results, Try.results18, go_sem]) rfl ⟨?_, (by repeat (first | exact Below.refl _ _ | refine Below.alloc ?_ (by first | omega | (simp; done) | (simp; omega)) _ | refine Below.setCell ?_ (by first | omega | (simp; done) | (simp; omega)) _ | refine Below.drew ?_))⟩
        have e : growE x y ww hh n = 3 := by unfold growE; rw [if_pos H.out, if_pos (by omega)]
        unfold growR; rw [e]; rfl
  · have H := Lib.hid h0
    have hb : (checkR x y ww hh != 0) = true := by simp [h0]
    clear h0
    go_enter Try.func18, Try.ntmps18
    go_wp2_with (first | (go_at_call 16; refine (refCheckRegion_any _ _ _ _ _).mono ?_; rintro e w' ⟨rfl, rfl⟩))
    refine bodyPost_ret (v := .tuple #[reg 0 0 0 0, .int .i64 (checkR x y ww hh)]) (by simp [results, Try.results18, go_sem]) rfl ⟨?_, (by repeat (first | exact Below.refl _ _ | refine Below.alloc ?_ (by first | omega | (simp; done) | (simp; omega)) _ | refine Below.setCell ?_ (by first | omega | (simp; done) | (simp; omega)) _ | refine Below.drew ?_))⟩
    have e : growE x y ww hh n = checkR x y ww hh := by unfold growE; rw [if_neg H.out]
    unfold growR; rw [e, if_neg H.out]


set_option maxHeartbeats 1000000 in
theorem landed_any (w : World) : Calls Try.prog 14 #[] w fun e w' => e = .returned (.bool true) ∧ Below w.heap.size w w' := by
  go_enter Try.func14, Try.ntmps14
  go_wp2
  go_ret
  exact ⟨rfl, (by repeat (first | exact Below.refl _ _ | refine Below.alloc ?_ (by first | omega | (simp; done) | (simp; omega)) _ | refine Below.setCell ?_ (by first | omega | (simp; done) | (simp; omega)) _ | refine Below.drew ?_))⟩

def insideB (x y w h x' y' w' h' : Int) : Bool := decide (x' ≤ x) && decide (y' ≤ y) && decide (x + w ≤ x' + w') && decide (y + h ≤ y' + h')
theorem insideB_iff {x y w h x' y' w' h' : Int} : insideB x y w h x' y' w' h' = true ↔ x' ≤ x ∧ y' ≤ y ∧ x + w ≤ x' + w' ∧ y + h ≤ y' + h' := by simp [insideB]; omega

set_option maxHeartbeats 1000000 in
theorem inside_any (x y ww hh x' y' ww' hh' : Int) (w : World) (a1 : -1073741824 ≤ x) (a2 : x ≤ 1073741824) (a3 : -1073741824 ≤ y) (a4 : y ≤ 1073741824) (a5 : 1 ≤ ww) (a6 : ww ≤ 1073741824) (a7 : 1 ≤ hh) (a8 : hh ≤ 1073741824)
    (b1 : -1073741824 ≤ x') (b2 : x' ≤ 1073741824) (b3 : -1073741824 ≤ y') (b4 : y' ≤ 1073741824) (b5 : 1 ≤ ww') (b6 : ww' ≤ 1073741824) (b7 : 1 ≤ hh') (b8 : hh' ≤ 1073741824) :
    Calls Try.prog 22 #[reg x y ww hh, reg x' y' ww' hh'] w fun e w' => e = .returned (.bool (insideB x y ww hh x' y' ww' hh')) ∧ Below w.heap.size w w' := by
  go_enter Try.func22, Try.ntmps22
  go_wp2
  all_goals go_ret
  all_goals refine ⟨ret_bool ?_, (by repeat (first | exact Below.refl _ _ | refine Below.alloc ?_ (by first | omega | (simp; done) | (simp; omega)) _ | refine Below.setCell ?_ (by first | omega | (simp; done) | (simp; omega)) _ | refine Below.drew ?_))⟩
  all_goals simp [insideB, *]
  all_goals omega

end Go.Proofs.Ytihjemookgnafaa

/- Contracts: between and along of the program. -/
namespace Go.Proofs.Ytihjemookgnafaa
open Go.RowKit Fl
set_option linter.unusedVariables false

/-- The value between two. -/
def alongW (cs : Bool) (s x y : Nat) : Nat := if cs then x else mixW x y s

set_option maxHeartbeats 1000000 in
theorem along_zero (b off len cap : Nat) (x s : Nat) (w : World) (h0 : w.cell? ⟨b, off, none⟩ = some (.float .f32 x)) (hl : 1 ≤ len) (hs : (FloatKind.f32.format.order s 0 == some .eq) = true) :
    Calls Try.prog 146 #[.slice (some ⟨b, off, none⟩) len cap, .float .f32 s] w fun e w' => e = .returned (.float .f32 x) ∧ w = w' := by
  have h1 : (0 : Int) < (len : Int) := by omega
  go_enter Try.func146, Try.ntmps146
  go_wp2
  go_ret
  exact ⟨rfl, rfl⟩

set_option maxHeartbeats 1000000 in
theorem along_mix (b off len cap : Nat) (x y s : Nat) (w : World) (h0 : w.cell? ⟨b, off, none⟩ = some (.float .f32 x)) (h1 : w.cell? ⟨b, off + 1, none⟩ = some (.float .f32 y)) (hl : 2 ≤ len) (hs : (FloatKind.f32.format.order s 0 == some .eq) = false)
    (bx : Bd 20 x) (by' : Bd 20 y) (bs : Bd 1 s) :
    Calls Try.prog 146 #[.slice (some ⟨b, off, none⟩) len cap, .float .f32 s] w fun e w' => e = .returned (.float .f32 (mixW x y s)) ∧ Below w.heap.size w w' := by
  obtain ⟨d, q, r, e1, _, e2, _, e3, _, _, _⟩ := mix_parts (i := 20) (j := 1) (by omega) (by omega) bx by' bs
  have MX := Lib.hid (fun w => mix_any x y s d q r e1 e2 e3 w)
  rw [mix_eq e1 e2 e3]
  have l1 : (0 : Int) < (len : Int) := by omega
  have l2 : (1 : Int) < (len : Int) := by omega
  clear e1 e2 e3 bx by' bs
  go_enter Try.func146, Try.ntmps146
  go_wp2
  go_quiet (first | (go_at_call 106; exact Calls.quiet_of_same ((MX.out _).mono fun _ _ h => ⟨h.1, h.2.symm⟩)))
  go_wp2
  go_ret
  exact ⟨rfl, below_drewN _ _⟩

theorem cell_lt {X Y x y : Int} {W H n i : Nat} (hW1 : 1 ≤ W) (h1 : X ≤ x) (h2 : x < X + W) (h4 : y < Y + H) (h5 : (i : Int) = (y - Y) * W + (x - X)) (hnn : n = H * W) : i < n := by
  have a : (y - Y) * W ≤ ((H : Int) - 1) * W := Int.mul_le_mul_of_nonneg_right (by omega) (by omega)
  have b : ((H : Int) - 1) * W = (n : Int) - W := by rw [hnn, Int.sub_mul]; simp
  omega

theorem along_any (b off len cap : Nat) (x y s : Nat) (cs : Bool) (w : World) (h0 : w.cell? ⟨b, off, none⟩ = some (.float .f32 x)) (h1 : cs = false → w.cell? ⟨b, off + 1, none⟩ = some (.float .f32 y) ∧ 2 ≤ len ∧ Bd 20 y) (hl : 1 ≤ len) (hs : (FloatKind.f32.format.order s 0 == some .eq) = cs)
    (bx : Bd 20 x) (bs : Bd 1 s) :
    Calls Try.prog 146 #[.slice (some ⟨b, off, none⟩) len cap, .float .f32 s] w fun e w' => e = .returned (.float .f32 (alongW cs s x y)) ∧ Below w.heap.size w w' := by
  cases cs with
  | true => exact (along_zero b off len cap x s w h0 hl hs).mono fun e w' h => ⟨h.1, by rw [← h.2]; exact Below.refl _ _⟩
  | false =>
    obtain ⟨h2, h3, h4⟩ := h1 rfl
    exact along_mix b off len cap x y s w h0 h2 h3 hs bx h4 bs
theorem along_bd {cs : Bool} {x y s : Nat} (bx : Bd 20 x) (by' : cs = false → Bd 20 y) (bs : Bd 1 s) : Bd 23 (alongW cs s x y) := by
  cases cs with
  | true => exact bd_up bx (by omega)
  | false =>
    obtain ⟨d, q, r, e1, _, e2, _, e3, _, _, br⟩ := mix_parts (i := 20) (j := 1) (by omega) (by omega) bx (by' rfl) bs
    show Bd 23 (mixW x y s)
    rw [mix_eq e1 e2 e3]; exact br

set_option maxHeartbeats 400000 in
theorem cell_any (x y : Int) (w : World) :
    Calls Try.prog 93 #[.int .i64 x, .int .i64 y] w fun e w' => e = .returned (reg x y 1 1) ∧ Below w.heap.size w w' := by
  go_enter Try.func93, Try.ntmps93
  go_wp2
  exact bodyPost_ret (v := reg x y 1 1) (by simp [results, Try.results93, go_sem]) rfl ⟨rfl, (by repeat (first | exact Below.refl _ _ | refine Below.alloc ?_ (by first | omega | (simp; done) | (simp; omega)) _ | refine Below.setCell ?_ (by first | omega | (simp; done) | (simp; omega)) _ | refine Below.drew ?_))⟩

/-- Are the cells there that are wanted? -/
def thereB (X Y W H i j : Int) (cs ct : Bool) : Bool := insideB i j (if cs then 1 else 2) (if ct then 1 else 2) X Y W H
/-- The number of a cell. -/
def numC (X Y : Int) (W : Nat) (i j : Int) : Nat := ((j - Y) * W + (i - X)).toNat
/-- The value between the cells behind number k. -/
def btwW (v : Nat → Nat) (W k : Nat) (cs ct : Bool) (s t : Nat) : Nat := if ct then alongW cs s (v k) (v (k + 1)) else mixW (alongW cs s (v k) (v (k + 1))) (alongW cs s (v (k + W)) (v (k + W + 1))) t

set_option maxHeartbeats 4000000 in
theorem between_no (X Y : Int) (W H n b cap : Nat) (i j : Int) (s t : Nat) (cs ct : Bool) (w : World) (h0 : checkR X Y W H = 0) (i1 : -536870912 ≤ i) (i2 : i ≤ 536870912) (j1 : -536870912 ≤ j) (j2 : j ≤ 536870912)
    (hs : (FloatKind.f32.format.order s 0 == some .eq) = cs) (ht : (FloatKind.f32.format.order t 0 == some .eq) = ct) (hth : thereB X Y W H i j cs ct = false) :
    Calls Try.prog 113 #[fldV X Y W H (.slice (some ⟨b, 0, none⟩) n cap), .int .i64 i, .int .i64 j, .float .f32 s, .float .f32 t] w fun e w' => e = .returned (.tuple #[.float .f32 0, .bool false]) ∧ Below w.heap.size w w' := by
  obtain ⟨b1, b2, b3, b4, b5, b6, b7, b8, b9⟩ := checkR_zero h0
  have IN := Lib.hid (fun w => inside_any i j (if cs then 1 else 2) (if ct then 1 else 2) X Y W H w (by omega) (by omega) (by omega) (by omega) (by cases cs <;> simp) (by cases cs <;> simp) (by cases ct <;> simp) (by cases ct <;> simp) (by omega) (by omega) (by omega) (by omega) (by omega) (by omega) (by omega) (by omega))
  rw [show insideB i j (if cs then 1 else 2) (if ct then 1 else 2) X Y W H = false from hth] at IN
  have hs' : (FloatKind.f32.format.order s 0 != some .eq) = !cs := by rw [bne, hs]
  have ht' : (FloatKind.f32.format.order t 0 != some .eq) = !ct := by rw [bne, ht]
  clear h0 b1 b2 b3 b4 b5 b6 b7 b8 b9 hth
  cases cs <;> cases ct
  all_goals simp only [Bool.not_true, Bool.not_false] at hs' ht'
  all_goals simp only [Bool.false_eq_true, if_false, if_true] at IN
  all_goals
    go_enter Try.func113, Try.ntmps113
    go_wp2_with (first | (go_at_call 93; refine (cell_any _ _ _).mono ?_; rintro e w1 ⟨rfl, hb1⟩; have HA1 := Lib.hid (blkStay (b := w.heap.size) (o := fldO X Y W H (.slice (some ⟨b, 0, none⟩) n cap)) (by ((simp only [heap_alloc_get, if_true]) <;> ((repeat' split) <;> first | rfl | omega))) hb1); have hB1 := Lib.hid (Below.trans (show Below w.heap.size w _ from (by repeat (first | exact Below.refl _ _ | refine Below.alloc ?_ (by first | omega | (simp; done) | (simp; omega)) _ | refine Below.setCell ?_ (by first | omega | (simp; done) | (simp; omega)) _ | refine Below.drew ?_))) (Below.mono hb1 (by first | omega | (simp; done) | (simp; omega)))); obtain ⟨cA, fA, zA⟩ := blkC HA1.out; clear hb1) | (go_at_call 22; refine (IN.out _).mono ?_; rintro e w2 ⟨rfl, hb2⟩))
    go_ret2
    have b1 := hB1.out
    exact ⟨rfl, b1.trans (Below.trans ((Below.refl _ _).alloc b1.size _) (hb2.mono (by rw [heap_size_alloc]; have := b1.size; omega)))⟩

set_option maxHeartbeats 8000000 in
theorem between_ok (X Y : Int) (W H n b cap : Nat) (v : Nat → Nat) (i j : Int) (s t : Nat) (cs ct : Bool) (w : World) (h0 : checkR X Y W H = 0) (hn : n = W * H) (hcap : n ≤ cap) (hc : FlAt w b 0 n v) (hh : allB n (fun i => hgtB (v i)) = true)
    (hs : (FloatKind.f32.format.order s 0 == some .eq) = cs) (ht : (FloatKind.f32.format.order t 0 == some .eq) = ct) (hth : thereB X Y W H i j cs ct = true) (bs : Bd 1 s) (bt : Bd 1 t) :
    Calls Try.prog 113 #[fldV X Y W H (.slice (some ⟨b, 0, none⟩) n cap), .int .i64 i, .int .i64 j, .float .f32 s, .float .f32 t] w fun e w' => e = .returned (.tuple #[.float .f32 (btwW v W (numC X Y W i j) cs ct s t), .bool true]) ∧ Below w.heap.size w w' := by
  obtain ⟨b1, b2, b3, b4, b5, b6, b7, b8, b9⟩ := checkR_zero h0
  have hnn : n = H * W := by rw [hn]; exact Nat.mul_comm _ _
  have hn2 : n ≤ 65536 := by
    have : ((W : Int) * (H : Int)) = (n : Int) := by rw [hn]; simp
    omega
  have hth' : X ≤ i ∧ Y ≤ j ∧ i + (if cs then 1 else 2) ≤ X + W ∧ j + (if ct then 1 else 2) ≤ Y + H := insideB_iff.1 hth
  obtain ⟨t1, t2, t3, t4⟩ := hth'
  have t5 : i + 1 ≤ X + W := by cases cs <;> simp at t3 <;> omega
  have t6 : j + 1 ≤ Y + H := by cases ct <;> simp at t4 <;> omega
  have hk : ((numC X Y W i j : Nat) : Int) = (j - Y) * W + (i - X) := by
    unfold numC
    have : 0 ≤ (j - Y) * W := Int.mul_nonneg (by omega) (by omega)
    omega
  generalize numC X Y W i j = k at *
  have hkn : k < n := cell_lt (X := X) (Y := Y) (x := i) (y := j) (by omega) t1 (by omega) (by omega) hk hnn
  have hk1 : cs = false → k + 1 < n := fun h => by
    rw [h] at t3; simp at t3
    exact cell_lt (X := X) (Y := Y) (x := i + 1) (y := j) (by omega) (by omega) (by omega) (by omega) (by omega) hnn
  have hkW : ct = false → k + W < n := fun h => by
    rw [h] at t4; simp at t4
    exact cell_lt (X := X) (Y := Y) (x := i) (y := j + 1) (by omega) t1 (by omega) (by omega) (by rw [show (j + 1 - Y) = (j - Y) + 1 by omega, Int.add_mul]; omega) hnn
  have hkW1 : cs = false → ct = false → k + W + 1 < n := fun h h' => by
    rw [h] at t3; simp at t3
    rw [h'] at t4; simp at t4
    exact cell_lt (X := X) (Y := Y) (x := i + 1) (y := j + 1) (by omega) (by omega) (by omega) (by omega) (by rw [show (j + 1 - Y) = (j - Y) + 1 by omega, Int.add_mul]; omega) hnn
  have IN := Lib.hid (fun w => inside_any i j (if cs then 1 else 2) (if ct then 1 else 2) X Y W H w (by omega) (by omega) (by omega) (by omega) (by cases cs <;> simp) (by cases cs <;> simp) (by cases ct <;> simp) (by cases ct <;> simp) (by omega) (by omega) (by omega) (by omega) (by omega) (by omega) (by omega) (by omega))
  rw [show insideB i j (if cs then 1 else 2) (if ct then 1 else 2) X Y W H = true from hth] at IN
  have IX := Lib.hid (fun w => index_any X Y W H k i j w (by omega) (by omega) (by omega) (by omega) (by omega) (by omega) (by omega) t1 (by omega) t2 (by omega) hk (by omega))
  have hs' : (FloatKind.f32.format.order s 0 != some .eq) = !cs := by rw [bne, hs]
  have ht' : (FloatKind.f32.format.order t 0 != some .eq) = !ct := by rw [bne, ht]
  have z : b < w.heap.size := World.block_lt_of_cell? w _ (hc 0 (by omega))
  have cc : ∀ m, m < n → w.cell? ⟨b, m, none⟩ = some (.float .f32 (v m)) := fun m hm => by have := hc m hm; rwa [Nat.zero_add] at this
  have hb20 : ∀ m, m < n → Bd 20 (v m) := fun m hm => hgt_bd (allB_iff.1 hh m hm)
  have CC := Lib.hid cc
  have HB := Lib.hid hb20
  have K1 := Lib.hid hk1
  have KW := Lib.hid hkW
  have KW1 := Lib.hid hkW1
  have x1 : (k : Int) < (cap : Int) := by omega
  have x2 : (k : Int) ≤ (n : Int) := by omega
  have x3 : (0 : Int) ≤ (k : Int) := by omega
  have x4 : (W : Int) ≤ 512 := by omega
  have x5 : (n : Int) ≤ 65536 := by omega
  have x6 : ¬ (cap = k) := by omega
  have HK := Lib.hid hkn
  clear h0 b1 b2 b3 b4 b5 b6 b7 b8 b9 hth hc hh hn hnn t1 t2 t3 t4 t5 t6 hk cc hb20 hk1 hkW hkW1 hn2 hkn
  cases cs <;> cases ct
  all_goals simp only [Bool.not_true, Bool.not_false] at hs' ht'
  all_goals simp only [Bool.false_eq_true, if_false, if_true] at IN
  all_goals
    go_enter Try.func113, Try.ntmps113
    go_wp2_with (first | (go_at_call 93; refine (cell_any _ _ _).mono ?_; rintro e w1 ⟨rfl, hb1⟩; have HA1 := Lib.hid (blkStay (b := w.heap.size) (o := fldO X Y W H (.slice (some ⟨b, 0, none⟩) n cap)) (by ((simp only [heap_alloc_get, if_true]) <;> ((repeat' split) <;> first | rfl | omega))) hb1); have hB1 := Lib.hid (Below.trans (show Below w.heap.size w _ from (by repeat (first | exact Below.refl _ _ | refine Below.alloc ?_ (by first | omega | (simp; done) | (simp; omega)) _ | refine Below.setCell ?_ (by first | omega | (simp; done) | (simp; omega)) _ | refine Below.drew ?_))) (Below.mono hb1 (by first | omega | (simp; done) | (simp; omega)))); obtain ⟨cA, fA, zA⟩ := blkC HA1.out; clear hb1) | (go_at_call 22; refine (IN.out _).mono ?_; rintro e w2 ⟨rfl, hb2⟩; have hB2 := Lib.hid (hB1.out.trans (Below.trans ((Below.refl _ _).alloc hB1.out.size _) (hb2.mono (by rw [heap_size_alloc]; have := hB1.out.size; omega)))); have HA2 := Lib.hid (blkStay ((heap_alloc_old w1 _ zA).trans HA1.out) hb2); clear cA fA hb2; obtain ⟨cA2, fA2, zA2⟩ := blkC HA2.out) | (go_at_call 85; refine (IX.out _).mono ?_; rintro e w3 ⟨rfl, hw3⟩; have hb3 : Below w2.heap.size w2 w3 := (by rw [← hw3]; exact (Below.refl _ _).alloc (Nat.le_refl _) _); clear hw3; have hB3 := Lib.hid (hB2.out.trans (hb3.mono hB2.out.size)); have HA3 := Lib.hid (blkStay HA2.out hb3); clear cA2 fA2 hb3; obtain ⟨cA3, fA3, zA3⟩ := blkC HA3.out))
    have z3 : b < w3.heap.size := by have := hB3.out.size; omega
    have C3 := Lib.hid (fun m (hm : m < n) => ((hB3.out.cell (p := ⟨b, m, none⟩) z).trans (CC.out m hm)))
    refine (along_any b k (n - k) (cap - k) (v k) (v (k + 1)) s _ w3 (C3.out k HK.out) (by intro h; first | (cases h; done) | (have q := K1.out trivial; exact ⟨C3.out (k + 1) q, by omega, HB.out (k + 1) q⟩)) (by have := HK.out; omega) hs (HB.out k HK.out) bs).mono ?_
    rintro e w4 ⟨rfl, hb4⟩
    have hB4 := Lib.hid (hB3.out.trans (hb4.mono hB3.out.size))
    have HA4 := Lib.hid (blkStay HA3.out hb4)
    clear cA3 fA3 hb4
    obtain ⟨cA4, fA4, zA4⟩ := blkC HA4.out
  · have y1 : (k : Int) + (W : Int) ≤ (n : Int) := by have := KW.out trivial; omega
    have y2 : ((k : Int) + (W : Int)).toNat = k + W := by omega
    have y3 : ¬ (cap = k + W) := by have := KW.out trivial; omega
    have y4 : (k : Int) + (W : Int) < (cap : Int) := by have := KW.out trivial; omega
    go_wp2_with fail
    have z4 : b < w4.heap.size := by have := hB4.out.size; omega
    have C4 := Lib.hid (fun m (hm : m < n) => ((hB4.out.cell (p := ⟨b, m, none⟩) z).trans (CC.out m hm)))
    refine (along_any b (k + W) (n - (k + W)) (cap - (k + W)) (v (k + W)) (v (k + W + 1)) s _ w4 (C4.out (k + W) (KW.out trivial)) (by intro h; first | (cases h; done) | (have q := KW1.out trivial trivial; exact ⟨C4.out (k + W + 1) q, by omega, HB.out (k + W + 1) q⟩)) (by have := KW.out trivial; omega) hs (HB.out (k + W) (KW.out trivial)) bs).mono ?_
    rintro e w5 ⟨rfl, hb5⟩
    have hB5 := Lib.hid (hB4.out.trans (hb5.mono hB4.out.size))
    clear hb5 cA4 fA4
    have P1 : Bd 23 (alongW false s (v k) (v (k + 1))) := along_bd (HB.out k HK.out) (by intro h; first | (cases h; done) | exact HB.out (k + 1) (K1.out trivial)) bs
    have P2 : Bd 23 (alongW false s (v (k + W)) (v (k + W + 1))) := along_bd (HB.out (k + W) (KW.out trivial)) (by intro h; first | (cases h; done) | exact HB.out (k + W + 1) (KW1.out trivial trivial)) bs
    obtain ⟨d, q, r, e1, _, e2, _, e3, _, _, _⟩ := mix_parts (i := 23) (j := 1) (by omega) (by omega) P1 P2 bt
    have MX := Lib.hid (fun w => mix_any _ _ t d q r e1 e2 e3 w)
    have HE := Lib.hid (mix_eq e1 e2 e3)
    clear P1 P2 e1 e2 e3
    go_wp2_with (first | (go_at_call 106; refine (MX.out _).mono ?_; rintro e w' ⟨rfl, rfl⟩))
    go_ret2
    exact ⟨by rw [← HE.out]; rfl, hB5.out⟩
  · go_wp2
    go_ret2
    exact ⟨rfl, hB4.out⟩
  · have y1 : (k : Int) + (W : Int) ≤ (n : Int) := by have := KW.out trivial; omega
    have y2 : ((k : Int) + (W : Int)).toNat = k + W := by omega
    have y3 : ¬ (cap = k + W) := by have := KW.out trivial; omega
    have y4 : (k : Int) + (W : Int) < (cap : Int) := by have := KW.out trivial; omega
    go_wp2_with fail
    have z4 : b < w4.heap.size := by have := hB4.out.size; omega
    have C4 := Lib.hid (fun m (hm : m < n) => ((hB4.out.cell (p := ⟨b, m, none⟩) z).trans (CC.out m hm)))
    refine (along_any b (k + W) (n - (k + W)) (cap - (k + W)) (v (k + W)) (v (k + W + 1)) s _ w4 (C4.out (k + W) (KW.out trivial)) (by intro h; first | (cases h; done) | (have q := KW1.out trivial trivial; exact ⟨C4.out (k + W + 1) q, by omega, HB.out (k + W + 1) q⟩)) (by have := KW.out trivial; omega) hs (HB.out (k + W) (KW.out trivial)) bs).mono ?_
    rintro e w5 ⟨rfl, hb5⟩
    have hB5 := Lib.hid (hB4.out.trans (hb5.mono hB4.out.size))
    clear hb5 cA4 fA4
    have P1 : Bd 23 (alongW true s (v k) (v (k + 1))) := along_bd (HB.out k HK.out) (by intro h; first | (cases h; done) | exact HB.out (k + 1) (K1.out trivial)) bs
    have P2 : Bd 23 (alongW true s (v (k + W)) (v (k + W + 1))) := along_bd (HB.out (k + W) (KW.out trivial)) (by intro h; first | (cases h; done) | exact HB.out (k + W + 1) (KW1.out trivial trivial)) bs
    obtain ⟨d, q, r, e1, _, e2, _, e3, _, _, _⟩ := mix_parts (i := 23) (j := 1) (by omega) (by omega) P1 P2 bt
    have MX := Lib.hid (fun w => mix_any _ _ t d q r e1 e2 e3 w)
    have HE := Lib.hid (mix_eq e1 e2 e3)
    clear P1 P2 e1 e2 e3
    go_wp2_with (first | (go_at_call 106; refine (MX.out _).mono ?_; rintro e w' ⟨rfl, rfl⟩))
    go_ret2
    exact ⟨by rw [← HE.out]; rfl, hB5.out⟩
  · go_wp2
    go_ret2
    exact ⟨rfl, hB4.out⟩
end Go.Proofs.Ytihjemookgnafaa

/- Contracts of the regions' functions, continued: the reference's Inside; Common. -/
namespace Go.Proofs.Ytihjemookgnafaa
open Go.RowKit

set_option maxHeartbeats 1000000 in
theorem refInside_any (x y ww hh x' y' ww' hh' : Int) (w : World) (_ : -1073741824 ≤ x) (_ : x ≤ 1073741824) (_ : -1073741824 ≤ y) (_ : y ≤ 1073741824) (a5 : 1 ≤ ww) (a6 : ww ≤ 1073741824) (a7 : 1 ≤ hh) (a8 : hh ≤ 1073741824)
    (b1 : -1073741824 ≤ x') (b2 : x' ≤ 1073741824) (b3 : -1073741824 ≤ y') (b4 : y' ≤ 1073741824) (b5 : 1 ≤ ww') (b6 : ww' ≤ 1073741824) (b7 : 1 ≤ hh') (b8 : hh' ≤ 1073741824) :
    Calls Try.prog 23 #[reg x y ww hh, reg x' y' ww' hh'] w fun e w' => e = .returned (.bool (insideB x y ww hh x' y' ww' hh')) ∧ Below w.heap.size w w' := by
  go_enter Try.func23, Try.ntmps23
  go_wp2
  all_goals go_ret
  all_goals refine ⟨ret_bool ?_, (by repeat (first | exact Below.refl _ _ | refine Below.alloc ?_ (by first | omega | (simp; done) | (simp; omega)) _ | refine Below.setCell ?_ (by first | omega | (simp; done) | (simp; omega)) _ | refine Below.drew ?_))⟩
  all_goals (rw [Bool.eq_iff_iff, insideB_iff]; simp; omega)


set_option maxHeartbeats 1000000 in
theorem small_any (x y ww hh : Int) (w : World) :
    Calls Try.prog 19 #[reg x y ww hh] w fun e w' => e = .returned (.bool (decide (1 ≤ ww ∧ ww ≤ 1073741824 ∧ 1 ≤ hh ∧ hh ≤ 1073741824 ∧ -1073741824 ≤ x ∧ -1073741824 ≤ y ∧ x ≤ 1073741824 ∧ y ≤ 1073741824))) ∧ Below w.heap.size w w' := by
  go_enter Try.func19, Try.ntmps19
  go_wp2
  all_goals go_ret
  all_goals refine ⟨ret_bool ?_, (by repeat (first | exact Below.refl _ _ | refine Below.alloc ?_ (by first | omega | (simp; done) | (simp; omega)) _ | refine Below.setCell ?_ (by first | omega | (simp; done) | (simp; omega)) _ | refine Below.drew ?_))⟩
  all_goals (rw [Bool.eq_iff_iff]; simp; omega)

def maxI (a b : Int) : Int := if a < b then b else a
def minI (a b : Int) : Int := if b < a then b else a
theorem maxI_le (a b : Int) : a ≤ maxI a b ∧ b ≤ maxI a b ∧ (maxI a b = a ∨ maxI a b = b) := by unfold maxI; split <;> omega
theorem minI_le (a b : Int) : minI a b ≤ a ∧ minI a b ≤ b ∧ (minI a b = a ∨ minI a b = b) := by unfold minI; split <;> omega

/-- What Common answers. -/
def comB (x y w h x' y' w' h' : Int) : Bool := decide (1 ≤ minI (x + w) (x' + w') - maxI x x') && decide (1 ≤ minI (y + h) (y' + h') - maxI y y')
def comR (x y w h x' y' w' h' : Int) : Value :=
  if comB x y w h x' y' w' h' then reg (maxI x x') (maxI y y') (minI (x + w) (x' + w') - maxI x x') (minI (y + h) (y' + h') - maxI y y') else reg 0 0 0 0
theorem comB_iff {x y w h x' y' w' h' : Int} : comB x y w h x' y' w' h' = true ↔ 1 ≤ minI (x + w) (x' + w') - maxI x x' ∧ 1 ≤ minI (y + h) (y' + h') - maxI y y' := by simp [comB]
theorem comB_no {x y w h x' y' w' h' : Int} : comB x y w h x' y' w' h' = false ↔ minI (x + w) (x' + w') - maxI x x' < 1 ∨ minI (y + h) (y' + h') - maxI y y' < 1 := by
  rw [← Bool.not_eq_true, comB_iff]; omega

set_option maxHeartbeats 1000000 in
theorem common_any (x y ww hh x' y' ww' hh' : Int) (w : World) (a1 : -1073741824 ≤ x) (a2 : x ≤ 1073741824) (a3 : -1073741824 ≤ y) (a4 : y ≤ 1073741824) (a5 : 1 ≤ ww) (a6 : ww ≤ 1073741824) (a7 : 1 ≤ hh) (a8 : hh ≤ 1073741824)
    (b1 : -1073741824 ≤ x') (b2 : x' ≤ 1073741824) (b3 : -1073741824 ≤ y') (b4 : y' ≤ 1073741824) (b5 : 1 ≤ ww') (b6 : ww' ≤ 1073741824) (b7 : 1 ≤ hh') (b8 : hh' ≤ 1073741824) :
    Calls Try.prog 20 #[reg x y ww hh, reg x' y' ww' hh'] w fun e w' => e = .returned (.tuple #[comR x y ww hh x' y' ww' hh', .bool (comB x y ww hh x' y' ww' hh')]) ∧ Below w.heap.size w w' := by
  have hx : (if x < x' then x' else x) = maxI x x' := rfl
  have hy : (if y < y' then y' else y) = maxI y y' := rfl
  have ex : (if x' + ww' < x + ww then x' + ww' else x + ww) = minI (x + ww) (x' + ww') := rfl
  have ey : (if y' + hh' < y + hh then y' + hh' else y + hh) = minI (y + hh) (y' + hh') := rfl
  obtain ⟨x1, x2, x3⟩ := maxI_le x x'
  obtain ⟨y1, y2, y3⟩ := maxI_le y y'
  obtain ⟨x4, x5, x6⟩ := minI_le (x + ww) (x' + ww')
  obtain ⟨y4, y5, y6⟩ := minI_le (y + hh) (y' + hh')
  have x7 : -1073741824 ≤ maxI x x' ∧ maxI x x' ≤ 1073741824 ∧ -1073741824 ≤ minI (x + ww) (x' + ww') ∧ minI (x + ww) (x' + ww') ≤ 2147483648 := by omega
  have y7 : -1073741824 ≤ maxI y y' ∧ maxI y y' ≤ 1073741824 ∧ -1073741824 ≤ minI (y + hh) (y' + hh') ∧ minI (y + hh) (y' + hh') ≤ 2147483648 := by omega
  clear x3 y3 x6 y6
  obtain ⟨x7, x8, x9, xa⟩ := x7
  obtain ⟨y7, y8, y9, ya⟩ := y7
  rcases (show (1 ≤ minI (x + ww) (x' + ww') - maxI x x' ∧ 1 ≤ minI (y + hh) (y' + hh') - maxI y y') ∨ (1 ≤ minI (x + ww) (x' + ww') - maxI x x' ∧ minI (y + hh) (y' + hh') - maxI y y' < 1) ∨ minI (x + ww) (x' + ww') - maxI x x' < 1 by omega) with ⟨t1, t2⟩ | ⟨t1, t2⟩ | t1
  · have hb : comB x y ww hh x' y' ww' hh' = true := comB_iff.2 ⟨t1, t2⟩
    have hr : comR x y ww hh x' y' ww' hh' = reg (maxI x x') (maxI y y') (minI (x + ww) (x' + ww') - maxI x x') (minI (y + hh) (y' + hh') - maxI y y') := by unfold comR; rw [if_pos hb]
    rw [hb, hr]
    clear hb hr
    go_enter Try.func20, Try.ntmps20
    go_wp2
    go_region
    go_wp2
    exact bodyPost_ret (v := .tuple #[reg (maxI x x') (maxI y y') (minI (x + ww) (x' + ww') - maxI x x') (minI (y + hh) (y' + hh') - maxI y y'), .bool true]) (by simp [results, Try.results20, go_sem]) rfl ⟨rfl, (by repeat (first | exact Below.refl _ _ | refine Below.alloc ?_ (by first | omega | (simp; done) | (simp; omega)) _ | refine Below.setCell ?_ (by first | omega | (simp; done) | (simp; omega)) _ | refine Below.drew ?_))⟩
  all_goals
    have hb : comB x y ww hh x' y' ww' hh' = false := comB_no.2 (by omega)
    have hr : comR x y ww hh x' y' ww' hh' = reg 0 0 0 0 := by unfold comR; rw [hb]; rfl
    rw [hb, hr]
    clear hb hr
    go_enter Try.func20, Try.ntmps20
    go_wp2
    go_region
    go_wp2
    exact bodyPost_ret (v := .tuple #[reg 0 0 0 0, .bool false]) (by simp [results, Try.results20, go_sem]) rfl ⟨rfl, (by repeat (first | exact Below.refl _ _ | refine Below.alloc ?_ (by first | omega | (simp; done) | (simp; omega)) _ | refine Below.setCell ?_ (by first | omega | (simp; done) | (simp; omega)) _ | refine Below.drew ?_))⟩

set_option maxHeartbeats 1000000 in
theorem refCommon_any (x y ww hh x' y' ww' hh' : Int) (w : World) (a1 : -1073741824 ≤ x) (a2 : x ≤ 1073741824) (a3 : -1073741824 ≤ y) (a4 : y ≤ 1073741824) (a5 : 1 ≤ ww) (a6 : ww ≤ 1073741824) (a7 : 1 ≤ hh) (a8 : hh ≤ 1073741824)
    (b1 : -1073741824 ≤ x') (b2 : x' ≤ 1073741824) (b3 : -1073741824 ≤ y') (b4 : y' ≤ 1073741824) (b5 : 1 ≤ ww') (b6 : ww' ≤ 1073741824) (b7 : 1 ≤ hh') (b8 : hh' ≤ 1073741824) :
    Calls Try.prog 21 #[reg x y ww hh, reg x' y' ww' hh'] w fun e w' => e = .returned (.tuple #[comR x y ww hh x' y' ww' hh', .bool (comB x y ww hh x' y' ww' hh')]) ∧ Below w.heap.size w w' := by
  have hx : (if x < x' then x' else x) = maxI x x' := rfl
  have hy : (if y < y' then y' else y) = maxI y y' := rfl
  have ex : (if x' + ww' < x + ww then x' + ww' else x + ww) = minI (x + ww) (x' + ww') := rfl
  have ey : (if y' + hh' < y + hh then y' + hh' else y + hh) = minI (y + hh) (y' + hh') := rfl
  obtain ⟨x1, x2, x3⟩ := maxI_le x x'
  obtain ⟨y1, y2, y3⟩ := maxI_le y y'
  obtain ⟨x4, x5, x6⟩ := minI_le (x + ww) (x' + ww')
  obtain ⟨y4, y5, y6⟩ := minI_le (y + hh) (y' + hh')
  have x7 : -1073741824 ≤ maxI x x' ∧ maxI x x' ≤ 1073741824 ∧ -1073741824 ≤ minI (x + ww) (x' + ww') ∧ minI (x + ww) (x' + ww') ≤ 2147483648 := by omega
  have y7 : -1073741824 ≤ maxI y y' ∧ maxI y y' ≤ 1073741824 ∧ -1073741824 ≤ minI (y + hh) (y' + hh') ∧ minI (y + hh) (y' + hh') ≤ 2147483648 := by omega
  clear x3 y3 x6 y6
  obtain ⟨x7, x8, x9, xa⟩ := x7
  obtain ⟨y7, y8, y9, ya⟩ := y7
  rcases (show (1 ≤ minI (x + ww) (x' + ww') - maxI x x' ∧ 1 ≤ minI (y + hh) (y' + hh') - maxI y y') ∨ (1 ≤ minI (x + ww) (x' + ww') - maxI x x' ∧ minI (y + hh) (y' + hh') - maxI y y' < 1) ∨ minI (x + ww) (x' + ww') - maxI x x' < 1 by omega) with ⟨t1, t2⟩ | ⟨t1, t2⟩ | t1
  · have hb : comB x y ww hh x' y' ww' hh' = true := comB_iff.2 ⟨t1, t2⟩
    have hr : comR x y ww hh x' y' ww' hh' = reg (maxI x x') (maxI y y') (minI (x + ww) (x' + ww') - maxI x x') (minI (y + hh) (y' + hh') - maxI y y') := by unfold comR; rw [if_pos hb]
    rw [hb, hr]
    clear hb hr
    go_enter Try.func21, Try.ntmps21
    go_wp2
    go_region
    go_wp2
    exact bodyPost_ret (v := .tuple #[reg (maxI x x') (maxI y y') (minI (x + ww) (x' + ww') - maxI x x') (minI (y + hh) (y' + hh') - maxI y y'), .bool true]) (by simp [results, Try.results21, go_sem]) rfl ⟨rfl, (by repeat (first | exact Below.refl _ _ | refine Below.alloc ?_ (by first | omega | (simp; done) | (simp; omega)) _ | refine Below.setCell ?_ (by first | omega | (simp; done) | (simp; omega)) _ | refine Below.drew ?_))⟩
  all_goals
    have hb : comB x y ww hh x' y' ww' hh' = false := comB_no.2 (by omega)
    have hr : comR x y ww hh x' y' ww' hh' = reg 0 0 0 0 := by unfold comR; rw [hb]; rfl
    rw [hb, hr]
    clear hb hr
    go_enter Try.func21, Try.ntmps21
    go_wp2
    go_region
    go_wp2
    exact bodyPost_ret (v := .tuple #[reg 0 0 0 0, .bool false]) (by simp [results, Try.results21, go_sem]) rfl ⟨rfl, (by repeat (first | exact Below.refl _ _ | refine Below.alloc ?_ (by first | omega | (simp; done) | (simp; omega)) _ | refine Below.setCell ?_ (by first | omega | (simp; done) | (simp; omega)) _ | refine Below.drew ?_))⟩

end Go.Proofs.Ytihjemookgnafaa

/- Contracts: Same$1, EqualFunc, Same, same. -/
namespace Go.Proofs.Ytihjemookgnafaa
open Go.RowKit Fl
set_option linter.unusedVariables false

theorem enters_Same1 : Enters 87 := by intro args W; simp [callFunc, Try.func87, Try.f87]

set_option maxHeartbeats 400000 in
theorem same1_self (x : Nat) (w : World) :
    Calls Try.prog 87 #[.float .f32 x, .float .f32 x] w fun e w' => e = .returned (.bool true) ∧ w = w' := by
  have h1 := f32bits
  go_enter Try.func87, Try.ntmps87
  go_wp2
  go_ret
  exact ⟨rfl, rfl⟩

set_option maxHeartbeats 1000000 in
theorem equalFunc_row (b b' cap cap' n : Nat) (v : Nat → Nat) (hl : n ≤ 9223372036854775807) (w : World) (hc : FlAt w b 0 n v) (hc' : FlAt w b' 0 n v) :
    Calls Try.prog 86 #[.slice (some ⟨b, 0, none⟩) n cap, .slice (some ⟨b', 0, none⟩) n cap', .func (.func 87) #[] #[]] w fun e w' => e = .returned (.bool true) ∧ w = w' := by
  have hcall := enters_Same1
  unfold Enters at hcall
  go_enter Try.func86, Try.ntmps86
  go_wp2
  go_loop [17] (fun i => ∃ k : Nat, k ≤ n ∧ i = .int .i64 k) (fun i => n - (intOf i).toNat)
  case atStart => exact ⟨0, Nat.zero_le _, rfl⟩
  case round =>
    obtain ⟨k, hk, rfl⟩ := hrel
    by_cases hlt : k < n
    · have hcell := hc k hlt
      have hcell' := hc' k hlt
      rw [Nat.zero_add] at hcell hcell'
      have IH := Lib.hid (fun w => same1_self (v k) w)
      go_wp2_with fail
      refine (IH.out _).mono ?_
      rintro e w' ⟨rfl, rfl⟩
      go_wp2
      go_round
      case rel => exact ⟨k + 1, by omega, by go_num⟩
      case measure => simp [intOf]; omega
    · go_wp2
      go_ret
      exact ⟨rfl, rfl⟩

set_option maxHeartbeats 1000000 in
theorem same_ok (X Y W H : Int) (b b' cap cap' n : Nat) (v : Nat → Nat) (hl : n ≤ 9223372036854775807) (h1 : 1 ≤ n) (w : World) (hc : FlAt w b 0 n v) (hc' : FlAt w b' 0 n v) :
    Calls Try.prog 31 #[fldV X Y W H (.slice (some ⟨b, 0, none⟩) n cap), fldV X Y W H (.slice (some ⟨b', 0, none⟩) n cap')] w fun e w' => e = .returned (.bool true) ∧ Below w.heap.size w w' := by
  have z := World.block_lt_of_cell? w _ (hc 0 h1)
  have z' := World.block_lt_of_cell? w _ (hc' 0 h1)
  have EF := Lib.hid (fun W' (hb : Below w.heap.size w W') => equalFunc_row b b' cap cap' n v hl W' (flAt_congr hc (hb.block _ z)) (flAt_congr hc' (hb.block _ z')))
  clear hc hc'
  go_enter Try.func31, Try.ntmps31
  go_wp2_with (first | (go_at_call 86; refine (EF.out _ (by repeat (first | exact Below.refl _ _ | refine Below.alloc ?_ (by first | omega | (simp; done) | (simp; omega)) _ | refine Below.setCell ?_ (by first | omega | (simp; done) | (simp; omega)) _ | refine Below.drew ?_))).mono ?_; rintro e w' ⟨rfl, rfl⟩))
  go_ret
  exact ⟨rfl, (by repeat (first | exact Below.refl _ _ | refine Below.alloc ?_ (by first | omega | (simp; done) | (simp; omega)) _ | refine Below.setCell ?_ (by first | omega | (simp; done) | (simp; omega)) _ | refine Below.drew ?_))⟩

set_option maxHeartbeats 1000000 in
theorem law_same_ok (X Y W H : Int) (b b' cap cap' n : Nat) (v : Nat → Nat) (hl : n ≤ 9223372036854775807) (h1 : 1 ≤ n) (w : World) (hc : FlAt w b 0 n v) (hc' : FlAt w b' 0 n v) :
    Calls Try.prog 38 #[fldV X Y W H (.slice (some ⟨b, 0, none⟩) n cap), .int .i64 0, fldV X Y W H (.slice (some ⟨b', 0, none⟩) n cap'), .int .i64 0] w fun e w' => e = .returned (.bool true) ∧ Below w.heap.size w w' := by
  have z := World.block_lt_of_cell? w _ (hc 0 h1)
  have z' := World.block_lt_of_cell? w _ (hc' 0 h1)
  have SM := Lib.hid (fun W' (hb : Below w.heap.size w W') => same_ok X Y W H b b' cap cap' n v hl h1 W' (flAt_congr hc (hb.block _ z)) (flAt_congr hc' (hb.block _ z')))
  clear hc hc'
  go_enter Try.func38, Try.ntmps38
  go_wp2_with (first | (go_at_call 31; refine (SM.out _ (by repeat (first | exact Below.refl _ _ | refine Below.alloc ?_ (by first | omega | (simp; done) | (simp; omega)) _ | refine Below.setCell ?_ (by first | omega | (simp; done) | (simp; omega)) _ | refine Below.drew ?_))).mono ?_; rintro e w2 ⟨rfl, hb2⟩))
  go_ret
  exact ⟨rfl, Below.trans (by repeat (first | exact Below.refl _ _ | refine Below.alloc ?_ (by first | omega | (simp; done) | (simp; omega)) _ | refine Below.setCell ?_ (by first | omega | (simp; done) | (simp; omega)) _ | refine Below.drew ?_)) (Below.mono hb2 (by simp; try omega))⟩

set_option maxHeartbeats 1000000 in
theorem law_same_err (e1 : Int) (he : e1 ≠ 0) (w : World) :
    Calls Try.prog 38 #[fldV 0 0 0 0 (.slice none 0 0), .int .i64 e1, fldV 0 0 0 0 (.slice none 0 0), .int .i64 e1] w fun e w' => e = .returned (.bool true) ∧ Below w.heap.size w w' := by
  have hb : (e1 != 0) = true := by simp [he]
  go_enter Try.func38, Try.ntmps38
  go_wp2
  go_ret
  exact ⟨rfl, (by repeat (first | exact Below.refl _ _ | refine Below.alloc ?_ (by first | omega | (simp; done) | (simp; omega)) _ | refine Below.setCell ?_ (by first | omega | (simp; done) | (simp; omega)) _ | refine Below.drew ?_))⟩

end Go.Proofs.Ytihjemookgnafaa

/- Contracts: the laws' bits, one: a single, with its error, told by both sides. -/
namespace Go.Proofs.Ytihjemookgnafaa
open Go.RowKit Fl
set_option linter.unusedVariables false

set_option maxHeartbeats 400000 in
theorem bits_self (x : Nat) (w : World) :
    Calls Try.prog 29 #[.float .f32 x, .float .f32 x] w fun e w' => e = .returned (.bool true) ∧ w = w' := by
  have h1 := f32bits
  go_enter Try.func29, Try.ntmps29
  go_wp2
  go_ret
  exact ⟨rfl, rfl⟩

set_option maxHeartbeats 400000 in
theorem one_ok (x : Nat) (w : World) :
    Calls Try.prog 46 #[.float .f32 x, .int .i64 0, .float .f32 x, .int .i64 0] w fun e w' => e = .returned (.bool true) ∧ w = w' := by
  go_enter Try.func46, Try.ntmps46
  go_wp2_with (go_at_call 29; refine (bits_self _ _).mono ?_; rintro e w' ⟨rfl, rfl⟩)
  go_ret
  exact ⟨rfl, rfl⟩

set_option maxHeartbeats 400000 in
theorem one_err (b : Nat) (k : Int) (hk : k = 2 ∨ k = 3 ∨ k = 4 ∨ k = 5) (w : World) :
    Calls Try.prog 46 #[.float .f32 0, .int .i64 k, .float .f32 b, .int .i64 k] w fun e w' => e = .returned (.bool true) ∧ w = w' := by
  rcases hk with rfl | rfl | rfl | rfl
  all_goals go_enter Try.func46, Try.ntmps46
  all_goals go_wp2_with (go_at_call 29; refine (bits_self _ _).mono ?_; rintro e w' ⟨rfl, rfl⟩)
  all_goals go_ret
  all_goals exact ⟨rfl, rfl⟩

set_option maxHeartbeats 400000 in
theorem one_errX (b : Nat) (k : Int) (hk : k ≠ 0) (w : World) :
    Calls Try.prog 46 #[.float .f32 0, .int .i64 k, .float .f32 b, .int .i64 k] w fun e w' => e = .returned (.bool true) ∧ w = w' := by
  have hb : (k != 0) = true := by simp [hk]
  clear hk
  go_enter Try.func46, Try.ntmps46
  go_wp2_with (go_at_call 29; refine (bits_self _ _).mono ?_; rintro e w' ⟨rfl, rfl⟩)
  go_ret
  exact ⟨rfl, rfl⟩

end Go.Proofs.Ytihjemookgnafaa

/- HashesMatch: Hash, Unit and Signed answer as the references do; units are from 0 to below 1, signed ones from -1. -/
namespace Go.Proofs.Ytihjemookgnafaa
open Go.RowKit Fl
set_option linter.unusedVariables false

theorem unit_cmp {h : Int} (h0 : 0 ≤ h) (h1 : h < 4294967296) : (FloatKind.f32.format.order (unitW h) 0 == some .gt || FloatKind.f32.format.order (unitW h) 0 == some .eq) = true ∧ (FloatKind.f32.format.order (unitW h) 1065353216 == some .lt) = true := by
  obtain ⟨a, v, a0, a1⟩ := unit_in h0 h1
  rw [show FloatKind.f32.format = Ieee.single from rfl]
  exact ⟨by rw [geq_val v vS_zero]; simpa using a0, by rw [lss_val v vS_one]; simpa using a1⟩
theorem sgn_cmp {h : Int} (h0 : 0 ≤ h) (h1 : h < 4294967296) : (FloatKind.f32.format.order (sgnW h) 3212836864 == some .gt || FloatKind.f32.format.order (sgnW h) 3212836864 == some .eq) = true ∧ (FloatKind.f32.format.order (sgnW h) 1065353216 == some .lt) = true := by
  obtain ⟨a, v, a0, a1⟩ := sgn_in h0 h1
  rw [show FloatKind.f32.format = Ieee.single from rfl]
  exact ⟨by rw [geq_val v vS_mone]; simpa using a0, by rw [lss_val v vS_one]; simpa using a1⟩

set_option maxHeartbeats 1000000 in
theorem hashesMatch_any (s x y n h : Int) (w : World) (h0 : 0 ≤ h) (h1 : h < 4294967296) :
    Calls Try.prog 9 #[.int .u32 s, .int .i64 x, .int .i64 y, .int .i64 n, .int .u32 h] w fun e w' => e = .returned (.bool true) ∧ Below w.heap.size w w' := by
  obtain ⟨c1, c2⟩ := unit_cmp h0 h1
  obtain ⟨c3, c4⟩ := sgn_cmp h0 h1
  go_enter Try.func9, Try.ntmps9
  go_wp2_with (first | (go_at_call 14; refine (landed_any _).mono ?_; rintro e w1 ⟨rfl, hb1⟩) | (go_at_call 49; refine (unit_any _ _ h0 h1).mono ?_; rintro e w' ⟨rfl, rfl⟩) | (go_at_call 50; refine (signed_any _ _ h0 h1).mono ?_; rintro e w' ⟨rfl, rfl⟩) | (go_at_call 51; refine (hash_any _ _ _ _ _).mono ?_; rintro e w' ⟨rfl, rfl⟩) | (go_at_call 52; refine (refHash_any _ _ _ _ _).mono ?_; rintro e w2 ⟨rfl, hb2⟩) | (go_at_call 53; refine (refUnit_any _ _ h0 h1).mono ?_; rintro e w' ⟨rfl, rfl⟩) | (go_at_call 54; refine (refSigned_any _ _ h0 h1).mono ?_; rintro e w' ⟨rfl, rfl⟩) | (go_at_call 29; refine (bits_self _ _).mono ?_; rintro e w' ⟨rfl, rfl⟩))
  go_ret
  exact ⟨rfl, Below.trans hb1 (Below.mono hb2 (by have := hb1.size; omega))⟩
end Go.Proofs.Ytihjemookgnafaa

/- The closures of Dither, on both sides. -/
namespace Go.Proofs.Ytihjemookgnafaa
open Go.RowKit Fl
set_option linter.unusedVariables false

theorem enters_Dither1 : Enters 129 := by intro args W; simp [callFunc, Try.func129, Try.f129]
theorem enters_rDither1 : Enters 130 := by intro args W; simp [callFunc, Try.func130, Try.f130]

/-- A word of 32 bits in a box. -/
abbrev u32Obj (s : Int) : Obj := .cells #[.int .u32 s] 62

/-- What Dither makes of the cell number i. -/
def dthF (v : Nat → Nat) (st : Nat) (sd X Y : Int) (W : Nat) (i : Nat) : Nat := dthW (v i) st (hashI sd (X + ((i % W : Nat) : Int)) (Y + ((i / W : Nat) : Int)) 8)

/-- What the closures hold: the field, the seed, the step. -/
structure DCaps (w : World) (X Y : Int) (W H n b cap : Nat) (v : Nat → Nat) (p st : Nat) (sd : Int) : Prop where
  fld : w.heap[p]? = some (fldO X Y W H (.slice (some ⟨b, 0, none⟩) n cap))
  sed : w.heap[p + 1]? = some (u32Obj sd)
  stp : w.heap[p + 1 + 1]? = some (flObj st)
  row : FlAt w b 0 n v
theorem DCaps.stay {w w' : World} {X Y : Int} {W H n b cap : Nat} {v : Nat → Nat} {p st : Nat} {sd : Int} (h : DCaps w X Y W H n b cap v p st sd) (hn : 1 ≤ n) (hb : Below w.heap.size w w') : DCaps w' X Y W H n b cap v p st sd :=
  ⟨blkStay h.fld hb, blkStay h.sed hb, blkStay h.stp hb, flAt_congr h.row (hb.block _ (World.block_lt_of_cell? w _ (h.row 0 hn)))⟩

set_option maxHeartbeats 4000000 in
set_option maxRecDepth 100000 in
theorem dither1_any (X Y : Int) (W H n b cap : Nat) (v : Nat → Nat) (p st : Nat) (sd : Int) (w : World) (hk : DCaps w X Y W H n b cap v p st sd) (hn : n ≤ 65536) (hv : allB n (fun i => hgtB (v i)) = true) (hs : StepOk st)
    (hX1 : -16777216 ≤ X) (hX2 : X ≤ 16777216) (hY1 : -16777216 ≤ Y) (hY2 : Y ≤ 16777216) (hW1 : 1 ≤ W) (hW2 : W ≤ 512) (hH2 : H ≤ 512) (hnn : n = H * W) :
    Clos2 129 #[.pointer (some ⟨p, 0, none⟩), .pointer (some ⟨p + 1 + 1, 0, none⟩), .pointer (some ⟨p + 1, 0, none⟩)] X Y W H (dthF v st sd X Y W) w := by
  intro x y i w2 h1 h2 h3 h4 h5 hb
  have hi : i < n := num_lt hW1 h1 h2 h4 h5 hnn
  have K := hk.stay (by omega) hb
  obtain ⟨ex, ey⟩ := place_of hW1 h1 h2 h3 h5
  unfold dthF
  rw [ex, ey]
  obtain ⟨q, d, c, j, r, D⟩ := dth_parts (hashI sd x y 8) (allB_iff.1 hv i hi) hs
  rw [D.w]
  obtain ⟨aq, haq⟩ := D.fq
  have FL := Lib.hid (fun w => floor_any q 30 aq haq D.bq (by omega) w)
  have IX := Lib.hid (fun w => index_any X Y W H i x y w hX1 hX2 hY1 hY2 hW1 hW2 hH2 h1 h2 h3 h4 h5 (by omega))
  have UN := Lib.hid (fun w => unit_any (hashI sd x y 8) w (hashI_in _ _ _ _).1 (hashI_in _ _ _ _).2)
  have a1 := fun (W : World) => run_float_arith (P := Try.prog) W .quo 37 .f32 (v i) st q D.q1
  have a2 := fun (W : World) => run_float_arith (P := Try.prog) W .sub 37 .f32 q (flW q) d D.d1
  have a4 := fun (W : World) => run_float_arith (P := Try.prog) W .mul 37 .f32 j st r D.r1
  have hcell := K.row i hi
  rw [Nat.zero_add] at hcell
  have zb : b < w2.heap.size := World.block_lt_of_cell? w2 _ hcell
  have HC := Lib.hid hcell
  have GF := Lib.hid K.fld
  have GS := Lib.hid K.stp
  have GH := Lib.hid K.sed
  obtain ⟨cF, fF, zF⟩ := blkC K.fld
  obtain ⟨cS, fS, zS⟩ := blkC K.stp
  obtain ⟨cH, fH, zH⟩ := blkC K.sed
  have hi2 : (i : Int) < (n : Int) := by omega
  have hi3 : (0 : Int) ≤ (i : Int) := by omega
  have c1 := D.c1
  have DJ := Lib.hid (And.intro D.j1 D.j3)
  clear D haq hk hb h1 h2 h3 h4 h5 hX1 hX2 hY1 hY2 hW1 hW2 hH2 hnn hv hs K ex ey hi hn
  go_enter Try.func129, Try.ntmps129
  go_wp2
  go_region_held3 (fun w' => (∀ o, w'.cell? ⟨p, o, none⟩ = #[.int .i64 X, .int .i64 Y, .int .i64 W, .int .i64 H, .slice (some ⟨b, 0, none⟩) n cap][o]?) ∧ (∀ o, w'.cell? ⟨p + 1 + 1, o, none⟩ = #[.float .f32 st][o]?) ∧ (∀ o, w'.cell? ⟨p + 1, o, none⟩ = #[.int .u32 sd][o]?) ∧ w'.cell? ⟨b, i, none⟩ = some (.float .f32 (v i)) ∧ Below w2.heap.size w2 w') (first | exact ⟨(blkC (blkStay GF.out (by repeat (first | exact Below.refl _ _ | refine Below.alloc ?_ (by first | omega | (simp; done) | (simp; omega)) _ | refine Below.setCell ?_ (by first | omega | (simp; done) | (simp; omega)) _ | refine Below.drew ?_)))).1, (blkC (blkStay GS.out (by repeat (first | exact Below.refl _ _ | refine Below.alloc ?_ (by first | omega | (simp; done) | (simp; omega)) _ | refine Below.setCell ?_ (by first | omega | (simp; done) | (simp; omega)) _ | refine Below.drew ?_)))).1, (blkC (blkStay GH.out (by repeat (first | exact Below.refl _ _ | refine Below.alloc ?_ (by first | omega | (simp; done) | (simp; omega)) _ | refine Below.setCell ?_ (by first | omega | (simp; done) | (simp; omega)) _ | refine Below.drew ?_)))).1, (Below.cell (p := ⟨b, i, none⟩) (w := w2) (B := w2.heap.size) (by repeat (first | exact Below.refl _ _ | refine Below.alloc ?_ (by first | omega | (simp; done) | (simp; omega)) _ | refine Below.setCell ?_ (by first | omega | (simp; done) | (simp; omega)) _ | refine Below.drew ?_)) zb).trans HC.out, (by repeat (first | exact Below.refl _ _ | refine Below.alloc ?_ (by first | omega | (simp; done) | (simp; omega)) _ | refine Below.setCell ?_ (by first | omega | (simp; done) | (simp; omega)) _ | refine Below.drew ?_))⟩) (first | (go_at_call 85; (with_reducible refine Calls.mono (IX.out _) ?_); rintro e w' ⟨rfl, rfl⟩))
  rename_i hHeld
  obtain ⟨k1, k2, k3, k4, k5⟩ := hHeld
  clear cF cS cH fF fS fH hcell
  cases c with
  | true =>
    have a3 := fun (W : World) => run_float_arith (P := Try.prog) W .add 37 .f32 (flW q) 1065353216 j (DJ.out.1 rfl)
    go_wp2_with (first | (go_at_call 112; refine (FL.out _).mono ?_; rintro e w' ⟨rfl, rfl⟩) | (go_at_call 51; refine (hash_any _ _ _ _ _).mono ?_; rintro e w' ⟨rfl, rfl⟩) | (go_at_call 49; refine (UN.out _).mono ?_; rintro e w' ⟨rfl, rfl⟩))
    go_ret
    exact ⟨rfl, k5⟩
  | false =>
    have ej := DJ.out.2 rfl
    subst ej
    go_wp2_with (first | (go_at_call 112; refine (FL.out _).mono ?_; rintro e w' ⟨rfl, rfl⟩) | (go_at_call 51; refine (hash_any _ _ _ _ _).mono ?_; rintro e w' ⟨rfl, rfl⟩) | (go_at_call 49; refine (UN.out _).mono ?_; rintro e w' ⟨rfl, rfl⟩))
    go_ret
    exact ⟨rfl, k5⟩
end Go.Proofs.Ytihjemookgnafaa

/- The reference's closure of Dither; the closures of Speckle. -/
namespace Go.Proofs.Ytihjemookgnafaa
open Go.RowKit Fl
set_option linter.unusedVariables false

theorem enters_Speckle1 : Enters 132 := by intro args W; simp [callFunc, Try.func132, Try.f132]
theorem enters_rSpeckle1 : Enters 134 := by intro args W; simp [callFunc, Try.func134, Try.f134]

set_option maxHeartbeats 4000000 in
set_option maxRecDepth 100000 in
theorem rdither1_any (X Y : Int) (W H n b cap : Nat) (v : Nat → Nat) (p st : Nat) (sd : Int) (w : World) (hk : DCaps w X Y W H n b cap v p st sd) (hn : n ≤ 65536) (hv : allB n (fun i => hgtB (v i)) = true) (hs : StepOk st)
    (hX1 : -16777216 ≤ X) (hX2 : X ≤ 16777216) (hY1 : -16777216 ≤ Y) (hY2 : Y ≤ 16777216) (hW1 : 1 ≤ W) (hW2 : W ≤ 512) (hH2 : H ≤ 512) (hnn : n = H * W) :
    Clos2 130 #[.pointer (some ⟨p, 0, none⟩), .pointer (some ⟨p + 1 + 1, 0, none⟩), .pointer (some ⟨p + 1, 0, none⟩)] X Y W H (dthF v st sd X Y W) w := by
  intro x y i w2 h1 h2 h3 h4 h5 hb
  have hi : i < n := num_lt hW1 h1 h2 h4 h5 hnn
  have K := hk.stay (by omega) hb
  obtain ⟨ex, ey⟩ := place_of hW1 h1 h2 h3 h5
  unfold dthF
  rw [ex, ey]
  obtain ⟨q, d, c, j, r, D⟩ := dth_parts (hashI sd x y 8) (allB_iff.1 hv i hi) hs
  rw [D.w]
  obtain ⟨aq, haq⟩ := D.fq
  have FL := Lib.hid (fun w => refFloor_any q 30 aq haq D.bq (by omega) w)
  have z1 := (World.block_lt_of_cell? w2 _ (K.row i hi))
  have AT := Lib.hid (fun W' (hb : Below w2.heap.size w2 W') => refAt_any X Y W H n b cap i v x y W' hX1 hX2 hY1 hY2 hW1 hW2 hH2 h1 h2 h3 h4 h5 hi hn (flAt_congr K.row (hb.block _ z1)))
  have DV := Lib.hid (fun w => refDiv_any 30 (v i) st q D.q2 D.q1 w)
  have SB := Lib.hid (fun w => refSub_any 32 q (flW q) d D.d2 D.d1 w)
  have ML := Lib.hid (fun w => refMul_any 43 j st r D.r2 D.r1 w)
  have UN := Lib.hid (fun w => refUnit_any (hashI sd x y 8) w (hashI_in _ _ _ _).1 (hashI_in _ _ _ _).2)
  have GF := Lib.hid K.fld
  have GS := Lib.hid K.stp
  have GH := Lib.hid K.sed
  obtain ⟨cF, fF, zF⟩ := blkC K.fld
  obtain ⟨cS, fS, zS⟩ := blkC K.stp
  obtain ⟨cH, fH, zH⟩ := blkC K.sed
  have c1 := D.c1
  have DJ := Lib.hid (And.intro D.j1 (And.intro D.j2 D.j3))
  clear D haq hk hb h1 h2 h3 h4 h5 hX1 hX2 hY1 hY2 hW1 hW2 hH2 hnn hv hs K ex ey hi hn z1
  go_enter Try.func130, Try.ntmps130
  go_wp2
  go_region_held3 (fun w' => (∀ o, w'.cell? ⟨p, o, none⟩ = #[.int .i64 X, .int .i64 Y, .int .i64 W, .int .i64 H, .slice (some ⟨b, 0, none⟩) n cap][o]?) ∧ (∀ o, w'.cell? ⟨p + 1 + 1, o, none⟩ = #[.float .f32 st][o]?) ∧ (∀ o, w'.cell? ⟨p + 1, o, none⟩ = #[.int .u32 sd][o]?) ∧ Below w2.heap.size w2 w') (first | exact ⟨(blkC (blkStay GF.out (by repeat (first | exact Below.refl _ _ | refine Below.alloc ?_ (by first | omega | (simp; done) | (simp; omega)) _ | refine Below.setCell ?_ (by first | omega | (simp; done) | (simp; omega)) _ | refine Below.drew ?_)))).1, (blkC (blkStay GS.out (by repeat (first | exact Below.refl _ _ | refine Below.alloc ?_ (by first | omega | (simp; done) | (simp; omega)) _ | refine Below.setCell ?_ (by first | omega | (simp; done) | (simp; omega)) _ | refine Below.drew ?_)))).1, (blkC (blkStay GH.out (by repeat (first | exact Below.refl _ _ | refine Below.alloc ?_ (by first | omega | (simp; done) | (simp; omega)) _ | refine Below.setCell ?_ (by first | omega | (simp; done) | (simp; omega)) _ | refine Below.drew ?_)))).1, (by repeat (first | exact Below.refl _ _ | refine Below.alloc ?_ (by first | omega | (simp; done) | (simp; omega)) _ | refine Below.setCell ?_ (by first | omega | (simp; done) | (simp; omega)) _ | refine Below.drew ?_))⟩) (first | (go_at_call 90; (with_reducible refine Calls.mono (AT.out _ ?_) ?_); exact (by repeat (first | exact Below.refl _ _ | refine Below.alloc ?_ (by first | omega | (simp; done) | (simp; omega)) _ | refine Below.setCell ?_ (by first | omega | (simp; done) | (simp; omega)) _ | refine Below.drew ?_)); rintro e w' ⟨rfl, rfl⟩) | (go_at_call 122; refine (DV.out _).mono ?_; rintro e w' ⟨rfl, rfl⟩))
  rename_i wh hHeld
  obtain ⟨k1, k2, k3, k5⟩ := hHeld
  have K5 := Lib.hid k5
  clear cF cS cH fF fS fH k1 k2 k5
  cases c with
  | true =>
    have AD := Lib.hid (fun w => refAdd_any 32 (flW q) 1065353216 j (DJ.out.2.1 rfl) (DJ.out.1 rfl) w)
    go_wp2_with (first | (go_at_call 115; refine (FL.out _).mono ?_; rintro e w' ⟨rfl, rfl⟩) | (go_at_call 52; refine (refHash_any _ _ _ _ _).mono ?_; rintro e w5 ⟨rfl, hb5⟩; have B5 := Lib.hid (K5.out.trans (hb5.mono K5.out.size)); obtain ⟨cS5, fS5, zS5⟩ := blkC (blkStay GS.out B5.out); clear hb5) | (go_at_call 53; refine (UN.out _).mono ?_; rintro e w' ⟨rfl, rfl⟩) | (go_at_call 117; refine (SB.out _).mono ?_; rintro e w' ⟨rfl, rfl⟩) | (go_at_call 131; refine (AD.out _).mono ?_; rintro e w' ⟨rfl, rfl⟩) | (go_at_call 125; refine (ML.out _).mono ?_; rintro e w' ⟨rfl, rfl⟩))
    go_ret
    exact ⟨rfl, B5.out⟩
  | false =>
    have ej := DJ.out.2.2 rfl
    subst ej
    go_wp2_with (first | (go_at_call 115; refine (FL.out _).mono ?_; rintro e w' ⟨rfl, rfl⟩) | (go_at_call 52; refine (refHash_any _ _ _ _ _).mono ?_; rintro e w5 ⟨rfl, hb5⟩; have B5 := Lib.hid (K5.out.trans (hb5.mono K5.out.size)); obtain ⟨cS5, fS5, zS5⟩ := blkC (blkStay GS.out B5.out); clear hb5) | (go_at_call 53; refine (UN.out _).mono ?_; rintro e w' ⟨rfl, rfl⟩) | (go_at_call 117; refine (SB.out _).mono ?_; rintro e w' ⟨rfl, rfl⟩) | (go_at_call 125; refine (ML.out _).mono ?_; rintro e w' ⟨rfl, rfl⟩))
    go_ret
    exact ⟨rfl, B5.out⟩

/-- What Speckle makes of the cell number i. -/
def spkF (st : Nat) (sd X Y : Int) (W : Nat) (i : Nat) : Nat := spkW st (hashI sd (X + ((i % W : Nat) : Int)) (Y + ((i / W : Nat) : Int)) 9)

/-- What Speckle's closures hold: the seed, the share. -/
structure SCaps (w : World) (p st : Nat) (sd : Int) : Prop where
  sed : w.heap[p]? = some (u32Obj sd)
  stp : w.heap[p + 1]? = some (flObj st)
theorem SCaps.stay {w w' : World} {p st : Nat} {sd : Int} (h : SCaps w p st sd) (hb : Below w.heap.size w w') : SCaps w' p st sd := ⟨blkStay h.sed hb, blkStay h.stp hb⟩

set_option maxHeartbeats 4000000 in
theorem speckle1_any (X Y : Int) (W H n : Nat) (p st : Nat) (sd : Int) (w : World) (hk : SCaps w p st sd) (hW1 : 1 ≤ W) (hnn : n = H * W) :
    Clos2 132 #[.pointer (some ⟨p, 0, none⟩), .pointer (some ⟨p + 1, 0, none⟩)] X Y W H (spkF st sd X Y W) w := by
  intro x y i w2 h1 h2 h3 h4 h5 hb
  have K := hk.stay hb
  obtain ⟨ex, ey⟩ := place_of hW1 h1 h2 h3 h5
  unfold spkF
  rw [ex, ey]
  unfold spkW
  have UN := Lib.hid (fun w => unit_any (hashI sd x y 9) w (hashI_in _ _ _ _).1 (hashI_in _ _ _ _).2)
  obtain ⟨cS, fS, zS⟩ := blkC K.stp
  obtain ⟨cH, fH, zH⟩ := blkC K.sed
  clear hk hb h1 h2 h3 h4 h5 hW1 hnn K ex ey
  generalize hh : hashI sd x y 9 = hw at *
  have HH := Lib.hid hh
  clear hh
  cases hc : (FloatKind.f32.format.order (unitW hw) st == some .lt)
  all_goals
    go_enter Try.func132, Try.ntmps132
    go_wp2
    go_quiet (first | (go_at_call 51; exact Calls.quiet_of_same ((hash_any _ _ _ _ _).mono fun _ _ h => ⟨h.1.trans (by rw [HH.out]), h.2.symm⟩)) | (go_at_call 49; exact Calls.quiet_of_same ((UN.out _).mono fun _ _ h => ⟨h.1, h.2.symm⟩)))
    go_wp2
    go_ret
    exact ⟨rfl, below_drewN _ _⟩

set_option maxHeartbeats 4000000 in
theorem rspeckle1_any (X Y : Int) (W H n : Nat) (p st : Nat) (sd : Int) (w : World) (hk : SCaps w p st sd) (hW1 : 1 ≤ W) (hnn : n = H * W) :
    Clos2 134 #[.pointer (some ⟨p, 0, none⟩), .pointer (some ⟨p + 1, 0, none⟩)] X Y W H (spkF st sd X Y W) w := by
  intro x y i w2 h1 h2 h3 h4 h5 hb
  have K := hk.stay hb
  obtain ⟨ex, ey⟩ := place_of hW1 h1 h2 h3 h5
  unfold spkF
  rw [ex, ey]
  unfold spkW
  have UN := Lib.hid (fun w => refUnit_any (hashI sd x y 9) w (hashI_in _ _ _ _).1 (hashI_in _ _ _ _).2)
  have RH := Lib.hid (fun w => refHash_any sd x y 9 w)
  have GS := Lib.hid K.stp
  have GH := Lib.hid K.sed
  obtain ⟨cS, fS, zS⟩ := blkC K.stp
  obtain ⟨cH, fH, zH⟩ := blkC K.sed
  clear hk hb h1 h2 h3 h4 h5 hW1 hnn K ex ey
  generalize hashI sd x y 9 = hw at *
  cases hc : (FloatKind.f32.format.order (unitW hw) st == some .lt)
  all_goals
    go_enter Try.func134, Try.ntmps134
    go_wp2
    go_region_held3 (fun w' => (∀ o, w'.cell? ⟨p + 1, o, none⟩ = #[.float .f32 st][o]?) ∧ (∀ o, w'.cell? ⟨p, o, none⟩ = #[.int .u32 sd][o]?) ∧ Below w2.heap.size w2 w') (first | exact ⟨(blkC (blkStay GS.out hb9)).1, (blkC (blkStay GH.out hb9)).1, hb9⟩ | exact ⟨(blkC (blkStay GS.out (by repeat (first | exact Below.refl _ _ | refine Below.alloc ?_ (by first | omega | (simp; done) | (simp; omega)) _ | refine Below.setCell ?_ (by first | omega | (simp; done) | (simp; omega)) _ | refine Below.drew ?_)))).1, (blkC (blkStay GH.out (by repeat (first | exact Below.refl _ _ | refine Below.alloc ?_ (by first | omega | (simp; done) | (simp; omega)) _ | refine Below.setCell ?_ (by first | omega | (simp; done) | (simp; omega)) _ | refine Below.drew ?_)))).1, (by repeat (first | exact Below.refl _ _ | refine Below.alloc ?_ (by first | omega | (simp; done) | (simp; omega)) _ | refine Below.setCell ?_ (by first | omega | (simp; done) | (simp; omega)) _ | refine Below.drew ?_))⟩) (first | (go_at_call 52; (with_reducible refine Calls.mono (RH.out _) ?_); rintro e w' ⟨rfl, hb8⟩; have hb9 : Below w2.heap.size w2 w' := ⟨hb8.os, hb8.tape, hb8.output, hb8.size, hb8.block⟩; clear hb8) | (go_at_call 53; refine (UN.out _).mono ?_; rintro e w' ⟨rfl, rfl⟩))
    rename_i wh hHeld
    go_wp2
    go_ret
    exact ⟨rfl, hHeld.2.2⟩
end Go.Proofs.Ytihjemookgnafaa

/- Scale and Clamp, on both sides, of a right field. -/
namespace Go.Proofs.Ytihjemookgnafaa
open Go.RowKit Fl
set_option linter.unusedVariables false

set_option maxHeartbeats 2000000 in
theorem scale_any (X Y : Int) (W H n b cap : Nat) (v : Nat → Nat) (m c : Nat) (w : World) (h0 : checkR X Y W H = 0) (hn : n = W * H) (hc : FlAt w b 0 n v) (hh : allB n (fun i => hgtB (v i)) = true) :
    Calls Try.prog 36 #[fldV X Y W H (.slice (some ⟨b, 0, none⟩) n cap), .float .f32 m, .float .f32 c] w (ScPost w X Y W H n (sclW v m c) (fldE 2 (two m c))) := by
  obtain ⟨b1, b2, b3, b4, b5, _⟩ := checkR_zero h0
  have en : ((W : Int) * (H : Int)) = (n : Int) := by rw [hn]; simp
  have hn2 : n ≤ 65536 := by omega
  have h1 : 1 ≤ n := by
    have := Nat.mul_pos (by omega : 0 < W) (by omega : 0 < H)
    omega
  have hlt : b < w.heap.size := World.block_lt_of_cell? w _ (hc 0 h1)
  have CK := Lib.hid (fun W' (hb : Below w.heap.size w W') => check_ok X Y W H n b cap v W' h0 hn (flAt_congr hc (hb.block _ hlt)) hh)
  have CS := Lib.hid (fun bb W' (hb : W'.heap[bb]? = some (.cells #[.float .f32 m, .float .f32 c] 37)) => CheckHeights_row bb 0 2 2 (two m c) (by omega) W' (flAt_two hb))
  by_cases hz : fldE 2 (two m c) = 0
  · obtain ⟨hm, hcc⟩ := two_hgt hz
    have BY := Lib.hid (fun W' p (hk : Caps W' X Y W H n b cap v p m c) => byCell_any X Y W H n 96 _ (sclW v m c) W' enters_Scale1 (scale1_any X Y W H n b cap v p m c W' hk hn2 hh hm hcc) en.symm h1 hn2)
    rw [hz] at CS
    have HC := Lib.hid hc
    have HZ := Lib.hid hz
    clear hc hn h0 hh hm hcc en hz b5
    go_enter Try.func36, Try.ntmps36
    go_wp2_with (first | (go_at_call 82; refine (CK.out _ (by repeat (first | exact Below.refl _ _ | refine Below.alloc ?_ (by first | omega | (simp; done) | (simp; omega)) _ | refine Below.setCell ?_ (by first | omega | (simp; done) | (simp; omega)) _ | refine Below.drew ?_))).mono ?_; rintro e w2 ⟨rfl, hb2⟩; have HF2 := Lib.hid (blkStay (b := w.heap.size) (o := fldO X Y W H (.slice (some ⟨b, 0, none⟩) n cap)) (by ((simp only [heap_alloc_get, heap_size_alloc, if_true]) <;> ((repeat' split) <;> first | rfl | omega))) hb2); have HM2 := Lib.hid (blkStay (b := w.heap.size + 1) (o := flObj m) (by ((simp only [heap_alloc_get, heap_size_alloc, if_true]) <;> ((repeat' split) <;> first | rfl | omega))) hb2); have HC2 := Lib.hid (blkStay (b := w.heap.size + 1 + 1) (o := flObj c) (by ((simp only [heap_alloc_get, heap_size_alloc, if_true]) <;> ((repeat' split) <;> first | rfl | omega))) hb2); have HS2 := Lib.hid (blkStay (b := w.heap.size + 1 + 1 + 1) (o := fldO 0 0 0 0 (.slice none 0 0)) (by ((simp only [heap_alloc_get, heap_size_alloc, if_true]) <;> ((repeat' split) <;> first | rfl | omega))) hb2); have hB2 : Below w.heap.size w w2 := Below.trans (by repeat (first | exact Below.refl _ _ | refine Below.alloc ?_ (by first | omega | (simp; done) | (simp; omega)) _ | refine Below.setCell ?_ (by first | omega | (simp; done) | (simp; omega)) _ | refine Below.drew ?_)) (Below.mono hb2 (by first | omega | (simp; done) | (simp; omega))); obtain ⟨cF, fF, zF⟩ := blkC HF2.out; obtain ⟨cM, fM, zM⟩ := blkC HM2.out; obtain ⟨cC, fC, zC⟩ := blkC HC2.out; clear hb2) | (go_at_call 75; refine (CS.out _ _ (heap_alloc_new _ _)).mono ?_; rintro e w3 ⟨rfl, rfl⟩))
    have K2 : Caps w2 X Y W H n b cap v w.heap.size m c := ⟨HF2.out, HM2.out, HC2.out, flAt_congr HC.out (hB2.block _ hlt)⟩
    refine (BY.out _ w.heap.size (K2.stay h1 (by repeat (first | exact Below.refl _ _ | refine Below.alloc ?_ (by first | omega | (simp; done) | (simp; omega)) _ | refine Below.setCell ?_ (by first | omega | (simp; done) | (simp; omega)) _ | refine Below.drew ?_)))).mono ?_
    intro e w4 hmade
    rcases hmade with ⟨hall, b', cap', rfl, hb', hlt', hrow, hbel⟩ | ⟨hall, rfl, hbel⟩
    · have hb24 : Below w2.heap.size w2 w4 := Below.trans (by repeat (first | exact Below.refl _ _ | refine Below.alloc ?_ (by first | omega | (simp; done) | (simp; omega)) _ | refine Below.setCell ?_ (by first | omega | (simp; done) | (simp; omega)) _ | refine Below.drew ?_)) (Below.mono hbel (by simp))
      obtain ⟨cS, fS, zS⟩ := blkC (blkStay HS2.out hb24)
      go_wp2
      refine bodyPost_ret (v := .tuple #[fldV X Y W H (.slice (some ⟨b', 0, none⟩) n cap'), .int .i64 0]) (by simp [results, Try.results36, go_sem, cS]) rfl ?_
      have z2 := hB2.size
      rw [heap_size_alloc] at hb'
      exact .inr ⟨HZ.out, .inl ⟨hall, b', cap', rfl, by omega, by rw [set5_size]; exact hlt', flAt_congr hrow (set5_heap w4 _ _ _ _ _ _ _ (by have := HS2.out; have := (blkC this).2.2; omega)), set5_below (hB2.trans (hb24.mono z2)) _ _ _ _ _ _ (by omega)⟩⟩
    · have hb24 : Below w2.heap.size w2 w4 := Below.trans (by repeat (first | exact Below.refl _ _ | refine Below.alloc ?_ (by first | omega | (simp; done) | (simp; omega)) _ | refine Below.setCell ?_ (by first | omega | (simp; done) | (simp; omega)) _ | refine Below.drew ?_)) (Below.mono hbel (by simp))
      obtain ⟨cS, fS, zS⟩ := blkC (blkStay HS2.out hb24)
      go_wp2
      refine bodyPost_ret (v := .tuple #[fldV 0 0 0 0 (.slice none 0 0), .int .i64 3]) (by simp [results, Try.results36, go_sem, cS]) rfl ?_
      have z2 := hB2.size
      exact .inr ⟨HZ.out, .inr ⟨hall, rfl, set5_below (hB2.trans (hb24.mono z2)) _ _ _ _ _ _ (by omega)⟩⟩
  · have hzb : (fldE 2 (two m c) != 0) = true := by simp [hz]
    have HZ := Lib.hid hz
    clear hc hn h0 hh en hz b5
    go_enter Try.func36, Try.ntmps36
    go_wp2_with (first | (go_at_call 82; refine (CK.out _ (by repeat (first | exact Below.refl _ _ | refine Below.alloc ?_ (by first | omega | (simp; done) | (simp; omega)) _ | refine Below.setCell ?_ (by first | omega | (simp; done) | (simp; omega)) _ | refine Below.drew ?_))).mono ?_; rintro e w2 ⟨rfl, hb2⟩; have HF2 := Lib.hid (blkStay (b := w.heap.size) (o := fldO X Y W H (.slice (some ⟨b, 0, none⟩) n cap)) (by ((simp only [heap_alloc_get, heap_size_alloc, if_true]) <;> ((repeat' split) <;> first | rfl | omega))) hb2); have HM2 := Lib.hid (blkStay (b := w.heap.size + 1) (o := flObj m) (by ((simp only [heap_alloc_get, heap_size_alloc, if_true]) <;> ((repeat' split) <;> first | rfl | omega))) hb2); have HC2 := Lib.hid (blkStay (b := w.heap.size + 1 + 1) (o := flObj c) (by ((simp only [heap_alloc_get, heap_size_alloc, if_true]) <;> ((repeat' split) <;> first | rfl | omega))) hb2); have HS2 := Lib.hid (blkStay (b := w.heap.size + 1 + 1 + 1) (o := fldO 0 0 0 0 (.slice none 0 0)) (by ((simp only [heap_alloc_get, heap_size_alloc, if_true]) <;> ((repeat' split) <;> first | rfl | omega))) hb2); have hB2 : Below w.heap.size w w2 := Below.trans (by repeat (first | exact Below.refl _ _ | refine Below.alloc ?_ (by first | omega | (simp; done) | (simp; omega)) _ | refine Below.setCell ?_ (by first | omega | (simp; done) | (simp; omega)) _ | refine Below.drew ?_)) (Below.mono hb2 (by first | omega | (simp; done) | (simp; omega))); obtain ⟨cF, fF, zF⟩ := blkC HF2.out; obtain ⟨cM, fM, zM⟩ := blkC HM2.out; obtain ⟨cC, fC, zC⟩ := blkC HC2.out; clear hb2) | (go_at_call 75; refine (CS.out _ _ (heap_alloc_new _ _)).mono ?_; rintro e w3 ⟨rfl, hw3⟩; have hb23 : Below w2.heap.size w2 w3 := (by rw [← hw3]; exact (by repeat (first | exact Below.refl _ _ | refine Below.alloc ?_ (by first | omega | (simp; done) | (simp; omega)) _ | refine Below.setCell ?_ (by first | omega | (simp; done) | (simp; omega)) _ | refine Below.drew ?_))); clear hw3; obtain ⟨cS, fS, zS⟩ := blkC (blkStay HS2.out hb23)))
    refine bodyPost_ret (v := .tuple #[fldV 0 0 0 0 (.slice none 0 0), .int .i64 (fldE 2 (two m c))]) (by simp [results, Try.results36, go_sem, cS]) rfl ?_
    exact .inl ⟨HZ.out, rfl, set5_below (hB2.trans (hb23.mono hB2.size)) _ _ _ _ _ _ (by omega)⟩

end Go.Proofs.Ytihjemookgnafaa

/- The reference's Scale. -/
namespace Go.Proofs.Ytihjemookgnafaa
open Go.RowKit Fl
set_option linter.unusedVariables false

theorem two_wf {m c : Nat} (h1 : m < 4294967296) (h2 : c < 4294967296) : wf32 2 (two m c) := by
  intro i _; unfold two; split
  · exact h1
  · exact h2
theorem scl_wf {n m c : Nat} {v : Nat → Nat} (hh : allB n (fun i => hgtB (v i)) = true) (hm : hgtB m = true) (hc : hgtB c = true) : wf32 n (sclW v m c) := by
  intro i hi
  obtain ⟨r, s, e1, _, e2, _, e3⟩ := scl_parts (allB_iff.1 hh i hi) hm hc
  rw [scl_eq e1 e2]; exact e3

set_option maxHeartbeats 2000000 in
theorem rscale_any (X Y : Int) (W H n b cap : Nat) (v : Nat → Nat) (m c : Nat) (w : World) (h0 : checkR X Y W H = 0) (hn : n = W * H) (hc : FlAt w b 0 n v) (hh : allB n (fun i => hgtB (v i)) = true) (hvw : wf32 n v) (hm32 : m < 4294967296) (hc32 : c < 4294967296) :
    Calls Try.prog 37 #[fldV X Y W H (.slice (some ⟨b, 0, none⟩) n cap), .float .f32 m, .float .f32 c] w (ScPost w X Y W H n (sclW v m c) (fldE 2 (two m c))) := by
  obtain ⟨b1, b2, b3, b4, b5, b6, b7, b8, b9⟩ := checkR_zero h0
  have en : ((W : Int) * (H : Int)) = (n : Int) := by rw [hn]; simp
  have hn2 : n ≤ 65536 := by omega
  have h1 : 1 ≤ n := by
    have := Nat.mul_pos (by omega : 0 < W) (by omega : 0 < H)
    omega
  have hlt : b < w.heap.size := World.block_lt_of_cell? w _ (hc 0 h1)
  have CS := Lib.hid (fun bb W' (hb : W'.heap[bb]? = some (.cells #[.float .f32 m, .float .f32 c] 37)) => refHeight_row bb 0 2 2 (two m c) (by omega) W' (flAt_two hb) (two_wf hm32 hc32))
  by_cases hz : fldE 2 (two m c) = 0
  · obtain ⟨hm, hcc⟩ := two_hgt hz
    have BY := Lib.hid (fun W' p (hk : Caps W' X Y W H n b cap v p m c) => made_any X Y W H n 97 _ (sclW v m c) W' enters_rScale1 (rscale1_any X Y W H n b cap v p m c W' hk hn2 hh hm hcc (by omega) (by omega) (by omega) (by omega) (by omega) (by omega) (by omega) (by rw [hn]; exact Nat.mul_comm _ _)) (scl_wf hh hm hcc) (by omega) (by omega) (by omega) (by omega) (by omega) (by omega) (by omega) (by omega) (by rw [hn]; exact Nat.mul_comm _ _))
    rw [hz] at CS
    have HC := Lib.hid hc
    have HZ := Lib.hid hz
    clear hc hn h0 hh hm hcc en hz b5 hvw
    go_enter Try.func37, Try.ntmps37
    go_wp2_with (first | (go_at_call 26; refine (CS.out _ _ (by ((simp only [heap_alloc_get, heap_size_alloc, if_true]) <;> ((repeat' split) <;> first | rfl | omega)))).mono ?_; rintro e w2 ⟨rfl, hw3⟩; have hw2 : Below w.heap.size w w2 := (by rw [← hw3]; exact (by repeat (first | exact Below.refl _ _ | refine Below.alloc ?_ (by first | omega | (simp; done) | (simp; omega)) _ | refine Below.setCell ?_ (by first | omega | (simp; done) | (simp; omega)) _ | refine Below.drew ?_))); have HF2 := Lib.hid (show w2.heap[w.heap.size]? = some (fldO X Y W H (.slice (some ⟨b, 0, none⟩) n cap)) by rw [← hw3]; ((simp only [heap_alloc_get, heap_size_alloc, if_true]) <;> ((repeat' split) <;> first | rfl | omega))); have HM2 := Lib.hid (show w2.heap[w.heap.size + 1]? = some (flObj m) by rw [← hw3]; ((simp only [heap_alloc_get, heap_size_alloc, if_true]) <;> ((repeat' split) <;> first | rfl | omega))); have HC2 := Lib.hid (show w2.heap[w.heap.size + 1 + 1]? = some (flObj c) by rw [← hw3]; ((simp only [heap_alloc_get, heap_size_alloc, if_true]) <;> ((repeat' split) <;> first | rfl | omega))); have HS2 := Lib.hid (show w2.heap[w.heap.size + 1 + 1 + 1]? = some (fldO 0 0 0 0 (.slice none 0 0)) by rw [← hw3]; ((simp only [heap_alloc_get, heap_size_alloc, if_true]) <;> ((repeat' split) <;> first | rfl | omega))); have hB2 := hw2; obtain ⟨cF, fF, zF⟩ := blkC HF2.out; obtain ⟨cM, fM, zM⟩ := blkC HM2.out; obtain ⟨cC, fC, zC⟩ := blkC HC2.out; obtain ⟨cS, fS, zS⟩ := blkC HS2.out; clear hw3))
    have K2 : Caps w2 X Y W H n b cap v w.heap.size m c := ⟨HF2.out, HM2.out, HC2.out, flAt_congr HC.out (hB2.block _ hlt)⟩
    clear cS fS zS
    refine (BY.out _ w.heap.size (K2.stay h1 (by repeat (first | exact Below.refl _ _ | refine Below.alloc ?_ (by first | omega | (simp; done) | (simp; omega)) _ | refine Below.setCell ?_ (by first | omega | (simp; done) | (simp; omega)) _ | refine Below.drew ?_)))).mono ?_
    intro e w4 hmade
    rcases hmade with ⟨hall, b', cap', rfl, hb', hlt', hrow, hbel⟩ | ⟨hall, rfl, hbel⟩
    · have hb24 : Below w2.heap.size w2 w4 := Below.trans (by repeat (first | exact Below.refl _ _ | refine Below.alloc ?_ (by first | omega | (simp; done) | (simp; omega)) _ | refine Below.setCell ?_ (by first | omega | (simp; done) | (simp; omega)) _ | refine Below.drew ?_)) (Below.mono hbel (by first | exact Nat.le_refl _ | simp))
      obtain ⟨cS, fS, zS⟩ := blkC (blkStay HS2.out hb24)
      go_wp2
      refine bodyPost_ret (v := .tuple #[fldV X Y W H (.slice (some ⟨b', 0, none⟩) n cap'), .int .i64 0]) (by simp [results, Try.results37, go_sem, cS]) rfl ?_
      have z2 := hB2.size
      exact .inr ⟨HZ.out,  .inl ⟨hall, b', cap', rfl, by omega, by rw [set5_size]; exact hlt', flAt_congr hrow (set5_heap w4 _ _ _ _ _ _ _ (by have := HS2.out; have := (blkC this).2.2; omega)), set5_below (hB2.trans (hb24.mono z2)) _ _ _ _ _ _ (by omega)⟩⟩
    · have hb24 : Below w2.heap.size w2 w4 := Below.trans (by repeat (first | exact Below.refl _ _ | refine Below.alloc ?_ (by first | omega | (simp; done) | (simp; omega)) _ | refine Below.setCell ?_ (by first | omega | (simp; done) | (simp; omega)) _ | refine Below.drew ?_)) (Below.mono hbel (by first | exact Nat.le_refl _ | simp))
      obtain ⟨cS, fS, zS⟩ := blkC (blkStay HS2.out hb24)
      go_wp2
      refine bodyPost_ret (v := .tuple #[fldV 0 0 0 0 (.slice none 0 0), .int .i64 3]) (by simp [results, Try.results37, go_sem, cS]) rfl ?_
      have z2 := hB2.size
      exact .inr ⟨HZ.out,  .inr ⟨hall, rfl, set5_below (hB2.trans (hb24.mono z2)) _ _ _ _ _ _ (by omega)⟩⟩
  · have hzb : (fldE 2 (two m c) != 0) = true := by simp [hz]
    have HZ := Lib.hid hz
    clear hc hn h0 hh en hz b5 hvw
    go_enter Try.func37, Try.ntmps37
    go_wp2_with (first | (go_at_call 26; refine (CS.out _ _ (by ((simp only [heap_alloc_get, heap_size_alloc, if_true]) <;> ((repeat' split) <;> first | rfl | omega)))).mono ?_; rintro e w2 ⟨rfl, hw3⟩; have hw2 : Below w.heap.size w w2 := (by rw [← hw3]; exact (by repeat (first | exact Below.refl _ _ | refine Below.alloc ?_ (by first | omega | (simp; done) | (simp; omega)) _ | refine Below.setCell ?_ (by first | omega | (simp; done) | (simp; omega)) _ | refine Below.drew ?_))); have HF2 := Lib.hid (show w2.heap[w.heap.size]? = some (fldO X Y W H (.slice (some ⟨b, 0, none⟩) n cap)) by rw [← hw3]; ((simp only [heap_alloc_get, heap_size_alloc, if_true]) <;> ((repeat' split) <;> first | rfl | omega))); have HM2 := Lib.hid (show w2.heap[w.heap.size + 1]? = some (flObj m) by rw [← hw3]; ((simp only [heap_alloc_get, heap_size_alloc, if_true]) <;> ((repeat' split) <;> first | rfl | omega))); have HC2 := Lib.hid (show w2.heap[w.heap.size + 1 + 1]? = some (flObj c) by rw [← hw3]; ((simp only [heap_alloc_get, heap_size_alloc, if_true]) <;> ((repeat' split) <;> first | rfl | omega))); have HS2 := Lib.hid (show w2.heap[w.heap.size + 1 + 1 + 1]? = some (fldO 0 0 0 0 (.slice none 0 0)) by rw [← hw3]; ((simp only [heap_alloc_get, heap_size_alloc, if_true]) <;> ((repeat' split) <;> first | rfl | omega))); have hB2 := hw2; obtain ⟨cF, fF, zF⟩ := blkC HF2.out; obtain ⟨cM, fM, zM⟩ := blkC HM2.out; obtain ⟨cC, fC, zC⟩ := blkC HC2.out; obtain ⟨cS, fS, zS⟩ := blkC HS2.out; clear hw3))
    refine bodyPost_ret (v := .tuple #[fldV 0 0 0 0 (.slice none 0 0), .int .i64 (fldE 2 (two m c))]) (by simp [results, Try.results37, go_sem, cS]) rfl ?_
    exact .inl ⟨HZ.out, rfl, set5_below hB2 _ _ _ _ _ _ (by omega)⟩

end Go.Proofs.Ytihjemookgnafaa

/- Dither of the program and of the reference, of a right field. -/
namespace Go.Proofs.Ytihjemookgnafaa
open Go.RowKit Fl
set_option linter.unusedVariables false

theorem dth_wf {n : Nat} {v : Nat → Nat} {st : Nat} {sd X Y : Int} {W : Nat} (hh : allB n (fun i => hgtB (v i)) = true) (hs : StepOk st) : wf32 n (dthF v st sd X Y W) := by
  intro i hi
  obtain ⟨q, d, c, j, r, D⟩ := dth_parts (hashI sd (X + ((i % W : Nat) : Int)) (Y + ((i / W : Nat) : Int)) 8) (allB_iff.1 hh i hi) hs
  unfold dthF; rw [D.w]; exact D.lt

set_option maxHeartbeats 2000000 in
theorem dither_any (X Y : Int) (W H n b cap : Nat) (v : Nat → Nat) (sd : Int) (st : Nat) (w : World) (h0 : checkR X Y W H = 0) (hn : n = W * H) (hc : FlAt w b 0 n v) (hh : allB n (fun i => hgtB (v i)) = true) :
    Calls Try.prog 63 #[fldV X Y W H (.slice (some ⟨b, 0, none⟩) n cap), .int .u32 sd, .float .f32 st] w (ScPost w X Y W H n (dthF v st sd X Y W) (wiE st 981467136 1149239296)) := by
  obtain ⟨b1, b2, b3, b4, b5, b6, b7, b8, b9⟩ := checkR_zero h0
  have en : ((W : Int) * (H : Int)) = (n : Int) := by rw [hn]; simp
  have hn2 : n ≤ 65536 := by omega
  have hnn : n = H * W := by rw [hn]; exact Nat.mul_comm _ _
  have h1 : 1 ≤ n := by
    have := Nat.mul_pos (by omega : 0 < W) (by omega : 0 < H)
    omega
  have hlt : b < w.heap.size := World.block_lt_of_cell? w _ (hc 0 h1)
  have CK := Lib.hid (fun W' (hb : Below w.heap.size w W') => check_ok X Y W H n b cap v W' h0 hn (flAt_congr hc (hb.block _ hlt)) hh)
  have CW := Lib.hid (fun w => checkWithin_any st 981467136 1149239296 w)
  by_cases hz : wiE st 981467136 1149239296 = 0
  · have hs := step_ok hz
    have MK := Lib.hid (fun W' p (hk : DCaps W' X Y W H n b cap v p st sd) => make_ok X Y W H n 129 _ (dthF v st sd X Y W) W' enters_Dither1 (dither1_any X Y W H n b cap v p st sd W' hk hn2 hh hs (by omega) (by omega) (by omega) (by omega) (by omega) (by omega) (by omega) hnn) h0 hnn)
    rw [hz] at CW
    have HC := Lib.hid hc
    have HZ := Lib.hid hz
    clear hc hn h0 hh en hz b5 hs hnn
    go_enter Try.func63, Try.ntmps63
    go_wp2_with (first | (go_at_call 82; refine (CK.out _ (by repeat (first | exact Below.refl _ _ | refine Below.alloc ?_ (by first | omega | (simp; done) | (simp; omega)) _ | refine Below.setCell ?_ (by first | omega | (simp; done) | (simp; omega)) _ | refine Below.drew ?_))).mono ?_; rintro e w2 ⟨rfl, hb2⟩; have HF2 := Lib.hid (blkStay (b := w.heap.size) (o := fldO X Y W H (.slice (some ⟨b, 0, none⟩) n cap)) (by ((simp only [heap_alloc_get, heap_size_alloc, if_true]) <;> ((repeat' split) <;> first | rfl | omega))) hb2); have HM2 := Lib.hid (blkStay (b := w.heap.size + 1) (o := u32Obj sd) (by ((simp only [heap_alloc_get, heap_size_alloc, if_true]) <;> ((repeat' split) <;> first | rfl | omega))) hb2); have HC2 := Lib.hid (blkStay (b := w.heap.size + 1 + 1) (o := flObj st) (by ((simp only [heap_alloc_get, heap_size_alloc, if_true]) <;> ((repeat' split) <;> first | rfl | omega))) hb2); have HS2 := Lib.hid (blkStay (b := w.heap.size + 1 + 1 + 1) (o := fldO 0 0 0 0 (.slice none 0 0)) (by ((simp only [heap_alloc_get, heap_size_alloc, if_true]) <;> ((repeat' split) <;> first | rfl | omega))) hb2); have hB2 : Below w.heap.size w w2 := Below.trans (by repeat (first | exact Below.refl _ _ | refine Below.alloc ?_ (by first | omega | (simp; done) | (simp; omega)) _ | refine Below.setCell ?_ (by first | omega | (simp; done) | (simp; omega)) _ | refine Below.drew ?_)) (Below.mono hb2 (by first | omega | (simp; done) | (simp; omega))); obtain ⟨cF, fF, zF⟩ := blkC HF2.out; obtain ⟨cM, fM, zM⟩ := blkC HM2.out; obtain ⟨cC, fC, zC⟩ := blkC HC2.out; clear hb2) | (go_at_call 126; refine (CW.out _).mono ?_; rintro e w3 ⟨rfl, rfl⟩))
    have K2 : DCaps w2 X Y W H n b cap v w.heap.size st sd := ⟨HF2.out, HM2.out, HC2.out, flAt_congr HC.out (hB2.block _ hlt)⟩
    refine (MK.out _ w.heap.size (K2.stay h1 (by repeat (first | exact Below.refl _ _ | refine Below.alloc ?_ (by first | omega | (simp; done) | (simp; omega)) _ | refine Below.setCell ?_ (by first | omega | (simp; done) | (simp; omega)) _ | refine Below.drew ?_)))).mono ?_
    intro e w4 hmade
    rcases hmade with ⟨hall, b', cap', rfl, hb', hlt', hrow, hbel⟩ | ⟨hall, rfl, hbel⟩
    · have hb24 : Below w2.heap.size w2 w4 := Below.trans (by repeat (first | exact Below.refl _ _ | refine Below.alloc ?_ (by first | omega | (simp; done) | (simp; omega)) _ | refine Below.setCell ?_ (by first | omega | (simp; done) | (simp; omega)) _ | refine Below.drew ?_)) (Below.mono hbel (by first | exact Nat.le_refl _ | simp))
      obtain ⟨cS, fS, zS⟩ := blkC (blkStay HS2.out hb24)
      go_wp2
      refine bodyPost_ret (v := .tuple #[fldV X Y W H (.slice (some ⟨b', 0, none⟩) n cap'), .int .i64 0]) (by simp [results, Try.results63, go_sem, cS]) rfl ?_
      have z2 := hB2.size
      exact .inr ⟨HZ.out, .inl ⟨hall, b', cap', rfl, by omega, by rw [set5_size]; exact hlt', flAt_congr hrow (set5_heap w4 _ _ _ _ _ _ _ (by have := HS2.out; have := (blkC this).2.2; omega)), set5_below (hB2.trans (hb24.mono z2)) _ _ _ _ _ _ (by omega)⟩⟩
    · have hb24 : Below w2.heap.size w2 w4 := Below.trans (by repeat (first | exact Below.refl _ _ | refine Below.alloc ?_ (by first | omega | (simp; done) | (simp; omega)) _ | refine Below.setCell ?_ (by first | omega | (simp; done) | (simp; omega)) _ | refine Below.drew ?_)) (Below.mono hbel (by first | exact Nat.le_refl _ | simp))
      obtain ⟨cS, fS, zS⟩ := blkC (blkStay HS2.out hb24)
      go_wp2
      refine bodyPost_ret (v := .tuple #[fldV 0 0 0 0 (.slice none 0 0), .int .i64 3]) (by simp [results, Try.results63, go_sem, cS]) rfl ?_
      have z2 := hB2.size
      exact .inr ⟨HZ.out, .inr ⟨hall, rfl, set5_below (hB2.trans (hb24.mono z2)) _ _ _ _ _ _ (by omega)⟩⟩
  · have hzb : (wiE st 981467136 1149239296 != 0) = true := by simp [hz]
    have HZ := Lib.hid hz
    generalize wiE st 981467136 1149239296 = er at *
    clear hc hn h0 hh en hz b5 hnn
    go_enter Try.func63, Try.ntmps63
    go_wp2_with (first | (go_at_call 82; refine (CK.out _ (by repeat (first | exact Below.refl _ _ | refine Below.alloc ?_ (by first | omega | (simp; done) | (simp; omega)) _ | refine Below.setCell ?_ (by first | omega | (simp; done) | (simp; omega)) _ | refine Below.drew ?_))).mono ?_; rintro e w2 ⟨rfl, hb2⟩; have HF2 := Lib.hid (blkStay (b := w.heap.size) (o := fldO X Y W H (.slice (some ⟨b, 0, none⟩) n cap)) (by ((simp only [heap_alloc_get, heap_size_alloc, if_true]) <;> ((repeat' split) <;> first | rfl | omega))) hb2); have HC2 := Lib.hid (blkStay (b := w.heap.size + 1 + 1) (o := flObj st) (by ((simp only [heap_alloc_get, heap_size_alloc, if_true]) <;> ((repeat' split) <;> first | rfl | omega))) hb2); have HS2 := Lib.hid (blkStay (b := w.heap.size + 1 + 1 + 1) (o := fldO 0 0 0 0 (.slice none 0 0)) (by ((simp only [heap_alloc_get, heap_size_alloc, if_true]) <;> ((repeat' split) <;> first | rfl | omega))) hb2); have hB2 : Below w.heap.size w w2 := Below.trans (by repeat (first | exact Below.refl _ _ | refine Below.alloc ?_ (by first | omega | (simp; done) | (simp; omega)) _ | refine Below.setCell ?_ (by first | omega | (simp; done) | (simp; omega)) _ | refine Below.drew ?_)) (Below.mono hb2 (by first | omega | (simp; done) | (simp; omega))); obtain ⟨cF, fF, zF⟩ := blkC HF2.out; obtain ⟨cC, fC, zC⟩ := blkC HC2.out; obtain ⟨cS, fS, zS⟩ := blkC HS2.out; clear hb2) | (go_at_call 126; refine (CW.out _).mono ?_; rintro e w3 ⟨rfl, rfl⟩))
    refine bodyPost_ret (v := .tuple #[fldV 0 0 0 0 (.slice none 0 0), .int .i64 er]) (by simp [results, Try.results63, go_sem, cS]) rfl ?_
    exact .inl ⟨HZ.out, rfl, set5_below hB2 _ _ _ _ _ _ (by omega)⟩
end Go.Proofs.Ytihjemookgnafaa

/- EaseMatches: Ease answers as the reference does, and from 0 to 1. -/
namespace Go.Proofs.Ytihjemookgnafaa
open Go.RowKit Fl
set_option linter.unusedVariables false

theorem zero_geq : (FloatKind.f32.format.order 0 0 == some .gt || FloatKind.f32.format.order 0 0 == some .eq) = true := by rw [f32f, geq_val vS_zero vS_zero]; simp
theorem zero_leq : (FloatKind.f32.format.order 0 1065353216 == some .lt || FloatKind.f32.format.order 0 1065353216 == some .eq) = true := by
  rw [f32f, leq_val vS_zero vS_one]; simp
set_option maxHeartbeats 1000000 in
theorem easeMatches_bad (t : Nat) (k k' : Int) (hk : k = 2 ∨ k = 3) (ht : t < 4294967296) (h1 : wiE t 0 1065353216 = k) (h2 : fldE 1 (fun _ => t) = k') 
    (h3 : (k' = k) ∨ (k' = 0 ∧ k = 3 ∧ (FloatKind.f32.format.order t 0 == some .lt) = true) ∨ (k' = 0 ∧ k = 3 ∧ (FloatKind.f32.format.order t 0 == some .lt) = false ∧ (FloatKind.f32.format.order t 1065353216 == some .gt) = true)) (w : World) :
    Calls Try.prog 10 #[.float .f32 t] w fun e w' => e = .returned (.bool true) ∧ Below w.heap.size w w' := by
  have EN := Lib.hid (fun w => easeX_no t k h1 hk w)
  have HT := Lib.hid (fun w => refHeight_one t ht w)
  have ON := Lib.hid (fun b w => one_err b k (by omega) w)
  rw [h2] at HT
  have z1 := zero_geq
  have z2 := zero_leq
  clear h1 h2 ht
  rcases h3 with rfl | ⟨rfl, rfl, c1⟩ | ⟨rfl, rfl, c1, c2⟩
  · rcases hk with rfl | rfl
    all_goals go_enter Try.func10, Try.ntmps10
    all_goals go_wp2_with (first | (go_at_call 14; refine (landed_any _).mono ?_; rintro e w1 ⟨rfl, hb1⟩) | (go_at_call 55; refine (EN.out _).mono ?_; rintro e w' ⟨rfl, rfl⟩) | (go_at_call 26; refine (HT.out _).mono ?_; rintro e w' ⟨rfl, rfl⟩) | (go_at_call 56; refine (refEase_loose _ _).mono ?_; rintro e w' ⟨r, n, rfl, rfl⟩) | (go_at_call 46; refine (ON.out _ _).mono ?_; rintro e w' ⟨rfl, rfl⟩))
    all_goals go_ret
    all_goals exact ⟨rfl, Below.trans hb1 (Below.mono (Go.below_drewN (Below.alloc (Below.refl w1.heap.size w1) (Nat.le_refl _) _) _) (by have := hb1.size; omega))⟩
  all_goals clear hk
  all_goals go_enter Try.func10, Try.ntmps10
  all_goals go_wp2_with (first | (go_at_call 14; refine (landed_any _).mono ?_; rintro e w1 ⟨rfl, hb1⟩) | (go_at_call 55; refine (EN.out _).mono ?_; rintro e w' ⟨rfl, rfl⟩) | (go_at_call 26; refine (HT.out _).mono ?_; rintro e w' ⟨rfl, rfl⟩) | (go_at_call 56; refine (refEase_loose _ _).mono ?_; rintro e w' ⟨r, n, rfl, rfl⟩) | (go_at_call 46; refine (ON.out _ _).mono ?_; rintro e w' ⟨rfl, rfl⟩))
  all_goals go_ret
  all_goals exact ⟨rfl, Below.trans hb1 (Below.mono (Go.below_drewN (Below.alloc (Below.refl w1.heap.size w1) (Nat.le_refl _) _) _) (by have := hb1.size; omega))⟩

set_option maxHeartbeats 1000000 in
theorem easeMatches_good (t p q r v : Nat) (E : EaseAt t p q r v) (ht : t < 4294967296) (h1 : wiE t 0 1065353216 = 0) (h2 : fldE 1 (fun _ => t) = 0)
    (c1 : (FloatKind.f32.format.order t 0 == some .lt) = false) (c2 : (FloatKind.f32.format.order t 1065353216 == some .gt) = false)
    (c3 : (FloatKind.f32.format.order (easeW t) 0 == some .gt || FloatKind.f32.format.order (easeW t) 0 == some .eq) = true) (c4 : (FloatKind.f32.format.order (easeW t) 1065353216 == some .lt || FloatKind.f32.format.order (easeW t) 1065353216 == some .eq) = true) (w : World) :
    Calls Try.prog 10 #[.float .f32 t] w fun e w' => e = .returned (.bool true) ∧ Below w.heap.size w w' := by
  have EN := Lib.hid (fun w => easeX_ok t p q r v E h1 w)
  have RN := Lib.hid (fun w => refEase_any t p q r v E w)
  have HT := Lib.hid (fun w => refHeight_one t ht w)
  rw [h2] at HT
  clear h1 h2 ht E
  go_enter Try.func10, Try.ntmps10
  go_wp2_with (first | (go_at_call 14; refine (landed_any _).mono ?_; rintro e w1 ⟨rfl, hb1⟩) | (go_at_call 55; refine (EN.out _).mono ?_; rintro e w' ⟨rfl, rfl⟩) | (go_at_call 26; refine (HT.out _).mono ?_; rintro e w' ⟨rfl, rfl⟩) | (go_at_call 56; refine (RN.out _).mono ?_; rintro e w' ⟨rfl, rfl⟩) | (go_at_call 46; refine (one_ok _ _).mono ?_; rintro e w' ⟨rfl, rfl⟩))
  go_ret
  exact ⟨rfl, Below.trans hb1 (Below.mono (Below.alloc (Below.refl w1.heap.size w1) (Nat.le_refl _) _) (by have := hb1.size; omega))⟩

theorem easeMatches_any (t : Nat) (ht : t < 4294967296) (w : World) :
    Calls Try.prog 10 #[.float .f32 t] w fun e w' => e = .returned (.bool true) ∧ Below w.heap.size w w' := by
  cases hf : finB t with
  | false => exact easeMatches_bad t 2 2 (.inl rfl) ht (by unfold wiE; rw [if_pos hf]) (by simp [fldE, allB, List.range_succ, hf]) (.inl rfl) w
  | true =>
    obtain ⟨a, ha⟩ := Option.isSome_iff_exists.1 (show (vS t).isSome = true from hf)
    have l0 := lss_val ha vS_zero
    have g1 := gtr_val ha vS_one
    rw [← f32f] at l0 g1
    have hw : ∀ P : Prop, ((FloatKind.f32.format.order t 0 == some .lt) = true ∨ (FloatKind.f32.format.order t 1065353216 == some .gt) = true) → wiE t 0 1065353216 = 3 := fun _ c => by
      unfold wiE; rw [if_neg (by rw [hf]; simp), if_pos c]
    cases hh : hgtB t with
    | false =>
      refine easeMatches_bad t 3 3 (.inr rfl) ht (hw True ?_) (by simp [fldE, hgtE, allB, List.range_succ, hf, hh]) (.inl rfl) w
      have := one_vTop
      have h0 : (0 : Int) < (one : Int) := Int.natCast_pos.2 one_pos
      unfold hgtB at hh
      rw [ha] at hh
      rw [l0, g1]
      simp at hh ⊢
      omega
    | true =>
      have h2 : fldE 1 (fun _ => t) = 0 := fldE_one_ok hh
      cases c1 : (FloatKind.f32.format.order t 0 == some .lt) with
      | true => exact easeMatches_bad t 3 0 (.inr rfl) ht (hw True (.inl c1)) h2 (.inr (.inl ⟨rfl, rfl, c1⟩)) w
      | false =>
        cases c2 : (FloatKind.f32.format.order t 1065353216 == some .gt) with
        | true => exact easeMatches_bad t 3 0 (.inr rfl) ht (hw True (.inr c2)) h2 (.inr (.inr ⟨rfl, rfl, c1, c2⟩)) w
        | false =>
          rw [c1] at l0
          rw [c2] at g1
          have a0 : 0 ≤ a := by have := l0.symm; simp at this; omega
          have a1 : a ≤ (one : Int) := by have := g1.symm; simp at this; omega
          obtain ⟨p, q, r, v, E⟩ := ease_parts (bd_unit ha (by omega) a1)
          obtain ⟨c, hc, b0, b1⟩ := ease_in ha a0 a1
          exact easeMatches_good t p q r v E ht (by unfold wiE; rw [if_neg (by rw [hf]; simp), if_neg (by rw [c1, c2]; simp)]) h2 c1 c2 (by rw [f32f, geq_val hc vS_zero]; simpa using b0) (by rw [f32f, leq_val hc vS_one]; simpa using b1) w
end Go.Proofs.Ytihjemookgnafaa

/- The error of a single that should lie between two others, by the tests of the reference. -/
namespace Go.Proofs.Ytihjemookgnafaa
open Go.RowKit Fl
set_option linter.unusedVariables false

/-- The error of a single that should be from lo to hi, told by the reference's tests. -/
def WithinCases (st lo hi : Nat) : Prop :=
    ((fldE 1 (fun _ => st) = 2 ∨ fldE 1 (fun _ => st) = 3) ∧ wiE st lo hi = fldE 1 (fun _ => st)) ∨
    (fldE 1 (fun _ => st) = 0 ∧ wiE st lo hi = 3 ∧ (FloatKind.f32.format.order st lo == some .lt) = true) ∨
    (fldE 1 (fun _ => st) = 0 ∧ wiE st lo hi = 3 ∧ (FloatKind.f32.format.order st lo == some .lt) = false ∧ (FloatKind.f32.format.order st hi == some .gt) = true) ∨
    (fldE 1 (fun _ => st) = 0 ∧ wiE st lo hi = 0 ∧ (FloatKind.f32.format.order st lo == some .lt) = false ∧ (FloatKind.f32.format.order st hi == some .gt) = false)
theorem within_cases {st lo hi : Nat} {l h : Int} (hl : vS lo = some l) (hh : vS hi = some h) (l1 : -vTop ≤ l) (h1 : h ≤ vTop) : WithinCases st lo hi := by
  unfold WithinCases
  cases hf : finB st with
  | false =>
    have e : fldE 1 (fun _ => st) = 2 := by simp [fldE, allB, List.range_succ, hf]
    exact .inl ⟨.inl e, by rw [e]; unfold wiE; rw [if_pos hf]⟩
  | true =>
    obtain ⟨a, ha⟩ := Option.isSome_iff_exists.1 (show (vS st).isSome = true from hf)
    have l0 := lss_val ha hl
    have g1 := gtr_val ha hh
    rw [← f32f] at l0 g1
    have hw : ((FloatKind.f32.format.order st lo == some .lt) = true ∨ (FloatKind.f32.format.order st hi == some .gt) = true) → wiE st lo hi = 3 := fun c => by
      unfold wiE; rw [if_neg (by rw [hf]; simp), if_pos c]
    cases hgt : hgtB st with
    | false =>
      have e : fldE 1 (fun _ => st) = 3 := by simp [fldE, hgtE, allB, List.range_succ, hf, hgt]
      refine .inl ⟨.inr e, ?_⟩
      rw [e]
      refine hw ?_
      unfold hgtB at hgt
      rw [ha] at hgt
      rw [l0, g1]
      simp at hgt ⊢
      omega
    | true =>
      have e : fldE 1 (fun _ => st) = 0 := fldE_one_ok hgt
      cases c1 : (FloatKind.f32.format.order st lo == some .lt) with
      | true => exact .inr (.inl ⟨e, hw (.inl c1), rfl⟩)
      | false =>
        cases c2 : (FloatKind.f32.format.order st hi == some .gt) with
        | true => exact .inr (.inr (.inl ⟨e, hw (.inr c2), rfl, rfl⟩))
        | false => exact .inr (.inr (.inr ⟨e, by unfold wiE; rw [if_neg (by rw [hf]; simp), if_neg (by rw [c1, c2]; simp)], rfl, rfl⟩))

theorem vTop_one : vTop = 1048576 * (one : Int) := by
  obtain ⟨J, hJ⟩ : ∃ J : Nat, J = 1074 := ⟨_, rfl⟩
  unfold vTop
  rw [one_pow hJ, Nat.one_mul, show ((20 : Int) + 1074).toNat = 20 + J by omega, Nat.pow_add, Int.natCast_mul]; rfl
theorem step_cases (st : Nat) : WithinCases st 981467136 1149239296 := by
  obtain ⟨j, hj⟩ : ∃ j : Nat, j = 1064 := ⟨_, rfl⟩
  have hj' : j + 20 = 1084 := by omega
  have e1 : one = 1024 * 2 ^ j := by rw [one_split (a := 10) (j := j) (by omega)]
  have e2 : 2 ^ (j + 20) = 1048576 * 2 ^ j := by rw [Nat.pow_add, Nat.mul_comm]
  have hp := Nat.two_pow_pos j
  exact within_cases (st := st) (vS_lo hj) (vS_hi hj') (by rw [vTop_one, e1]; generalize 2 ^ j = U at *; omega) (by rw [vTop_one, e1, e2]; generalize 2 ^ j = U at *; omega)

theorem flAt_one_of {w : World} {b x : Nat} (h : w.heap[b]? = some (flObj x)) : FlAt w b 0 1 (fun _ => x) := by
  intro i hi
  have : i = 0 := by omega
  subst this
  exact (blkC h).1 0
theorem refHeight_of (x : Nat) (hx : x < 4294967296) (bb : Nat) (w : World) (h : w.heap[bb]? = some (flObj x)) :
    Calls Try.prog 26 #[.slice (some ⟨bb, 0, none⟩) 1 1] w fun e w' => e = .returned (.int .i64 (fldE 1 (fun _ => x))) ∧ w = w' :=
  refHeight_row bb 0 1 1 (fun _ => x) (by omega) w (flAt_one_of h) (fun _ _ => hx)

end Go.Proofs.Ytihjemookgnafaa

/- Dither of the reference, of a right field. -/
namespace Go.Proofs.Ytihjemookgnafaa
open Go.RowKit Fl
set_option linter.unusedVariables false

set_option maxHeartbeats 2000000 in
theorem rdither_any (X Y : Int) (W H n b cap : Nat) (v : Nat → Nat) (sd : Int) (st : Nat) (w : World) (h0 : checkR X Y W H = 0) (hn : n = W * H) (hc : FlAt w b 0 n v) (hh : allB n (fun i => hgtB (v i)) = true) (hst : st < 4294967296) :
    Calls Try.prog 64 #[fldV X Y W H (.slice (some ⟨b, 0, none⟩) n cap), .int .u32 sd, .float .f32 st] w (ScPost w X Y W H n (dthF v st sd X Y W) (wiE st 981467136 1149239296)) := by
  obtain ⟨b1, b2, b3, b4, b5, b6, b7, b8, b9⟩ := checkR_zero h0
  have en : ((W : Int) * (H : Int)) = (n : Int) := by rw [hn]; simp
  have hn2 : n ≤ 65536 := by omega
  have hnn : n = H * W := by rw [hn]; exact Nat.mul_comm _ _
  have h1 : 1 ≤ n := by
    have := Nat.mul_pos (by omega : 0 < W) (by omega : 0 < H)
    omega
  have hlt : b < w.heap.size := World.block_lt_of_cell? w _ (hc 0 h1)
  have HT := Lib.hid (fun bb w => refHeight_of st hst bb w)
  rcases step_cases st with ⟨hk, he⟩ | ⟨h2, he, c1⟩ | ⟨h2, he, c1, c2⟩ | ⟨h2, he, c1, c2⟩
  · rw [he]
    generalize fldE 1 (fun _ => st) = er at *
    have hzb : (er != 0) = true := by rcases hk with rfl | rfl <;> rfl
    have HZ := Lib.hid (show er ≠ 0 by rcases hk with rfl | rfl <;> decide)
    clear hc hn h0 hh en b5 hnn he hk
    go_enter Try.func64, Try.ntmps64
    go_wp2_with (first | (go_at_call 26; refine (HT.out _ _ (by ((simp only [heap_alloc_get, heap_size_alloc, if_true]) <;> ((repeat' split) <;> first | rfl | omega)))).mono ?_; rintro e w2 ⟨rfl, rfl⟩))
    refine bodyPost_ret (v := .tuple #[fldV 0 0 0 0 (.slice none 0 0), .int .i64 er]) (by simp [results, Try.results64, go_sem]) rfl ?_
    exact .inl ⟨HZ.out, rfl, (by repeat (first | exact Below.refl _ _ | refine Below.alloc ?_ (by first | omega | (simp; done) | (simp; omega)) _ | refine Below.setCell ?_ (by first | omega | (simp; done) | (simp; omega)) _ | refine Below.drew ?_))⟩
  · rw [he]
    rw [h2] at HT
    clear hc hn h0 hh en b5 hnn he h2
    go_enter Try.func64, Try.ntmps64
    go_wp2_with (first | (go_at_call 26; refine (HT.out _ _ (by ((simp only [heap_alloc_get, heap_size_alloc, if_true]) <;> ((repeat' split) <;> first | rfl | omega)))).mono ?_; rintro e w2 ⟨rfl, rfl⟩))
    refine bodyPost_ret (v := .tuple #[fldV 0 0 0 0 (.slice none 0 0), .int .i64 3]) (by simp [results, Try.results64, go_sem]) rfl ?_
    exact .inl ⟨by decide, rfl, (by repeat (first | exact Below.refl _ _ | refine Below.alloc ?_ (by first | omega | (simp; done) | (simp; omega)) _ | refine Below.setCell ?_ (by first | omega | (simp; done) | (simp; omega)) _ | refine Below.drew ?_))⟩
  · rw [he]
    rw [h2] at HT
    clear hc hn h0 hh en b5 hnn he h2
    go_enter Try.func64, Try.ntmps64
    go_wp2_with (first | (go_at_call 26; refine (HT.out _ _ (by ((simp only [heap_alloc_get, heap_size_alloc, if_true]) <;> ((repeat' split) <;> first | rfl | omega)))).mono ?_; rintro e w2 ⟨rfl, rfl⟩))
    refine bodyPost_ret (v := .tuple #[fldV 0 0 0 0 (.slice none 0 0), .int .i64 3]) (by simp [results, Try.results64, go_sem]) rfl ?_
    exact .inl ⟨by decide, rfl, (by repeat (first | exact Below.refl _ _ | refine Below.alloc ?_ (by first | omega | (simp; done) | (simp; omega)) _ | refine Below.setCell ?_ (by first | omega | (simp; done) | (simp; omega)) _ | refine Below.drew ?_))⟩
  · have hs := step_ok he
    have BY := Lib.hid (fun W' p (hk : DCaps W' X Y W H n b cap v p st sd) => made_any X Y W H n 130 _ (dthF v st sd X Y W) W' enters_rDither1 (rdither1_any X Y W H n b cap v p st sd W' hk hn2 hh hs (by omega) (by omega) (by omega) (by omega) (by omega) (by omega) (by omega) hnn) (dth_wf hh hs) (by omega) (by omega) (by omega) (by omega) (by omega) (by omega) (by omega) (by omega) hnn)
    rw [he]
    rw [h2] at HT
    have HC := Lib.hid hc
    clear hc hn h0 hh en b5 hs hnn he h2
    go_enter Try.func64, Try.ntmps64
    go_wp2_with (first | (go_at_call 26; refine (HT.out _ _ (by ((simp only [heap_alloc_get, heap_size_alloc, if_true]) <;> ((repeat' split) <;> first | rfl | omega)))).mono ?_; rintro e w2 ⟨rfl, hw3⟩; have hw2 : Below w.heap.size w w2 := (by rw [← hw3]; exact (by repeat (first | exact Below.refl _ _ | refine Below.alloc ?_ (by first | omega | (simp; done) | (simp; omega)) _ | refine Below.setCell ?_ (by first | omega | (simp; done) | (simp; omega)) _ | refine Below.drew ?_))); have HF2 := Lib.hid (show w2.heap[w.heap.size]? = some (fldO X Y W H (.slice (some ⟨b, 0, none⟩) n cap)) by rw [← hw3]; ((simp only [heap_alloc_get, heap_size_alloc, if_true]) <;> ((repeat' split) <;> first | rfl | omega))); have HM2 := Lib.hid (show w2.heap[w.heap.size + 1]? = some (u32Obj sd) by rw [← hw3]; ((simp only [heap_alloc_get, heap_size_alloc, if_true]) <;> ((repeat' split) <;> first | rfl | omega))); have HC2 := Lib.hid (show w2.heap[w.heap.size + 1 + 1]? = some (flObj st) by rw [← hw3]; ((simp only [heap_alloc_get, heap_size_alloc, if_true]) <;> ((repeat' split) <;> first | rfl | omega))); have HS2 := Lib.hid (show w2.heap[w.heap.size + 1 + 1 + 1]? = some (fldO 0 0 0 0 (.slice none 0 0)) by rw [← hw3]; ((simp only [heap_alloc_get, heap_size_alloc, if_true]) <;> ((repeat' split) <;> first | rfl | omega))); have hB2 := hw2; obtain ⟨cF, fF, zF⟩ := blkC HF2.out; obtain ⟨cC, fC, zC⟩ := blkC HC2.out; obtain ⟨cS, fS, zS⟩ := blkC HS2.out; clear hw3 hw2))
    have K2 : DCaps w2 X Y W H n b cap v w.heap.size st sd := ⟨HF2.out, HM2.out, HC2.out, flAt_congr HC.out (hB2.block _ hlt)⟩
    clear cS fS zS
    refine (BY.out _ w.heap.size (K2.stay h1 (by repeat (first | exact Below.refl _ _ | refine Below.alloc ?_ (by first | omega | (simp; done) | (simp; omega)) _ | refine Below.setCell ?_ (by first | omega | (simp; done) | (simp; omega)) _ | refine Below.drew ?_)))).mono ?_
    intro e w4 hmade
    rcases hmade with ⟨hall, b', cap', rfl, hb', hlt', hrow, hbel⟩ | ⟨hall, rfl, hbel⟩
    · have hb24 : Below w2.heap.size w2 w4 := Below.trans (by repeat (first | exact Below.refl _ _ | refine Below.alloc ?_ (by first | omega | (simp; done) | (simp; omega)) _ | refine Below.setCell ?_ (by first | omega | (simp; done) | (simp; omega)) _ | refine Below.drew ?_)) (Below.mono hbel (by first | exact Nat.le_refl _ | simp))
      obtain ⟨cS, fS, zS⟩ := blkC (blkStay HS2.out hb24)
      go_wp2
      refine bodyPost_ret (v := .tuple #[fldV X Y W H (.slice (some ⟨b', 0, none⟩) n cap'), .int .i64 0]) (by simp [results, Try.results64, go_sem, cS]) rfl ?_
      have z2 := hB2.size
      exact .inr ⟨rfl, .inl ⟨hall, b', cap', rfl, by omega, by rw [set5_size]; exact hlt', flAt_congr hrow (set5_heap w4 _ _ _ _ _ _ _ (by have := HS2.out; have := (blkC this).2.2; omega)), set5_below (hB2.trans (hb24.mono z2)) _ _ _ _ _ _ (by omega)⟩⟩
    · have hb24 : Below w2.heap.size w2 w4 := Below.trans (by repeat (first | exact Below.refl _ _ | refine Below.alloc ?_ (by first | omega | (simp; done) | (simp; omega)) _ | refine Below.setCell ?_ (by first | omega | (simp; done) | (simp; omega)) _ | refine Below.drew ?_)) (Below.mono hbel (by first | exact Nat.le_refl _ | simp))
      obtain ⟨cS, fS, zS⟩ := blkC (blkStay HS2.out hb24)
      go_wp2
      refine bodyPost_ret (v := .tuple #[fldV 0 0 0 0 (.slice none 0 0), .int .i64 3]) (by simp [results, Try.results64, go_sem, cS]) rfl ?_
      have z2 := hB2.size
      exact .inr ⟨rfl, .inr ⟨hall, rfl, set5_below (hB2.trans (hb24.mono z2)) _ _ _ _ _ _ (by omega)⟩⟩
end Go.Proofs.Ytihjemookgnafaa

/- The reference's there, row and bilinear. -/
namespace Go.Proofs.Ytihjemookgnafaa
open Go.RowKit Fl
set_option linter.unusedVariables false

set_option maxHeartbeats 1000000 in
theorem refThere_any (X Y : Int) (W H n b cap : Nat) (x y : Int) (c : Bool) (w : World) (h0 : checkR X Y W H = 0) (x1 : -536871000 ≤ x) (x2 : x ≤ 536871000) (y1 : -536871000 ≤ y) (y2 : y ≤ 536871000) (hc : insideB x y 1 1 X Y W H = c) :
    Calls Try.prog 95 #[fldV X Y W H (.slice (some ⟨b, 0, none⟩) n cap), .int .i64 x, .int .i64 y] w fun e w' => e = .returned (.bool c) ∧ Below w.heap.size w w' := by
  obtain ⟨b1, b2, b3, b4, b5, b6, b7, b8, b9⟩ := checkR_zero h0
  have IN := Lib.hid (fun w => refInside_any x y 1 1 X Y W H w (by omega) (by omega) (by omega) (by omega) (by omega) (by omega) (by omega) (by omega) (by omega) (by omega) (by omega) (by omega) (by omega) (by omega) (by omega) (by omega))
  rw [hc] at IN
  clear h0 b1 b2 b3 b4 b5 b6 b7 b8 b9 hc x1 x2 y1 y2
  go_enter Try.func95, Try.ntmps95
  go_wp2_with (first | (go_at_call 23; refine (IN.out _).mono ?_; rintro e w2 ⟨rfl, hb2⟩))
  go_ret
  exact ⟨rfl, Below.trans (by repeat (first | exact Below.refl _ _ | refine Below.alloc ?_ (by first | omega | (simp; done) | (simp; omega)) _ | refine Below.setCell ?_ (by first | omega | (simp; done) | (simp; omega)) _ | refine Below.drew ?_)) (hb2.mono (by simp))⟩

/-- What row holds: the field, the column, the share. -/
structure RCaps (w : World) (X Y : Int) (W H n b cap : Nat) (v : Nat → Nat) (p : Nat) (i : Int) (s : Nat) : Prop where
  fld : w.heap[p]? = some (fldO X Y W H (.slice (some ⟨b, 0, none⟩) n cap))
  col : w.heap[p + 1]? = some (.cells #[.int .i64 i] 3)
  shr : w.heap[p + 1 + 1]? = some (flObj s)
  row : FlAt w b 0 n v
theorem RCaps.stay {w w' : World} {X Y : Int} {W H n b cap : Nat} {v : Nat → Nat} {p : Nat} {i : Int} {s : Nat} (h : RCaps w X Y W H n b cap v p i s) (hn : 1 ≤ n) (hb : Below w.heap.size w w') : RCaps w' X Y W H n b cap v p i s :=
  ⟨blkStay h.fld hb, blkStay h.col hb, blkStay h.shr hb, flAt_congr h.row (hb.block _ (World.block_lt_of_cell? w _ (h.row 0 hn)))⟩

theorem there_row {X Y W H i y : Int} {cs : Bool} : thereB X Y W H i y cs true = (insideB i y 1 1 X Y W H && (cs || insideB (i + 1) y 1 1 X Y W H)) := by
  rw [Bool.eq_iff_iff]
  unfold thereB
  rw [Bool.and_eq_true, Bool.or_eq_true, insideB_iff, insideB_iff, insideB_iff]
  cases cs <;> simp <;> omega

set_option maxHeartbeats 4000000 in
theorem row_no (X Y : Int) (W H n b cap : Nat) (v : Nat → Nat) (p : Nat) (i y : Int) (s : Nat) (cs : Bool) (w : World) (hk : RCaps w X Y W H n b cap v p i s) (h0 : checkR X Y W H = 0) (i1 : -536870912 ≤ i) (i2 : i ≤ 536870912) (y1 : -536870913 ≤ y) (y2 : y ≤ 536870913)
    (hs : (FloatKind.f32.format.order s 0 == some .eq) = cs) (hth : thereB X Y W H i y cs true = false) :
    Calls Try.prog 148 #[.int .i64 y, .pointer (some ⟨p, 0, none⟩), .pointer (some ⟨p + 1, 0, none⟩), .pointer (some ⟨p + 1 + 1, 0, none⟩)] w fun e w' => e = .returned (.tuple #[.float .f32 0, .bool false]) ∧ Below w.heap.size w w' := by
  rw [there_row] at hth
  have hs' : (FloatKind.f32.format.order s 0 != some .eq) = !cs := by rw [bne, hs]
  have GF := Lib.hid hk.fld
  have GC := Lib.hid hk.col
  have GS := Lib.hid hk.shr
  obtain ⟨cF, fF, zF⟩ := blkC hk.fld
  obtain ⟨cC, fC, zC⟩ := blkC hk.col
  obtain ⟨cS, fS, zS⟩ := blkC hk.shr
  cases h1 : insideB i y 1 1 X Y W H with
  | false =>
    have T1 := Lib.hid (fun w => refThere_any X Y W H n b cap i y false w h0 (by omega) (by omega) (by omega) (by omega) h1)
    clear hk h0 h1 hth
    go_enter Try.func148, Try.ntmps148
    go_wp2_with (first | (go_at_call 95; refine (T1.out _).mono ?_; rintro e w2 ⟨rfl, hb2⟩))
    go_ret2
    exact ⟨rfl, hb2⟩
  | true =>
    rw [h1] at hth
    have T1 := Lib.hid (fun w => refThere_any X Y W H n b cap i y true w h0 (by omega) (by omega) (by omega) (by omega) h1)
    cases cs with
    | true => simp at hth
    | false =>
      have h2 : insideB (i + 1) y 1 1 X Y W H = false := by simpa using hth
      have T2 := Lib.hid (fun w => refThere_any X Y W H n b cap (i + 1) y false w h0 (by omega) (by omega) (by omega) (by omega) h2)
      clear hk h0 h1 hth h2
      simp only [Bool.not_false] at hs'
      go_enter Try.func148, Try.ntmps148
      go_wp2_with fail
      refine (T1.out _).mono ?_
      rintro e w2 ⟨rfl, hb2⟩
      obtain ⟨cF2, fF2, zF2⟩ := blkC (blkStay GF.out hb2)
      obtain ⟨cC2, fC2, zC2⟩ := blkC (blkStay GC.out hb2)
      obtain ⟨cS2, fS2, zS2⟩ := blkC (blkStay GS.out hb2)
      have B2 := Lib.hid hb2
      clear hb2 cF fF cC fC cS fS
      go_wp2_with fail
      refine (T2.out _).mono ?_
      rintro e w3 ⟨rfl, hb3⟩
      have B3 := Lib.hid (B2.out.trans (hb3.mono B2.out.size))
      clear hb3 cF2 fF2 cC2 fC2 cS2 fS2
      go_wp2
      go_ret2
      exact ⟨rfl, B3.out⟩

set_option maxHeartbeats 8000000 in
set_option maxRecDepth 100000 in
theorem row_ok (X Y : Int) (W H n b cap : Nat) (v : Nat → Nat) (p : Nat) (i y : Int) (s : Nat) (cs : Bool) (w : World) (hk : RCaps w X Y W H n b cap v p i s) (h0 : checkR X Y W H = 0) (hn : n = W * H) (hh : allB n (fun i => hgtB (v i)) = true)
    (hs : (FloatKind.f32.format.order s 0 == some .eq) = cs) (hth : thereB X Y W H i y cs true = true) (bs : Bd 1 s) :
    Calls Try.prog 148 #[.int .i64 y, .pointer (some ⟨p, 0, none⟩), .pointer (some ⟨p + 1, 0, none⟩), .pointer (some ⟨p + 1 + 1, 0, none⟩)] w fun e w' => e = .returned (.tuple #[.float .f32 (alongW cs s (v (numC X Y W i y)) (v (numC X Y W i y + 1))), .bool true]) ∧ Below w.heap.size w w' := by
  obtain ⟨b1, b2, b3, b4, b5, b6, b7, b8, b9⟩ := checkR_zero h0
  have hnn : n = H * W := by rw [hn]; exact Nat.mul_comm _ _
  have hn2 : n ≤ 65536 := by
    have : ((W : Int) * (H : Int)) = (n : Int) := by rw [hn]; simp
    omega
  rw [there_row, Bool.and_eq_true, Bool.or_eq_true] at hth
  obtain ⟨h1, h2⟩ := hth
  obtain ⟨t1, t2, t3, t4⟩ := insideB_iff.1 h1
  have hkk : ((numC X Y W i y : Nat) : Int) = (y - Y) * W + (i - X) := by
    unfold numC
    have : 0 ≤ (y - Y) * W := Int.mul_nonneg (by omega) (by omega)
    omega
  generalize numC X Y W i y = k at *
  have hkn : k < n := cell_lt (X := X) (Y := Y) (x := i) (y := y) (by omega) t1 (by omega) (by omega) hkk hnn
  have hs' : (FloatKind.f32.format.order s 0 != some .eq) = !cs := by rw [bne, hs]
  have T1 := Lib.hid (fun w => refThere_any X Y W H n b cap i y true w h0 (by omega) (by omega) (by omega) (by omega) h1)
  have GF := Lib.hid hk.fld
  have GC := Lib.hid hk.col
  have GS := Lib.hid hk.shr
  obtain ⟨cF, fF, zF⟩ := blkC hk.fld
  obtain ⟨cC, fC, zC⟩ := blkC hk.col
  obtain ⟨cS, fS, zS⟩ := blkC hk.shr
  have z := World.block_lt_of_cell? w _ (hk.row 0 (by omega))
  have A1 := Lib.hid (fun W' (hb : Below w.heap.size w W') => refAt_any X Y W H n b cap k v i y W' (by omega) (by omega) (by omega) (by omega) (by omega) (by omega) (by omega) t1 (by omega) t2 (by omega) hkk hkn hn2 (flAt_congr hk.row (hb.block _ z)))
  cases cs with
  | true =>
    simp only [Bool.not_true] at hs'
    clear hk h0 h1 h2 b1 b2 b3 b4 b5 b6 b7 b8 b9 hn hnn hh t1 t2 t3 t4 hkk hkn hn2
    go_enter Try.func148, Try.ntmps148
    go_wp2_with fail
    refine (T1.out _).mono ?_
    rintro e w2 ⟨rfl, hb2⟩
    obtain ⟨cF2, fF2, zF2⟩ := blkC (blkStay GF.out hb2)
    obtain ⟨cC2, fC2, zC2⟩ := blkC (blkStay GC.out hb2)
    obtain ⟨cS2, fS2, zS2⟩ := blkC (blkStay GS.out hb2)
    have B2 := Lib.hid hb2
    clear hb2 cF fF cC fC cS fS
    go_wp2_with (first | (go_at_call 90; refine (A1.out _ B2.out).mono ?_; rintro e w3 ⟨rfl, hw3⟩; have B3 := Lib.hid (B2.out.trans (show Below w.heap.size w2 w3 by (rw [← hw3]; exact (Below.refl _ _).alloc B2.out.size _))); clear hw3))
    go_ret2
    exact ⟨rfl, B3.out⟩
  | false =>
    have h3 : insideB (i + 1) y 1 1 X Y W H = true := by simpa using h2
    obtain ⟨u1, u2, u3, u4⟩ := insideB_iff.1 h3
    have hk1 : k + 1 < n := cell_lt (X := X) (Y := Y) (x := i + 1) (y := y) (by omega) (by omega) (by omega) (by omega) (by omega) hnn
    have T2 := Lib.hid (fun w => refThere_any X Y W H n b cap (i + 1) y true w h0 (by omega) (by omega) (by omega) (by omega) h3)
    have A2 := Lib.hid (fun W' (hb : Below w.heap.size w W') => refAt_any X Y W H n b cap (k + 1) v (i + 1) y W' (by omega) (by omega) (by omega) (by omega) (by omega) (by omega) (by omega) (by omega) (by omega) t2 (by omega) (by omega) hk1 hn2 (flAt_congr hk.row (hb.block _ z)))
    obtain ⟨d, q, r, e1, s1, e2, s2, e3, s3, _, _⟩ := mix_parts (i := 20) (j := 1) (by omega) (by omega) (hgt_bd (allB_iff.1 hh k hkn)) (hgt_bd (allB_iff.1 hh (k + 1) hk1)) bs
    have LP := Lib.hid (fun w => lerp_any _ _ _ (v k) (v (k + 1)) s d q r e1 s1 e2 s2 e3 s3 w)
    have HE := Lib.hid (mix_eq e1 e2 e3)
    have i1 : -16777216 ≤ i := by omega
    have i2 : i ≤ 16777216 := by omega
    simp only [Bool.not_false] at hs'
    clear hk h0 h1 h2 b1 b2 b3 b4 b5 b6 b7 b8 b9 hn hnn hh t1 t2 t3 t4 hkk hkn hn2 h3 u1 u2 u3 u4 hk1 e1 s1 e2 s2 e3 s3
    go_enter Try.func148, Try.ntmps148
    go_wp2_with fail
    refine (T1.out _).mono ?_
    rintro e w2 ⟨rfl, hb2⟩
    obtain ⟨cF2, fF2, zF2⟩ := blkC (blkStay GF.out hb2)
    obtain ⟨cC2, fC2, zC2⟩ := blkC (blkStay GC.out hb2)
    obtain ⟨cS2, fS2, zS2⟩ := blkC (blkStay GS.out hb2)
    have B2 := Lib.hid hb2
    clear hb2 cF fF cC fC cS fS
    go_wp2_with fail
    refine (T2.out _).mono ?_
    rintro e w3 ⟨rfl, hb3⟩
    have B3 := Lib.hid (B2.out.trans (hb3.mono B2.out.size))
    have GF3 := Lib.hid (blkStay GF.out B3.out)
    have GC3 := Lib.hid (blkStay GC.out B3.out)
    have GS3 := Lib.hid (blkStay GS.out B3.out)
    clear hb3 cF2 fF2 cC2 fC2 cS2 fS2
    obtain ⟨cF3, fF3, zF3⟩ := blkC GF3.out
    obtain ⟨cC3, fC3, zC3⟩ := blkC GC3.out
    obtain ⟨cS3, fS3, zS3⟩ := blkC GS3.out
    have D1 := Lib.hid (fun W' (hb : Below w3.heap.size w3 W') => A1.out W' (B3.out.trans (hb.mono B3.out.size)))
    have D2 := Lib.hid (fun W' (hb : Below w3.heap.size w3 W') => A2.out W' (B3.out.trans (hb.mono B3.out.size)))
    have u9 : IntKind.i64.wrap (i + 1) = i + 1 := IntWalk.i64_in _ (by omega)
    go_wp2_with fail
    go_region_held3 (fun w' => (∀ o, w'.cell? ⟨p, o, none⟩ = #[.int .i64 X, .int .i64 Y, .int .i64 W, .int .i64 H, .slice (some ⟨b, 0, none⟩) n cap][o]?) ∧ (∀ o, w'.cell? ⟨p + 1, o, none⟩ = #[.int .i64 i][o]?) ∧ (∀ o, w'.cell? ⟨p + 1 + 1, o, none⟩ = #[.float .f32 s][o]?) ∧ Below w3.heap.size w3 w') (first | exact ⟨(blkC (blkStay GF3.out (by repeat (first | exact Below.refl _ _ | refine Below.alloc ?_ (by first | omega | (simp; done) | (simp; omega)) _ | refine Below.setCell ?_ (by first | omega | (simp; done) | (simp; omega)) _ | refine Below.drew ?_)))).1, (blkC (blkStay GC3.out (by repeat (first | exact Below.refl _ _ | refine Below.alloc ?_ (by first | omega | (simp; done) | (simp; omega)) _ | refine Below.setCell ?_ (by first | omega | (simp; done) | (simp; omega)) _ | refine Below.drew ?_)))).1, (blkC (blkStay GS3.out (by repeat (first | exact Below.refl _ _ | refine Below.alloc ?_ (by first | omega | (simp; done) | (simp; omega)) _ | refine Below.setCell ?_ (by first | omega | (simp; done) | (simp; omega)) _ | refine Below.drew ?_)))).1, (by repeat (first | exact Below.refl _ _ | refine Below.alloc ?_ (by first | omega | (simp; done) | (simp; omega)) _ | refine Below.setCell ?_ (by first | omega | (simp; done) | (simp; omega)) _ | refine Below.drew ?_))⟩) (first | (go_at_call 90; (with_reducible refine Calls.mono (D1.out _ ?_) ?_); exact (by repeat (first | exact Below.refl _ _ | refine Below.alloc ?_ (by first | omega | (simp; done) | (simp; omega)) _ | refine Below.setCell ?_ (by first | omega | (simp; done) | (simp; omega)) _ | refine Below.drew ?_)); rintro e w' ⟨rfl, rfl⟩) | (go_at_call 90; (with_reducible refine Calls.mono (D2.out _ ?_) ?_); exact (by repeat (first | exact Below.refl _ _ | refine Below.alloc ?_ (by first | omega | (simp; done) | (simp; omega)) _ | refine Below.setCell ?_ (by first | omega | (simp; done) | (simp; omega)) _ | refine Below.drew ?_)); rintro e w' ⟨rfl, rfl⟩) | (go_at_call 109; refine (LP.out _).mono ?_; rintro e w' ⟨rfl, rfl⟩))
    rename_i wh hHeld
    go_wp2
    go_ret2
    exact ⟨by rw [← HE.out]; rfl, B3.out.trans (hHeld.2.2.2.mono B3.out.size)⟩
end Go.Proofs.Ytihjemookgnafaa
