/- ShadesMatch, for every field and every three integers: what Shade answers is what the reference answers, bit by bit, and no value lies below 0. No condition. -/
import Derived.Test.YtmbiohopcfglcaaShaJB
import Derived.RegionTactic
import Derived.ChangeAlike
import Derived.StillTailTactics
import Derived.ProofKit
import Derived.OpenShut
import Derived.Lib.SmallJoins
import Derived.Laws.Cover2
import Derived.Deep.Slices

/- The shade of one cell, as a word; what its steps come to. -/
namespace Go.Proofs.Ytmbiohopcfglcaa
open Go.RowKit Fl
set_option linter.unusedVariables false

/-- By how much the ground rises from one neighbour to the opposite one. -/
def riseW (a b : Nat) : Nat := mulW (subW a b) 1056964608
/-- The square of the rise, and the length of the normal before it is made 1. -/
def sqrW (dx dy : Nat) : Nat := addW (mulW dx dx) (mulW dy dy)
def nrmW (dx dy : Nat) : Nat := rootW (addW (sqrW dx dy) 1065353216)

theorem vS_half {j : Nat} (hj : j = 1073) : vS 1056964608 = some ((2 ^ j : Nat) : Int) := by
  have h : Ieee.single.read 1056964608 = .number false 8388608 (-24) := by decide
  rw [vS_lit (t := 1) (k := 23) (j := j) h (by decide) (by rw [hj]; decide)]; simp
theorem bd_half : Bd 0 1056964608 := by
  obtain ⟨j, hj⟩ : ∃ j : Nat, j = 1073 := ⟨_, rfl⟩
  obtain ⟨J, hJ⟩ : ∃ J : Nat, J = 1074 := ⟨_, rfl⟩
  exact bd_val' (j := J) (vS_half hj) (by omega) (by rw [Int.natAbs_natCast]; exact Nat.pow_le_pow_right (by omega) (by omega))

structure RiseAt (a b d r : Nat) : Prop where
  d1 : floatBits .sub .f32 a b = some d
  d2 : Same2 .sub 21 a b
  r1 : floatBits .mul .f32 d 1056964608 = some r
  r2 : Same2 .mul 21 d 1056964608
  bd : Bd 21 r
  w : riseW a b = r
  lt : r < 4294967296
theorem rise_parts {a b : Nat} (ha : hgtB a = true) (hb : hgtB b = true) : ∃ d r, RiseAt a b d r := by
  have d2 : Same2 .sub 21 a b := sub_same (k := 20) (by omega) (hgt_bd ha) (hgt_bd hb)
  obtain ⟨d, d1, bd⟩ := same_ex d2
  have r2 : Same2 .mul (21 + 0) d 1056964608 := mul_same (by omega) bd bd_half
  obtain ⟨r, r1, br⟩ := same_ex r2
  exact ⟨d, r, d1, d2, r1, r2, br, by unfold riseW subW mulW; rw [d1]; show (floatBits .mul .f32 d 1056964608).getD 0 = r; rw [r1]; rfl, mul_lt r1⟩

theorem square_nn {t r k : Nat} {B : Nat} (hb : Bd k t) (e : floatBits .mul .f32 t t = some r) (hB : 1074 + k + k < B) (hB' : B < 1202) : ∃ d, vS r = some d ∧ 0 ≤ d := by
  obtain ⟨a, h, ha⟩ := val_bd hb
  obtain ⟨P, hP⟩ := mul_unit h h
  have hone : (0 : Int) < (one : Int) := Int.natCast_pos.2 one_pos
  have sq : 0 ≤ a * a := by rw [← Int.natAbs_mul_self' a]; exact Int.mul_nonneg (Int.natCast_nonneg _) (Int.natCast_nonneg _)
  have P0 : 0 ≤ P := by
    rw [hP] at sq
    exact Int.le_of_mul_le_mul_right (by rw [Int.zero_mul]; exact sq) hone
  obtain ⟨J, hJ⟩ : ∃ J : Nat, J = 1074 := ⟨_, rfl⟩
  have lt : P.natAbs < 2 ^ B := by
    have e1 : a.natAbs * a.natAbs = P.natAbs * one := by rw [← Int.natAbs_mul, hP, Int.natAbs_mul, Int.natAbs_natCast]
    have e2 : a.natAbs * a.natAbs ≤ 2 ^ (J + k) * 2 ^ (J + k) := by rw [hJ]; exact Nat.mul_le_mul ha ha
    rw [e1, one_pow hJ, show 2 ^ (J + k) * 2 ^ (J + k) = 2 ^ (J + k + k) * 2 ^ J by rw [← Nat.pow_add, ← Nat.pow_add]; exact congrArg (2 ^ ·) (by omega)] at e2
    have e3 := Nat.le_of_mul_le_mul_right e2 (Nat.two_pow_pos J)
    exact Nat.lt_of_le_of_lt e3 (Nat.pow_lt_pow_right (by omega) (by omega))
  exact ⟨_, vS_mul (B := B) e h h hP lt (by omega), rdS_nonneg P0⟩

structure NrmAt (dx dy p q s u : Nat) (a : Int) (X Z : Nat) (c : Int) : Prop where
  p1 : floatBits .mul .f32 dx dx = some p
  p2 : Same2 .mul 42 dx dx
  q1 : floatBits .mul .f32 dy dy = some q
  q2 : Same2 .mul 42 dy dy
  s1 : floatBits .add .f32 p q = some s
  s2 : Same2 .add 43 p q
  u1 : floatBits .add .f32 s 1065353216 = some u
  u2 : Same2 .add 44 s 1065353216
  rt : RootAt u a X Z c
  c1 : (one : Int) ≤ c
  ws : sqrW dx dy = s
  w : nrmW dx dy = rootW u

theorem nrm_parts {dx dy : Nat} (hx : Bd 21 dx) (hy : Bd 21 dy) : ∃ p q s u a X Z c, NrmAt dx dy p q s u a X Z c := by
  have p2 : Same2 .mul (21 + 21) dx dx := mul_same (by omega) hx hx
  obtain ⟨p, p1, bp⟩ := same_ex p2
  have q2 : Same2 .mul (21 + 21) dy dy := mul_same (by omega) hy hy
  obtain ⟨q, q1, bq⟩ := same_ex q2
  have s2 : Same2 .add 43 p q := add_same (k := 42) (by omega) bp bq
  obtain ⟨s, s1, bs⟩ := same_ex s2
  have u2 : Same2 .add 44 s 1065353216 := add_same (k := 43) (by omega) bs (bd_one 43)
  obtain ⟨u, u1, bu⟩ := same_ex u2
  obtain ⟨B, hB⟩ : ∃ B : Nat, B = 1150 := ⟨_, rfl⟩
  obtain ⟨ap, vp, p0⟩ := square_nn (B := B) hx p1 (by omega) (by omega)
  obtain ⟨aq, vq, q0⟩ := square_nn (B := B) hy q1 (by omega) (by omega)
  obtain ⟨J, hJ⟩ : ∃ J : Nat, J = 1074 := ⟨_, rfl⟩
  have up : ∀ {x k : Nat} {a : Int}, Bd k x → vS x = some a → k ≤ 60 → a.natAbs < 2 ^ (J + 61) := by
    intro x k a hb hv hk
    obtain ⟨a', h', l'⟩ := val_bd hb
    rw [hv] at h'
    have := Option.some.inj h'
    subst this
    rw [← hJ] at l'
    exact Nat.lt_of_le_of_lt l' (Nat.pow_lt_pow_right (by omega) (by omega))
  have l1 := up bp vp (by omega)
  have l2 := up bq vq (by omega)
  have vs : vS s = some (rdS (ap + aq)) := vS_add (B := J + 62) s1 vp vq (by rw [show J + 62 = J + 61 + 1 by omega, Nat.pow_succ]; generalize 2 ^ (J + 61) = T at *; omega) (by omega)
  have s0 : 0 ≤ rdS (ap + aq) := rdS_nonneg (by omega)
  have l3 := up bs vs (by omega)
  have lo : one < 2 ^ (J + 61) := one_lt (by omega)
  have vu : vS u = some (rdS (rdS (ap + aq) + (one : Int))) := vS_add (B := J + 62) u1 vs vS_one (by rw [show J + 62 = J + 61 + 1 by omega, Nat.pow_succ]; generalize 2 ^ (J + 61) = T at *; generalize one = O at *; omega) (by omega)
  have u0 : (one : Int) ≤ rdS (rdS (ap + aq) + (one : Int)) := by
    have := rdS_mono (show (one : Int) ≤ rdS (ap + aq) + (one : Int) by generalize one = O at *; omega)
    rwa [rdS_self vS_one] at this
  obtain ⟨X, Z, c, RT⟩ := root_parts vu (by generalize one = O at *; omega) bu (by omega)
  have hc : (one : Int) ≤ c := by
    have := RT.lo 1 (by omega) (by simpa using u0)
    simpa using this
  have es : sqrW dx dy = s := by unfold sqrW mulW addW; rw [p1, q1]; show (floatBits .add .f32 p q).getD 0 = s; rw [s1]; rfl
  exact ⟨p, q, s, u, _, X, Z, c, p1, p2, q1, q2, s1, s2, u1, u2, RT, hc, es, by unfold nrmW addW; rw [es, u1]; rfl⟩

/-- The light on a cell ahead of the greater one of it and 0, and the shade. -/
def litW (M : Nat) (lx ly lz : Int) (dx dy : Nat) : Nat :=
  quoW (addW (addW (mulW (quoW (negW dx) (nrmW dx dy)) (floatOfInt .f32 lx)) (mulW (quoW (negW dy) (nrmW dx dy)) (floatOfInt .f32 ly))) (mulW (quoW 1065353216 (nrmW dx dy)) (floatOfInt .f32 lz))) M
def shdW (x : Nat) : Nat := if (FloatKind.f32.format.order 0 x == some .lt) = true then x else 0

/-- A length of a direction: its value is at least 1. -/
def LenOk (M : Nat) : Prop := ∃ c, vS M = some c ∧ (one : Int) ≤ c

structure LitAt (M : Nat) (lx ly lz : Int) (dx dy m nx ny nz a b s d t r : Nat) : Prop where
  nx1 : floatBits .quo .f32 (negW dx) m = some nx
  nx2 : Same2 .quo 21 (negW dx) m
  ny1 : floatBits .quo .f32 (negW dy) m = some ny
  ny2 : Same2 .quo 21 (negW dy) m
  nz1 : floatBits .quo .f32 1065353216 m = some nz
  nz2 : Same2 .quo 0 1065353216 m
  a1 : floatBits .mul .f32 nx (floatOfInt .f32 lx) = some a
  a2 : Same2 .mul 45 nx (floatOfInt .f32 lx)
  b1 : floatBits .mul .f32 ny (floatOfInt .f32 ly) = some b
  b2 : Same2 .mul 45 ny (floatOfInt .f32 ly)
  s1 : floatBits .add .f32 a b = some s
  s2 : Same2 .add 46 a b
  d1 : floatBits .mul .f32 nz (floatOfInt .f32 lz) = some d
  d2 : Same2 .mul 24 nz (floatOfInt .f32 lz)
  t1 : floatBits .add .f32 s d = some t
  t2 : Same2 .add 47 s d
  r1 : floatBits .quo .f32 t M = some r
  r2 : Same2 .quo 47 t M
  w : litW M lx ly lz dx dy = r
  v : ∃ a, vS r = some a
  lt : r < 4294967296

theorem quo_lt {x y r : Nat} (h : floatBits .quo .f32 x y = some r) : r < 4294967296 := opt_lt (d := (Ieee.single.read x).quotient _ (Ieee.single.read y)) h
theorem div_by {x m k : Nat} {c : Int} (hk : k ≤ 120) (hb : Bd k x) (hm : vS m = some c) (c1 : (one : Int) ≤ c) : Same2 .quo k x m := by
  obtain ⟨a, ha, l⟩ := val_bd hb
  have hp := one_pos
  refine div_val ha hm (by generalize one = O at *; omega) hk (Nat.le_trans l ?_)
  obtain ⟨J, hJ⟩ : ∃ J : Nat, J = 1074 := ⟨_, rfl⟩
  rw [show 1074 + k = J + k by omega, Nat.pow_add, ← one_pow hJ]
  exact Nat.mul_le_mul_right _ (by generalize one = O at *; omega)

theorem lit_parts {M dx dy m : Nat} {lx ly lz c : Int} (hx : Bd 21 dx) (hy : Bd 21 dy) (x1 : dx < 4294967296) (y1 : dy < 4294967296) (hm : nrmW dx dy = m) (vm : vS m = some c) (c1 : (one : Int) ≤ c) (hM : LenOk M)
    (l1 : lx.natAbs ≤ 1000) (l2 : ly.natAbs ≤ 1000) (l3 : lz.natAbs ≤ 1000) : ∃ nx ny nz a b s d t r, LitAt M lx ly lz dx dy m nx ny nz a b s d t r := by
  obtain ⟨cM, vM, cM1⟩ := hM
  obtain ⟨_, bx⟩ := int_val (n := lx) (by omega)
  obtain ⟨_, by'⟩ := int_val (n := ly) (by omega)
  obtain ⟨_, bz⟩ := int_val (n := lz) (by omega)
  have nx2 := div_by (k := 21) (by omega) (neg_bd x1 hx) vm c1
  obtain ⟨nx, nx1, bnx⟩ := same_ex nx2
  have ny2 := div_by (k := 21) (by omega) (neg_bd y1 hy) vm c1
  obtain ⟨ny, ny1, bny⟩ := same_ex ny2
  have nz2 := div_by (k := 0) (by omega) (bd_one 0) vm c1
  obtain ⟨nz, nz1, bnz⟩ := same_ex nz2
  have a2 : Same2 .mul (21 + 24) nx (floatOfInt .f32 lx) := mul_same (by omega) bnx bx
  obtain ⟨a, a1, ba⟩ := same_ex a2
  have b2 : Same2 .mul (21 + 24) ny (floatOfInt .f32 ly) := mul_same (by omega) bny by'
  obtain ⟨b, b1, bb⟩ := same_ex b2
  have s2 : Same2 .add 46 a b := add_same (k := 45) (by omega) ba bb
  obtain ⟨s, s1, bs⟩ := same_ex s2
  have d2 : Same2 .mul (0 + 24) nz (floatOfInt .f32 lz) := mul_same (by omega) bnz bz
  obtain ⟨d, d1, bd⟩ := same_ex d2
  have t2 : Same2 .add 47 s d := add_same (k := 46) (by omega) bs (bd_up bd (by omega))
  obtain ⟨t, t1, bt⟩ := same_ex t2
  have r2 := div_by (k := 47) (by omega) bt vM cM1
  obtain ⟨r, r1, br⟩ := same_ex r2
  obtain ⟨ar, vr, _⟩ := val_bd br
  refine ⟨nx, ny, nz, a, b, s, d, t, r, nx1, nx2, ny1, ny2, nz1, nz2, a1, a2, b1, b2, s1, s2, d1, d2, t1, t2, r1, r2, ?_, ⟨ar, vr⟩, quo_lt r1⟩
  unfold litW
  rw [hm]
  have e1 : quoW (negW dx) m = nx := by unfold quoW; rw [nx1]; rfl
  have e2 : quoW (negW dy) m = ny := by unfold quoW; rw [ny1]; rfl
  have e3 : quoW 1065353216 m = nz := by unfold quoW; rw [nz1]; rfl
  have e4 : mulW nx (floatOfInt .f32 lx) = a := by unfold mulW; rw [a1]; rfl
  have e5 : mulW ny (floatOfInt .f32 ly) = b := by unfold mulW; rw [b1]; rfl
  have e6 : addW a b = s := by unfold addW; rw [s1]; rfl
  have e7 : mulW nz (floatOfInt .f32 lz) = d := by unfold mulW; rw [d1]; rfl
  have e8 : addW s d = t := by unfold addW; rw [t1]; rfl
  rw [e1, e2, e3, e4, e5, e6, e7, e8]
  unfold quoW; rw [r1]; rfl

/-- A shade is not below 0. -/
theorem shd_nn {x : Nat} {a : Int} (h : vS x = some a) : (FloatKind.f32.format.order (shdW x) 0 == some .lt) = false := by
  unfold shdW
  split
  · rename_i c
    rw [f32f, lss_val vS_zero h] at c
    rw [f32f, lss_val h vS_zero]
    simp at c ⊢; omega
  · rw [f32f, lss_val vS_zero vS_zero]; simp
theorem shd_lt {x : Nat} (h : x < 4294967296) : shdW x < 4294967296 := by unfold shdW; split <;> first | exact h | decide
end Go.Proofs.Ytmbiohopcfglcaa

/- Contracts: Same$1, EqualFunc, Same, same. -/
namespace Go.Proofs.Ytmbiohopcfglcaa
open Go.RowKit Fl
set_option linter.unusedVariables false

theorem enters_Same1 : Enters 186 := by intro args W; simp [callFunc, Try.func186, Try.f186]

set_option maxHeartbeats 400000 in
theorem same1_self (x : Nat) (w : World) :
    Calls Try.prog 186 #[.float .f32 x, .float .f32 x] w fun e w' => e = .returned (.bool true) ∧ w = w' := by
  have h1 := f32bits
  go_enter Try.func186, Try.ntmps186
  go_wp2
  go_ret
  exact ⟨rfl, rfl⟩

set_option maxHeartbeats 1000000 in
theorem equalFunc_row (b b' cap cap' n : Nat) (v : Nat → Nat) (hl : n ≤ 9223372036854775807) (w : World) (hc : FlAt w b 0 n v) (hc' : FlAt w b' 0 n v) :
    Calls Try.prog 185 #[.slice (some ⟨b, 0, none⟩) n cap, .slice (some ⟨b', 0, none⟩) n cap', .func (.func 186) #[] #[]] w fun e w' => e = .returned (.bool true) ∧ w = w' := by
  have hcall := enters_Same1
  unfold Enters at hcall
  go_enter Try.func185, Try.ntmps185
  go_wp2
  go_loop [17] (fun i => ∃ k : Nat, k ≤ n ∧ i = .int .i64 k) (fun i => n - (intOf i).toNat)
  case atStart => exact ⟨0, Nat.zero_le _, rfl⟩
  case round =>
    obtain ⟨k, hk, rfl⟩ := hrel
    by_cases hlt : k < n
    · have hcell := hc k hlt
      have hcell' := hc' k hlt
      rw [Nat.zero_add] at hcell hcell'
      have IH := Lib.hid (fun w => same1_self (v k) w)
      go_wp2_with fail
      refine (IH.out _).mono ?_
      rintro e w' ⟨rfl, rfl⟩
      go_wp2
      go_round
      case rel => exact ⟨k + 1, by omega, by go_num⟩
      case measure => simp [intOf]; omega
    · go_wp2
      go_ret
      exact ⟨rfl, rfl⟩

set_option maxHeartbeats 1000000 in
theorem same_ok (X Y W H : Int) (b b' cap cap' n : Nat) (v : Nat → Nat) (hl : n ≤ 9223372036854775807) (h1 : 1 ≤ n) (w : World) (hc : FlAt w b 0 n v) (hc' : FlAt w b' 0 n v) :
    Calls Try.prog 98 #[fldV X Y W H (.slice (some ⟨b, 0, none⟩) n cap), fldV X Y W H (.slice (some ⟨b', 0, none⟩) n cap')] w fun e w' => e = .returned (.bool true) ∧ Below w.heap.size w w' := by
  have z := World.block_lt_of_cell? w _ (hc 0 h1)
  have z' := World.block_lt_of_cell? w _ (hc' 0 h1)
  have EF := Lib.hid (fun W' (hb : Below w.heap.size w W') => equalFunc_row b b' cap cap' n v hl W' (flAt_congr hc (hb.block _ z)) (flAt_congr hc' (hb.block _ z')))
  clear hc hc'
  go_enter Try.func98, Try.ntmps98
  go_wp2_with (first | (go_at_call 185; refine (EF.out _ (by repeat (first | exact Below.refl _ _ | refine Below.alloc ?_ (by first | omega | (simp; done) | (simp; omega)) _ | refine Below.setCell ?_ (by first | omega | (simp; done) | (simp; omega)) _ | refine Below.drew ?_))).mono ?_; rintro e w' ⟨rfl, rfl⟩))
  go_ret
  exact ⟨rfl, (by repeat (first | exact Below.refl _ _ | refine Below.alloc ?_ (by first | omega | (simp; done) | (simp; omega)) _ | refine Below.setCell ?_ (by first | omega | (simp; done) | (simp; omega)) _ | refine Below.drew ?_))⟩

set_option maxHeartbeats 1000000 in
theorem law_same_ok (X Y W H : Int) (b b' cap cap' n : Nat) (v : Nat → Nat) (hl : n ≤ 9223372036854775807) (h1 : 1 ≤ n) (w : World) (hc : FlAt w b 0 n v) (hc' : FlAt w b' 0 n v) :
    Calls Try.prog 22 #[fldV X Y W H (.slice (some ⟨b, 0, none⟩) n cap), .int .i64 0, fldV X Y W H (.slice (some ⟨b', 0, none⟩) n cap'), .int .i64 0] w fun e w' => e = .returned (.bool true) ∧ Below w.heap.size w w' := by
  have z := World.block_lt_of_cell? w _ (hc 0 h1)
  have z' := World.block_lt_of_cell? w _ (hc' 0 h1)
  have SM := Lib.hid (fun W' (hb : Below w.heap.size w W') => same_ok X Y W H b b' cap cap' n v hl h1 W' (flAt_congr hc (hb.block _ z)) (flAt_congr hc' (hb.block _ z')))
  clear hc hc'
  go_enter Try.func22, Try.ntmps22
  go_wp2_with (first | (go_at_call 98; refine (SM.out _ (by repeat (first | exact Below.refl _ _ | refine Below.alloc ?_ (by first | omega | (simp; done) | (simp; omega)) _ | refine Below.setCell ?_ (by first | omega | (simp; done) | (simp; omega)) _ | refine Below.drew ?_))).mono ?_; rintro e w2 ⟨rfl, hb2⟩))
  go_ret
  exact ⟨rfl, Below.trans (by repeat (first | exact Below.refl _ _ | refine Below.alloc ?_ (by first | omega | (simp; done) | (simp; omega)) _ | refine Below.setCell ?_ (by first | omega | (simp; done) | (simp; omega)) _ | refine Below.drew ?_)) (Below.mono hb2 (by simp; try omega))⟩

set_option maxHeartbeats 1000000 in
theorem law_same_err (e1 : Int) (he : e1 ≠ 0) (w : World) :
    Calls Try.prog 22 #[fldV 0 0 0 0 (.slice none 0 0), .int .i64 e1, fldV 0 0 0 0 (.slice none 0 0), .int .i64 e1] w fun e w' => e = .returned (.bool true) ∧ Below w.heap.size w w' := by
  have hb : (e1 != 0) = true := by simp [he]
  go_enter Try.func22, Try.ntmps22
  go_wp2
  go_ret
  exact ⟨rfl, (by repeat (first | exact Below.refl _ _ | refine Below.alloc ?_ (by first | omega | (simp; done) | (simp; omega)) _ | refine Below.setCell ?_ (by first | omega | (simp; done) | (simp; omega)) _ | refine Below.drew ?_))⟩

end Go.Proofs.Ytmbiohopcfglcaa

/- What the two sides answer, told alike: so the law's walk has one way. -/
namespace Go.Proofs.Ytmbiohopcfglcaa
open Go.RowKit Fl
set_option linter.unusedVariables false

/-- A result (the field x y u h s, the error k) of a function that makes f over a region, behind the error er. -/
def Res (lo : Nat) (w : World) (X Y W H : Int) (n : Nat) (f : Nat → Nat) (er : Int) (x y u h : Int) (s : Value) (k : Int) : Prop :=
  (er ≠ 0 ∧ x = 0 ∧ y = 0 ∧ u = 0 ∧ h = 0 ∧ s = .slice none 0 0 ∧ k = er) ∨
  (er = 0 ∧ allB n (fun i => hgtB (f i)) = true ∧ x = X ∧ y = Y ∧ u = W ∧ h = H ∧ (∃ b cap, s = .slice (some ⟨b, 0, none⟩) n cap ∧ lo ≤ b ∧ b < w.heap.size ∧ FlAt w b 0 n f) ∧ k = 0) ∨
  (er = 0 ∧ allB n (fun i => hgtB (f i)) = false ∧ x = 0 ∧ y = 0 ∧ u = 0 ∧ h = 0 ∧ s = .slice none 0 0 ∧ k = 3)
theorem Res.stay {lo : Nat} {w w' : World} {X Y W H : Int} {n : Nat} {f : Nat → Nat} {er x y u h : Int} {s : Value} {k : Int} (r : Res lo w X Y W H n f er x y u h s k) (hb : Below w.heap.size w w') : Res lo w' X Y W H n f er x y u h s k := by
  rcases r with r | ⟨r1, r2, r3, r4, r5, r6, ⟨b, cap, r7, r0, r8, r9⟩, r10⟩ | r
  · exact .inl r
  · exact .inr (.inl ⟨r1, r2, r3, r4, r5, r6, ⟨b, cap, r7, r0, Nat.lt_of_lt_of_le r8 hb.size, flAt_congr r9 (hb.block _ r8)⟩, r10⟩)
  · exact .inr (.inr r)
theorem Res.heap {lo : Nat} {w w' : World} {X Y W H : Int} {n : Nat} {f : Nat → Nat} {er x y u h : Int} {s : Value} {k : Int} (r : Res lo w X Y W H n f er x y u h s k) {p : Nat} (hz : w.heap.size ≤ w'.heap.size) (hne : p < lo) (hb : ∀ b, b ≠ p → b < w.heap.size → w'.heap[b]? = w.heap[b]?) : Res lo w' X Y W H n f er x y u h s k := by
  rcases r with r | ⟨r1, r2, r3, r4, r5, r6, ⟨b, cap, r7, r0, r8, r9⟩, r10⟩ | r
  · exact .inl r
  · exact .inr (.inl ⟨r1, r2, r3, r4, r5, r6, ⟨b, cap, r7, r0, Nat.lt_of_lt_of_le r8 hz, flAt_congr r9 (hb _ (by omega) r8)⟩, r10⟩)
  · exact .inr (.inr r)

theorem made_res {w w' : World} {X Y W H : Int} {n : Nat} {f : Nat → Nat} {er : Int} {e : Ending} (h : ScPost w X Y W H n f er e w') :
    ∃ x y u hh : Int, ∃ a : Option Addr, ∃ l cp : Nat, ∃ k : Int, e = .returned (.tuple #[fldV x y u hh (.slice a l cp), .int .i64 k]) ∧ Res w.heap.size w' X Y W H n f er x y u hh (.slice a l cp) k ∧ Below w.heap.size w w' := by
  rcases h with ⟨h1, h2, h3⟩ | ⟨h1, ⟨h2, b, cap, h3, h4, h5, h6, h7⟩ | ⟨h2, h3, h4⟩⟩
  · exact ⟨_, _, _, _, _, _, _, _, h2, .inl ⟨h1, rfl, rfl, rfl, rfl, rfl, rfl⟩, h3⟩
  · exact ⟨_, _, _, _, _, _, _, _, h3, .inr (.inl ⟨h1, h2, rfl, rfl, rfl, rfl, ⟨b, cap, rfl, h4, h5, h6⟩, rfl⟩), h7⟩
  · exact ⟨_, _, _, _, _, _, _, _, h3, .inr (.inr ⟨h1, h2, rfl, rfl, rfl, rfl, rfl, rfl⟩), h4⟩

/-- Two results of one thing are the same to the law. -/
theorem same_res {W0 : World} {X Y W H : Int} {n : Nat} {f : Nat → Nat} {er x y u h x' y' u' h' : Int} {s s' : Value} {k k' : Int} (hn : 1 ≤ n) (hl : n ≤ 9223372036854775807)
    {lo lo' : Nat} (r : Res lo W0 X Y W H n f er x y u h s k) (r' : Res lo' W0 X Y W H n f er x' y' u' h' s' k') :
    Calls Try.prog 22 #[fldV x y u h s, .int .i64 k, fldV x' y' u' h' s', .int .i64 k'] W0 fun e w' => e = .returned (.bool true) ∧ Below W0.heap.size W0 w' := by
  rcases r with ⟨a1, rfl, rfl, rfl, rfl, rfl, rfl⟩ | ⟨a1, a2, rfl, rfl, rfl, rfl, ⟨b, cap, rfl, _, _, c⟩, rfl⟩ | ⟨a1, a2, rfl, rfl, rfl, rfl, rfl, rfl⟩ <;>
  rcases r' with ⟨b1, rfl, rfl, rfl, rfl, rfl, rfl⟩ | ⟨b1, b2, rfl, rfl, rfl, rfl, ⟨b', cap', rfl, _, _, c'⟩, rfl⟩ | ⟨b1, b2, rfl, rfl, rfl, rfl, rfl, rfl⟩
  · exact law_same_err _ a1 W0
  · exact absurd b1 a1
  · exact absurd b1 a1
  · exact absurd a1 b1
  · exact law_same_ok _ _ _ _ b b' cap cap' n f hl hn W0 c c'
  · rw [a2] at b2; cases b2
  · exact absurd a1 b1
  · rw [a2] at b2; cases b2
  · exact law_same_err 3 (by decide) W0

theorem set5_self {wr : World} {b : Nat} {a1 a2 a3 a4 a5 : Value} {t : TypeId} (u1 u2 u3 u4 u5 : Value) (h : wr.heap[b]? = some (.cells #[a1, a2, a3, a4, a5] t (0, 0))) :
    (set5 wr b u1 u2 u3 u4 u5).heap[b]? = some (.cells #[u1, u2, u3, u4, u5] t (0, 0)) := by
  have h1 := heap_setCell_same wr b 0 _ _ u1 h
  have h2 := heap_setCell_same _ b 1 _ _ u2 h1
  have h3 := heap_setCell_same _ b 2 _ _ u3 h2
  have h4 := heap_setCell_same _ b 3 _ _ u4 h3
  have h5 := heap_setCell_same _ b 4 _ _ u5 h4
  exact h5
/-- A field stored into a block of its own: what stands elsewhere stays. -/
theorem box_old (wr : World) (o : Obj) (u1 u2 u3 u4 u5 : Value) {k : Nat} (h : k < wr.heap.size) : (set5 (wr.alloc o) wr.heap.size u1 u2 u3 u4 u5).heap[k]? = wr.heap[k]? := by
  rw [set5_heap _ _ _ _ _ _ _ _ (by omega), heap_alloc_old _ _ h]
theorem box_below (wr : World) (o : Obj) (u1 u2 u3 u4 u5 : Value) : Below wr.heap.size wr (set5 (wr.alloc o) wr.heap.size u1 u2 u3 u4 u5) :=
  set5_below ((Below.refl _ _).alloc (Nat.le_refl _) o) _ _ _ _ _ _ (Nat.le_refl _)

/-- What a fit field is, its singles by a function. -/
theorem fit_fn {w : World} {b n : Nat} (h : FitRow w b n n) : ∃ v : Nat → Nat, FlAt w b 0 n v ∧ wf32 n v ∧ allB n (fun i => hgtB (v i)) = true ∧ b < w.heap.size := by
  obtain ⟨cs, h1, h2, h3⟩ := h
  refine ⟨fun j => if hj : j < n then (h3 j hj).choose else 0, fun i hi => ?_, fun i hi => ?_, allB_iff.2 fun i hi => ?_, (blkC h1).2.2⟩
  · rw [Nat.zero_add, (blkC h1).1 i]; simp only [dif_pos hi]; exact (h3 i hi).choose_spec.1
  · simp only [dif_pos hi]; exact (h3 i hi).choose_spec.2.1
  · simp only [dif_pos hi]; exact (h3 i hi).choose_spec.2.2 hi
theorem fit_check {X Y : Int} {W H n : Nat} (x1 : -5000 ≤ X) (x2 : X ≤ 5000) (y1 : -5000 ≤ Y) (y2 : Y ≤ 5000) (w1 : (1 : Int) ≤ W) (w2 : (W : Int) ≤ 16) (h1 : (1 : Int) ≤ H) (h2 : (H : Int) ≤ 16) (hn : (n : Int) = W * H) (hn2 : n ≤ 256) : checkR X Y W H = 0 := by
  unfold checkR
  rw [if_neg (by omega), if_neg (by rw [← hn]; omega), if_neg (by omega)]

end Go.Proofs.Ytmbiohopcfglcaa

/- Contracts: shrink, crossAt, rise, square, normal of the program. -/
namespace Go.Proofs.Ytmbiohopcfglcaa
open Go.RowKit Fl
set_option linter.unusedVariables false

set_option maxHeartbeats 1000000 in
theorem shrink_any (X Y W H : Int) (w : World) (x1 : -4194304 ≤ X) (x2 : X ≤ 4194304) (y1 : -4194304 ≤ Y) (y2 : Y ≤ 4194304) (w1 : 1 ≤ W) (w2 : W ≤ 512) (h1 : 1 ≤ H) (h2 : H ≤ 512) :
    Calls Try.prog 192 #[reg X Y W H, .int .i64 1] w fun e w' => e = .returned (.tuple #[reg (X + 1) (Y + 1) (W - 2) (H - 2), .bool (decide (3 ≤ W ∧ 3 ≤ H))]) ∧ Below w.heap.size w w' := by
  cases c1 : decide (2 < W) with
  | false =>
    have e : decide (3 ≤ W ∧ 3 ≤ H) = false := by simp at c1 ⊢; omega
    rw [e]
    clear e
    go_enter Try.func192, Try.ntmps192
    go_wp2
    go_region
    all_goals go_wp2
    all_goals refine bodyPost_ret (v := .tuple #[reg (X + 1) (Y + 1) (W - 2) (H - 2), .bool false]) (by simp [results, Try.results192, go_sem]) rfl ?_
    all_goals exact ⟨rfl, by repeat (first | exact Below.refl _ _ | refine Below.drew ?_ | refine Below.alloc ?_ (by simp; try omega) _ | refine Below.setCell ?_ (by simp; try omega) _)⟩
  | true =>
    cases c2 : decide (2 < H) with
    | false =>
      have e : decide (3 ≤ W ∧ 3 ≤ H) = false := by simp at c1 c2 ⊢; omega
      rw [e]
      clear e
      go_enter Try.func192, Try.ntmps192
      go_wp2
      go_region
      all_goals go_wp2
      all_goals refine bodyPost_ret (v := .tuple #[reg (X + 1) (Y + 1) (W - 2) (H - 2), .bool false]) (by simp [results, Try.results192, go_sem]) rfl ?_
      all_goals exact ⟨rfl, by repeat (first | exact Below.refl _ _ | refine Below.drew ?_ | refine Below.alloc ?_ (by simp; try omega) _ | refine Below.setCell ?_ (by simp; try omega) _)⟩
    | true =>
      have e : decide (3 ≤ W ∧ 3 ≤ H) = true := by simp at c1 c2 ⊢; omega
      rw [e]
      clear e
      go_enter Try.func192, Try.ntmps192
      go_wp2
      go_region
      all_goals go_wp2
      all_goals refine bodyPost_ret (v := .tuple #[reg (X + 1) (Y + 1) (W - 2) (H - 2), .bool true]) (by simp [results, Try.results192, go_sem]) rfl ?_
      all_goals exact ⟨rfl, by repeat (first | exact Below.refl _ _ | refine Below.drew ?_ | refine Below.alloc ?_ (by simp; try omega) _ | refine Below.setCell ?_ (by simp; try omega) _)⟩

theorem blkDrew {w : World} {b : Nat} {o : Obj} (h : w.heap[b]? = some o) : w.drew.heap[b]? = some o := h
theorem store_fl {w : World} {p o x : Nat} {cs : Array Value} {t : TypeId} {m : Mode} (h : w.heap[p]? = some (.cells cs t (0, 0))) (ho : o < cs.size) :
    (store ⟨p, o, none⟩ (.float .f32 x) m).run Try.prog w = .ok () (w.setCell ⟨p, o, none⟩ (.float .f32 x)) := by
  obtain ⟨c, f, z⟩ := blkC h
  have c0 := c o
  have f0 := f o
  rw [run_store_float]
  have : cs[o]? = some cs[o] := Array.getElem?_eq_getElem ho
  rw [this] at c0
  simp [stored, c0, f0]

theorem store_fld {w : World} {p o x : Nat} {cs : Array Value} {t : TypeId} {m : Mode} (h : w.heap[p]? = some (.cells cs t (0, 0))) (ho : o < cs.size) :
    (store ⟨p, o, none⟩ (.float .f32 x) m).run Try.prog w.drew = .ok () (w.setCell ⟨p, o, none⟩ (.float .f32 x)).drew := store_fl (blkDrew h) ho
theorem store5_fl {w : World} {p : Nat} {z0 z1 z2 z3 z4 : Value} {t : TypeId} (h : w.heap[p]? = some (.cells #[z0, z1, z2, z3, z4] t (0, 0))) (a b c d e : Nat) :
    (store ⟨p, 0, none⟩ (.float .f32 a) .plain).run Try.prog w.drew = .ok () (w.setCell ⟨p, 0, none⟩ (.float .f32 a)).drew ∧
    (store ⟨p, 1, none⟩ (.float .f32 b) .plain).run Try.prog (w.setCell ⟨p, 0, none⟩ (.float .f32 a)).drew = .ok () ((w.setCell ⟨p, 0, none⟩ (.float .f32 a)).setCell ⟨p, 1, none⟩ (.float .f32 b)).drew ∧
    (store ⟨p, 2, none⟩ (.float .f32 c) .plain).run Try.prog ((w.setCell ⟨p, 0, none⟩ (.float .f32 a)).setCell ⟨p, 1, none⟩ (.float .f32 b)).drew = .ok () (((w.setCell ⟨p, 0, none⟩ (.float .f32 a)).setCell ⟨p, 1, none⟩ (.float .f32 b)).setCell ⟨p, 2, none⟩ (.float .f32 c)).drew ∧
    (store ⟨p, 3, none⟩ (.float .f32 d) .plain).run Try.prog (((w.setCell ⟨p, 0, none⟩ (.float .f32 a)).setCell ⟨p, 1, none⟩ (.float .f32 b)).setCell ⟨p, 2, none⟩ (.float .f32 c)).drew = .ok () ((((w.setCell ⟨p, 0, none⟩ (.float .f32 a)).setCell ⟨p, 1, none⟩ (.float .f32 b)).setCell ⟨p, 2, none⟩ (.float .f32 c)).setCell ⟨p, 3, none⟩ (.float .f32 d)).drew ∧
    (store ⟨p, 4, none⟩ (.float .f32 e) .plain).run Try.prog ((((w.setCell ⟨p, 0, none⟩ (.float .f32 a)).setCell ⟨p, 1, none⟩ (.float .f32 b)).setCell ⟨p, 2, none⟩ (.float .f32 c)).setCell ⟨p, 3, none⟩ (.float .f32 d)).drew = .ok () (((((w.setCell ⟨p, 0, none⟩ (.float .f32 a)).setCell ⟨p, 1, none⟩ (.float .f32 b)).setCell ⟨p, 2, none⟩ (.float .f32 c)).setCell ⟨p, 3, none⟩ (.float .f32 d)).setCell ⟨p, 4, none⟩ (.float .f32 e)).drew := by
  have h1 := heap_setCell_same w p 0 _ _ (.float .f32 a) h
  have h2 := heap_setCell_same _ p 1 _ _ (.float .f32 b) h1
  have h3 := heap_setCell_same _ p 2 _ _ (.float .f32 c) h2
  have h4 := heap_setCell_same _ p 3 _ _ (.float .f32 d) h3
  exact ⟨store_fld h (by simp), store_fld h1 (by simp), store_fld h2 (by simp), store_fld h3 (by simp), store_fld h4 (by simp)⟩

/-- A cell with its neighbours, as a value. -/
abbrev crossO : Obj := .cells #[.float .f32 0, .float .f32 0, .float .f32 0, .float .f32 0, .float .f32 0] 141
abbrev crossV (c n w e s : Nat) : Value := .agg #[.float .f32 c, .float .f32 n, .float .f32 w, .float .f32 e, .float .f32 s]

set_option maxHeartbeats 4000000 in
set_option maxRecDepth 100000 in
theorem crossAt_any (X Y : Int) (W H n b cap i : Nat) (v : Nat → Nat) (x y : Int) (w : World) (h0 : checkR X Y W H = 0) (hn : n = H * W) (hcap : n ≤ cap) (hcp : cap ≤ 9223372036854775807) (hc : FlAt w b 0 n v)
    (h1 : X + 1 ≤ x) (h2 : x + 1 < X + W) (h3 : Y + 1 ≤ y) (h4 : y + 1 < Y + H) (hi : (i : Int) = (y - Y) * W + (x - X)) :
    Calls Try.prog 120 #[fldV X Y W H (.slice (some ⟨b, 0, none⟩) n cap), .int .i64 x, .int .i64 y] w fun e w' => e = .returned (crossV (v i) (v (i - W)) (v (i - 1)) (v (i + 1)) (v (i + W))) ∧ Below w.heap.size w w' := by
  obtain ⟨b1, b2, b3, b4, b5, b6, b7, b8, b9⟩ := checkR_zero h0
  have hn2 : n ≤ 65536 := by
    have : ((W : Int) * (H : Int)) = (n : Int) := by rw [hn, Nat.mul_comm]; simp
    omega
  have q0 : (W : Int) ≤ (y - Y) * W := by
    have := Int.mul_le_mul_of_nonneg_right (show (1 : Int) ≤ y - Y by omega) (show (0 : Int) ≤ W by omega); omega
  have q1 : (y - Y) * W ≤ (n : Int) - 2 * W := by
    have a : (y - Y) * W ≤ ((H : Int) - 2) * W := Int.mul_le_mul_of_nonneg_right (by omega) (by omega)
    have b : ((H : Int) - 2) * W = (n : Int) - 2 * W := by rw [hn, Int.sub_mul]; simp
    omega
  have IX := Lib.hid (fun w => index_any X Y W H i x y w (by omega) (by omega) (by omega) (by omega) (by omega) (by omega) (by omega) (by omega) (by omega) (by omega) (by omega) hi (by omega))
  obtain ⟨iN, eN⟩ : ∃ k, k = i - W := ⟨_, rfl⟩
  obtain ⟨iW, eW⟩ : ∃ k, k = i - 1 := ⟨_, rfl⟩
  obtain ⟨iE, eE⟩ : ∃ k, k = i + 1 := ⟨_, rfl⟩
  obtain ⟨iS, eS⟩ : ∃ k, k = i + W := ⟨_, rfl⟩
  rw [← eN, ← eW, ← eE, ← eS]
  have cell : ∀ k, k < n → w.cell? ⟨b, k, none⟩ = some (.float .f32 (v k)) := fun k hk => by have := hc k hk; rwa [Nat.zero_add] at this
  have k0 := cell i (by omega)
  have k1 := cell iN (by omega)
  have k2 := cell iW (by omega)
  have k3 := cell iE (by omega)
  have k4 := cell iS (by omega)
  have zb : b < w.heap.size := World.block_lt_of_cell? w _ k0
  have f1 : (i : Int) - (W : Int) = (iN : Int) := by omega
  have f2 : (i : Int) - 1 = (iW : Int) := by omega
  have f3 : (i : Int) + 1 = (iE : Int) := by omega
  have f4 : (i : Int) + (W : Int) = (iS : Int) := by omega
  have u1 : IntKind.i64.wrap (iN : Int) = iN := IntWalk.i64_in _ (by omega)
  have u2 : IntKind.i64.wrap (iW : Int) = iW := IntWalk.i64_in _ (by omega)
  have u3 : IntKind.i64.wrap (iE : Int) = iE := IntWalk.i64_in _ (by omega)
  have u4 : IntKind.i64.wrap (iS : Int) = iS := IntWalk.i64_in _ (by omega)
  have g0 : (i : Int) < (n : Int) := by omega
  have g1 : (iN : Int) < (n : Int) := by omega
  have g2 : (iW : Int) < (n : Int) := by omega
  have g3 : (iE : Int) < (n : Int) := by omega
  have g4 : (iS : Int) < (n : Int) := by omega
  have p0 : (0 : Int) ≤ (i : Int) := by omega
  have p1 : (0 : Int) ≤ (iN : Int) := by omega
  have p2 : (0 : Int) ≤ (iW : Int) := by omega
  have p3 : (0 : Int) ≤ (iE : Int) := by omega
  have p4 : (0 : Int) ≤ (iS : Int) := by omega
  clear hc h0 hi q0 q1 b1 b2 b3 b4 b5 b6 b7 b8 b9 h1 h2 h3 h4 hn hn2 eN eW eE eS cell
  go_enter Try.func120, Try.ntmps120
  go_wp2_with (first | (go_at_call 183; refine (IX.out _).mono ?_; rintro e w3 ⟨rfl, hw3⟩; have hB3 : Below w.heap.size w w3 := (by rw [← hw3]; exact (by repeat (first | exact Below.refl _ _ | refine Below.alloc ?_ (by first | omega | (simp; done) | (simp; omega)) _ | refine Below.setCell ?_ (by first | omega | (simp; done) | (simp; omega)) _ | refine Below.drew ?_))); have HF3 := Lib.hid (show w3.heap[w.heap.size]? = some (fldO X Y W H (.slice (some ⟨b, 0, none⟩) n cap)) by rw [← hw3]; ((simp only [heap_alloc_get, heap_size_alloc, if_true]) <;> ((repeat' split) <;> first | rfl | omega))); have HR3 := Lib.hid (show w3.heap[w.heap.size + 1]? = some crossO by rw [← hw3]; ((simp only [heap_alloc_get, heap_size_alloc, if_true]) <;> ((repeat' split) <;> first | rfl | omega))); clear hw3; obtain ⟨cF, fF, zF⟩ := blkC HF3.out; obtain ⟨cR, fR, zR⟩ := blkC HR3.out; have j0 := (Below.cell (p := ⟨b, i, none⟩) hB3 zb).trans k0; have j1 := (Below.cell (p := ⟨b, iN, none⟩) hB3 zb).trans k1; have j2 := (Below.cell (p := ⟨b, iW, none⟩) hB3 zb).trans k2; have j3 := (Below.cell (p := ⟨b, iE, none⟩) hB3 zb).trans k3; have j4 := (Below.cell (p := ⟨b, iS, none⟩) hB3 zb).trans k4; clear k0 k1 k2 k3 k4))
  obtain ⟨s0, s1, s2, s3, s4⟩ := store5_fl HR3.out (v i) (v iN) (v iW) (v iE) (v iS)
  clear IX hcap hcp
  have HRES := (blkC (blkDrew (set5_self (.float .f32 (v i)) (.float .f32 (v iN)) (.float .f32 (v iW)) (.float .f32 (v iE)) (.float .f32 (v iS)) HR3.out))).1
  simp only [set5] at HRES
  have HBEL := Lib.hid (set5_below hB3 (w.heap.size + 1) (.float .f32 (v i)) (.float .f32 (v iN)) (.float .f32 (v iW)) (.float .f32 (v iE)) (.float .f32 (v iS)) (by omega)).drew
  simp only [set5] at HBEL
  go_still_tail 36, (by kernel_rfl)
  change wpList _ _ _ _ _ w3.drew
  go_wp2
  refine bodyPost_ret (v := crossV (v i) (v iN) (v iW) (v iE) (v iS)) (by simp [results, Try.results120, go_sem, HRES]) rfl ?_
  exact ⟨rfl, HBEL.out⟩
end Go.Proofs.Ytmbiohopcfglcaa

/- Contracts: rise, square, normal, inner of the program. -/
namespace Go.Proofs.Ytmbiohopcfglcaa
open Go.RowKit Fl
set_option linter.unusedVariables false

theorem dwBox (w : World) (o : Obj) (k : Nat) {w' : World} (h : w' = (w.alloc o).drewN k) : Below w.heap.size w w' := by
  rw [h]
  exact ((Below.refl _ _).alloc (Nat.le_refl _) _).trans ((below_drewN _ _).mono (by simp))

set_option maxHeartbeats 1000000 in
theorem rise_any (c n ww e s : Nat) (w : World) (hn : hgtB n = true) (hw : hgtB ww = true) (he : hgtB e = true) (hs : hgtB s = true) :
    Calls Try.prog 194 #[crossV c n ww e s] w fun e' w' => e' = .returned (.tuple #[.float .f32 (riseW e ww), .float .f32 (riseW s n)]) ∧ Below w.heap.size w w' := by
  obtain ⟨d, r, A⟩ := rise_parts he hw
  obtain ⟨d', r', B⟩ := rise_parts hs hn
  rw [A.w, B.w]
  have a1 := fun (W : World) => run_float_arith (P := Try.prog) W .sub 22 .f32 e ww d A.d1
  have a2 := fun (W : World) => run_float_arith (P := Try.prog) W .mul 22 .f32 d 1056964608 r A.r1
  have a3 := fun (W : World) => run_float_arith (P := Try.prog) W .sub 22 .f32 s n d' B.d1
  have a4 := fun (W : World) => run_float_arith (P := Try.prog) W .mul 22 .f32 d' 1056964608 r' B.r1
  clear A B hn hw he hs
  go_enter Try.func194, Try.ntmps194
  go_wp2
  go_quiet (fail)
  go_wp2
  go_ret2
  exact ⟨rfl, dwBox w _ _ rfl⟩

set_option maxHeartbeats 1000000 in
theorem square_cross (c n ww e s : Nat) (w : World) (hn : hgtB n = true) (hw : hgtB ww = true) (he : hgtB e = true) (hs : hgtB s = true) {p q u v : Nat} {a cc : Int} {X Z : Nat} (N : NrmAt (riseW e ww) (riseW s n) p q u v a X Z cc) :
    Calls Try.prog 195 #[crossV c n ww e s] w fun e' w' => e' = .returned (.float .f32 u) ∧ Below w.heap.size w w' := by
  have RI := Lib.hid (fun w => rise_any c n ww e s w hn hw he hs)
  have a1 := fun (W : World) => run_float_arith (P := Try.prog) W .mul 22 .f32 _ _ p N.p1
  have a2 := fun (W : World) => run_float_arith (P := Try.prog) W .mul 22 .f32 _ _ q N.q1
  have a3 := fun (W : World) => run_float_arith (P := Try.prog) W .add 22 .f32 p q u N.s1
  clear N
  generalize riseW e ww = dx at *
  generalize riseW s n = dy at *
  clear hn hw he hs
  go_enter Try.func195, Try.ntmps195
  go_wp2_with (first | (go_at_call 194; refine (RI.out _).mono ?_; rintro e2 w2 ⟨rfl, hb2⟩; have hB2 : Below w.heap.size w w2 := Below.trans (by repeat (first | exact Below.refl _ _ | refine Below.alloc ?_ (by first | omega | (simp; done) | (simp; omega)) _ | refine Below.setCell ?_ (by first | omega | (simp; done) | (simp; omega)) _ | refine Below.drew ?_)) (Below.mono hb2 (by first | omega | (simp; done) | (simp; omega))); clear hb2))
  go_ret
  exact ⟨rfl, hB2⟩

theorem run_neg_f32 (w : World) (b : Nat) : (Op.unary .neg (.float .f32 b)).run Try.prog w = .ok (.float .f32 (negW b)) w := rfl

set_option maxHeartbeats 1000000 in
theorem normal_any (c n ww e s : Nat) (w : World) (hn : hgtB n = true) (hw : hgtB ww = true) (he : hgtB e = true) (hs : hgtB s = true) {p q u v : Nat} {a cc : Int} {X Z : Nat} (N : NrmAt (riseW e ww) (riseW s n) p q u v a X Z cc) {nx ny nz : Nat}
    (e1 : floatBits .quo .f32 (negW (riseW e ww)) (rootW v) = some nx) (e2 : floatBits .quo .f32 (negW (riseW s n)) (rootW v) = some ny) (e3 : floatBits .quo .f32 1065353216 (rootW v) = some nz) :
    Calls Try.prog 121 #[crossV c n ww e s] w fun e' w' => e' = .returned (.tuple #[.float .f32 nx, .float .f32 ny, .float .f32 nz]) ∧ Below w.heap.size w w' := by
  have RI := Lib.hid (fun w => rise_any c n ww e s w hn hw he hs)
  have SQ := Lib.hid (fun w => square_cross c n ww e s w hn hw he hs N)
  have RT := Lib.hid (fun w => root_any N.rt w)
  have a1 := fun (W : World) => run_float_arith (P := Try.prog) W .add 22 .f32 u 1065353216 v N.u1
  have a2 := fun (W : World) => run_float_arith (P := Try.prog) W .quo 22 .f32 _ _ nx e1
  have a3 := fun (W : World) => run_float_arith (P := Try.prog) W .quo 22 .f32 _ _ ny e2
  have a4 := fun (W : World) => run_float_arith (P := Try.prog) W .quo 22 .f32 _ _ nz e3
  have ng := run_neg_f32
  clear N e1 e2 e3
  generalize riseW e ww = dx at *
  generalize riseW s n = dy at *
  generalize rootW v = m at *
  clear hn hw he hs
  go_enter Try.func121, Try.ntmps121
  go_wp2_with (first | (go_at_call 194; refine (RI.out _).mono ?_; rintro e2 w2 ⟨rfl, hb2⟩; have HC2 := Lib.hid (blkStay (b := w.heap.size) (o := .cells #[.float .f32 c, .float .f32 n, .float .f32 ww, .float .f32 e, .float .f32 s] 141) (by ((simp only [heap_alloc_get, if_true]) <;> ((repeat' split) <;> first | rfl | omega))) hb2); have hB2 : Below w.heap.size w w2 := Below.trans (by repeat (first | exact Below.refl _ _ | refine Below.alloc ?_ (by first | omega | (simp; done) | (simp; omega)) _ | refine Below.setCell ?_ (by first | omega | (simp; done) | (simp; omega)) _ | refine Below.drew ?_)) (Below.mono hb2 (by first | omega | (simp; done) | (simp; omega))); obtain ⟨cC, fC, zC⟩ := blkC HC2.out; clear hb2) | (go_at_call 195; refine (SQ.out _).mono ?_; rintro e3 w3 ⟨rfl, hb3⟩; have hB3 := hB2.trans (hb3.mono hB2.size); clear hb3) | (go_at_call 181; refine (RT.out _).mono ?_; rintro e' w' ⟨rfl, rfl⟩))
  refine bodyPost_ret (v := .tuple #[.float .f32 nx, .float .f32 ny, .float .f32 nz]) (by simp [results, Try.results121, go_sem]) rfl ?_
  exact ⟨rfl, hB3⟩

/-- A region's four cells stored into block b. -/
abbrev set4 (wr : World) (b : Nat) (u1 u2 u3 u4 : Value) : World := (((wr.setCell ⟨b, 0, none⟩ u1).setCell ⟨b, 1, none⟩ u2).setCell ⟨b, 2, none⟩ u3).setCell ⟨b, 3, none⟩ u4
theorem set4_size (wr : World) (b : Nat) (u1 u2 u3 u4 : Value) : (set4 wr b u1 u2 u3 u4).heap.size = wr.heap.size := by simp [set4]
theorem set4_self {wr : World} {b : Nat} {a1 a2 a3 a4 : Value} {t : TypeId} (u1 u2 u3 u4 : Value) (h : wr.heap[b]? = some (.cells #[a1, a2, a3, a4] t (0, 0))) :
    (set4 wr b u1 u2 u3 u4).heap[b]? = some (.cells #[u1, u2, u3, u4] t (0, 0)) := by
  have h1 := heap_setCell_same wr b 0 _ _ u1 h
  have h2 := heap_setCell_same _ b 1 _ _ u2 h1
  have h3 := heap_setCell_same _ b 2 _ _ u3 h2
  exact heap_setCell_same _ b 3 _ _ u4 h3

/-- The region without its rim, and the error where nothing is left. -/
def innB (W H : Int) : Bool := decide (3 ≤ W ∧ 3 ≤ H)

set_option maxHeartbeats 1000000 in
theorem inner_any (X Y : Int) (W H n b cap : Nat) (v : Nat → Nat) (w : World) (h0 : checkR X Y W H = 0) (hn : n = W * H) (hc : FlAt w b 0 n v) (hh : allB n (fun i => hgtB (v i)) = true) :
    Calls Try.prog 115 #[fldV X Y W H (.slice (some ⟨b, 0, none⟩) n cap)] w fun e w' => e = .returned (.tuple #[if innB W H then reg (X + 1) (Y + 1) (W - 2) (H - 2) else reg 0 0 0 0, .int .i64 (if innB W H then 0 else 10)]) ∧ Below w.heap.size w w' := by
  obtain ⟨b1, b2, b3, b4, b5, b6, b7, b8, b9⟩ := checkR_zero h0
  have h1 : 1 ≤ n := by rw [hn]; exact Nat.mul_pos (by omega) (by omega)
  have hlt : b < w.heap.size := World.block_lt_of_cell? w _ (hc 0 h1)
  have CK := Lib.hid (fun W' (hb : Below w.heap.size w W') => check_ok X Y W H n b cap v W' h0 hn (flAt_congr hc (hb.block _ hlt)) hh)
  have SH := Lib.hid (fun w => shrink_any X Y W H w (by omega) (by omega) (by omega) (by omega) (by omega) (by omega) (by omega) (by omega))
  unfold innB
  cases c : decide (3 ≤ (W : Int) ∧ 3 ≤ (H : Int)) with
  | true =>
    rw [c] at SH
    clear h0 hn hc hh c b1 b2 b3 b4 b5 b6 b7 b8 b9 h1 hlt
    go_enter Try.func115, Try.ntmps115
    go_wp2_with (first | (go_at_call 90; refine (CK.out _ (by repeat (first | exact Below.refl _ _ | refine Below.alloc ?_ (by first | omega | (simp; done) | (simp; omega)) _ | refine Below.setCell ?_ (by first | omega | (simp; done) | (simp; omega)) _ | refine Below.drew ?_))).mono ?_; rintro e w2 ⟨rfl, hb2⟩; have HF2 := Lib.hid (blkStay (b := w.heap.size) (o := fldO X Y W H (.slice (some ⟨b, 0, none⟩) n cap)) (by ((simp only [heap_alloc_get, heap_size_alloc, if_true]) <;> ((repeat' split) <;> first | rfl | omega))) hb2); have HS2 := Lib.hid (blkStay (b := w.heap.size + 1) (o := regObj 0 0 0 0) (by ((simp only [heap_alloc_get, heap_size_alloc, if_true]) <;> ((repeat' split) <;> first | rfl | omega))) hb2); have hB2 : Below w.heap.size w w2 := Below.trans (by repeat (first | exact Below.refl _ _ | refine Below.alloc ?_ (by first | omega | (simp; done) | (simp; omega)) _ | refine Below.setCell ?_ (by first | omega | (simp; done) | (simp; omega)) _ | refine Below.drew ?_)) (Below.mono hb2 (by first | omega | (simp; done) | (simp; omega))); obtain ⟨cF, fF, zF⟩ := blkC HF2.out; clear hb2) | (go_at_call 192; refine (SH.out _).mono ?_; rintro e w3 ⟨rfl, hb3⟩; have HS3 := Lib.hid (blkStay HS2.out hb3); have hB3 := hB2.trans (hb3.mono hB2.size); clear hb3 cF fF zF HF2; obtain ⟨cS, fS, zS⟩ := blkC HS3.out))
    have HRES := fun (u1 u2 u3 u4 : Value) (o : Obj) => (blkC ((heap_alloc_old (set4 w3 (w.heap.size + 1) u1 u2 u3 u4) o (by rw [set4_size]; exact zS)).trans (set4_self u1 u2 u3 u4 HS3.out))).1
    simp only [set4] at HRES
    refine bodyPost_ret (v := .tuple #[reg (X + 1) (Y + 1) (W - 2) (H - 2), .int .i64 0]) (by simp [results, Try.results115, go_sem, HRES]) rfl ?_
    exact ⟨rfl, by repeat (first | exact hB3 | refine Below.alloc ?_ (by first | omega | (simp; done) | (simp; omega)) _ | refine Below.setCell ?_ (by first | omega | (simp; done) | (simp; omega)) _)⟩
  | false =>
    rw [c] at SH
    clear h0 hn hc hh c b1 b2 b3 b4 b5 b6 b7 b8 b9 h1 hlt
    go_enter Try.func115, Try.ntmps115
    go_wp2_with (first | (go_at_call 90; refine (CK.out _ (by repeat (first | exact Below.refl _ _ | refine Below.alloc ?_ (by first | omega | (simp; done) | (simp; omega)) _ | refine Below.setCell ?_ (by first | omega | (simp; done) | (simp; omega)) _ | refine Below.drew ?_))).mono ?_; rintro e w2 ⟨rfl, hb2⟩; have HF2 := Lib.hid (blkStay (b := w.heap.size) (o := fldO X Y W H (.slice (some ⟨b, 0, none⟩) n cap)) (by ((simp only [heap_alloc_get, heap_size_alloc, if_true]) <;> ((repeat' split) <;> first | rfl | omega))) hb2); have HS2 := Lib.hid (blkStay (b := w.heap.size + 1) (o := regObj 0 0 0 0) (by ((simp only [heap_alloc_get, heap_size_alloc, if_true]) <;> ((repeat' split) <;> first | rfl | omega))) hb2); have hB2 : Below w.heap.size w w2 := Below.trans (by repeat (first | exact Below.refl _ _ | refine Below.alloc ?_ (by first | omega | (simp; done) | (simp; omega)) _ | refine Below.setCell ?_ (by first | omega | (simp; done) | (simp; omega)) _ | refine Below.drew ?_)) (Below.mono hb2 (by first | omega | (simp; done) | (simp; omega))); obtain ⟨cF, fF, zF⟩ := blkC HF2.out; clear hb2) | (go_at_call 192; refine (SH.out _).mono ?_; rintro e w3 ⟨rfl, hb3⟩; have HS3 := Lib.hid (blkStay HS2.out hb3); have hB3 := hB2.trans (hb3.mono hB2.size); clear hb3 cF fF zF HF2; obtain ⟨cS, fS, zS⟩ := blkC HS3.out))
    have HRES := fun (u1 u2 u3 u4 : Value) (o : Obj) => (blkC ((heap_alloc_old (set4 w3 (w.heap.size + 1) u1 u2 u3 u4) o (by rw [set4_size]; exact zS)).trans (set4_self u1 u2 u3 u4 HS3.out))).1
    simp only [set4] at HRES
    refine bodyPost_ret (v := .tuple #[reg 0 0 0 0, .int .i64 10]) (by simp [results, Try.results115, go_sem, HRES]) rfl ?_
    exact ⟨rfl, by repeat (first | exact hB3 | refine Below.alloc ?_ (by first | omega | (simp; done) | (simp; omega)) _ | refine Below.setCell ?_ (by first | omega | (simp; done) | (simp; omega)) _)⟩
end Go.Proofs.Ytmbiohopcfglcaa

/- Contracts: inner, around, inclines, normal, greater of the reference. -/
namespace Go.Proofs.Ytmbiohopcfglcaa
open Go.RowKit Fl
set_option linter.unusedVariables false

set_option maxHeartbeats 1000000 in
theorem rinner_any (X Y : Int) (W H n b cap : Nat) (w : World) (h0 : checkR X Y W H = 0) :
    Calls Try.prog 122 #[fldV X Y W H (.slice (some ⟨b, 0, none⟩) n cap), .int .i64 1] w fun e w' => e = .returned (.tuple #[if innB W H then reg (X + 1) (Y + 1) (W - 2) (H - 2) else reg 0 0 0 0, .int .i64 (if innB W H then 0 else 10)]) ∧ Below w.heap.size w w' := by
  obtain ⟨b1, b2, b3, b4, b5, b6, b7, b8, b9⟩ := checkR_zero h0
  have GR := Lib.hid (fun w => show Calls Try.prog 196 #[reg X Y W H, .int .i64 (-1)] w fun e w' => e = .returned (reg (X + 1) (Y + 1) (W - 2) (H - 2)) ∧ Below w.heap.size w w' by
    have := refGrown_any X Y W H (-1) w (by omega) (by omega) (by omega) (by omega) (by omega) (by omega) (by omega) (by omega) (by omega) (by omega)
    simpa [Int.sub_eq_add_neg] using this)
  unfold innB
  by_cases c1 : (W : Int) < 3
  · have e : decide (3 ≤ (W : Int) ∧ 3 ≤ (H : Int)) = false := by simp; omega
    rw [e]
    clear e
    go_enter Try.func122, Try.ntmps122
    go_wp2_with (first | (go_at_call 196; refine (GR.out _).mono ?_; rintro e w3 ⟨rfl, hb3⟩; have HS3 := Lib.hid (blkStay (b := w.heap.size + 1) (o := regObj 0 0 0 0) (by ((simp only [heap_alloc_get, heap_size_alloc, if_true]) <;> ((repeat' split) <;> first | rfl | omega))) hb3); have hB3 : Below w.heap.size w w3 := Below.trans (by repeat (first | exact Below.refl _ _ | refine Below.alloc ?_ (by first | omega | (simp; done) | (simp; omega)) _ | refine Below.setCell ?_ (by first | omega | (simp; done) | (simp; omega)) _ | refine Below.drew ?_)) (Below.mono hb3 (by first | omega | (simp; done) | (simp; omega))); clear hb3; obtain ⟨cS, fS, zS⟩ := blkC HS3.out))
    all_goals
      have HRES := fun (u1 u2 u3 u4 : Value) (o : Obj) => (blkC ((heap_alloc_old (set4 w3 (w.heap.size + 1) u1 u2 u3 u4) o (by rw [set4_size]; exact zS)).trans (set4_self u1 u2 u3 u4 HS3.out))).1
      simp only [set4] at HRES
      refine bodyPost_ret (v := .tuple #[reg 0 0 0 0, .int .i64 10]) (by simp [results, Try.results122, go_sem, HRES]) rfl ?_
      exact ⟨rfl, by repeat (first | exact hB3 | refine Below.alloc ?_ (by first | omega | (simp; done) | (simp; omega)) _ | refine Below.setCell ?_ (by first | omega | (simp; done) | (simp; omega)) _)⟩
  · by_cases c2 : (H : Int) < 3
    · have e : decide (3 ≤ (W : Int) ∧ 3 ≤ (H : Int)) = false := by simp; omega
      rw [e]
      clear e
      go_enter Try.func122, Try.ntmps122
      go_wp2_with (first | (go_at_call 196; refine (GR.out _).mono ?_; rintro e w3 ⟨rfl, hb3⟩; have HS3 := Lib.hid (blkStay (b := w.heap.size + 1) (o := regObj 0 0 0 0) (by ((simp only [heap_alloc_get, heap_size_alloc, if_true]) <;> ((repeat' split) <;> first | rfl | omega))) hb3); have hB3 : Below w.heap.size w w3 := Below.trans (by repeat (first | exact Below.refl _ _ | refine Below.alloc ?_ (by first | omega | (simp; done) | (simp; omega)) _ | refine Below.setCell ?_ (by first | omega | (simp; done) | (simp; omega)) _ | refine Below.drew ?_)) (Below.mono hb3 (by first | omega | (simp; done) | (simp; omega))); clear hb3; obtain ⟨cS, fS, zS⟩ := blkC HS3.out))
      all_goals
        have HRES := fun (u1 u2 u3 u4 : Value) (o : Obj) => (blkC ((heap_alloc_old (set4 w3 (w.heap.size + 1) u1 u2 u3 u4) o (by rw [set4_size]; exact zS)).trans (set4_self u1 u2 u3 u4 HS3.out))).1
        simp only [set4] at HRES
        refine bodyPost_ret (v := .tuple #[reg 0 0 0 0, .int .i64 10]) (by simp [results, Try.results122, go_sem, HRES]) rfl ?_
        exact ⟨rfl, by repeat (first | exact hB3 | refine Below.alloc ?_ (by first | omega | (simp; done) | (simp; omega)) _ | refine Below.setCell ?_ (by first | omega | (simp; done) | (simp; omega)) _)⟩
    · have e : decide (3 ≤ (W : Int) ∧ 3 ≤ (H : Int)) = true := by simp; omega
      rw [e]
      clear e
      go_enter Try.func122, Try.ntmps122
      go_wp2_with (first | (go_at_call 196; refine (GR.out _).mono ?_; rintro e w3 ⟨rfl, hb3⟩; have HS3 := Lib.hid (blkStay (b := w.heap.size + 1) (o := regObj 0 0 0 0) (by ((simp only [heap_alloc_get, heap_size_alloc, if_true]) <;> ((repeat' split) <;> first | rfl | omega))) hb3); have hB3 : Below w.heap.size w w3 := Below.trans (by repeat (first | exact Below.refl _ _ | refine Below.alloc ?_ (by first | omega | (simp; done) | (simp; omega)) _ | refine Below.setCell ?_ (by first | omega | (simp; done) | (simp; omega)) _ | refine Below.drew ?_)) (Below.mono hb3 (by first | omega | (simp; done) | (simp; omega))); clear hb3; obtain ⟨cS, fS, zS⟩ := blkC HS3.out))
      all_goals
        have HRES := fun (u1 u2 u3 u4 : Value) (o : Obj) => (blkC ((heap_alloc_old (set4 w3 (w.heap.size + 1) u1 u2 u3 u4) o (by rw [set4_size]; exact zS)).trans (set4_self u1 u2 u3 u4 HS3.out))).1
        simp only [set4] at HRES
        refine bodyPost_ret (v := .tuple #[reg (X + 1) (Y + 1) (W - 2) (H - 2), .int .i64 0]) (by simp [results, Try.results122, go_sem, HRES]) rfl ?_
        exact ⟨rfl, by repeat (first | exact hB3 | refine Below.alloc ?_ (by first | omega | (simp; done) | (simp; omega)) _ | refine Below.setCell ?_ (by first | omega | (simp; done) | (simp; omega)) _)⟩

set_option maxHeartbeats 4000000 in
set_option maxRecDepth 100000 in
theorem around_any (X Y : Int) (W H n b cap i : Nat) (v : Nat → Nat) (x y : Int) (w : World) (h0 : checkR X Y W H = 0) (hn : n = H * W) (hc : FlAt w b 0 n v)
    (h1 : X + 1 ≤ x) (h2 : x + 1 < X + W) (h3 : Y + 1 ≤ y) (h4 : y + 1 < Y + H) (hi : (i : Int) = (y - Y) * W + (x - X)) :
    Calls Try.prog 145 #[fldV X Y W H (.slice (some ⟨b, 0, none⟩) n cap), .int .i64 x, .int .i64 y] w fun e w' => e = .returned (.tuple #[.float .f32 (v i), .float .f32 (v (i - W)), .float .f32 (v (i + W)), .float .f32 (v (i + 1)), .float .f32 (v (i - 1))]) ∧ Below w.heap.size w w' := by
  obtain ⟨b1, b2, b3, b4, b5, b6, b7, b8, b9⟩ := checkR_zero h0
  have hn2 : n ≤ 65536 := by
    have : ((W : Int) * (H : Int)) = (n : Int) := by rw [hn, Nat.mul_comm]; simp
    omega
  have q0 : (W : Int) ≤ (y - Y) * W := by
    have := Int.mul_le_mul_of_nonneg_right (show (1 : Int) ≤ y - Y by omega) (show (0 : Int) ≤ W by omega); omega
  have q1 : (y - Y) * W ≤ (n : Int) - 2 * W := by
    have a : (y - Y) * W ≤ ((H : Int) - 2) * W := Int.mul_le_mul_of_nonneg_right (by omega) (by omega)
    have b : ((H : Int) - 2) * W = (n : Int) - 2 * W := by rw [hn, Int.sub_mul]; simp
    omega
  have zb : b < w.heap.size := World.block_lt_of_cell? w _ (hc i (by omega))
  have A0 := Lib.hid (fun W' (hb : Below w.heap.size w W') => refAt_any X Y W H n b cap i v x y W' (by omega) (by omega) (by omega) (by omega) (by omega) (by omega) (by omega) (by omega) (by omega) (by omega) (by omega) hi (by omega) hn2 (flAt_congr hc (hb.block _ zb)))
  have A1 := Lib.hid (fun W' (hb : Below w.heap.size w W') => refAt_any X Y W H n b cap (i - W) v x (y - 1) W' (by omega) (by omega) (by omega) (by omega) (by omega) (by omega) (by omega) (by omega) (by omega) (by omega) (by omega) (by rw [show y - 1 - Y = (y - Y) - 1 by omega, Int.sub_mul]; omega) (by omega) hn2 (flAt_congr hc (hb.block _ zb)))
  have A2 := Lib.hid (fun W' (hb : Below w.heap.size w W') => refAt_any X Y W H n b cap (i + W) v x (y + 1) W' (by omega) (by omega) (by omega) (by omega) (by omega) (by omega) (by omega) (by omega) (by omega) (by omega) (by omega) (by rw [show y + 1 - Y = (y - Y) + 1 by omega, Int.add_mul]; omega) (by omega) hn2 (flAt_congr hc (hb.block _ zb)))
  have A3 := Lib.hid (fun W' (hb : Below w.heap.size w W') => refAt_any X Y W H n b cap (i + 1) v (x + 1) y W' (by omega) (by omega) (by omega) (by omega) (by omega) (by omega) (by omega) (by omega) (by omega) (by omega) (by omega) (by omega) (by omega) hn2 (flAt_congr hc (hb.block _ zb)))
  have A4 := Lib.hid (fun W' (hb : Below w.heap.size w W') => refAt_any X Y W H n b cap (i - 1) v (x - 1) y W' (by omega) (by omega) (by omega) (by omega) (by omega) (by omega) (by omega) (by omega) (by omega) (by omega) (by omega) (by omega) (by omega) hn2 (flAt_congr hc (hb.block _ zb)))
  have u1 : IntKind.i64.wrap (y - 1) = y - 1 := IntWalk.i64_in _ (by omega)
  have u2 : IntKind.i64.wrap (y + 1) = y + 1 := IntWalk.i64_in _ (by omega)
  have u3 : IntKind.i64.wrap (x + 1) = x + 1 := IntWalk.i64_in _ (by omega)
  have u4 : IntKind.i64.wrap (x - 1) = x - 1 := IntWalk.i64_in _ (by omega)
  have GF := Lib.hid (show (w.alloc (fldO X Y W H (.slice (some ⟨b, 0, none⟩) n cap))).heap[w.heap.size]? = some (fldO X Y W H (.slice (some ⟨b, 0, none⟩) n cap)) from heap_alloc_new _ _)
  have zF : w.heap.size < (w.alloc (fldO X Y W H (.slice (some ⟨b, 0, none⟩) n cap))).heap.size := by simp
  clear hc h0 hi q0 q1 b1 b2 b3 b4 b5 b6 b7 b8 b9 h1 h2 h3 h4 hn hn2
  generalize v i = v0 at *
  generalize v (i - W) = v1 at *
  generalize v (i + W) = v2 at *
  generalize v (i + 1) = v3 at *
  generalize v (i - 1) = v4 at *
  go_enter Try.func145, Try.ntmps145
  go_wp2
  go_region_held3 (fun w' => (∀ o, w'.cell? ⟨w.heap.size, o, none⟩ = #[.int .i64 X, .int .i64 Y, .int .i64 W, .int .i64 H, .slice (some ⟨b, 0, none⟩) n cap][o]?) ∧ Below (w.alloc (fldO X Y W H (.slice (some ⟨b, 0, none⟩) n cap))).heap.size (w.alloc (fldO X Y W H (.slice (some ⟨b, 0, none⟩) n cap))) w') (first | exact ⟨(blkC (blkStay GF.out (by repeat (first | exact Below.refl _ _ | refine Below.alloc ?_ (by first | omega | (simp; done) | (simp; omega)) _ | refine Below.setCell ?_ (by first | omega | (simp; done) | (simp; omega)) _ | refine Below.drew ?_)))).1, (by repeat (first | exact Below.refl _ _ | refine Below.alloc ?_ (by first | omega | (simp; done) | (simp; omega)) _ | refine Below.setCell ?_ (by first | omega | (simp; done) | (simp; omega)) _ | refine Below.drew ?_))⟩) (first
    | (go_at_call 96; (with_reducible refine Calls.mono (A0.out _ ?_) ?_); exact (by repeat (first | exact Below.refl _ _ | refine Below.alloc ?_ (by first | omega | (simp; done) | (simp; omega)) _ | refine Below.setCell ?_ (by first | omega | (simp; done) | (simp; omega)) _ | refine Below.drew ?_)); rintro e w' ⟨rfl, rfl⟩)
    | (go_at_call 96; (with_reducible refine Calls.mono (A1.out _ ?_) ?_); exact (by repeat (first | exact Below.refl _ _ | refine Below.alloc ?_ (by first | omega | (simp; done) | (simp; omega)) _ | refine Below.setCell ?_ (by first | omega | (simp; done) | (simp; omega)) _ | refine Below.drew ?_)); rintro e w' ⟨rfl, rfl⟩)
    | (go_at_call 96; (with_reducible refine Calls.mono (A2.out _ ?_) ?_); exact (by repeat (first | exact Below.refl _ _ | refine Below.alloc ?_ (by first | omega | (simp; done) | (simp; omega)) _ | refine Below.setCell ?_ (by first | omega | (simp; done) | (simp; omega)) _ | refine Below.drew ?_)); rintro e w' ⟨rfl, rfl⟩)
    | (go_at_call 96; (with_reducible refine Calls.mono (A3.out _ ?_) ?_); exact (by repeat (first | exact Below.refl _ _ | refine Below.alloc ?_ (by first | omega | (simp; done) | (simp; omega)) _ | refine Below.setCell ?_ (by first | omega | (simp; done) | (simp; omega)) _ | refine Below.drew ?_)); rintro e w' ⟨rfl, rfl⟩)
    | (go_at_call 96; (with_reducible refine Calls.mono (A4.out _ ?_) ?_); exact (by repeat (first | exact Below.refl _ _ | refine Below.alloc ?_ (by first | omega | (simp; done) | (simp; omega)) _ | refine Below.setCell ?_ (by first | omega | (simp; done) | (simp; omega)) _ | refine Below.drew ?_)); rintro e w' ⟨rfl, rfl⟩))
  rename_i wh hHeld
  go_wp2
  refine bodyPost_ret (v := .tuple #[.float .f32 v0, .float .f32 v1, .float .f32 v2, .float .f32 v3, .float .f32 v4]) (by simp [results, Try.results145, go_sem]) rfl ?_
  exact ⟨rfl, Below.trans ((Below.refl _ _).alloc (Nat.le_refl _) _) (hHeld.2.mono (by simp))⟩
end Go.Proofs.Ytmbiohopcfglcaa

/- Contracts: inclines, normal, greater of the reference; the closures of Shade on both sides. -/
namespace Go.Proofs.Ytmbiohopcfglcaa
open Go.RowKit Fl
set_option linter.unusedVariables false

theorem enters_Shade1 : Enters 119 := by intro args W; simp [callFunc, Try.func119, Try.f119]
theorem enters_rShade1 : Enters 124 := by intro args W; simp [callFunc, Try.func124, Try.f124]

/-- A cell that has all four neighbours: its place and its number. -/
structure InCell (X Y : Int) (W H n i : Nat) (x y : Int) : Prop where
  h1 : X + 1 ≤ x
  h2 : x + 1 < X + W
  h3 : Y + 1 ≤ y
  h4 : y + 1 < Y + H
  hi : (i : Int) = (y - Y) * W + (x - X)
  a0 : i < n
  a1 : i - W < n
  a2 : i + W < n
  a3 : i + 1 < n
  a4 : i - 1 < n

theorem in_cell {X Y : Int} {W H n i : Nat} {x y : Int} (hn : n = H * W) (h1 : X + 1 ≤ x) (h2 : x + 1 < X + W) (h3 : Y + 1 ≤ y) (h4 : y + 1 < Y + H) (hi : (i : Int) = (y - Y) * W + (x - X)) : InCell X Y W H n i x y := by
  have q0 : (W : Int) ≤ (y - Y) * W := by
    have := Int.mul_le_mul_of_nonneg_right (show (1 : Int) ≤ y - Y by omega) (show (0 : Int) ≤ W by omega); omega
  have q1 : (y - Y) * W ≤ (n : Int) - 2 * W := by
    have a : (y - Y) * W ≤ ((H : Int) - 2) * W := Int.mul_le_mul_of_nonneg_right (by omega) (by omega)
    have b : ((H : Int) - 2) * W = (n : Int) - 2 * W := by rw [hn, Int.sub_mul]; simp
    omega
  exact ⟨h1, h2, h3, h4, hi, by omega, by omega, by omega, by omega, by omega⟩

set_option maxHeartbeats 1000000 in
theorem inclines_any (X Y : Int) (W H n b cap i : Nat) (v : Nat → Nat) (x y : Int) (w : World) (h0 : checkR X Y W H = 0) (hn : n = H * W) (hc : FlAt w b 0 n v) (hh : allB n (fun i => hgtB (v i)) = true) (I : InCell X Y W H n i x y) :
    Calls Try.prog 142 #[fldV X Y W H (.slice (some ⟨b, 0, none⟩) n cap), .int .i64 x, .int .i64 y] w fun e w' => e = .returned (.tuple #[.float .f32 (riseW (v (i + 1)) (v (i - 1))), .float .f32 (riseW (v (i + W)) (v (i - W)))]) ∧ Below w.heap.size w w' := by
  have zb : b < w.heap.size := World.block_lt_of_cell? w _ (hc i I.a0)
  have AR := Lib.hid (fun W' (hb : Below w.heap.size w W') => around_any X Y W H n b cap i v x y W' h0 hn (flAt_congr hc (hb.block _ zb)) I.h1 I.h2 I.h3 I.h4 I.hi)
  obtain ⟨d, r, A⟩ := rise_parts (allB_iff.1 hh _ I.a3) (allB_iff.1 hh _ I.a4)
  obtain ⟨d', r', B⟩ := rise_parts (allB_iff.1 hh _ I.a2) (allB_iff.1 hh _ I.a1)
  rw [A.w, B.w]
  have S1 := Lib.hid (fun w => refSub_any 21 _ _ d A.d2 A.d1 w)
  have M1 := Lib.hid (fun w => refMul_any 21 d _ r A.r2 A.r1 w)
  have S2 := Lib.hid (fun w => refSub_any 21 _ _ d' B.d2 B.d1 w)
  have M2 := Lib.hid (fun w => refMul_any 21 d' _ r' B.r2 B.r1 w)
  clear A B I hc hh h0 hn zb
  generalize v i = v0 at *
  generalize v (i - W) = v1 at *
  generalize v (i + W) = v2 at *
  generalize v (i + 1) = v3 at *
  generalize v (i - 1) = v4 at *
  go_enter Try.func142, Try.ntmps142
  go_wp2_with (first | (go_at_call 145; refine (AR.out _ (by repeat (first | exact Below.refl _ _ | refine Below.alloc ?_ (by first | omega | (simp; done) | (simp; omega)) _ | refine Below.setCell ?_ (by first | omega | (simp; done) | (simp; omega)) _ | refine Below.drew ?_))).mono ?_; rintro e w2 ⟨rfl, hb2⟩; have hB2 : Below w.heap.size w w2 := Below.trans (by repeat (first | exact Below.refl _ _ | refine Below.alloc ?_ (by first | omega | (simp; done) | (simp; omega)) _ | refine Below.setCell ?_ (by first | omega | (simp; done) | (simp; omega)) _ | refine Below.drew ?_)) (Below.mono hb2 (by first | omega | (simp; done) | (simp; omega))); clear hb2) | (go_at_call 101; (with_reducible refine (S1.out _).mono ?_); rintro e w' ⟨rfl, rfl⟩) | (go_at_call 101; (with_reducible refine (S2.out _).mono ?_); rintro e w' ⟨rfl, rfl⟩) | (go_at_call 97; (with_reducible refine (M1.out _).mono ?_); rintro e w' ⟨rfl, rfl⟩) | (go_at_call 97; (with_reducible refine (M2.out _).mono ?_); rintro e w' ⟨rfl, rfl⟩))
  go_ret2
  exact ⟨rfl, hB2⟩

set_option maxHeartbeats 1000000 in
theorem rnormal_any (X Y : Int) (W H n b cap i : Nat) (v : Nat → Nat) (x y : Int) (w : World) (h0 : checkR X Y W H = 0) (hn : n = H * W) (hc : FlAt w b 0 n v) (hh : allB n (fun i => hgtB (v i)) = true) (I : InCell X Y W H n i x y)
    {p q u m : Nat} {a cc : Int} {X' Z : Nat} (N : NrmAt (riseW (v (i + 1)) (v (i - 1))) (riseW (v (i + W)) (v (i - W))) p q u m a X' Z cc) {nx ny nz : Nat}
    (e1 : floatBits .quo .f32 (negW (riseW (v (i + 1)) (v (i - 1)))) (rootW m) = some nx) (t1 : Same2 .quo 21 (negW (riseW (v (i + 1)) (v (i - 1)))) (rootW m))
    (e2 : floatBits .quo .f32 (negW (riseW (v (i + W)) (v (i - W)))) (rootW m) = some ny) (t2 : Same2 .quo 21 (negW (riseW (v (i + W)) (v (i - W)))) (rootW m))
    (e3 : floatBits .quo .f32 1065353216 (rootW m) = some nz) (t3 : Same2 .quo 0 1065353216 (rootW m)) :
    Calls Try.prog 125 #[fldV X Y W H (.slice (some ⟨b, 0, none⟩) n cap), .int .i64 x, .int .i64 y] w fun e w' => e = .returned (.tuple #[.float .f32 nx, .float .f32 ny, .float .f32 nz]) ∧ Below w.heap.size w w' := by
  have zb : b < w.heap.size := World.block_lt_of_cell? w _ (hc i I.a0)
  have IC := Lib.hid (fun W' (hb : Below w.heap.size w W') => inclines_any X Y W H n b cap i v x y W' h0 hn (flAt_congr hc (hb.block _ zb)) hh I)
  have M1 := Lib.hid (fun w => refMul_any 42 _ _ p N.p2 N.p1 w)
  have M2 := Lib.hid (fun w => refMul_any 42 _ _ q N.q2 N.q1 w)
  have A1 := Lib.hid (fun w => refAdd_any 43 p q u N.s2 N.s1 w)
  have A2 := Lib.hid (fun w => refAdd_any 44 u _ m N.u2 N.u1 w)
  have RT := Lib.hid (fun w => refRoot_any N.rt w)
  have D1 := Lib.hid (fun w => refDiv_any 21 _ _ nx t1 e1 w)
  have D2 := Lib.hid (fun w => refDiv_any 21 _ _ ny t2 e2 w)
  have D3 := Lib.hid (fun w => refDiv_any 0 _ _ nz t3 e3 w)
  have ng := run_neg_f32
  clear N e1 e2 e3 t1 t2 t3 I hc hh h0 hn zb
  generalize riseW (v (i + 1)) (v (i - 1)) = dx at *
  generalize riseW (v (i + W)) (v (i - W)) = dy at *
  generalize rootW m = mm at *
  go_enter Try.func125, Try.ntmps125
  go_wp2_with (first | (go_at_call 142; refine (IC.out _ (by repeat (first | exact Below.refl _ _ | refine Below.alloc ?_ (by first | omega | (simp; done) | (simp; omega)) _ | refine Below.setCell ?_ (by first | omega | (simp; done) | (simp; omega)) _ | refine Below.drew ?_))).mono ?_; rintro e w2 ⟨rfl, hb2⟩; have hB2 : Below w.heap.size w w2 := Below.trans (by repeat (first | exact Below.refl _ _ | refine Below.alloc ?_ (by first | omega | (simp; done) | (simp; omega)) _ | refine Below.setCell ?_ (by first | omega | (simp; done) | (simp; omega)) _ | refine Below.drew ?_)) (Below.mono hb2 (by first | omega | (simp; done) | (simp; omega))); clear hb2) | (go_at_call 97; (with_reducible refine (M1.out _).mono ?_); rintro e w' ⟨rfl, rfl⟩) | (go_at_call 97; (with_reducible refine (M2.out _).mono ?_); rintro e w' ⟨rfl, rfl⟩) | (go_at_call 95; (with_reducible refine (A1.out _).mono ?_); rintro e w' ⟨rfl, rfl⟩) | (go_at_call 95; (with_reducible refine (A2.out _).mono ?_); rintro e w' ⟨rfl, rfl⟩) | (go_at_call 103; refine (RT.out _).mono ?_; rintro e w' ⟨rfl, rfl⟩) | (go_at_call 102; (with_reducible refine (D1.out _).mono ?_); rintro e w' ⟨rfl, rfl⟩) | (go_at_call 102; (with_reducible refine (D2.out _).mono ?_); rintro e w' ⟨rfl, rfl⟩) | (go_at_call 102; (with_reducible refine (D3.out _).mono ?_); rintro e w' ⟨rfl, rfl⟩))
  refine bodyPost_ret (v := .tuple #[.float .f32 nx, .float .f32 ny, .float .f32 nz]) (by simp [results, Try.results125, go_sem]) rfl ?_
  exact ⟨rfl, hB2⟩

set_option maxHeartbeats 400000 in
theorem rgreater_zero (x : Nat) {a : Int} (hv : vS x = some a) (w : World) :
    Calls Try.prog 126 #[.float .f32 0, .float .f32 x] w fun e w' => e = .returned (.float .f32 (shdW x)) ∧ w = w' := by
  unfold shdW
  cases c : (FloatKind.f32.format.order 0 x == some .lt) with
  | true =>
    have g : (FloatKind.f32.format.order x 0 == some .gt) = true := by
      rw [f32f, lss_val vS_zero hv] at c; rw [f32f, gtr_val hv vS_zero]; simpa using c
    rw [if_pos rfl]
    go_enter Try.func126, Try.ntmps126
    go_wp2
    go_ret
    exact ⟨rfl, rfl⟩
  | false =>
    have g : (FloatKind.f32.format.order x 0 == some .gt) = false := by
      rw [f32f, lss_val vS_zero hv] at c; rw [f32f, gtr_val hv vS_zero]; simpa using c
    rw [if_neg (by simp)]
    go_enter Try.func126, Try.ntmps126
    go_wp2
    go_ret
    exact ⟨rfl, rfl⟩

/-- The builtin max of 0 and a single. -/
theorem run_max_zero (ts : Array TypeId) (t : TypeId) (x : Nat) {a : Int} (hv : vS x = some a) (w : World) :
    (Builtin.max_ ts t #[.float .f32 0, .float .f32 x]).run Try.prog w = .ok (.float .f32 (shdW x)) w := by
  have o := order_val vS_zero hv
  have o' : FloatKind.f32.format.order 0 x = some (compare 0 a) := o
  unfold shdW
  rw [o']
  show (([Value.float .f32 x]).foldlM Builtin.max2 (Value.float .f32 0)).run Try.prog w = _
  simp only [List.foldlM]
  have m : Builtin.max2 (.float .f32 0) (.float .f32 x) = pure (.float .f32 (if (some (compare 0 a) == some Ordering.lt) = true then x else 0)) := by
    unfold Builtin.max2
    dsimp only
    rw [o']
    rcases h : compare 0 a with _ | _ | _
    · rfl
    · rfl
    · rfl
  rw [m]
  rfl
end Go.Proofs.Ytmbiohopcfglcaa

/- The closures of Shade on both sides. -/
namespace Go.Proofs.Ytmbiohopcfglcaa
open Go.RowKit Fl
set_option linter.unusedVariables false

/-- An integer in a box. -/
abbrev inObj (z : Int) : Obj := .cells #[.int .i64 z] 3
/-- What Shade makes of the cell number j of the region without the rim; i is the cell's number in the field. -/
def shaW (M : Nat) (lx ly lz : Int) (v : Nat → Nat) (W i : Nat) : Nat := shdW (litW M lx ly lz (riseW (v (i + 1)) (v (i - 1))) (riseW (v (i + W)) (v (i - W))))
def rimI (W : Nat) (j : Nat) : Nat := (j / (W - 2) + 1) * W + (j % (W - 2) + 1)
def shaF (M : Nat) (lx ly lz : Int) (v : Nat → Nat) (W : Nat) (j : Nat) : Nat := shaW M lx ly lz v W (rimI W j)

structure ShaAt (M : Nat) (lx ly lz : Int) (v : Nat → Nat) (W i p q u m : Nat) (a : Int) (X Z : Nat) (c : Int) (nx ny nz e f s d t r : Nat) : Prop where
  nm : NrmAt (riseW (v (i + 1)) (v (i - 1))) (riseW (v (i + W)) (v (i - W))) p q u m a X Z c
  lt : LitAt M lx ly lz (riseW (v (i + 1)) (v (i - 1))) (riseW (v (i + W)) (v (i - W))) (rootW m) nx ny nz e f s d t r
  w : shaW M lx ly lz v W i = shdW r

theorem sha_parts {M : Nat} {lx ly lz : Int} {v : Nat → Nat} {X Y : Int} {W H n i : Nat} {x y : Int} (hh : allB n (fun i => hgtB (v i)) = true) (I : InCell X Y W H n i x y) (hM : LenOk M) (l1 : lx.natAbs ≤ 1000) (l2 : ly.natAbs ≤ 1000) (l3 : lz.natAbs ≤ 1000) :
    ∃ p q u m a X' Z c nx ny nz e f s d t r, ShaAt M lx ly lz v W i p q u m a X' Z c nx ny nz e f s d t r := by
  obtain ⟨_, r1, A⟩ := rise_parts (allB_iff.1 hh _ I.a3) (allB_iff.1 hh _ I.a4)
  obtain ⟨_, r2, B⟩ := rise_parts (allB_iff.1 hh _ I.a2) (allB_iff.1 hh _ I.a1)
  have bx : Bd 21 (riseW (v (i + 1)) (v (i - 1))) := by rw [A.w]; exact A.bd
  have by' : Bd 21 (riseW (v (i + W)) (v (i - W))) := by rw [B.w]; exact B.bd
  have lx' : riseW (v (i + 1)) (v (i - 1)) < 4294967296 := by rw [A.w]; exact A.lt
  have ly' : riseW (v (i + W)) (v (i - W)) < 4294967296 := by rw [B.w]; exact B.lt
  obtain ⟨p, q, u, m, a, X', Z, c, N⟩ := nrm_parts bx by'
  obtain ⟨nx, ny, nz, e, f, s, d, t, r, L⟩ := lit_parts bx by' lx' ly' N.w N.rt.val N.c1 hM l1 l2 l3
  exact ⟨p, q, u, m, a, X', Z, c, nx, ny, nz, e, f, s, d, t, r, N, L, by unfold shaW; rw [L.w]⟩

/-- What Shade's closures hold: the field, the direction, its length. -/
structure ShCaps (w : World) (X Y : Int) (W H n b cap : Nat) (v : Nat → Nat) (p pm : Nat) (lx ly lz : Int) (M : Nat) : Prop where
  fld : w.heap[p]? = some (fldO X Y W H (.slice (some ⟨b, 0, none⟩) n cap))
  k1 : w.heap[p + 1]? = some (inObj lx)
  k2 : w.heap[p + 1 + 1]? = some (inObj ly)
  k3 : w.heap[p + 1 + 1 + 1]? = some (inObj lz)
  km : w.heap[pm]? = some (flObj M)
  row : FlAt w b 0 n v
theorem ShCaps.stay {w w' : World} {X Y : Int} {W H n b cap : Nat} {v : Nat → Nat} {p pm : Nat} {lx ly lz : Int} {M : Nat} (h : ShCaps w X Y W H n b cap v p pm lx ly lz M) (hn : 1 ≤ n) (hb : Below w.heap.size w w') : ShCaps w' X Y W H n b cap v p pm lx ly lz M :=
  ⟨blkStay h.fld hb, blkStay h.k1 hb, blkStay h.k2 hb, blkStay h.k3 hb, blkStay h.km hb, flAt_congr h.row (hb.block _ (World.block_lt_of_cell? w _ (h.row 0 hn)))⟩

theorem rim_num {X Y x y : Int} {W j : Nat} (hW : 3 ≤ W) (h1 : X + 1 ≤ x) (h2 : x < X + 1 + ((W : Int) - 2)) (h3 : Y + 1 ≤ y) (hj : (j : Int) = (y - (Y + 1)) * ((W : Int) - 2) + (x - (X + 1))) : ((rimI W j : Nat) : Int) = (y - Y) * W + (x - X) := by
  obtain ⟨W2, e2⟩ : ∃ W2 : Nat, W2 = W - 2 := ⟨_, rfl⟩
  have e3 : ((W : Int) - 2) = (W2 : Int) := by omega
  rw [e3] at hj h2
  obtain ⟨ex, ey⟩ := place_of (X := X + 1) (Y := Y + 1) (x := x) (y := y) (W := W2) (i := j) (by omega) h1 h2 h3 hj
  unfold rimI
  rw [← e2]
  have : (((j / W2 + 1) * W + (j % W2 + 1) : Nat) : Int) = (((j / W2 : Nat) : Int) + 1) * W + (((j % W2 : Nat) : Int) + 1) := by simp
  rw [this, show ((j / W2 : Nat) : Int) + 1 = y - Y by omega, show ((j % W2 : Nat) : Int) + 1 = x - X by omega]

set_option maxHeartbeats 4000000 in
theorem shade1_any (X Y : Int) (W H n b cap : Nat) (v : Nat → Nat) (p pm : Nat) (lx ly lz : Int) (M : Nat) (w : World) (K : ShCaps w X Y W H n b cap v p pm lx ly lz M) (h0 : checkR X Y W H = 0) (hn : n = H * W) (hcap : n ≤ cap) (hcp : cap ≤ 9223372036854775807) (hh : allB n (fun i => hgtB (v i)) = true)
    (hW : 3 ≤ W) (hH : 3 ≤ H) (hM : LenOk M) (l1 : lx.natAbs ≤ 1000) (l2 : ly.natAbs ≤ 1000) (l3 : lz.natAbs ≤ 1000) :
    Clos2 119 #[.pointer (some ⟨p, 0, none⟩), .pointer (some ⟨p + 1, 0, none⟩), .pointer (some ⟨p + 1 + 1, 0, none⟩), .pointer (some ⟨p + 1 + 1 + 1, 0, none⟩), .pointer (some ⟨pm, 0, none⟩)] (X + 1) (Y + 1) ((W : Int) - 2) ((H : Int) - 2) (shaF M lx ly lz v W) w := by
  intro x y j w2 h1 h2 h3 h4 hj hb
  have n1 : 1 ≤ n := by rw [hn]; exact Nat.mul_pos (by omega) (by omega)
  have K2 := K.stay n1 hb
  have hi := rim_num hW h1 h2 h3 hj
  unfold shaF
  obtain ⟨i, hi'⟩ : ∃ i, rimI W j = i := ⟨_, rfl⟩
  rw [hi'] at hi ⊢
  have I := in_cell hn h1 (show x + 1 < X + W by omega) h3 (show y + 1 < Y + H by omega) hi
  obtain ⟨pp, q, u, m, a, X', Z, c, nx, ny, nz, e, f, s, d, t, r, S⟩ := sha_parts hh I hM l1 l2 l3
  rw [S.w]
  have zb : b < w2.heap.size := World.block_lt_of_cell? w2 _ (K2.row i I.a0)
  have CA := Lib.hid (fun W' (hb : Below w2.heap.size w2 W') => crossAt_any X Y W H n b cap i v x y W' h0 hn hcap hcp (flAt_congr K2.row (hb.block _ zb)) I.h1 I.h2 I.h3 I.h4 I.hi)
  have NO := Lib.hid (fun w => normal_any (v i) (v (i - W)) (v (i - 1)) (v (i + 1)) (v (i + W)) w (allB_iff.1 hh _ I.a1) (allB_iff.1 hh _ I.a4) (allB_iff.1 hh _ I.a3) (allB_iff.1 hh _ I.a2) S.nm S.lt.nx1 S.lt.ny1 S.lt.nz1)
  have a1 := fun (W : World) => run_float_arith (P := Try.prog) W .mul 22 .f32 nx _ e S.lt.a1
  have a2 := fun (W : World) => run_float_arith (P := Try.prog) W .mul 22 .f32 ny _ f S.lt.b1
  have a3 := fun (W : World) => run_float_arith (P := Try.prog) W .add 22 .f32 e f s S.lt.s1
  have a4 := fun (W : World) => run_float_arith (P := Try.prog) W .mul 22 .f32 nz _ d S.lt.d1
  have a5 := fun (W : World) => run_float_arith (P := Try.prog) W .add 22 .f32 s d t S.lt.t1
  have a6 := fun (W : World) => run_float_arith (P := Try.prog) W .quo 22 .f32 t M r S.lt.r1
  obtain ⟨ar, hr⟩ := S.lt.v
  have mx := fun (ts : Array TypeId) (t : TypeId) (W : World) => run_max_zero ts t r hr W
  have GF := Lib.hid K2.fld
  have G1 := Lib.hid K2.k1
  have G2 := Lib.hid K2.k2
  have G3 := Lib.hid K2.k3
  have GM := Lib.hid K2.km
  obtain ⟨cF, fF, zF⟩ := blkC GF.out
  clear S K K2 h0 hn hcap hcp hh hW hH hM l1 l2 l3 hb hi hi' I h1 h2 h3 h4 hj hr
  generalize v i = v0 at *
  generalize v (i - W) = v1 at *
  generalize v (i + W) = v2 at *
  generalize v (i + 1) = v3 at *
  generalize v (i - 1) = v4 at *
  go_enter Try.func119, Try.ntmps119
  go_wp2_with (first | (go_at_call 120; refine (CA.out _ (by repeat (first | exact Below.refl _ _ | refine Below.alloc ?_ (by first | omega | (simp; done) | (simp; omega)) _ | refine Below.setCell ?_ (by first | omega | (simp; done) | (simp; omega)) _ | refine Below.drew ?_))).mono ?_; rintro e' w3 ⟨rfl, hb3⟩; have B3 := Lib.hid hb3; clear cF fF zF) | (go_at_call 121; refine (NO.out _).mono ?_; rintro e' w4 ⟨rfl, hb4⟩; have B4 := Lib.hid (B3.out.trans (hb4.mono B3.out.size)); clear hb3 hb4; obtain ⟨d1, f1, z1⟩ := blkC (blkStay G1.out B4.out); obtain ⟨d2, f2, z2⟩ := blkC (blkStay G2.out B4.out); obtain ⟨d3, f3, z3⟩ := blkC (blkStay G3.out B4.out); obtain ⟨dM, fM, zM⟩ := blkC (blkStay GM.out B4.out)))
  go_ret
  exact ⟨rfl, B4.out⟩
end Go.Proofs.Ytmbiohopcfglcaa

/- The reference's closure of Shade; directions and their lengths. -/
namespace Go.Proofs.Ytmbiohopcfglcaa
open Go.RowKit Fl
set_option linter.unusedVariables false

set_option maxHeartbeats 4000000 in
set_option maxRecDepth 100000 in
theorem rshade1_any (X Y : Int) (W H n b cap : Nat) (v : Nat → Nat) (p pm : Nat) (lx ly lz : Int) (M : Nat) (w : World) (K : ShCaps w X Y W H n b cap v p pm lx ly lz M) (h0 : checkR X Y W H = 0) (hn : n = H * W) (hh : allB n (fun i => hgtB (v i)) = true)
    (hW : 3 ≤ W) (hH : 3 ≤ H) (hM : LenOk M) (l1 : lx.natAbs ≤ 1000) (l2 : ly.natAbs ≤ 1000) (l3 : lz.natAbs ≤ 1000) :
    Clos2 124 #[.pointer (some ⟨p, 0, none⟩), .pointer (some ⟨p + 1, 0, none⟩), .pointer (some ⟨p + 1 + 1, 0, none⟩), .pointer (some ⟨p + 1 + 1 + 1, 0, none⟩), .pointer (some ⟨pm, 0, none⟩)] (X + 1) (Y + 1) ((W : Int) - 2) ((H : Int) - 2) (shaF M lx ly lz v W) w := by
  intro x y j w2 h1 h2 h3 h4 hj hb
  have n1 : 1 ≤ n := by rw [hn]; exact Nat.mul_pos (by omega) (by omega)
  have K2 := K.stay n1 hb
  have hi := rim_num hW h1 h2 h3 hj
  unfold shaF
  obtain ⟨i, hi'⟩ : ∃ i, rimI W j = i := ⟨_, rfl⟩
  rw [hi'] at hi ⊢
  have I := in_cell hn h1 (show x + 1 < X + W by omega) h3 (show y + 1 < Y + H by omega) hi
  obtain ⟨pp, q, u, m, a, X', Z, c, nx, ny, nz, e, f, s, d, t, r, S⟩ := sha_parts hh I hM l1 l2 l3
  rw [S.w]
  have zb : b < w2.heap.size := World.block_lt_of_cell? w2 _ (K2.row i I.a0)
  have NO := Lib.hid (fun W' (hb : Below w2.heap.size w2 W') => rnormal_any X Y W H n b cap i v x y W' h0 hn (flAt_congr K2.row (hb.block _ zb)) hh I S.nm S.lt.nx1 S.lt.nx2 S.lt.ny1 S.lt.ny2 S.lt.nz1 S.lt.nz2)
  have M1 := Lib.hid (fun w => refMul_any 45 _ _ e S.lt.a2 S.lt.a1 w)
  have M2 := Lib.hid (fun w => refMul_any 45 _ _ f S.lt.b2 S.lt.b1 w)
  have A1 := Lib.hid (fun w => refAdd_any 46 e f s S.lt.s2 S.lt.s1 w)
  have M3 := Lib.hid (fun w => refMul_any 24 _ _ d S.lt.d2 S.lt.d1 w)
  have A2 := Lib.hid (fun w => refAdd_any 47 s d t S.lt.t2 S.lt.t1 w)
  have DV := Lib.hid (fun w => refDiv_any 47 t M r S.lt.r2 S.lt.r1 w)
  obtain ⟨ar, hr⟩ := S.lt.v
  have GR := Lib.hid (fun w => rgreater_zero r hr w)
  have GF := Lib.hid K2.fld
  have G1 := Lib.hid K2.k1
  have G2 := Lib.hid K2.k2
  have G3 := Lib.hid K2.k3
  have GM := Lib.hid K2.km
  obtain ⟨cF, fF, zF⟩ := blkC GF.out
  clear S K K2 h0 hn hh hW hH hM l1 l2 l3 hb hi hi' I h1 h2 h3 h4 hj hr
  go_enter Try.func124, Try.ntmps124
  go_wp2_with (first | (go_at_call 125; refine (NO.out _ (by repeat (first | exact Below.refl _ _ | refine Below.alloc ?_ (by first | omega | (simp; done) | (simp; omega)) _ | refine Below.setCell ?_ (by first | omega | (simp; done) | (simp; omega)) _ | refine Below.drew ?_))).mono ?_; rintro e' w4 ⟨rfl, hb4⟩; have B4 := Lib.hid hb4; clear cF fF zF; obtain ⟨d1, f1, z1⟩ := blkC (blkStay G1.out B4.out); obtain ⟨d2, f2, z2⟩ := blkC (blkStay G2.out B4.out); obtain ⟨d3, f3, z3⟩ := blkC (blkStay G3.out B4.out); obtain ⟨dM, fM, zM⟩ := blkC (blkStay GM.out B4.out)))
  go_quiet (first | (go_at_call 104; exact Calls.quiet_of_same (Calls.mono (refConv_any _ _) fun _ _ h => ⟨h.1, h.2.symm⟩)) | (go_at_call 97; (with_reducible refine Calls.mono (M1.out _) ?_); exact fun _ _ h => ⟨h.1, _, h.2.symm⟩) | (go_at_call 97; (with_reducible refine Calls.mono (M2.out _) ?_); exact fun _ _ h => ⟨h.1, _, h.2.symm⟩) | (go_at_call 97; (with_reducible refine Calls.mono (M3.out _) ?_); exact fun _ _ h => ⟨h.1, _, h.2.symm⟩) | (go_at_call 95; (with_reducible refine Calls.mono (A1.out _) ?_); exact fun _ _ h => ⟨h.1, _, h.2.symm⟩) | (go_at_call 95; (with_reducible refine Calls.mono (A2.out _) ?_); exact fun _ _ h => ⟨h.1, _, h.2.symm⟩) | (go_at_call 102; exact Calls.quiet_of_same (Calls.mono (DV.out _) fun _ _ h => ⟨h.1, h.2.symm⟩)) | (go_at_call 126; exact Calls.quiet_of_same (Calls.mono (GR.out _) fun _ _ h => ⟨h.1, h.2.symm⟩)))
  go_wp2
  go_ret
  exact ⟨rfl, B4.out.trans ((below_drewN _ _).mono B4.out.size)⟩

/-- Three integers, as a list. -/
def zI (a b c : Int) (m : Nat) : Int := if m = 0 then a else if m = 1 then b else c
abbrev dirObj (a b c : Int) : Obj := .cells #[.int .i64 a, .int .i64 b, .int .i64 c] 3
theorem zI_cell {w : World} {k : Nat} {a b c : Int} (h : w.heap[k]? = some (dirObj a b c)) (j : Nat) (hj : j < 3) : w.cell? ⟨k, j, none⟩ = some (.int .i64 (zI a b c j)) := by
  rw [(blkC h).1 j]
  have : j = 0 ∨ j = 1 ∨ j = 2 := by omega
  rcases this with rfl | rfl | rfl <;> rfl
/-- The error of a direction. -/
def dirE (a b c : Int) : Int := if withinB a (-1000) 1000 = true ∧ withinB b (-1000) 1000 = true ∧ withinB c (-1000) 1000 = true then (if a = 0 ∧ b = 0 ∧ c = 0 then 12 else 0) else 3

set_option maxHeartbeats 1000000 in
theorem checkDir_any (a b c : Int) (k : Nat) (w : World) (h : w.heap[k]? = some (dirObj a b c)) :
    Calls Try.prog 116 #[.slice (some ⟨k, 0, none⟩) 3 3] w fun e w' => e = .returned (.int .i64 (dirE a b c)) ∧ w = w' := by
  have hz := zI_cell h
  have z0 : zI a b c 0 = a := rfl
  have z1 : zI a b c 1 = b := rfl
  have z2 : zI a b c 2 = c := rfl
  have D := Lib.hid (show (∀ m, m < 3 → withinB (zI a b c m) (-1000) 1000 = true) → dirE a b c = (if a = 0 ∧ b = 0 ∧ c = 0 then 12 else 0) from fun q => by
    unfold dirE; rw [if_pos ⟨q 0 (by omega), q 1 (by omega), q 2 (by omega)⟩])
  have D' := Lib.hid (show ∀ m, m < 3 → withinB (zI a b c m) (-1000) 1000 = false → dirE a b c = 3 from fun m hm q => by
    unfold dirE; rw [if_neg]
    rintro ⟨q0, q1, q2⟩
    have : m = 0 ∨ m = 1 ∨ m = 2 := by omega
    rcases this with rfl | rfl | rfl
    · rw [z0, q0] at q; cases q
    · rw [z1, q1] at q; cases q
    · rw [z2, q2] at q; cases q)
  have Z := Lib.hid (show (∀ m, m < 3 → zI a b c m = 0) → (a = 0 ∧ b = 0 ∧ c = 0) from fun q => ⟨q 0 (by omega), q 1 (by omega), q 2 (by omega)⟩)
  have Z' := Lib.hid (show ∀ m, m < 3 → zI a b c m ≠ 0 → ¬ (a = 0 ∧ b = 0 ∧ c = 0) from fun m hm q h => by
    have : m = 0 ∨ m = 1 ∨ m = 2 := by omega
    rcases this with rfl | rfl | rfl
    · exact q h.1
    · exact q h.2.1
    · exact q h.2.2)
  have WI := Lib.hid (fun x w => within_any x (-1000) 1000 w)
  generalize zI a b c = z at *
  clear z0 z1 z2 h
  go_enter Try.func116, Try.ntmps116
  go_wp2
  go_loop [3, 8] (fun s i => ∃ (j : Nat) (q : Bool), j ≤ 3 ∧ i = .int .i64 j ∧ s = .bool q ∧ (∀ m, m < j → withinB (z m) (-1000) 1000 = true) ∧ (q = true → ∃ m, m < j ∧ z m ≠ 0) ∧ (q = false → ∀ m, m < j → z m = 0)) (fun s i => 3 - (intOf i).toNat)
  case atStart => exact ⟨0, false, by omega, rfl, rfl, (fun m hm => by omega), (fun h => by cases h), (fun _ m hm => by omega)⟩
  case round =>
    obtain ⟨j, q, hj, rfl, rfl, hw, ht, hf⟩ := hrel
    have HW := Lib.hid hw
    have HT := Lib.hid ht
    have HF := Lib.hid hf
    clear hw ht hf
    by_cases c3 : j < 3
    · have hcell := hz j c3
      have nextw : withinB (z j) (-1000) 1000 = true → ∀ m, m < j + 1 → withinB (z m) (-1000) 1000 = true := fun hh m hm => by
        rcases Nat.lt_or_ge m j with l | l
        · exact HW.out m l
        · rw [show m = j by omega]; exact hh
      cases hwi : withinB (z j) (-1000) 1000 with
      | false =>
        have W1 := Lib.hid (fun w => within_any (z j) (-1000) 1000 w)
        rw [hwi] at W1
        have HD := Lib.hid (D'.out j c3 hwi)
        clear hwi nextw
        go_wp2_with (first | (go_at_call 87; refine (W1.out _).mono ?_; rintro e' w' ⟨rfl, rfl⟩))
        go_ret
        exact ⟨ret_int HD.out.symm, rfl⟩
      | true =>
        have W1 := Lib.hid (fun w => within_any (z j) (-1000) 1000 w)
        rw [hwi] at W1
        have NW := Lib.hid (nextw hwi)
        clear hwi nextw
        cases q with
        | true =>
          go_wp2_with (first | (go_at_call 87; refine (W1.out _).mono ?_; rintro e' w' ⟨rfl, rfl⟩))
          go_round
          case rel => exact ⟨j + 1, true, by omega, by go_num, rfl, NW.out, (fun _ => by obtain ⟨m, hm, hne⟩ := HT.out (by first | rfl | trivial); exact ⟨m, by omega, hne⟩), (fun h => by cases h)⟩
          case measure => simp [intOf]; omega
        | false =>
          by_cases z0 : z j = 0
          · have zb : (z j != 0) = false := by simp [z0]
            have Z0 := Lib.hid z0
            clear z0
            go_wp2_with (first | (go_at_call 87; refine (W1.out _).mono ?_; rintro e' w' ⟨rfl, rfl⟩))
            go_round
            case rel => exact ⟨j + 1, false, by omega, by go_num, rfl, NW.out, (fun h => by cases h), (fun _ m hm => by
              rcases Nat.lt_or_ge m j with l | l
              · exact HF.out (by first | rfl | trivial) m l
              · rw [show m = j by omega]; exact Z0.out)⟩
            case measure => simp [intOf]; omega
          · have zb : (z j != 0) = true := by simp [z0]
            have Z0 := Lib.hid z0
            clear z0
            go_wp2_with (first | (go_at_call 87; refine (W1.out _).mono ?_; rintro e' w' ⟨rfl, rfl⟩))
            go_round
            case rel => exact ⟨j + 1, true, by omega, by go_num, rfl, NW.out, (fun _ => ⟨j, by omega, Z0.out⟩), (fun h => by cases h)⟩
            case measure => simp [intOf]; omega
    · have : j = 3 := by omega
      subst this
      cases q with
      | true =>
        go_wp2
        go_ret
        obtain ⟨m, hm, hne⟩ := HT.out (by first | rfl | trivial)
        exact ⟨ret_int (by rw [D.out HW.out, if_neg (Z'.out m hm hne)]), rfl⟩
      | false =>
        go_wp2
        go_ret
        exact ⟨ret_int (by rw [D.out HW.out, if_pos (Z.out (HF.out (by first | rfl | trivial)))]), rfl⟩
end Go.Proofs.Ytmbiohopcfglcaa

/- The length of a direction; the reference's error of a direction. -/
namespace Go.Proofs.Ytmbiohopcfglcaa
open Go.RowKit Fl
set_option linter.unusedVariables false

def sq3 (a b c : Int) : Int := a * a + b * b + c * c
def lenW (a b c : Int) : Nat := rootW (floatOfInt .f32 (sq3 a b c))
theorem sq_small {d : Int} (h : d.natAbs ≤ 1000) : 0 ≤ d * d ∧ d * d ≤ 1000000 := by
  rw [← Int.natAbs_mul_self' d]
  have l : d.natAbs * d.natAbs ≤ 1000 * 1000 := Nat.mul_le_mul h h
  have e : ((d.natAbs : Int) * (d.natAbs : Int)) = ((d.natAbs * d.natAbs : Nat) : Int) := by simp
  rw [e]; omega
theorem sq_pos {d : Int} (h : d ≠ 0) : 1 ≤ d * d := by
  rw [← Int.natAbs_mul_self' d]
  have : 0 < d.natAbs * d.natAbs := Nat.mul_pos (by omega) (by omega)
  have e : ((d.natAbs : Int) * (d.natAbs : Int)) = ((d.natAbs * d.natAbs : Nat) : Int) := by simp
  rw [e]; omega

theorem dir_ok {a b c : Int} (h : dirE a b c = 0) : a.natAbs ≤ 1000 ∧ b.natAbs ≤ 1000 ∧ c.natAbs ≤ 1000 ∧ 1 ≤ sq3 a b c := by
  unfold dirE at h
  split at h
  · rename_i q
    obtain ⟨q1, q2, q3⟩ := q
    have w1 := withinB_iff.1 q1
    have w2 := withinB_iff.1 q2
    have w3 := withinB_iff.1 q3
    have l1 : a.natAbs ≤ 1000 := by omega
    have l2 : b.natAbs ≤ 1000 := by omega
    have l3 : c.natAbs ≤ 1000 := by omega
    have s1 := sq_small l1
    have s2 := sq_small l2
    have s3 := sq_small l3
    refine ⟨l1, l2, l3, ?_⟩
    unfold sq3
    split at h
    · cases h
    · rename_i nz
      by_cases za : a = 0
      · by_cases zb : b = 0
        · have := sq_pos (show c ≠ 0 from fun z => nz ⟨za, zb, z⟩); omega
        · have := sq_pos zb; omega
      · have := sq_pos za; omega
  · cases h

theorem dir_len {a b c : Int} (l1 : a.natAbs ≤ 1000) (l2 : b.natAbs ≤ 1000) (l3 : c.natAbs ≤ 1000) (p : 1 ≤ sq3 a b c) : (∃ X Z cc, RootAt (floatOfInt .f32 (sq3 a b c)) (sq3 a b c * (one : Int)) X Z cc) ∧ LenOk (lenW a b c) := by
  have s1 := sq_small l1
  have s2 := sq_small l2
  have s3 := sq_small l3
  have hs : sq3 a b c ≤ 3000000 := by unfold sq3; omega
  have hp : (0 : Int) < (one : Int) := Int.natCast_pos.2 one_pos
  obtain ⟨vn, bn⟩ := int_val (n := sq3 a b c) (by omega)
  obtain ⟨X, Z, cc, RT⟩ := root_parts vn (Int.mul_nonneg (by omega) (by omega)) bn (by omega)
  refine ⟨⟨X, Z, cc, RT⟩, cc, RT.val, ?_⟩
  have := RT.lo 1 (by omega) (by
    have := Int.mul_le_mul_of_nonneg_right p (show (0 : Int) ≤ (one : Int) by omega)
    simpa using this)
  simpa using this

set_option maxHeartbeats 2000000 in
theorem length_any (a b c : Int) (k : Nat) (w : World) (h : w.heap[k]? = some (dirObj a b c)) (l1 : a.natAbs ≤ 1000) (l2 : b.natAbs ≤ 1000) (l3 : c.natAbs ≤ 1000) (p : 1 ≤ sq3 a b c) :
    Calls Try.prog 117 #[.slice (some ⟨k, 0, none⟩) 3 3] w fun e w' => e = .returned (.float .f32 (lenW a b c)) ∧ w = w' := by
  obtain ⟨⟨X, Z, cc, RT⟩, _⟩ := dir_len l1 l2 l3 p
  have s1 := sq_small l1
  have s2 := sq_small l2
  have s3 := sq_small l3
  have RO := Lib.hid (fun w => root_any RT w)
  unfold lenW
  generalize rootW (floatOfInt .f32 (sq3 a b c)) = M at *
  obtain ⟨A, hA⟩ : ∃ A, a * a = A := ⟨_, rfl⟩
  obtain ⟨B, hB⟩ : ∃ B, b * b = B := ⟨_, rfl⟩
  obtain ⟨C, hC⟩ : ∃ C, c * c = C := ⟨_, rfl⟩
  have u1 : wrap64 (a * a) = A := by rw [← hA]; exact IntWalk.wrap64_in _ ⟨by omega, by omega⟩
  have u2 : wrap64 (b * b) = B := by rw [← hB]; exact IntWalk.wrap64_in _ ⟨by omega, by omega⟩
  have u3 : wrap64 (c * c) = C := by rw [← hC]; exact IntWalk.wrap64_in _ ⟨by omega, by omega⟩
  have e : sq3 a b c = A + B + C := by unfold sq3; rw [hA, hB, hC]
  rw [e] at RO
  rw [hA] at s1
  rw [hB] at s2
  rw [hC] at s3
  obtain ⟨cB, fB, zB⟩ := blkC h
  clear hA hB hC e p l1 l2 l3 RT h
  go_enter Try.func117, Try.ntmps117
  go_wp2
  go_loop [3, 8] (fun s i => (i = .int .i64 0 ∧ s = .int .i64 0) ∨ (i = .int .i64 1 ∧ s = .int .i64 A) ∨ (i = .int .i64 2 ∧ s = .int .i64 (A + B)) ∨ (i = .int .i64 3 ∧ s = .int .i64 (A + B + C))) (fun s i => 3 - (intOf i).toNat)
  case atStart => exact .inl ⟨rfl, rfl⟩
  case round =>
    rcases hrel with ⟨rfl, rfl⟩ | ⟨rfl, rfl⟩ | ⟨rfl, rfl⟩ | ⟨rfl, rfl⟩
    · go_wp2
      go_round
      case rel => exact .inr (.inl ⟨rfl, by simp⟩)
      case measure => simp [intOf]
    · go_wp2
      go_round
      case rel => exact .inr (.inr (.inl ⟨rfl, rfl⟩))
      case measure => simp [intOf]
    · go_wp2
      go_round
      case rel => exact .inr (.inr (.inr ⟨rfl, rfl⟩))
      case measure => simp [intOf]
    · go_wp2_with (first | (go_at_call 181; refine (RO.out _).mono ?_; rintro e' w' ⟨rfl, rfl⟩))
      go_ret
      exact ⟨rfl, rfl⟩

set_option maxHeartbeats 400000 in
theorem lightIn_any (x : Int) (w : World) :
    Calls Try.prog 197 #[.int .i64 x] w fun e w' => e = .returned (.bool (withinB x (-1000) 1000)) ∧ w = w' := by
  go_enter Try.func197, Try.ntmps197
  go_wp2
  all_goals go_ret
  all_goals exact ⟨ret_bool (by rw [Bool.eq_iff_iff, withinB_iff]; simp; omega), rfl⟩

theorem enters_LightError1 : Enters 197 := by intro args W; simp [callFunc, Try.func197, Try.f197]

set_option maxHeartbeats 1000000 in
theorem lightError_any (a b c : Int) (w : World) :
    Calls Try.prog 123 #[.int .i64 a, .int .i64 b, .int .i64 c] w fun e w' => e = .returned (.int .i64 (dirE a b c)) ∧ w = w' := by
  have IA := Lib.hid (fun w => lightIn_any a w)
  have IB := Lib.hid (fun w => lightIn_any b w)
  have IC := Lib.hid (fun w => lightIn_any c w)
  have hcall := enters_LightError1
  unfold Enters at hcall
  unfold dirE
  generalize withinB a (-1000) 1000 = p at *
  generalize withinB b (-1000) 1000 = q at *
  generalize withinB c (-1000) 1000 = r at *
  cases p with
  | false =>
    rw [if_neg (by simp)]
    go_enter Try.func123, Try.ntmps123
    go_wp2_with (first | (with_reducible refine Calls.mono (IA.out _) ?_; rintro e' w' ⟨rfl, rfl⟩))
    go_ret
    exact ⟨rfl, rfl⟩
  | true =>
    cases q with
    | false =>
      rw [if_neg (by simp)]
      go_enter Try.func123, Try.ntmps123
      go_wp2_with (first | (with_reducible refine Calls.mono (IA.out _) ?_; rintro e' w' ⟨rfl, rfl⟩) | (with_reducible refine Calls.mono (IB.out _) ?_; rintro e' w' ⟨rfl, rfl⟩))
      go_ret
      exact ⟨rfl, rfl⟩
    | true =>
      cases r with
      | false =>
        rw [if_neg (by simp)]
        go_enter Try.func123, Try.ntmps123
        go_wp2_with (first | (with_reducible refine Calls.mono (IA.out _) ?_; rintro e' w' ⟨rfl, rfl⟩) | (with_reducible refine Calls.mono (IB.out _) ?_; rintro e' w' ⟨rfl, rfl⟩) | (with_reducible refine Calls.mono (IC.out _) ?_; rintro e' w' ⟨rfl, rfl⟩))
        go_ret
        exact ⟨rfl, rfl⟩
      | true =>
        rw [if_pos (by simp)]
        go_enter Try.func123, Try.ntmps123
        go_wp2_with (first | (with_reducible refine Calls.mono (IA.out _) ?_; rintro e' w' ⟨rfl, rfl⟩) | (with_reducible refine Calls.mono (IB.out _) ?_; rintro e' w' ⟨rfl, rfl⟩) | (with_reducible refine Calls.mono (IC.out _) ?_; rintro e' w' ⟨rfl, rfl⟩))
        all_goals go_ret
        all_goals exact ⟨ret_int (by first | rfl | omega | (split <;> first | rfl | omega) | simp_all), rfl⟩
end Go.Proofs.Ytmbiohopcfglcaa

/- Shade of the program, of a right field. -/
namespace Go.Proofs.Ytmbiohopcfglcaa
open Go.RowKit Fl
set_option linter.unusedVariables false

set_option maxHeartbeats 2000000 in
theorem shade_bad (X Y : Int) (W H n b cap : Nat) (v : Nat → Nat) (lx ly lz er : Int) (w : World) (h0 : checkR X Y W H = 0) (hn : n = W * H) (hc : FlAt w b 0 n v) (hh : allB n (fun i => hgtB (v i)) = true)
    (hb : (innB W H = false ∧ er = 10) ∨ (innB W H = true ∧ dirE lx ly lz = er ∧ er ≠ 0)) :
    Calls Try.prog 31 #[fldV X Y W H (.slice (some ⟨b, 0, none⟩) n cap), .int .i64 lx, .int .i64 ly, .int .i64 lz] w fun e w' => e = .returned (.tuple #[fldV 0 0 0 0 (.slice none 0 0), .int .i64 er]) ∧ Below w.heap.size w w' := by
  have h1 : 1 ≤ n := by
    obtain ⟨b1, b2, b3, b4, b5, _⟩ := checkR_zero h0
    rw [hn]; exact Nat.mul_pos (by omega) (by omega)
  have hlt : b < w.heap.size := World.block_lt_of_cell? w _ (hc 0 h1)
  have IN := Lib.hid (fun W' (hb : Below w.heap.size w W') => inner_any X Y W H n b cap v W' h0 hn (flAt_congr hc (hb.block _ hlt)) hh)
  have CD := Lib.hid (fun k w (hk : w.heap[k]? = some (dirObj lx ly lz)) => checkDir_any lx ly lz k w hk)
  rcases hb with ⟨hi, rfl⟩ | ⟨hi, hd, hne⟩
  · rw [hi] at IN
    simp only [Bool.false_eq_true, if_false] at IN
    clear h0 hn hc hh h1 hi CD
    go_enter Try.func31, Try.ntmps31
    go_wp2_with (first | (go_at_call 115; refine (IN.out _ (by repeat (first | exact Below.refl _ _ | refine Below.alloc ?_ (by first | omega | (simp; done) | (simp; omega)) _ | refine Below.setCell ?_ (by first | omega | (simp; done) | (simp; omega)) _ | refine Below.drew ?_))).mono ?_; rintro e w2 ⟨rfl, hb2⟩; have HF2 := Lib.hid (blkStay (b := w.heap.size) (o := fldO X Y W H (.slice (some ⟨b, 0, none⟩) n cap)) (by ((simp only [heap_alloc_get, heap_size_alloc, if_true]) <;> ((repeat' split) <;> first | rfl | omega))) hb2); have H12 := Lib.hid (blkStay (b := w.heap.size + 1) (o := inObj lx) (by ((simp only [heap_alloc_get, heap_size_alloc, if_true]) <;> ((repeat' split) <;> first | rfl | omega))) hb2); have H22 := Lib.hid (blkStay (b := w.heap.size + 1 + 1) (o := inObj ly) (by ((simp only [heap_alloc_get, heap_size_alloc, if_true]) <;> ((repeat' split) <;> first | rfl | omega))) hb2); have H32 := Lib.hid (blkStay (b := w.heap.size + 1 + 1 + 1) (o := inObj lz) (by ((simp only [heap_alloc_get, heap_size_alloc, if_true]) <;> ((repeat' split) <;> first | rfl | omega))) hb2); have HS2 := Lib.hid (blkStay (b := w.heap.size + 1 + 1 + 1 + 1) (o := fldO 0 0 0 0 (.slice none 0 0)) (by ((simp only [heap_alloc_get, heap_size_alloc, if_true]) <;> ((repeat' split) <;> first | rfl | omega))) hb2); have hB2 : Below w.heap.size w w2 := Below.trans (by repeat (first | exact Below.refl _ _ | refine Below.alloc ?_ (by first | omega | (simp; done) | (simp; omega)) _ | refine Below.setCell ?_ (by first | omega | (simp; done) | (simp; omega)) _ | refine Below.drew ?_)) (Below.mono hb2 (by first | omega | (simp; done) | (simp; omega))); clear hb2; obtain ⟨c1, f1, z1⟩ := blkC H12.out; obtain ⟨c2, f2, z2⟩ := blkC H22.out; obtain ⟨c3, f3, z3⟩ := blkC H32.out; obtain ⟨cS, fS, zS⟩ := blkC HS2.out; obtain ⟨cF, fF, zF⟩ := blkC HF2.out))
    have HRES := fun (u1 u2 u3 u4 u5 : Value) (o : Obj) => (blkC ((heap_alloc_old (set5 w2 (w.heap.size + 1 + 1 + 1 + 1) u1 u2 u3 u4 u5) o (by rw [set5_size]; exact zS)).trans (set5_self u1 u2 u3 u4 u5 HS2.out))).1
    simp only [set5] at HRES
    refine bodyPost_ret (v := .tuple #[fldV 0 0 0 0 (.slice none 0 0), .int .i64 10]) (by simp [results, Try.results31, go_sem, HRES]) rfl ?_
    exact ⟨rfl, by repeat (first | exact hB2 | refine Below.alloc ?_ (by first | omega | (simp; done) | (simp; omega)) _ | refine Below.setCell ?_ (by first | omega | (simp; done) | (simp; omega)) _)⟩
  · rw [hi] at IN
    simp only [if_true] at IN
    rw [hd] at CD
    have hzb : (er != 0) = true := by simp [hne]
    clear h0 hn hc hh h1 hi hne hd
    go_enter Try.func31, Try.ntmps31
    go_wp2_with (first | (go_at_call 115; refine (IN.out _ (by repeat (first | exact Below.refl _ _ | refine Below.alloc ?_ (by first | omega | (simp; done) | (simp; omega)) _ | refine Below.setCell ?_ (by first | omega | (simp; done) | (simp; omega)) _ | refine Below.drew ?_))).mono ?_; rintro e w2 ⟨rfl, hb2⟩; have HF2 := Lib.hid (blkStay (b := w.heap.size) (o := fldO X Y W H (.slice (some ⟨b, 0, none⟩) n cap)) (by ((simp only [heap_alloc_get, heap_size_alloc, if_true]) <;> ((repeat' split) <;> first | rfl | omega))) hb2); have H12 := Lib.hid (blkStay (b := w.heap.size + 1) (o := inObj lx) (by ((simp only [heap_alloc_get, heap_size_alloc, if_true]) <;> ((repeat' split) <;> first | rfl | omega))) hb2); have H22 := Lib.hid (blkStay (b := w.heap.size + 1 + 1) (o := inObj ly) (by ((simp only [heap_alloc_get, heap_size_alloc, if_true]) <;> ((repeat' split) <;> first | rfl | omega))) hb2); have H32 := Lib.hid (blkStay (b := w.heap.size + 1 + 1 + 1) (o := inObj lz) (by ((simp only [heap_alloc_get, heap_size_alloc, if_true]) <;> ((repeat' split) <;> first | rfl | omega))) hb2); have HS2 := Lib.hid (blkStay (b := w.heap.size + 1 + 1 + 1 + 1) (o := fldO 0 0 0 0 (.slice none 0 0)) (by ((simp only [heap_alloc_get, heap_size_alloc, if_true]) <;> ((repeat' split) <;> first | rfl | omega))) hb2); have hB2 : Below w.heap.size w w2 := Below.trans (by repeat (first | exact Below.refl _ _ | refine Below.alloc ?_ (by first | omega | (simp; done) | (simp; omega)) _ | refine Below.setCell ?_ (by first | omega | (simp; done) | (simp; omega)) _ | refine Below.drew ?_)) (Below.mono hb2 (by first | omega | (simp; done) | (simp; omega))); clear hb2; obtain ⟨c1, f1, z1⟩ := blkC H12.out; obtain ⟨c2, f2, z2⟩ := blkC H22.out; obtain ⟨c3, f3, z3⟩ := blkC H32.out; obtain ⟨cS, fS, zS⟩ := blkC HS2.out; obtain ⟨cF, fF, zF⟩ := blkC HF2.out) | (go_at_call 116; refine (CD.out _ _ (by ((simp only [heap_alloc_get, heap_size_alloc, if_true]) <;> ((repeat' split) <;> first | rfl | omega)))).mono ?_; rintro e' w3 ⟨rfl, hw3⟩; have hb3 : Below w2.heap.size w2 w3 := (by rw [← hw3]; exact (by repeat (first | exact Below.refl _ _ | refine Below.alloc ?_ (by first | omega | (simp; done) | (simp; omega)) _ | refine Below.setCell ?_ (by first | omega | (simp; done) | (simp; omega)) _ | refine Below.drew ?_))); have HS3 := Lib.hid (blkStay HS2.out hb3); have hB3 := hB2.trans (hb3.mono hB2.size); clear hw3 hb3 c1 f1 z1 c2 f2 z2 c3 f3 z3 cS fS zS cF fF zF; obtain ⟨cS, fS, zS⟩ := blkC HS3.out))
    refine bodyPost_ret (v := .tuple #[fldV 0 0 0 0 (.slice none 0 0), .int .i64 er]) (by simp [results, Try.results31, go_sem, cS]) rfl ?_
    exact ⟨rfl, set5_below hB3 _ _ _ _ _ _ (by omega)⟩

set_option maxHeartbeats 2000000 in
theorem rshade_bad (X Y : Int) (W H n b cap : Nat) (v : Nat → Nat) (lx ly lz er : Int) (w : World) (h0 : checkR X Y W H = 0) (hn : n = W * H) (hc : FlAt w b 0 n v) (hh : allB n (fun i => hgtB (v i)) = true)
    (hb : (innB W H = false ∧ er = 10) ∨ (innB W H = true ∧ dirE lx ly lz = er ∧ er ≠ 0)) :
    Calls Try.prog 32 #[fldV X Y W H (.slice (some ⟨b, 0, none⟩) n cap), .int .i64 lx, .int .i64 ly, .int .i64 lz] w fun e w' => e = .returned (.tuple #[fldV 0 0 0 0 (.slice none 0 0), .int .i64 er]) ∧ Below w.heap.size w w' := by
  have h1 : 1 ≤ n := by
    obtain ⟨b1, b2, b3, b4, b5, _⟩ := checkR_zero h0
    rw [hn]; exact Nat.mul_pos (by omega) (by omega)
  have hlt : b < w.heap.size := World.block_lt_of_cell? w _ (hc 0 h1)
  have IN := Lib.hid (fun W' => rinner_any X Y W H n b cap W' h0)
  have CD := Lib.hid (fun w => lightError_any lx ly lz w)
  rcases hb with ⟨hi, rfl⟩ | ⟨hi, hd, hne⟩
  · rw [hi] at IN
    simp only [Bool.false_eq_true, if_false] at IN
    clear h0 hn hc hh h1 hi CD
    go_enter Try.func32, Try.ntmps32
    go_wp2_with (first | (go_at_call 122; refine (IN.out _).mono ?_; rintro e w2 ⟨rfl, hb2⟩; have HF2 := Lib.hid (blkStay (b := w.heap.size) (o := fldO X Y W H (.slice (some ⟨b, 0, none⟩) n cap)) (by ((simp only [heap_alloc_get, heap_size_alloc, if_true]) <;> ((repeat' split) <;> first | rfl | omega))) hb2); have H12 := Lib.hid (blkStay (b := w.heap.size + 1) (o := inObj lx) (by ((simp only [heap_alloc_get, heap_size_alloc, if_true]) <;> ((repeat' split) <;> first | rfl | omega))) hb2); have H22 := Lib.hid (blkStay (b := w.heap.size + 1 + 1) (o := inObj ly) (by ((simp only [heap_alloc_get, heap_size_alloc, if_true]) <;> ((repeat' split) <;> first | rfl | omega))) hb2); have H32 := Lib.hid (blkStay (b := w.heap.size + 1 + 1 + 1) (o := inObj lz) (by ((simp only [heap_alloc_get, heap_size_alloc, if_true]) <;> ((repeat' split) <;> first | rfl | omega))) hb2); have HS2 := Lib.hid (blkStay (b := w.heap.size + 1 + 1 + 1 + 1) (o := fldO 0 0 0 0 (.slice none 0 0)) (by ((simp only [heap_alloc_get, heap_size_alloc, if_true]) <;> ((repeat' split) <;> first | rfl | omega))) hb2); have hB2 : Below w.heap.size w w2 := Below.trans (by repeat (first | exact Below.refl _ _ | refine Below.alloc ?_ (by first | omega | (simp; done) | (simp; omega)) _ | refine Below.setCell ?_ (by first | omega | (simp; done) | (simp; omega)) _ | refine Below.drew ?_)) (Below.mono hb2 (by first | omega | (simp; done) | (simp; omega))); clear hb2; obtain ⟨c1, f1, z1⟩ := blkC H12.out; obtain ⟨c2, f2, z2⟩ := blkC H22.out; obtain ⟨c3, f3, z3⟩ := blkC H32.out; obtain ⟨cS, fS, zS⟩ := blkC HS2.out; obtain ⟨cF, fF, zF⟩ := blkC HF2.out))
    have HRES := fun (u1 u2 u3 u4 u5 : Value) (o : Obj) => (blkC ((heap_alloc_old (set5 w2 (w.heap.size + 1 + 1 + 1 + 1) u1 u2 u3 u4 u5) o (by rw [set5_size]; exact zS)).trans (set5_self u1 u2 u3 u4 u5 HS2.out))).1
    simp only [set5] at HRES
    refine bodyPost_ret (v := .tuple #[fldV 0 0 0 0 (.slice none 0 0), .int .i64 10]) (by simp [results, Try.results32, go_sem, HRES]) rfl ?_
    exact ⟨rfl, by repeat (first | exact hB2 | refine Below.alloc ?_ (by first | omega | (simp; done) | (simp; omega)) _ | refine Below.setCell ?_ (by first | omega | (simp; done) | (simp; omega)) _)⟩
  · rw [hi] at IN
    simp only [if_true] at IN
    rw [hd] at CD
    have hzb : (er != 0) = true := by simp [hne]
    clear h0 hn hc hh h1 hi hne hd
    go_enter Try.func32, Try.ntmps32
    go_wp2_with (first | (go_at_call 122; refine (IN.out _).mono ?_; rintro e w2 ⟨rfl, hb2⟩; have HF2 := Lib.hid (blkStay (b := w.heap.size) (o := fldO X Y W H (.slice (some ⟨b, 0, none⟩) n cap)) (by ((simp only [heap_alloc_get, heap_size_alloc, if_true]) <;> ((repeat' split) <;> first | rfl | omega))) hb2); have H12 := Lib.hid (blkStay (b := w.heap.size + 1) (o := inObj lx) (by ((simp only [heap_alloc_get, heap_size_alloc, if_true]) <;> ((repeat' split) <;> first | rfl | omega))) hb2); have H22 := Lib.hid (blkStay (b := w.heap.size + 1 + 1) (o := inObj ly) (by ((simp only [heap_alloc_get, heap_size_alloc, if_true]) <;> ((repeat' split) <;> first | rfl | omega))) hb2); have H32 := Lib.hid (blkStay (b := w.heap.size + 1 + 1 + 1) (o := inObj lz) (by ((simp only [heap_alloc_get, heap_size_alloc, if_true]) <;> ((repeat' split) <;> first | rfl | omega))) hb2); have HS2 := Lib.hid (blkStay (b := w.heap.size + 1 + 1 + 1 + 1) (o := fldO 0 0 0 0 (.slice none 0 0)) (by ((simp only [heap_alloc_get, heap_size_alloc, if_true]) <;> ((repeat' split) <;> first | rfl | omega))) hb2); have hB2 : Below w.heap.size w w2 := Below.trans (by repeat (first | exact Below.refl _ _ | refine Below.alloc ?_ (by first | omega | (simp; done) | (simp; omega)) _ | refine Below.setCell ?_ (by first | omega | (simp; done) | (simp; omega)) _ | refine Below.drew ?_)) (Below.mono hb2 (by first | omega | (simp; done) | (simp; omega))); clear hb2; obtain ⟨c1, f1, z1⟩ := blkC H12.out; obtain ⟨c2, f2, z2⟩ := blkC H22.out; obtain ⟨c3, f3, z3⟩ := blkC H32.out; obtain ⟨cS, fS, zS⟩ := blkC HS2.out; obtain ⟨cF, fF, zF⟩ := blkC HF2.out) | (go_at_call 123; refine (CD.out _).mono ?_; rintro e' w' ⟨rfl, rfl⟩))
    have HRES := fun (u1 u2 u3 u4 u5 : Value) (o : Obj) => (blkC ((heap_alloc_old (set5 w2 (w.heap.size + 1 + 1 + 1 + 1) u1 u2 u3 u4 u5) o (by rw [set5_size]; exact zS)).trans (set5_self u1 u2 u3 u4 u5 HS2.out))).1
    simp only [set5] at HRES
    refine bodyPost_ret (v := .tuple #[fldV 0 0 0 0 (.slice none 0 0), .int .i64 er]) (by simp [results, Try.results32, go_sem, HRES]) rfl ?_
    exact ⟨rfl, by repeat (first | exact hB2 | refine Below.alloc ?_ (by first | omega | (simp; done) | (simp; omega)) _ | refine Below.setCell ?_ (by first | omega | (simp; done) | (simp; omega)) _)⟩
end Go.Proofs.Ytmbiohopcfglcaa

/- Shade of the program, of a right field that has a rim, and a right direction. -/
namespace Go.Proofs.Ytmbiohopcfglcaa
open Go.RowKit Fl
set_option linter.unusedVariables false

theorem rim_check {X Y : Int} {W H W2 H2 : Nat} (h0 : checkR X Y W H = 0) (eW : W = W2 + 2) (eH : H = H2 + 2) (w1 : 1 ≤ W2) (h1 : 1 ≤ H2) : checkR (X + 1) (Y + 1) W2 H2 = 0 := by
  obtain ⟨b1, b2, b3, b4, b5, b6, b7, b8, b9⟩ := checkR_zero h0
  have m : W2 * H2 ≤ W * H := Nat.mul_le_mul (by omega) (by omega)
  have m' : ((W2 : Int) * (H2 : Int)) ≤ (W : Int) * (H : Int) := by
    have : ((W2 * H2 : Nat) : Int) ≤ ((W * H : Nat) : Int) := Int.ofNat_le.2 m
    simpa using this
  unfold checkR
  rw [if_neg (by omega), if_neg (by omega), if_neg (by omega)]

set_option maxHeartbeats 4000000 in
theorem shade_ok (X Y : Int) (W H n b cap W2 H2 : Nat) (v : Nat → Nat) (lx ly lz : Int) (w : World) (h0 : checkR X Y W H = 0) (hn : n = W * H) (hcap : n ≤ cap) (hcp : cap ≤ 9223372036854775807) (hc : FlAt w b 0 n v) (hh : allB n (fun i => hgtB (v i)) = true)
    (eW : W = W2 + 2) (eH : H = H2 + 2) (w1 : 1 ≤ W2) (g1 : 1 ≤ H2) (hd : dirE lx ly lz = 0) :
    Calls Try.prog 31 #[fldV X Y W H (.slice (some ⟨b, 0, none⟩) n cap), .int .i64 lx, .int .i64 ly, .int .i64 lz] w (ScPost w (X + 1) (Y + 1) W2 H2 (H2 * W2) (shaF (lenW lx ly lz) lx ly lz v W) 0) := by
  obtain ⟨b1, b2, b3, b4, b5, _⟩ := checkR_zero h0
  have h1 : 1 ≤ n := by rw [hn]; exact Nat.mul_pos (by omega) (by omega)
  have hnn : n = H * W := by rw [hn]; exact Nat.mul_comm _ _
  have hlt : b < w.heap.size := World.block_lt_of_cell? w _ (hc 0 h1)
  obtain ⟨l1, l2, l3, lp⟩ := dir_ok hd
  obtain ⟨_, hM⟩ := dir_len l1 l2 l3 lp
  have iW : (W : Int) - 2 = (W2 : Int) := by omega
  have iH : (H : Int) - 2 = (H2 : Int) := by omega
  have IN := Lib.hid (fun W' (hb : Below w.heap.size w W') => inner_any X Y W H n b cap v W' h0 hn (flAt_congr hc (hb.block _ hlt)) hh)
  have hi : innB W H = true := by unfold innB; simp; omega
  rw [hi, iW, iH] at IN
  simp only [if_true] at IN
  have CD := Lib.hid (fun k w (hk : w.heap[k]? = some (dirObj lx ly lz)) => checkDir_any lx ly lz k w hk)
  rw [hd] at CD
  have LN := Lib.hid (fun k w (hk : w.heap[k]? = some (dirObj lx ly lz)) => length_any lx ly lz k w hk l1 l2 l3 lp)
  generalize lenW lx ly lz = M at *
  have MK := Lib.hid (fun W' p pm (K : ShCaps W' X Y W H n b cap v p pm lx ly lz M) => make_ok (X + 1) (Y + 1) W2 H2 (H2 * W2) 119 #[.pointer (some ⟨p, 0, none⟩), .pointer (some ⟨p + 1, 0, none⟩), .pointer (some ⟨p + 1 + 1, 0, none⟩), .pointer (some ⟨p + 1 + 1 + 1, 0, none⟩), .pointer (some ⟨pm, 0, none⟩)] (shaF M lx ly lz v W) W' enters_Shade1
    (by have C := shade1_any X Y W H n b cap v p pm lx ly lz M W' K h0 hnn hcap hcp hh (by omega) (by omega) hM l1 l2 l3
        rw [iW, iH] at C; exact C) (rim_check h0 eW eH w1 g1) rfl)
  have HC := Lib.hid hc
  have hsf := fun (w : World) (a : Addr) (m : Mode) (k : FloatKind) (b : Nat) => run_store_float (P := Try.prog) (w := w) (a := a) (m := m) k b
  generalize shaF M lx ly lz v W = f at *
  generalize H2 * W2 = n2 at *
  clear h0 hn hnn hcap hcp hc hh eW eH w1 g1 hd b1 b2 b3 b4 b5 l1 l2 l3 lp hM iW iH hi h1
  go_enter Try.func31, Try.ntmps31
  go_wp2_with (first | (go_at_call 115; refine (IN.out _ (by repeat (first | exact Below.refl _ _ | refine Below.alloc ?_ (by first | omega | (simp; done) | (simp; omega)) _ | refine Below.setCell ?_ (by first | omega | (simp; done) | (simp; omega)) _ | refine Below.drew ?_))).mono ?_; rintro e w2 ⟨rfl, hb2⟩; have HF2 := Lib.hid (blkStay (b := w.heap.size) (o := fldO X Y W H (.slice (some ⟨b, 0, none⟩) n cap)) (by ((simp only [heap_alloc_get, heap_size_alloc, if_true]) <;> ((repeat' split) <;> first | rfl | omega))) hb2); have H12 := Lib.hid (blkStay (b := w.heap.size + 1) (o := inObj lx) (by ((simp only [heap_alloc_get, heap_size_alloc, if_true]) <;> ((repeat' split) <;> first | rfl | omega))) hb2); have H22 := Lib.hid (blkStay (b := w.heap.size + 1 + 1) (o := inObj ly) (by ((simp only [heap_alloc_get, heap_size_alloc, if_true]) <;> ((repeat' split) <;> first | rfl | omega))) hb2); have H32 := Lib.hid (blkStay (b := w.heap.size + 1 + 1 + 1) (o := inObj lz) (by ((simp only [heap_alloc_get, heap_size_alloc, if_true]) <;> ((repeat' split) <;> first | rfl | omega))) hb2); have HS2 := Lib.hid (blkStay (b := w.heap.size + 1 + 1 + 1 + 1) (o := fldO 0 0 0 0 (.slice none 0 0)) (by ((simp only [heap_alloc_get, heap_size_alloc, if_true]) <;> ((repeat' split) <;> first | rfl | omega))) hb2); have hB2 : Below w.heap.size w w2 := Below.trans (by repeat (first | exact Below.refl _ _ | refine Below.alloc ?_ (by first | omega | (simp; done) | (simp; omega)) _ | refine Below.setCell ?_ (by first | omega | (simp; done) | (simp; omega)) _ | refine Below.drew ?_)) (Below.mono hb2 (by first | omega | (simp; done) | (simp; omega))); clear hb2; obtain ⟨c1, f1, z1⟩ := blkC H12.out; obtain ⟨c2, f2, z2⟩ := blkC H22.out; obtain ⟨c3, f3, z3⟩ := blkC H32.out) | (go_at_call 116; refine (CD.out _ _ (by ((simp only [heap_alloc_get, heap_size_alloc, if_true]) <;> ((repeat' split) <;> first | rfl | omega)))).mono ?_; rintro e' w3 ⟨rfl, hw3⟩; have hb3 : Below w2.heap.size w2 w3 := (by rw [← hw3]; exact (by repeat (first | exact Below.refl _ _ | refine Below.alloc ?_ (by first | omega | (simp; done) | (simp; omega)) _ | refine Below.setCell ?_ (by first | omega | (simp; done) | (simp; omega)) _ | refine Below.drew ?_))); have HR3 := Lib.hid (show w3.heap[w2.heap.size]? = some (regObj (X + 1) (Y + 1) W2 H2) by rw [← hw3]; ((simp only [heap_alloc_get, heap_size_alloc, if_true]) <;> ((repeat' split) <;> first | rfl | omega))); have HF3 := Lib.hid (blkStay HF2.out hb3); have H13 := Lib.hid (blkStay H12.out hb3); have H23 := Lib.hid (blkStay H22.out hb3); have H33 := Lib.hid (blkStay H32.out hb3); have HS3 := Lib.hid (blkStay HS2.out hb3); have hB3 := hB2.trans (hb3.mono hB2.size); clear hw3 hb3 c1 f1 z1 c2 f2 z2 c3 f3 z3; obtain ⟨c1, f1, z1⟩ := blkC H13.out; obtain ⟨c2, f2, z2⟩ := blkC H23.out; obtain ⟨c3, f3, z3⟩ := blkC H33.out; obtain ⟨cR, fR, zR⟩ := blkC HR3.out) | (go_at_call 117; refine (LN.out _ _ (by ((simp only [heap_alloc_get, if_true]) <;> ((repeat' split) <;> first | rfl | omega)))).mono ?_; rintro e' w' ⟨rfl, rfl⟩))
  have hbA : Below w3.heap.size w3 ((w3.alloc (dirObj lx ly lz)).alloc (flObj M)) := (by repeat (first | exact Below.refl _ _ | refine Below.alloc ?_ (by first | omega | (simp; done) | (simp; omega)) _ | refine Below.setCell ?_ (by first | omega | (simp; done) | (simp; omega)) _ | refine Below.drew ?_))
  have z3 := hB3.size
  refine (MK.out _ w.heap.size (w3.heap.size + 1) ⟨blkStay HF3.out hbA, blkStay H13.out hbA, blkStay H23.out hbA, blkStay H33.out hbA, by ((simp only [heap_alloc_get, heap_size_alloc, if_true]) <;> ((repeat' split) <;> first | rfl | omega)), flAt_congr HC.out ((hB3.trans (hbA.mono z3)).block _ hlt)⟩).mono ?_
  intro e w4 hmade
  rcases hmade with ⟨hall, b', cap', rfl, hb', hlt', hrow, hbel⟩ | ⟨hall, rfl, hbel⟩
  · have hb24 : Below w3.heap.size w3 w4 := hbA.trans (hbel.mono hbA.size)
    have hz5 := hbA.size
    obtain ⟨cS, fS, zS⟩ := blkC (blkStay HS3.out hb24)
    go_wp2
    refine bodyPost_ret (v := .tuple #[fldV (X + 1) (Y + 1) W2 H2 (.slice (some ⟨b', 0, none⟩) n2 cap'), .int .i64 0]) (by simp [results, Try.results31, go_sem, cS]) rfl ?_
    exact .inr ⟨rfl, .inl ⟨hall, b', cap', rfl, by omega, by rw [set5_size]; exact hlt', flAt_congr hrow (set5_heap w4 _ _ _ _ _ _ _ (by have := HS3.out; have := (blkC this).2.2; omega)), set5_below (hB3.trans (hb24.mono z3)) _ _ _ _ _ _ (by omega)⟩⟩
  · have hb24 : Below w3.heap.size w3 w4 := hbA.trans (hbel.mono hbA.size)
    obtain ⟨cS, fS, zS⟩ := blkC (blkStay HS3.out hb24)
    go_wp2
    refine bodyPost_ret (v := .tuple #[fldV 0 0 0 0 (.slice none 0 0), .int .i64 3]) (by simp [results, Try.results31, go_sem, cS]) rfl ?_
    exact .inr ⟨rfl, .inr ⟨hall, rfl, set5_below (hB3.trans (hb24.mono z3)) _ _ _ _ _ _ (by omega)⟩⟩
end Go.Proofs.Ytmbiohopcfglcaa

/- Shade of the reference, of a right field that has a rim, and a right direction. -/
namespace Go.Proofs.Ytmbiohopcfglcaa
open Go.RowKit Fl
set_option linter.unusedVariables false

/-- Every value of a shade is told by its lit word. -/
theorem sha_all {X Y : Int} {W H n W2 H2 : Nat} {v : Nat → Nat} {M : Nat} {lx ly lz : Int} (hn : n = H * W) (hh : allB n (fun i => hgtB (v i)) = true) (eW : W = W2 + 2) (eH : H = H2 + 2) (w1 : 1 ≤ W2) (hM : LenOk M) (l1 : lx.natAbs ≤ 1000) (l2 : ly.natAbs ≤ 1000) (l3 : lz.natAbs ≤ 1000) (j : Nat) (hj : j < H2 * W2) :
    ∃ r a, shaF M lx ly lz v W j = shdW r ∧ vS r = some a ∧ r < 4294967296 := by
  have q1 : j % W2 < W2 := Nat.mod_lt _ (by omega)
  have q2 : j / W2 < H2 := Nat.div_lt_of_lt_mul (by rw [Nat.mul_comm]; exact hj)
  have e1 : (W - 2 : Nat) = W2 := by omega
  obtain ⟨p1, hp1⟩ : ∃ p, j % W2 = p := ⟨_, rfl⟩
  obtain ⟨p2, hp2⟩ : ∃ p, j / W2 = p := ⟨_, rfl⟩
  rw [hp1] at q1
  rw [hp2] at q2
  have hi : ((rimI W j : Nat) : Int) = ((Y + 1 + ((p2 : Nat) : Int)) - Y) * W + ((X + 1 + ((p1 : Nat) : Int)) - X) := by
    unfold rimI
    rw [e1, hp1, hp2]
    have : (((p2 + 1) * W + (p1 + 1) : Nat) : Int) = (((p2 : Nat) : Int) + 1) * W + (((p1 : Nat) : Int) + 1) := by simp
    rw [this, show (Y + 1 + ((p2 : Nat) : Int)) - Y = ((p2 : Nat) : Int) + 1 by omega, show (X + 1 + ((p1 : Nat) : Int)) - X = ((p1 : Nat) : Int) + 1 by omega]
  have I := in_cell hn (by omega) (show X + 1 + ((p1 : Nat) : Int) + 1 < X + W by omega) (by omega) (show Y + 1 + ((p2 : Nat) : Int) + 1 < Y + H by omega) hi
  obtain ⟨pp, q, u, m, a, X', Z, c, nx, ny, nz, e, f, s, d, t, r, S⟩ := sha_parts hh I hM l1 l2 l3
  obtain ⟨a', ha⟩ := S.lt.v
  exact ⟨r, a', S.w, ha, S.lt.lt⟩

set_option maxHeartbeats 4000000 in
theorem rshade_ok (X Y : Int) (W H n b cap W2 H2 : Nat) (v : Nat → Nat) (lx ly lz : Int) (w : World) (h0 : checkR X Y W H = 0) (hn : n = W * H) (hc : FlAt w b 0 n v) (hh : allB n (fun i => hgtB (v i)) = true)
    (eW : W = W2 + 2) (eH : H = H2 + 2) (w1 : 1 ≤ W2) (g1 : 1 ≤ H2) (hd : dirE lx ly lz = 0) :
    Calls Try.prog 32 #[fldV X Y W H (.slice (some ⟨b, 0, none⟩) n cap), .int .i64 lx, .int .i64 ly, .int .i64 lz] w (ScPost w (X + 1) (Y + 1) W2 H2 (H2 * W2) (shaF (lenW lx ly lz) lx ly lz v W) 0) := by
  obtain ⟨b1, b2, b3, b4, b5, _⟩ := checkR_zero h0
  have h1 : 1 ≤ n := by rw [hn]; exact Nat.mul_pos (by omega) (by omega)
  have hnn : n = H * W := by rw [hn]; exact Nat.mul_comm _ _
  have hlt : b < w.heap.size := World.block_lt_of_cell? w _ (hc 0 h1)
  obtain ⟨l1, l2, l3, lp⟩ := dir_ok hd
  obtain ⟨⟨Xr, Zr, cc, RT⟩, hM⟩ := dir_len l1 l2 l3 lp
  have iW : (W : Int) - 2 = (W2 : Int) := by omega
  have iH : (H : Int) - 2 = (H2 : Int) := by omega
  have IN := Lib.hid (fun W' => rinner_any X Y W H n b cap W' h0)
  have hi : innB W H = true := by unfold innB; simp; omega
  rw [hi, iW, iH] at IN
  simp only [if_true] at IN
  have CD := Lib.hid (fun w => lightError_any lx ly lz w)
  rw [hd] at CD
  have RO := Lib.hid (fun w => refRoot_any RT w)
  have s1 := sq_small l1
  have s2 := sq_small l2
  have s3 := sq_small l3
  have hwf : wf32 (H2 * W2) (shaF (lenW lx ly lz) lx ly lz v W) := fun j hj => by
    obtain ⟨r, a, e, _, l⟩ := sha_all (X := X) (Y := Y) hnn hh eW eH w1 hM l1 l2 l3 j hj
    rw [e]; exact shd_lt l
  unfold lenW at *
  generalize rootW (floatOfInt .f32 (sq3 lx ly lz)) = M at *
  have MK := Lib.hid (fun W' p pm (K : ShCaps W' X Y W H n b cap v p pm lx ly lz M) => made_any (X + 1) (Y + 1) W2 H2 (H2 * W2) 124 #[.pointer (some ⟨p, 0, none⟩), .pointer (some ⟨p + 1, 0, none⟩), .pointer (some ⟨p + 1 + 1, 0, none⟩), .pointer (some ⟨p + 1 + 1 + 1, 0, none⟩), .pointer (some ⟨pm, 0, none⟩)] (shaF M lx ly lz v W) W' enters_rShade1
    (by have C := rshade1_any X Y W H n b cap v p pm lx ly lz M W' K h0 hnn hh (by omega) (by omega) hM l1 l2 l3
        rw [iW, iH] at C; exact C) hwf (by omega) (by omega) (by omega) (by omega) (by omega) (by omega) (by omega) (by omega) rfl)
  have HC := Lib.hid hc
  have hsf := fun (w : World) (a : Addr) (m : Mode) (k : FloatKind) (b : Nat) => run_store_float (P := Try.prog) (w := w) (a := a) (m := m) k b
  obtain ⟨A, hA⟩ : ∃ A, lx * lx = A := ⟨_, rfl⟩
  obtain ⟨B, hB⟩ : ∃ B, ly * ly = B := ⟨_, rfl⟩
  obtain ⟨C, hC⟩ : ∃ C, lz * lz = C := ⟨_, rfl⟩
  have e3 : sq3 lx ly lz = A + B + C := by unfold sq3; rw [hA, hB, hC]
  rw [e3] at RO
  rw [hA] at s1
  rw [hB] at s2
  rw [hC] at s3
  have u1 : wrap64 (lx * lx) = A := by rw [hA]; exact IntWalk.wrap64_in _ ⟨by omega, by omega⟩
  have u2 : wrap64 (ly * ly) = B := by rw [hB]; exact IntWalk.wrap64_in _ ⟨by omega, by omega⟩
  have u3 : wrap64 (lz * lz) = C := by rw [hC]; exact IntWalk.wrap64_in _ ⟨by omega, by omega⟩
  have CV := Lib.hid (fun w => refConv_any (A + B + C) w)
  generalize shaF M lx ly lz v W = f at *
  generalize H2 * W2 = n2 at *
  clear h0 hn hnn hc hh eW eH w1 g1 hd b1 b2 b3 b4 b5 l1 l2 l3 lp hM iW iH hi h1 RT hwf hA hB hC e3
  go_enter Try.func32, Try.ntmps32
  go_wp2_with (first | (go_at_call 122; refine (IN.out _).mono ?_; rintro e w2 ⟨rfl, hb2⟩; have HF2 := Lib.hid (blkStay (b := w.heap.size) (o := fldO X Y W H (.slice (some ⟨b, 0, none⟩) n cap)) (by ((simp only [heap_alloc_get, heap_size_alloc, if_true]) <;> ((repeat' split) <;> first | rfl | omega))) hb2); have H12 := Lib.hid (blkStay (b := w.heap.size + 1) (o := inObj lx) (by ((simp only [heap_alloc_get, heap_size_alloc, if_true]) <;> ((repeat' split) <;> first | rfl | omega))) hb2); have H22 := Lib.hid (blkStay (b := w.heap.size + 1 + 1) (o := inObj ly) (by ((simp only [heap_alloc_get, heap_size_alloc, if_true]) <;> ((repeat' split) <;> first | rfl | omega))) hb2); have H32 := Lib.hid (blkStay (b := w.heap.size + 1 + 1 + 1) (o := inObj lz) (by ((simp only [heap_alloc_get, heap_size_alloc, if_true]) <;> ((repeat' split) <;> first | rfl | omega))) hb2); have HS2 := Lib.hid (blkStay (b := w.heap.size + 1 + 1 + 1 + 1) (o := fldO 0 0 0 0 (.slice none 0 0)) (by ((simp only [heap_alloc_get, heap_size_alloc, if_true]) <;> ((repeat' split) <;> first | rfl | omega))) hb2); have hB2 : Below w.heap.size w w2 := Below.trans (by repeat (first | exact Below.refl _ _ | refine Below.alloc ?_ (by first | omega | (simp; done) | (simp; omega)) _ | refine Below.setCell ?_ (by first | omega | (simp; done) | (simp; omega)) _ | refine Below.drew ?_)) (Below.mono hb2 (by first | omega | (simp; done) | (simp; omega))); clear hb2; obtain ⟨c1, f1, z1⟩ := blkC H12.out; obtain ⟨c2, f2, z2⟩ := blkC H22.out; obtain ⟨c3, f3, z3⟩ := blkC H32.out) | (go_at_call 123; refine (CD.out _).mono ?_; rintro e' w' ⟨rfl, rfl⟩) | (go_at_call 104; refine (CV.out _).mono ?_; rintro e' w' ⟨rfl, rfl⟩) | (go_at_call 103; refine (RO.out _).mono ?_; rintro e' w' ⟨rfl, rfl⟩))
  have hbA : Below w2.heap.size w2 ((w2.alloc (regObj (X + 1) (Y + 1) W2 H2)).alloc (flObj M)) := (by repeat (first | exact Below.refl _ _ | refine Below.alloc ?_ (by first | omega | (simp; done) | (simp; omega)) _ | refine Below.setCell ?_ (by first | omega | (simp; done) | (simp; omega)) _ | refine Below.drew ?_))
  have z2 := hB2.size
  refine (MK.out _ w.heap.size (w2.heap.size + 1) ⟨blkStay HF2.out hbA, blkStay H12.out hbA, blkStay H22.out hbA, blkStay H32.out hbA, by ((simp only [heap_alloc_get, heap_size_alloc, if_true]) <;> ((repeat' split) <;> first | rfl | omega)), flAt_congr HC.out ((hB2.trans (hbA.mono z2)).block _ hlt)⟩).mono ?_
  intro e w4 hmade
  rcases hmade with ⟨hall, b', cap', rfl, hb', hlt', hrow, hbel⟩ | ⟨hall, rfl, hbel⟩
  · have hb24 : Below w2.heap.size w2 w4 := hbA.trans (hbel.mono hbA.size)
    have hz5 := hbA.size
    obtain ⟨cS, fS, zS⟩ := blkC (blkStay HS2.out hb24)
    go_wp2
    refine bodyPost_ret (v := .tuple #[fldV (X + 1) (Y + 1) W2 H2 (.slice (some ⟨b', 0, none⟩) n2 cap'), .int .i64 0]) (by simp [results, Try.results32, go_sem, cS]) rfl ?_
    exact .inr ⟨rfl, .inl ⟨hall, b', cap', rfl, by omega, by rw [set5_size]; exact hlt', flAt_congr hrow (set5_heap w4 _ _ _ _ _ _ _ (by have := HS2.out; have := (blkC this).2.2; omega)), set5_below (hB2.trans (hb24.mono z2)) _ _ _ _ _ _ (by omega)⟩⟩
  · have hb24 : Below w2.heap.size w2 w4 := hbA.trans (hbel.mono hbA.size)
    obtain ⟨cS, fS, zS⟩ := blkC (blkStay HS2.out hb24)
    go_wp2
    refine bodyPost_ret (v := .tuple #[fldV 0 0 0 0 (.slice none 0 0), .int .i64 3]) (by simp [results, Try.results32, go_sem, cS]) rfl ?_
    exact .inr ⟨rfl, .inr ⟨hall, rfl, set5_below (hB2.trans (hb24.mono z2)) _ _ _ _ _ _ (by omega)⟩⟩
end Go.Proofs.Ytmbiohopcfglcaa

/- Shade of both sides, joined. -/
namespace Go.Proofs.Ytmbiohopcfglcaa
open Go.RowKit Fl
set_option linter.unusedVariables false

theorem shade_both (X Y : Int) (W H n b cap : Nat) (v : Nat → Nat) (lx ly lz : Int) (h0 : checkR X Y W H = 0) (hn : n = W * H) (hcap : n ≤ cap) (hcp : cap ≤ 9223372036854775807) (hh : allB n (fun i => hgtB (v i)) = true) :
    ∃ (X' Y' W' H' : Int) (n' : Nat) (f : Nat → Nat) (er : Int), 1 ≤ n' ∧ n' ≤ 65536 ∧ (∀ j, j < n' → (FloatKind.f32.format.order (f j) 0 == some .lt) = false) ∧
      (∀ w, FlAt w b 0 n v → Calls Try.prog 31 #[fldV X Y W H (.slice (some ⟨b, 0, none⟩) n cap), .int .i64 lx, .int .i64 ly, .int .i64 lz] w (ScPost w X' Y' W' H' n' f er)) ∧
      (∀ w, FlAt w b 0 n v → Calls Try.prog 32 #[fldV X Y W H (.slice (some ⟨b, 0, none⟩) n cap), .int .i64 lx, .int .i64 ly, .int .i64 lz] w (ScPost w X' Y' W' H' n' f er)) := by
  have hz : (FloatKind.f32.format.order 0 0 == some .lt) = false := by kernel_rfl
  cases hi : innB W H with
  | false =>
    exact ⟨0, 0, 0, 0, 1, fun _ => 0, 10, by omega, by omega, fun _ _ => hz,
      fun w hc => (shade_bad X Y W H n b cap v lx ly lz 10 w h0 hn hc hh (.inl ⟨hi, rfl⟩)).mono fun e w' h => .inl ⟨by decide, h.1, h.2⟩,
      fun w hc => (rshade_bad X Y W H n b cap v lx ly lz 10 w h0 hn hc hh (.inl ⟨hi, rfl⟩)).mono fun e w' h => .inl ⟨by decide, h.1, h.2⟩⟩
  | true =>
    by_cases hd : dirE lx ly lz = 0
    · have h3 : 3 ≤ (W : Int) ∧ 3 ≤ (H : Int) := by unfold innB at hi; exact of_decide_eq_true hi
      obtain ⟨h3, h4⟩ := h3
      obtain ⟨W2, eW⟩ : ∃ W2 : Nat, W = W2 + 2 := ⟨W - 2, by omega⟩
      obtain ⟨H2, eH⟩ : ∃ H2 : Nat, H = H2 + 2 := ⟨H - 2, by omega⟩
      have w1 : 1 ≤ W2 := by omega
      have g1 : 1 ≤ H2 := by omega
      have hnn : n = H * W := by rw [hn]; exact Nat.mul_comm _ _
      obtain ⟨l1, l2, l3, lp⟩ := dir_ok hd
      obtain ⟨_, hM⟩ := dir_len l1 l2 l3 lp
      obtain ⟨_, _, _, _, c5, _⟩ := checkR_zero (rim_check h0 eW eH w1 g1)
      have hz : ((H2 * W2 : Nat) : Int) ≤ 65536 := by rw [Nat.mul_comm]; simpa using c5
      refine ⟨X + 1, Y + 1, W2, H2, H2 * W2, shaF (lenW lx ly lz) lx ly lz v W, 0, Nat.mul_pos (by omega) (by omega), by omega, fun j hj => ?_, fun w hc => ?_, fun w hc => ?_⟩
      · obtain ⟨r, a, e, hr, _⟩ := sha_all (X := X) (Y := Y) hnn hh eW eH w1 hM l1 l2 l3 j hj
        rw [e]; exact shd_nn hr
      · exact shade_ok X Y W H n b cap W2 H2 v lx ly lz w h0 hn hcap hcp hc hh eW eH w1 g1 hd
      · exact rshade_ok X Y W H n b cap W2 H2 v lx ly lz w h0 hn hc hh eW eH w1 g1 hd
    · exact ⟨0, 0, 0, 0, 1, fun _ => 0, dirE lx ly lz, by omega, by omega, fun _ _ => hz,
        fun w hc => (shade_bad X Y W H n b cap v lx ly lz _ w h0 hn hc hh (.inr ⟨hi, rfl, hd⟩)).mono fun e w' h => .inl ⟨hd, h.1, h.2⟩,
        fun w hc => (rshade_bad X Y W H n b cap v lx ly lz _ w h0 hn hc hh (.inr ⟨hi, rfl, hd⟩)).mono fun e w' h => .inl ⟨hd, h.1, h.2⟩⟩
end Go.Proofs.Ytmbiohopcfglcaa

/- No value of a result lies below 0. -/
namespace Go.Proofs.Ytmbiohopcfglcaa
open Go.RowKit Fl
set_option linter.unusedVariables false

theorem enters_lShades1 : Enters 34 := by intro args W; simp [callFunc, Try.func34, Try.f34]

set_option maxHeartbeats 400000 in
theorem shades1_no (x : Nat) (h : (FloatKind.f32.format.order x 0 == some .lt) = false) (w : World) :
    Calls Try.prog 34 #[.float .f32 x] w fun e w' => e = .returned (.bool false) ∧ w = w' := by
  go_enter Try.func34, Try.ntmps34
  go_wp2
  go_ret
  exact ⟨by simp, rfl⟩

set_option maxHeartbeats 1000000 in
theorem indexFunc_none (b cap n : Nat) (v : Nat → Nat) (hl : n ≤ 9223372036854775807) (hv : ∀ j, j < n → (FloatKind.f32.format.order (v j) 0 == some .lt) = false) (w : World) (hc : FlAt w b 0 n v) :
    Calls Try.prog 127 #[.slice (some ⟨b, 0, none⟩) n cap, .func (.func 34) #[] #[]] w fun e w' => e = .returned (.int .i64 (-1)) ∧ w = w' := by
  have hcall := enters_lShades1
  unfold Enters at hcall
  have HV := Lib.hid hv
  clear hv
  go_enter Try.func127, Try.ntmps127
  go_wp2
  go_loop [8] (fun i => ∃ k : Nat, k ≤ n ∧ i = .int .i64 k) (fun i => n - (intOf i).toNat)
  case atStart => exact ⟨0, Nat.zero_le _, rfl⟩
  case round =>
    obtain ⟨k, hk, rfl⟩ := hrel
    by_cases hlt : k < n
    · have hcell := hc k hlt
      rw [Nat.zero_add] at hcell
      have IH := Lib.hid (fun w => shades1_no (v k) (HV.out k hlt) w)
      go_wp2_with fail
      refine (IH.out _).mono ?_
      rintro e w' ⟨rfl, rfl⟩
      go_wp2
      go_round
      case rel => exact ⟨k + 1, by omega, by go_num⟩
      case measure => simp [intOf]; omega
    · go_wp2
      go_ret
      exact ⟨rfl, rfl⟩

set_option maxHeartbeats 1000000 in
theorem indexFunc_nil (w : World) :
    Calls Try.prog 127 #[.slice none 0 0, .func (.func 34) #[] #[]] w fun e w' => e = .returned (.int .i64 (-1)) ∧ w = w' := by
  go_enter Try.func127, Try.ntmps127
  go_wp2
  go_loop [8] (fun i => i = .int .i64 0) (fun i => 0)
  case atStart => rfl
  case round =>
    subst hrel
    go_wp2
    go_ret
    exact ⟨rfl, rfl⟩

set_option maxHeartbeats 1000000 in
theorem contains_no {s f : Value} {w : World} (h : ∀ w', w = w' → Calls Try.prog 127 #[s, f] w' fun e w'' => e = .returned (.int .i64 (-1)) ∧ w' = w'') :
    Calls Try.prog 33 #[s, f] w fun e w' => e = .returned (.bool false) ∧ w = w' := by
  have IH := Lib.hid h
  clear h
  go_enter Try.func33, Try.ntmps33
  go_wp2_with (first | (go_at_call 127; refine (IH.out _ rfl).mono ?_; rintro e w' ⟨rfl, rfl⟩))
  go_ret
  exact ⟨rfl, rfl⟩

theorem res_no {lo : Nat} {w : World} {X Y W H : Int} {n : Nat} {f : Nat → Nat} {er x y u h : Int} {s : Value} {k : Int} (hl : n ≤ 65536) (hv : ∀ j, j < n → (FloatKind.f32.format.order (f j) 0 == some .lt) = false) (r : Res lo w X Y W H n f er x y u h s k) :
    Calls Try.prog 33 #[s, .func (.func 34) #[] #[]] w fun e w' => e = .returned (.bool false) ∧ w = w' := by
  rcases r with ⟨a1, rfl, rfl, rfl, rfl, rfl, rfl⟩ | ⟨a1, a2, rfl, rfl, rfl, rfl, ⟨b, cap, rfl, _, _, c⟩, rfl⟩ | ⟨a1, a2, rfl, rfl, rfl, rfl, rfl, rfl⟩
  · exact contains_no fun w' _ => indexFunc_nil w'
  · exact contains_no fun w' e => indexFunc_none b cap n f (by omega) hv w' (by rw [← e]; exact c)
  · exact contains_no fun w' _ => indexFunc_nil w'
end Go.Proofs.Ytmbiohopcfglcaa

/- Contracts of the regions' functions, continued: the reference's Grow; Common, Inside. -/
namespace Go.Proofs.Ytmbiohopcfglcaa
open Go.RowKit

set_option maxHeartbeats 1000000 in
theorem landed_any (w : World) : Calls Try.prog 14 #[] w fun e w' => e = .returned (.bool true) ∧ Below w.heap.size w w' := by
  go_enter Try.func14, Try.ntmps14
  go_wp2
  go_ret
  exact ⟨rfl, (by repeat (first | exact Below.refl _ _ | refine Below.alloc ?_ (by first | omega | (simp; done) | (simp; omega)) _ | refine Below.setCell ?_ (by first | omega | (simp; done) | (simp; omega)) _ | refine Below.drew ?_))⟩

def insideB (x y w h x' y' w' h' : Int) : Bool := decide (x' ≤ x) && decide (y' ≤ y) && decide (x + w ≤ x' + w') && decide (y + h ≤ y' + h')
theorem insideB_iff {x y w h x' y' w' h' : Int} : insideB x y w h x' y' w' h' = true ↔ x' ≤ x ∧ y' ≤ y ∧ x + w ≤ x' + w' ∧ y + h ≤ y' + h' := by simp [insideB]; omega

end Go.Proofs.Ytmbiohopcfglcaa

/- ShadesMatch: Shade answers as the reference does, for every field that fit makes and any direction, and no value lies below 0. -/
namespace Go.Proofs.Ytmbiohopcfglcaa
open Go.RowKit Fl
set_option linter.unusedVariables false

theorem al_below (w : World) (o : Obj) : Below w.heap.size w (w.alloc o) := (Below.refl _ _).alloc (Nat.le_refl _) o

set_option maxHeartbeats 4000000 in
theorem shadesMatch_any (X0 Y0 W0 H0 : Int) (sl : Value) (lx ly lz : Int) (w : World)
    (hfit : ∀ W', Below w.heap.size w W' → Calls Try.prog 19 #[fldV X0 Y0 W0 H0 sl] W' (FitPost W')) :
    Calls Try.prog 5 #[fldV X0 Y0 W0 H0 sl, .int .i64 lx, .int .i64 ly, .int .i64 lz] w fun e w' => e = .returned (.bool true) ∧ Below w.heap.size w w' := by
  have HF := Lib.hid hfit
  clear hfit
  go_enter Try.func5, Try.ntmps5
  go_wp2_with (first | (go_at_call 14; refine (landed_any _).mono ?_; rintro e w1 ⟨rfl, hb1⟩; have HA1 := Lib.hid (blkStay (b := w.heap.size) (o := fldO X0 Y0 W0 H0 sl) (heap_alloc_new w _) hb1); have hB1 : Below w.heap.size w w1 := Below.trans (by repeat (first | exact Below.refl _ _ | refine Below.alloc ?_ (by first | omega | (simp; done) | (simp; omega)) _ | refine Below.setCell ?_ (by first | omega | (simp; done) | (simp; omega)) _ | refine Below.drew ?_)) (Below.mono hb1 (by first | omega | (simp; done) | (simp; omega))); obtain ⟨cA, fA, zA⟩ := blkC HA1.out; clear hb1))
  refine (HF.out w1 hB1).mono ?_
  rintro e w2 ⟨X, Y, W', H', b, n, rfl, x1, x2, y1, y2, u1, u2, h1, h2, hn, hn1, hn2, hlo, hrow, hb2⟩
  obtain ⟨W, rfl⟩ : ∃ W : Nat, W' = W := ⟨W'.toNat, by omega⟩
  obtain ⟨H, rfl⟩ : ∃ H : Nat, H' = H := ⟨H'.toNat, by omega⟩
  obtain ⟨v, fv, wv, hv, bv⟩ := fit_fn hrow
  have h0 := fit_check x1 x2 y1 y2 u1 u2 h1 h2 hn hn2
  have hnn : n = W * H := by
    have : (n : Int) = ((W * H : Nat) : Int) := by rw [hn]; simp
    omega
  have HA2 := Lib.hid (blkStay HA1.out hb2)
  have hB2 : Below w.heap.size w w2 := hB1.trans (hb2.mono hB1.size)
  obtain ⟨cA, fA, zA⟩ := blkC HA2.out
  obtain ⟨X', Y', W', H', n', f, er, m1, m2, mv, R1, R2⟩ := shade_both X Y W H n b n v lx ly lz h0 hnn (Nat.le_refl _) (by omega) hv
  have S1 := Lib.hid R1
  have S2 := Lib.hid R2
  have MV := Lib.hid mv
  clear R1 R2 mv
  clear x1 x2 y1 y2 u1 u2 h1 h2 hn h0 hnn hrow hv wv
  have hbp : b ≠ w.heap.size := by have := hB1.size; omega
  have HA3 := Lib.hid (set5_self (.int .i64 X) (.int .i64 Y) (.int .i64 W) (.int .i64 H) (.slice (some ⟨b, 0, none⟩) n n) HA2.out)
  have F3 := Lib.hid (flAt_congr fv (set5_heap w2 w.heap.size b (.int .i64 X) (.int .i64 Y) (.int .i64 W) (.int .i64 H) (.slice (some ⟨b, 0, none⟩) n n) hbp))
  have hB3 := set5_below hB2 w.heap.size (.int .i64 X) (.int .i64 Y) (.int .i64 W) (.int .i64 H) (.slice (some ⟨b, 0, none⟩) n n) (Nat.le_refl _)
  clear hb2
  go_wp2_with fail
  refine (S1.out _ F3.out).mono ?_
  intro e w4 hp
  obtain ⟨x1, y1, u1, h1, p1, l1, q1, k1, rfl, r1, hb4⟩ := made_res hp
  have hx := set5_size w2 w.heap.size (.int .i64 X) (.int .i64 Y) (.int .i64 W) (.int .i64 H) (.slice (some ⟨b, 0, none⟩) n n)
  have F4 := Lib.hid (flAt_congr F3.out (hb4.block b (by rw [hx]; exact bv)))
  have HA4 := Lib.hid (blkStay HA3.out hb4)
  have hB4 := hB3.trans (hb4.mono hB3.size)
  have bv4 : b < w4.heap.size := by have := hb4.size; rw [hx] at this; omega
  clear hp
  rw [hx] at r1
  clear hb4 HA3 F3 hB3 hx cA fA zA HA2 hB2 hlo fv bv
  obtain ⟨cA, fA, zA⟩ := blkC HA4.out
  -- the reference's Select
  have hb5 := al_below w4 (fldO x1 y1 u1 h1 (.slice p1 l1 q1))
  have F5 := Lib.hid (flAt_congr F4.out (heap_alloc_old w4 (fldO x1 y1 u1 h1 (.slice p1 l1 q1)) bv4))
  have HA5 := Lib.hid ((heap_alloc_old w4 (fldO x1 y1 u1 h1 (.slice p1 l1 q1)) zA).trans HA4.out)
  have HQ5 := Lib.hid (heap_alloc_new w4 (fldO x1 y1 u1 h1 (.slice p1 l1 q1)))
  have R5 := Lib.hid (r1.stay hb5)
  go_wp2_with fail
  refine (S2.out _ F5.out).mono ?_
  intro e w6 hp
  obtain ⟨x2, y2, u2, h2, p2, l2, q2, k2, rfl, r2, hb6⟩ := made_res hp
  have hb46 := hb5.trans (hb6.mono hb5.size)
  have F6 := Lib.hid (flAt_congr F5.out (hb6.block b (by have := hb5.size; omega)))
  have HA6 := Lib.hid (blkStay HA5.out hb6)
  have HQ6 := Lib.hid (blkStay HQ5.out hb6)
  have R6 := Lib.hid (R5.out.stay hb6)
  have hB6 := hB4.trans (hb46.mono hB4.size)
  have bv6 : b < w6.heap.size := by have := hb46.size; omega
  clear r1 R5 HQ5 HA5 F5 hb5 hb46 hp F4 HA4 hb6 cA fA
  obtain ⟨cA, fA, zA6⟩ := blkC HA6.out
  obtain ⟨cQ, fQ, zQ6⟩ := blkC HQ6.out
  -- same
  have hb7 := al_below w6 (fldO x2 y2 u2 h2 (.slice p2 l2 q2))
  have F7 := Lib.hid (flAt_congr F6.out (heap_alloc_old w6 (fldO x2 y2 u2 h2 (.slice p2 l2 q2)) bv6))
  have HA7 := Lib.hid ((heap_alloc_old w6 (fldO x2 y2 u2 h2 (.slice p2 l2 q2)) zA6).trans HA6.out)
  have HQ7 := Lib.hid ((heap_alloc_old w6 (fldO x2 y2 u2 h2 (.slice p2 l2 q2)) zQ6).trans HQ6.out)
  have HR7 := Lib.hid (heap_alloc_new w6 (fldO x2 y2 u2 h2 (.slice p2 l2 q2)))
  have R7 := Lib.hid (R6.out.stay hb7)
  have T7 := Lib.hid (r2.stay hb7)
  go_wp2_with fail
  refine (same_res m1 (by omega) R7.out T7.out).mono ?_
  rintro e w8 ⟨rfl, hb8⟩
  have hb68 := hb7.trans (hb8.mono hb7.size)
  have HQ8 := Lib.hid (blkStay HQ7.out hb8)
  have NC := Lib.hid (res_no m2 MV.out (R7.out.stay hb8))
  have hB8 := hB6.trans (hb68.mono hB6.size)
  clear R6 r2 R7 T7 HR7 HQ7 HA7 F7 hb7 hb8 hb68 HQ6 HA6 F6 cA fA cQ fQ
  obtain ⟨cQ, fQ, zQ8⟩ := blkC HQ8.out
  go_wp2_with fail
  refine NC.out.mono ?_
  rintro e w' ⟨rfl, rfl⟩
  go_wp2
  go_ret
  exact ⟨rfl, hB8⟩
end Go.Proofs.Ytmbiohopcfglcaa

/- A field that came in, opened: four integers, and a slice of singles that is empty or known cell by cell. -/
namespace Go.Proofs.Ytmbiohopcfglcaa
open Go.ChangeShapes Go.WideShapes Go.ChangeAt Go.RowKit Go.Joins Fl

section
variable {H : Type} {enc : TypeId × Value → H} {w : World} {base : Nat} {spare : Nat → Bool} {held : Bool}

theorem trod_f32 {P : Program} {t : TypeId} {fuel : Nat} {v : Value} {y : DataW H × List MemPlace} (ht : P.underlying t = some (.float .f32)) (h : DataW.trod enc P w base spare held fuel t [v] = some y) : ∃ b, v = .float .f32 b ∧ b < 4294967296 := by
  cases fuel with
  | zero => simp [DataW.trod] at h
  | succ n =>
    unfold DataW.trod at h
    rw [ht] at h
    cases v <;> simp at h
    rename_i k b
    obtain ⟨⟨rfl, hw⟩, _⟩ := h
    exact ⟨b, rfl, by simpa [Lit.wf] using hw⟩

theorem array5 {α : Type} {cs : Array α} (h : cs.size = 5) : ∃ c0 c1 c2 c3 c4, cs = #[c0, c1, c2, c3, c4] := by
  obtain ⟨l⟩ := cs
  match l, h with
  | [c0, c1, c2, c3, c4], _ => exact ⟨c0, c1, c2, c3, c4, rfl⟩

theorem flAt_congr' {w w' : World} {b off n : Nat} {f : Nat → Nat} (h : FlAt w b off n f) (e : w'.heap[b]? = w.heap[b]?) : FlAt w' b off n f := fun i hi => by
  rw [← h i hi]; exact World.cell?_of_block (w := w) (a := ⟨b, off + i, none⟩) e

/-- What a slice of singles is: empty, or known cell by cell. -/
def SlF (w : World) (s : Value) : Prop :=
  (∃ a cap, s = .slice a 0 cap) ∨ ∃ b off len cap x, s = .slice (some ⟨b, off, none⟩) len cap ∧ 0 < len ∧ len ≤ 9223372036854775807 ∧ FlAt w b off len x ∧ wf32 len x

theorem open_singles {t e : TypeId} {fuel : Nat} {cs : List Value} {y : DataW H × List MemPlace} (ht : Try.prog.underlying t = some (.slice e)) (he : Try.prog.underlying e = some (.float .f32)) (hc : Try.prog.cellsOf e = 1)
    (h : DataW.trod enc Try.prog w base spare held fuel t cs = some y) : ∃ s, cs = [s] ∧ SlF w s := by
  rcases Go.Deep.open_slice1 ht hc h with ⟨rfl, _⟩ | ⟨a, len, cap, m, n, V, D, Pl, rfl, hb, hl, hm, hmm, _, hx⟩
  · exact ⟨_, rfl, .inl ⟨none, 0, rfl⟩⟩
  · refine ⟨_, rfl, ?_⟩
    rcases Nat.eq_zero_or_pos len with z | z
    · subst z; exact .inl ⟨_, _, rfl⟩
    · have hlm : len ≤ m := by rw [hmm]; split <;> omega
      have h0 := (hx 0 (by omega)).1
      obtain ⟨b, off, spot⟩ := a
      have hspot : spot = none := by simpa [Addr.add] using World.cell?_spot h0
      subst hspot
      have hv : ∀ i, i < len → ∃ x, V i = .float .f32 x ∧ x < 4294967296 := fun i hi => trod_f32 he (hx i (by omega)).2
      refine .inr ⟨b, off, len, cap, fun i => match V i with | .float _ x => x | _ => 0, rfl, z, ?_, fun i hi => ?_, fun i hi => ?_⟩
      · exact Nat.le_trans hl (Nat.le_trans hm (by decide))
      · have h1 := (hx i (by omega)).1
        obtain ⟨x, e1, _⟩ := hv i hi
        rw [← Go.WideShapes.add_plain, h1]
        simp only [e1]
      · obtain ⟨x, e1, e2⟩ := hv i hi
        simp only [e1]; exact e2

theorem cellsF : Try.prog.cellsOf 29 = 5 := by kernel_rfl
theorem cellsR : Try.prog.cellsOf 26 = 4 := by kernel_rfl
theorem cellsS : Try.prog.cellsOf 27 = 1 := by kernel_rfl
theorem cells1 : Try.prog.cellsOf 22 = 1 := by kernel_rfl
theorem cellsI : Try.prog.cellsOf 3 = 1 := by kernel_rfl

set_option maxRecDepth 100000 in
theorem open_field {r : Reach} {b0 : Nat} {v : Value} {d : DataW H} {p : List MemPlace} (hv : Value.okWide Try.prog w r b0 29 v) (h : DataW.Trod enc Try.prog w base spare held 29 v d p) :
    ∃ X Y W' H' : Int, ∃ s, v = fldV X Y W' H' s ∧ SlF w s := by
  obtain ⟨cs, rfl, hsz⟩ := okWide_struct Try.underlying29 hv
  obtain ⟨c0, c1, c2, c3, c4, rfl⟩ := array5 (hsz.trans cellsF)
  obtain ⟨fuel, hf⟩ := h
  obtain ⟨y0, y1, n, _, _, h0, h1⟩ := trod_struct2 Try.underlying29 hf
  rw [cellsR] at h0
  rw [cellsS] at h1
  obtain ⟨s, e4, hs⟩ := open_singles Try.underlying27 Try.underlying22 cells1 h1
  obtain ⟨z0, z1, z2, z3, n2, _, _, g0, g1, g2, g3⟩ := trod_struct4 Try.underlying26 h0
  rw [cellsI] at g0 g1 g2 g3
  obtain ⟨x0, e0, _, _⟩ := DataW.trod_int Try.underlying3 g0
  obtain ⟨x1, e1, _, _⟩ := DataW.trod_int Try.underlying3 g1
  obtain ⟨x2, e2, _, _⟩ := DataW.trod_int Try.underlying3 g2
  obtain ⟨x3, e3, _, _⟩ := DataW.trod_int Try.underlying3 g3
  simp [Value.cells] at e0 e1 e2 e3 e4
  subst e0 e1 e2 e3 e4
  exact ⟨x0, x1, x2, x3, _, rfl, hs⟩
end

theorem SlF.stay {w w' : World} {s : Value} (h : SlF w s) (hb : Below w.heap.size w w') : SlF w' s := by
  rcases h with h | ⟨b, off, len, cap, x, rfl, h1, h2, h3, h4⟩
  · exact .inl h
  · exact .inr ⟨b, off, len, cap, x, rfl, h1, h2, flAt_congr' h3 (hb.block _ (World.block_lt_of_cell? w _ (h3 0 h1))), h4⟩

/-- fit, of whatever slice. -/
theorem fit_any {X Y W H : Int} {s : Value} {w : World} (h : SlF w s) : Calls Try.prog 19 #[fldV X Y W H s] w (FitPost w) := by
  rcases h with ⟨a, cap, rfl⟩ | ⟨b, off, len, cap, x, rfl, h1, h2, h3, h4⟩
  · exact fit_none X Y W H a cap w
  · exact fit_some X Y W H b off len cap x w h1 h2 h3 h4

theorem laidOut : laidOutB Try.prog = true := by kernel_rfl
end Go.Proofs.Ytmbiohopcfglcaa

/- ShadesMatch, for every field and every three integers: what Shade answers is what the reference answers, bit by bit, and no value lies below 0. No condition. -/
namespace Go.Proofs.Ytmbiohopcfglcaa.shadesMatch
open Go.ChangeShapes Go.WideShapes Go.ChangeAt Go.RowKit Go.Joins
set_option linter.unusedVariables false

theorem own : ownKnob Try.prog.godebug = none := by kernel_rfl

set_option maxRecDepth 100000 in
theorem lifted (os : Os) (started : os.Started) (H : Type) (enc : TypeId × Value → H) :
    ReturnsInHanded {} Try.checked os 5 .any (Rows.shadesMatchSpec.pre6 enc Try.prog Try.f5 Rows.shadesMatchRow.domain false) (Rows.shadesMatchSpec.post enc Try.prog Try.f5 false true false false) := by
  refine returnsInHanded_of_change (C := Try.checked) own started (by kernel_rfl) Try.func5
    (ChangeSpec.witness6 (enc := enc) (C := Try.checked) false ⟨#[], #[fldV 0 0 0 0 (.slice none 0 0), .int .i64 0, .int .i64 0, .int .i64 0], []⟩ 8 (by kernel_rfl) (by kernel_rfl) (by kernel_rfl) (by kernel_rfl)) ?_
  intro W base args ds gs before hval0 hW hcnd _
  have hval : ∀ (j : Nat) t v, Try.f5.params[j]? = some t → args[j]? = some v → Value.okWide Try.prog W .any base t v := hval0
  have hW' := hW
  have hplt : ∀ x ∈ before, x.block < W.heap.size := fun x hx => by simpa using hW'.lt x hx
  obtain ⟨p, q, hA0, hV, rfl, hfz, hnd⟩ := hW
  have hA : DataW.TrodAll enc Try.prog W 0 (fun _ => true) true Try.f5.params.toList args.toList ds p := hA0
  rw [Try.params5] at hA hval
  obtain ⟨v0, vs0, d0, ds0, p0, q0, hargs, rfl, rfl, h0, r0⟩ := trodAll_cons hA
  obtain ⟨v1, vs1, d1, ds1, p1, q1, rfl, rfl, rfl, h1, r1⟩ := trodAll_cons r0
  obtain ⟨v2, vs2, d2, ds2, p2, q2, rfl, rfl, rfl, h2, r2⟩ := trodAll_cons r1
  obtain ⟨v3, vs3, d3, ds3, p3, q3, rfl, rfl, rfl, h3, r3⟩ := trodAll_cons r2
  obtain ⟨rfl, rfl, rfl⟩ := trodAll_nil r3
  obtain rfl : args = #[v0, v1, v2, v3] := by cases args; simp_all
  obtain ⟨rfl, rfl⟩ := trodVars_none hV
  obtain ⟨X, Y, W0, H0, s, rfl, hs⟩ := open_field (hval 0 29 v0 rfl rfl) h0
  obtain ⟨m, rfl, rfl, rfl, wm⟩ := open_int Try.underlying3 (hval 1 3 v1 rfl rfl) h1
  obtain ⟨c, rfl, rfl, rfl, wc⟩ := open_int Try.underlying3 (hval 2 3 v2 rfl rfl) h2
  obtain ⟨so, rfl, rfl, rfl, ws⟩ := open_int Try.underlying3 (hval 3 3 v3 rfl rfl) h3
  have hlt : ∀ x ∈ p0, x.block < W.heap.size := fun x hx => hplt x (by simp [hx])
  clear hA0 hval0 hplt
  simp only [List.append_nil] at hW'
  refine (shadesMatch_any X Y W0 H0 s m c so W (fun W' hb => fit_any (hs.stay hb))).mono fun e W' ⟨he, hb⟩ => ?_
  subst he
  exact ⟨_, rfl, _, _, _, [], _, [], hW', trodAll_cons_mk (shut_bool Try.underlying4 _) trodAll_mk0, trodAll_cons_mk (Below.trod laidOut (by kernel_rfl) (of_decide_eq_true (by kernel_rfl)) h0 hb hlt) (trodAll_cons_mk (shut_int Try.underlying3 wm) (trodAll_cons_mk (shut_int Try.underlying3 wc) (trodAll_cons_mk (shut_int Try.underlying3 ws) trodAll_mk0))), rfl, hb.frame _, fun h => by cases h⟩

theorem over : Rows.shadesMatchRow.holds Try.pinned (OpenSpec.ofChange Rows.shadesMatchSpec) :=
  OpenClaim.holds_of_wide 5 Try.f5 rfl rfl rfl rfl rfl rfl rfl ⟨rfl, rfl, rfl, rfl, rfl⟩ rfl rfl rfl rfl rfl (by kernel_rfl) Try.func5 (by kernel_rfl)
    (of_decide_eq_true (by kernel_rfl)) (by unfold Func.isWrapper; rw [if_neg (of_decide_eq_false (by kernel_rfl))]; exact ⟨rfl, rfl⟩)
    (fun os started H enc _ => lifted os started H enc)

theorem proved : Rows.ShadesMatchSaid :=
  over
#print axioms proved
end Go.Proofs.Ytmbiohopcfglcaa.shadesMatch
