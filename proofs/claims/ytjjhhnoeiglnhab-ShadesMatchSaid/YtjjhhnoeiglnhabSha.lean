/- The shade of one cell, as a word; what its steps come to. -/
import Derived.Test.YtjjhhnoeiglnhabSel
import Derived.Test.YtjjhhnoeiglnhabRoot
import Derived.Test.YtjjhhnoeiglnhabFl20
namespace Go.Proofs.Ytjjhhnoeiglnhab
open Go.RowKit Fl
set_option linter.unusedVariables false

/-- By how much the ground rises from one neighbour to the opposite one. -/
def riseW (a b : Nat) : Nat := mulW (subW a b) 1056964608
/-- The square of the rise, and the length of the normal before it is made 1. -/
def sqrW (dx dy : Nat) : Nat := addW (mulW dx dx) (mulW dy dy)
def nrmW (dx dy : Nat) : Nat := rootW (addW (sqrW dx dy) 1065353216)

theorem vS_half {j : Nat} (hj : j = 1073) : vS 1056964608 = some ((2 ^ j : Nat) : Int) := by
  have h : Ieee.single.read 1056964608 = .number false 8388608 (-24) := by decide
  rw [vS_lit (t := 1) (k := 23) (j := j) h (by decide) (by rw [hj]; decide)]; simp
theorem bd_half : Bd 0 1056964608 := by
  obtain ⟨j, hj⟩ : ∃ j : Nat, j = 1073 := ⟨_, rfl⟩
  obtain ⟨J, hJ⟩ : ∃ J : Nat, J = 1074 := ⟨_, rfl⟩
  exact bd_val' (j := J) (vS_half hj) (by omega) (by rw [Int.natAbs_natCast]; exact Nat.pow_le_pow_right (by omega) (by omega))

structure RiseAt (a b d r : Nat) : Prop where
  d1 : floatBits .sub .f32 a b = some d
  d2 : Same2 .sub 21 a b
  r1 : floatBits .mul .f32 d 1056964608 = some r
  r2 : Same2 .mul 21 d 1056964608
  bd : Bd 21 r
  w : riseW a b = r
  lt : r < 4294967296
theorem rise_parts {a b : Nat} (ha : hgtB a = true) (hb : hgtB b = true) : ∃ d r, RiseAt a b d r := by
  have d2 : Same2 .sub 21 a b := sub_same (k := 20) (by omega) (hgt_bd ha) (hgt_bd hb)
  obtain ⟨d, d1, bd⟩ := same_ex d2
  have r2 : Same2 .mul (21 + 0) d 1056964608 := mul_same (by omega) bd bd_half
  obtain ⟨r, r1, br⟩ := same_ex r2
  exact ⟨d, r, d1, d2, r1, r2, br, by unfold riseW subW mulW; rw [d1]; show (floatBits .mul .f32 d 1056964608).getD 0 = r; rw [r1]; rfl, mul_lt r1⟩

theorem square_nn {t r k : Nat} {B : Nat} (hb : Bd k t) (e : floatBits .mul .f32 t t = some r) (hB : 1074 + k + k < B) (hB' : B < 1202) : ∃ d, vS r = some d ∧ 0 ≤ d := by
  obtain ⟨a, h, ha⟩ := val_bd hb
  obtain ⟨P, hP⟩ := mul_unit h h
  have hone : (0 : Int) < (one : Int) := Int.natCast_pos.2 one_pos
  have sq : 0 ≤ a * a := by rw [← Int.natAbs_mul_self' a]; exact Int.mul_nonneg (Int.natCast_nonneg _) (Int.natCast_nonneg _)
  have P0 : 0 ≤ P := by
    rw [hP] at sq
    exact Int.le_of_mul_le_mul_right (by rw [Int.zero_mul]; exact sq) hone
  obtain ⟨J, hJ⟩ : ∃ J : Nat, J = 1074 := ⟨_, rfl⟩
  have lt : P.natAbs < 2 ^ B := by
    have e1 : a.natAbs * a.natAbs = P.natAbs * one := by rw [← Int.natAbs_mul, hP, Int.natAbs_mul, Int.natAbs_natCast]
    have e2 : a.natAbs * a.natAbs ≤ 2 ^ (J + k) * 2 ^ (J + k) := by rw [hJ]; exact Nat.mul_le_mul ha ha
    rw [e1, one_pow hJ, show 2 ^ (J + k) * 2 ^ (J + k) = 2 ^ (J + k + k) * 2 ^ J by rw [← Nat.pow_add, ← Nat.pow_add]; exact congrArg (2 ^ ·) (by omega)] at e2
    have e3 := Nat.le_of_mul_le_mul_right e2 (Nat.two_pow_pos J)
    exact Nat.lt_of_le_of_lt e3 (Nat.pow_lt_pow_right (by omega) (by omega))
  exact ⟨_, vS_mul (B := B) e h h hP lt (by omega), rdS_nonneg P0⟩

structure NrmAt (dx dy p q s u : Nat) (a : Int) (X Z : Nat) (c : Int) : Prop where
  p1 : floatBits .mul .f32 dx dx = some p
  p2 : Same2 .mul 42 dx dx
  q1 : floatBits .mul .f32 dy dy = some q
  q2 : Same2 .mul 42 dy dy
  s1 : floatBits .add .f32 p q = some s
  s2 : Same2 .add 43 p q
  u1 : floatBits .add .f32 s 1065353216 = some u
  u2 : Same2 .add 44 s 1065353216
  rt : RootAt u a X Z c
  c1 : (one : Int) ≤ c
  ws : sqrW dx dy = s
  w : nrmW dx dy = rootW u

theorem nrm_parts {dx dy : Nat} (hx : Bd 21 dx) (hy : Bd 21 dy) : ∃ p q s u a X Z c, NrmAt dx dy p q s u a X Z c := by
  have p2 : Same2 .mul (21 + 21) dx dx := mul_same (by omega) hx hx
  obtain ⟨p, p1, bp⟩ := same_ex p2
  have q2 : Same2 .mul (21 + 21) dy dy := mul_same (by omega) hy hy
  obtain ⟨q, q1, bq⟩ := same_ex q2
  have s2 : Same2 .add 43 p q := add_same (k := 42) (by omega) bp bq
  obtain ⟨s, s1, bs⟩ := same_ex s2
  have u2 : Same2 .add 44 s 1065353216 := add_same (k := 43) (by omega) bs (bd_one 43)
  obtain ⟨u, u1, bu⟩ := same_ex u2
  obtain ⟨B, hB⟩ : ∃ B : Nat, B = 1150 := ⟨_, rfl⟩
  obtain ⟨ap, vp, p0⟩ := square_nn (B := B) hx p1 (by omega) (by omega)
  obtain ⟨aq, vq, q0⟩ := square_nn (B := B) hy q1 (by omega) (by omega)
  obtain ⟨J, hJ⟩ : ∃ J : Nat, J = 1074 := ⟨_, rfl⟩
  have up : ∀ {x k : Nat} {a : Int}, Bd k x → vS x = some a → k ≤ 60 → a.natAbs < 2 ^ (J + 61) := by
    intro x k a hb hv hk
    obtain ⟨a', h', l'⟩ := val_bd hb
    rw [hv] at h'
    have := Option.some.inj h'
    subst this
    rw [← hJ] at l'
    exact Nat.lt_of_le_of_lt l' (Nat.pow_lt_pow_right (by omega) (by omega))
  have l1 := up bp vp (by omega)
  have l2 := up bq vq (by omega)
  have vs : vS s = some (rdS (ap + aq)) := vS_add (B := J + 62) s1 vp vq (by rw [show J + 62 = J + 61 + 1 by omega, Nat.pow_succ]; generalize 2 ^ (J + 61) = T at *; omega) (by omega)
  have s0 : 0 ≤ rdS (ap + aq) := rdS_nonneg (by omega)
  have l3 := up bs vs (by omega)
  have lo : one < 2 ^ (J + 61) := one_lt (by omega)
  have vu : vS u = some (rdS (rdS (ap + aq) + (one : Int))) := vS_add (B := J + 62) u1 vs vS_one (by rw [show J + 62 = J + 61 + 1 by omega, Nat.pow_succ]; generalize 2 ^ (J + 61) = T at *; generalize one = O at *; omega) (by omega)
  have u0 : (one : Int) ≤ rdS (rdS (ap + aq) + (one : Int)) := by
    have := rdS_mono (show (one : Int) ≤ rdS (ap + aq) + (one : Int) by generalize one = O at *; omega)
    rwa [rdS_self vS_one] at this
  obtain ⟨X, Z, c, RT⟩ := root_parts vu (by generalize one = O at *; omega) bu (by omega)
  have hc : (one : Int) ≤ c := by
    have := RT.lo 1 (by omega) (by simpa using u0)
    simpa using this
  have es : sqrW dx dy = s := by unfold sqrW mulW addW; rw [p1, q1]; show (floatBits .add .f32 p q).getD 0 = s; rw [s1]; rfl
  exact ⟨p, q, s, u, _, X, Z, c, p1, p2, q1, q2, s1, s2, u1, u2, RT, hc, es, by unfold nrmW addW; rw [es, u1]; rfl⟩

/-- The light on a cell ahead of the greater one of it and 0, and the shade. -/
def litW (M : Nat) (lx ly lz : Int) (dx dy : Nat) : Nat :=
  quoW (addW (addW (mulW (quoW (negW dx) (nrmW dx dy)) (floatOfInt .f32 lx)) (mulW (quoW (negW dy) (nrmW dx dy)) (floatOfInt .f32 ly))) (mulW (quoW 1065353216 (nrmW dx dy)) (floatOfInt .f32 lz))) M
def shdW (x : Nat) : Nat := if (FloatKind.f32.format.order 0 x == some .lt) = true then x else 0

/-- A length of a direction: its value is at least 1. -/
def LenOk (M : Nat) : Prop := ∃ c, vS M = some c ∧ (one : Int) ≤ c

structure LitAt (M : Nat) (lx ly lz : Int) (dx dy m nx ny nz a b s d t r : Nat) : Prop where
  nx1 : floatBits .quo .f32 (negW dx) m = some nx
  nx2 : Same2 .quo 21 (negW dx) m
  ny1 : floatBits .quo .f32 (negW dy) m = some ny
  ny2 : Same2 .quo 21 (negW dy) m
  nz1 : floatBits .quo .f32 1065353216 m = some nz
  nz2 : Same2 .quo 0 1065353216 m
  a1 : floatBits .mul .f32 nx (floatOfInt .f32 lx) = some a
  a2 : Same2 .mul 45 nx (floatOfInt .f32 lx)
  b1 : floatBits .mul .f32 ny (floatOfInt .f32 ly) = some b
  b2 : Same2 .mul 45 ny (floatOfInt .f32 ly)
  s1 : floatBits .add .f32 a b = some s
  s2 : Same2 .add 46 a b
  d1 : floatBits .mul .f32 nz (floatOfInt .f32 lz) = some d
  d2 : Same2 .mul 24 nz (floatOfInt .f32 lz)
  t1 : floatBits .add .f32 s d = some t
  t2 : Same2 .add 47 s d
  r1 : floatBits .quo .f32 t M = some r
  r2 : Same2 .quo 47 t M
  w : litW M lx ly lz dx dy = r
  v : ∃ a, vS r = some a
  lt : r < 4294967296

theorem quo_lt {x y r : Nat} (h : floatBits .quo .f32 x y = some r) : r < 4294967296 := opt_lt (d := (Ieee.single.read x).quotient _ (Ieee.single.read y)) h
theorem div_by {x m k : Nat} {c : Int} (hk : k ≤ 120) (hb : Bd k x) (hm : vS m = some c) (c1 : (one : Int) ≤ c) : Same2 .quo k x m := by
  obtain ⟨a, ha, l⟩ := val_bd hb
  have hp := one_pos
  refine div_val ha hm (by generalize one = O at *; omega) hk (Nat.le_trans l ?_)
  obtain ⟨J, hJ⟩ : ∃ J : Nat, J = 1074 := ⟨_, rfl⟩
  rw [show 1074 + k = J + k by omega, Nat.pow_add, ← one_pow hJ]
  exact Nat.mul_le_mul_right _ (by generalize one = O at *; omega)

theorem lit_parts {M dx dy m : Nat} {lx ly lz c : Int} (hx : Bd 21 dx) (hy : Bd 21 dy) (x1 : dx < 4294967296) (y1 : dy < 4294967296) (hm : nrmW dx dy = m) (vm : vS m = some c) (c1 : (one : Int) ≤ c) (hM : LenOk M)
    (l1 : lx.natAbs ≤ 1000) (l2 : ly.natAbs ≤ 1000) (l3 : lz.natAbs ≤ 1000) : ∃ nx ny nz a b s d t r, LitAt M lx ly lz dx dy m nx ny nz a b s d t r := by
  obtain ⟨cM, vM, cM1⟩ := hM
  obtain ⟨_, bx⟩ := int_val (n := lx) (by omega)
  obtain ⟨_, by'⟩ := int_val (n := ly) (by omega)
  obtain ⟨_, bz⟩ := int_val (n := lz) (by omega)
  have nx2 := div_by (k := 21) (by omega) (neg_bd x1 hx) vm c1
  obtain ⟨nx, nx1, bnx⟩ := same_ex nx2
  have ny2 := div_by (k := 21) (by omega) (neg_bd y1 hy) vm c1
  obtain ⟨ny, ny1, bny⟩ := same_ex ny2
  have nz2 := div_by (k := 0) (by omega) (bd_one 0) vm c1
  obtain ⟨nz, nz1, bnz⟩ := same_ex nz2
  have a2 : Same2 .mul (21 + 24) nx (floatOfInt .f32 lx) := mul_same (by omega) bnx bx
  obtain ⟨a, a1, ba⟩ := same_ex a2
  have b2 : Same2 .mul (21 + 24) ny (floatOfInt .f32 ly) := mul_same (by omega) bny by'
  obtain ⟨b, b1, bb⟩ := same_ex b2
  have s2 : Same2 .add 46 a b := add_same (k := 45) (by omega) ba bb
  obtain ⟨s, s1, bs⟩ := same_ex s2
  have d2 : Same2 .mul (0 + 24) nz (floatOfInt .f32 lz) := mul_same (by omega) bnz bz
  obtain ⟨d, d1, bd⟩ := same_ex d2
  have t2 : Same2 .add 47 s d := add_same (k := 46) (by omega) bs (bd_up bd (by omega))
  obtain ⟨t, t1, bt⟩ := same_ex t2
  have r2 := div_by (k := 47) (by omega) bt vM cM1
  obtain ⟨r, r1, br⟩ := same_ex r2
  obtain ⟨ar, vr, _⟩ := val_bd br
  refine ⟨nx, ny, nz, a, b, s, d, t, r, nx1, nx2, ny1, ny2, nz1, nz2, a1, a2, b1, b2, s1, s2, d1, d2, t1, t2, r1, r2, ?_, ⟨ar, vr⟩, quo_lt r1⟩
  unfold litW
  rw [hm]
  have e1 : quoW (negW dx) m = nx := by unfold quoW; rw [nx1]; rfl
  have e2 : quoW (negW dy) m = ny := by unfold quoW; rw [ny1]; rfl
  have e3 : quoW 1065353216 m = nz := by unfold quoW; rw [nz1]; rfl
  have e4 : mulW nx (floatOfInt .f32 lx) = a := by unfold mulW; rw [a1]; rfl
  have e5 : mulW ny (floatOfInt .f32 ly) = b := by unfold mulW; rw [b1]; rfl
  have e6 : addW a b = s := by unfold addW; rw [s1]; rfl
  have e7 : mulW nz (floatOfInt .f32 lz) = d := by unfold mulW; rw [d1]; rfl
  have e8 : addW s d = t := by unfold addW; rw [t1]; rfl
  rw [e1, e2, e3, e4, e5, e6, e7, e8]
  unfold quoW; rw [r1]; rfl

/-- A shade is not below 0. -/
theorem shd_nn {x : Nat} {a : Int} (h : vS x = some a) : (FloatKind.f32.format.order (shdW x) 0 == some .lt) = false := by
  unfold shdW
  split
  · rename_i c
    rw [f32f, lss_val vS_zero h] at c
    rw [f32f, lss_val h vS_zero]
    simp at c ⊢; omega
  · rw [f32f, lss_val vS_zero vS_zero]; simp
theorem shd_lt {x : Nat} (h : x < 4294967296) : shdW x < 4294967296 := by unfold shdW; split <;> first | exact h | decide
end Go.Proofs.Ytjjhhnoeiglnhab
