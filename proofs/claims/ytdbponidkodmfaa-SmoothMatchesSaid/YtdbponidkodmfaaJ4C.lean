/- Lemmas and contracts for the proof that the last text of this claim holds. -/
import Derived.Test.YtdbponidkodmfaaJ4B
import Derived.RegionTactic
import Derived.ChangeAlike
import Derived.StillTailTactics

/- The shade of one cell, as a word; what its steps come to. -/
namespace Go.Proofs.Ytdbponidkodmfaa
open Go.RowKit Fl
set_option linter.unusedVariables false

/-- By how much the ground rises from one neighbour to the opposite one. -/
def riseW (a b : Nat) : Nat := mulW (subW a b) 1056964608
/-- The square of the rise, and the length of the normal before it is made 1. -/
def sqrW (dx dy : Nat) : Nat := addW (mulW dx dx) (mulW dy dy)
def nrmW (dx dy : Nat) : Nat := rootW (addW (sqrW dx dy) 1065353216)

theorem vS_half {j : Nat} (hj : j = 1073) : vS 1056964608 = some ((2 ^ j : Nat) : Int) := by
  have h : Ieee.single.read 1056964608 = .number false 8388608 (-24) := by decide
  rw [vS_lit (t := 1) (k := 23) (j := j) h (by decide) (by rw [hj]; decide)]; simp
theorem bd_half : Bd 0 1056964608 := by
  obtain ⟨j, hj⟩ : ∃ j : Nat, j = 1073 := ⟨_, rfl⟩
  obtain ⟨J, hJ⟩ : ∃ J : Nat, J = 1074 := ⟨_, rfl⟩
  exact bd_val' (j := J) (vS_half hj) (by omega) (by rw [Int.natAbs_natCast]; exact Nat.pow_le_pow_right (by omega) (by omega))

structure RiseAt (a b d r : Nat) : Prop where
  d1 : floatBits .sub .f32 a b = some d
  d2 : Same2 .sub 21 a b
  r1 : floatBits .mul .f32 d 1056964608 = some r
  r2 : Same2 .mul 21 d 1056964608
  bd : Bd 21 r
  w : riseW a b = r
  lt : r < 4294967296
theorem rise_parts {a b : Nat} (ha : hgtB a = true) (hb : hgtB b = true) : ∃ d r, RiseAt a b d r := by
  have d2 : Same2 .sub 21 a b := sub_same (k := 20) (by omega) (hgt_bd ha) (hgt_bd hb)
  obtain ⟨d, d1, bd⟩ := same_ex d2
  have r2 : Same2 .mul (21 + 0) d 1056964608 := mul_same (by omega) bd bd_half
  obtain ⟨r, r1, br⟩ := same_ex r2
  exact ⟨d, r, d1, d2, r1, r2, br, by unfold riseW subW mulW; rw [d1]; show (floatBits .mul .f32 d 1056964608).getD 0 = r; rw [r1]; rfl, mul_lt r1⟩

theorem square_nn {t r k : Nat} {B : Nat} (hb : Bd k t) (e : floatBits .mul .f32 t t = some r) (hB : 1074 + k + k < B) (hB' : B < 1202) : ∃ d, vS r = some d ∧ 0 ≤ d := by
  obtain ⟨a, h, ha⟩ := val_bd hb
  obtain ⟨P, hP⟩ := mul_unit h h
  have hone : (0 : Int) < (one : Int) := Int.natCast_pos.2 one_pos
  have sq : 0 ≤ a * a := by rw [← Int.natAbs_mul_self' a]; exact Int.mul_nonneg (Int.natCast_nonneg _) (Int.natCast_nonneg _)
  have P0 : 0 ≤ P := by
    rw [hP] at sq
    exact Int.le_of_mul_le_mul_right (by rw [Int.zero_mul]; exact sq) hone
  obtain ⟨J, hJ⟩ : ∃ J : Nat, J = 1074 := ⟨_, rfl⟩
  have lt : P.natAbs < 2 ^ B := by
    have e1 : a.natAbs * a.natAbs = P.natAbs * one := by rw [← Int.natAbs_mul, hP, Int.natAbs_mul, Int.natAbs_natCast]
    have e2 : a.natAbs * a.natAbs ≤ 2 ^ (J + k) * 2 ^ (J + k) := by rw [hJ]; exact Nat.mul_le_mul ha ha
    rw [e1, one_pow hJ, show 2 ^ (J + k) * 2 ^ (J + k) = 2 ^ (J + k + k) * 2 ^ J by rw [← Nat.pow_add, ← Nat.pow_add]; exact congrArg (2 ^ ·) (by omega)] at e2
    have e3 := Nat.le_of_mul_le_mul_right e2 (Nat.two_pow_pos J)
    exact Nat.lt_of_le_of_lt e3 (Nat.pow_lt_pow_right (by omega) (by omega))
  exact ⟨_, vS_mul (B := B) e h h hP lt (by omega), rdS_nonneg P0⟩

structure NrmAt (dx dy p q s u : Nat) (a : Int) (X Z : Nat) (c : Int) : Prop where
  p1 : floatBits .mul .f32 dx dx = some p
  p2 : Same2 .mul 42 dx dx
  q1 : floatBits .mul .f32 dy dy = some q
  q2 : Same2 .mul 42 dy dy
  s1 : floatBits .add .f32 p q = some s
  s2 : Same2 .add 43 p q
  u1 : floatBits .add .f32 s 1065353216 = some u
  u2 : Same2 .add 44 s 1065353216
  rt : RootAt u a X Z c
  c1 : (one : Int) ≤ c
  ws : sqrW dx dy = s
  w : nrmW dx dy = rootW u

theorem nrm_parts {dx dy : Nat} (hx : Bd 21 dx) (hy : Bd 21 dy) : ∃ p q s u a X Z c, NrmAt dx dy p q s u a X Z c := by
  have p2 : Same2 .mul (21 + 21) dx dx := mul_same (by omega) hx hx
  obtain ⟨p, p1, bp⟩ := same_ex p2
  have q2 : Same2 .mul (21 + 21) dy dy := mul_same (by omega) hy hy
  obtain ⟨q, q1, bq⟩ := same_ex q2
  have s2 : Same2 .add 43 p q := add_same (k := 42) (by omega) bp bq
  obtain ⟨s, s1, bs⟩ := same_ex s2
  have u2 : Same2 .add 44 s 1065353216 := add_same (k := 43) (by omega) bs (bd_one 43)
  obtain ⟨u, u1, bu⟩ := same_ex u2
  obtain ⟨B, hB⟩ : ∃ B : Nat, B = 1150 := ⟨_, rfl⟩
  obtain ⟨ap, vp, p0⟩ := square_nn (B := B) hx p1 (by omega) (by omega)
  obtain ⟨aq, vq, q0⟩ := square_nn (B := B) hy q1 (by omega) (by omega)
  obtain ⟨J, hJ⟩ : ∃ J : Nat, J = 1074 := ⟨_, rfl⟩
  have up : ∀ {x k : Nat} {a : Int}, Bd k x → vS x = some a → k ≤ 60 → a.natAbs < 2 ^ (J + 61) := by
    intro x k a hb hv hk
    obtain ⟨a', h', l'⟩ := val_bd hb
    rw [hv] at h'
    have := Option.some.inj h'
    subst this
    rw [← hJ] at l'
    exact Nat.lt_of_le_of_lt l' (Nat.pow_lt_pow_right (by omega) (by omega))
  have l1 := up bp vp (by omega)
  have l2 := up bq vq (by omega)
  have vs : vS s = some (rdS (ap + aq)) := vS_add (B := J + 62) s1 vp vq (by rw [show J + 62 = J + 61 + 1 by omega, Nat.pow_succ]; generalize 2 ^ (J + 61) = T at *; omega) (by omega)
  have s0 : 0 ≤ rdS (ap + aq) := rdS_nonneg (by omega)
  have l3 := up bs vs (by omega)
  have lo : one < 2 ^ (J + 61) := one_lt (by omega)
  have vu : vS u = some (rdS (rdS (ap + aq) + (one : Int))) := vS_add (B := J + 62) u1 vs vS_one (by rw [show J + 62 = J + 61 + 1 by omega, Nat.pow_succ]; generalize 2 ^ (J + 61) = T at *; generalize one = O at *; omega) (by omega)
  have u0 : (one : Int) ≤ rdS (rdS (ap + aq) + (one : Int)) := by
    have := rdS_mono (show (one : Int) ≤ rdS (ap + aq) + (one : Int) by generalize one = O at *; omega)
    rwa [rdS_self vS_one] at this
  obtain ⟨X, Z, c, RT⟩ := root_parts vu (by generalize one = O at *; omega) bu (by omega)
  have hc : (one : Int) ≤ c := by
    have := RT.lo 1 (by omega) (by simpa using u0)
    simpa using this
  have es : sqrW dx dy = s := by unfold sqrW mulW addW; rw [p1, q1]; show (floatBits .add .f32 p q).getD 0 = s; rw [s1]; rfl
  exact ⟨p, q, s, u, _, X, Z, c, p1, p2, q1, q2, s1, s2, u1, u2, RT, hc, es, by unfold nrmW addW; rw [es, u1]; rfl⟩

/-- The light on a cell ahead of the greater one of it and 0, and the shade. -/
def litW (M : Nat) (lx ly lz : Int) (dx dy : Nat) : Nat :=
  quoW (addW (addW (mulW (quoW (negW dx) (nrmW dx dy)) (floatOfInt .f32 lx)) (mulW (quoW (negW dy) (nrmW dx dy)) (floatOfInt .f32 ly))) (mulW (quoW 1065353216 (nrmW dx dy)) (floatOfInt .f32 lz))) M
def shdW (x : Nat) : Nat := if (FloatKind.f32.format.order 0 x == some .lt) = true then x else 0

/-- A length of a direction: its value is at least 1. -/
def LenOk (M : Nat) : Prop := ∃ c, vS M = some c ∧ (one : Int) ≤ c

structure LitAt (M : Nat) (lx ly lz : Int) (dx dy m nx ny nz a b s d t r : Nat) : Prop where
  nx1 : floatBits .quo .f32 (negW dx) m = some nx
  nx2 : Same2 .quo 21 (negW dx) m
  ny1 : floatBits .quo .f32 (negW dy) m = some ny
  ny2 : Same2 .quo 21 (negW dy) m
  nz1 : floatBits .quo .f32 1065353216 m = some nz
  nz2 : Same2 .quo 0 1065353216 m
  a1 : floatBits .mul .f32 nx (floatOfInt .f32 lx) = some a
  a2 : Same2 .mul 45 nx (floatOfInt .f32 lx)
  b1 : floatBits .mul .f32 ny (floatOfInt .f32 ly) = some b
  b2 : Same2 .mul 45 ny (floatOfInt .f32 ly)
  s1 : floatBits .add .f32 a b = some s
  s2 : Same2 .add 46 a b
  d1 : floatBits .mul .f32 nz (floatOfInt .f32 lz) = some d
  d2 : Same2 .mul 24 nz (floatOfInt .f32 lz)
  t1 : floatBits .add .f32 s d = some t
  t2 : Same2 .add 47 s d
  r1 : floatBits .quo .f32 t M = some r
  r2 : Same2 .quo 47 t M
  w : litW M lx ly lz dx dy = r
  v : ∃ a, vS r = some a
  lt : r < 4294967296

theorem quo_lt {x y r : Nat} (h : floatBits .quo .f32 x y = some r) : r < 4294967296 := opt_lt (d := (Ieee.single.read x).quotient _ (Ieee.single.read y)) h
theorem div_by {x m k : Nat} {c : Int} (hk : k ≤ 120) (hb : Bd k x) (hm : vS m = some c) (c1 : (one : Int) ≤ c) : Same2 .quo k x m := by
  obtain ⟨a, ha, l⟩ := val_bd hb
  have hp := one_pos
  refine div_val ha hm (by generalize one = O at *; omega) hk (Nat.le_trans l ?_)
  obtain ⟨J, hJ⟩ : ∃ J : Nat, J = 1074 := ⟨_, rfl⟩
  rw [show 1074 + k = J + k by omega, Nat.pow_add, ← one_pow hJ]
  exact Nat.mul_le_mul_right _ (by generalize one = O at *; omega)

theorem lit_parts {M dx dy m : Nat} {lx ly lz c : Int} (hx : Bd 21 dx) (hy : Bd 21 dy) (x1 : dx < 4294967296) (y1 : dy < 4294967296) (hm : nrmW dx dy = m) (vm : vS m = some c) (c1 : (one : Int) ≤ c) (hM : LenOk M)
    (l1 : lx.natAbs ≤ 1000) (l2 : ly.natAbs ≤ 1000) (l3 : lz.natAbs ≤ 1000) : ∃ nx ny nz a b s d t r, LitAt M lx ly lz dx dy m nx ny nz a b s d t r := by
  obtain ⟨cM, vM, cM1⟩ := hM
  obtain ⟨_, bx⟩ := int_val (n := lx) (by omega)
  obtain ⟨_, by'⟩ := int_val (n := ly) (by omega)
  obtain ⟨_, bz⟩ := int_val (n := lz) (by omega)
  have nx2 := div_by (k := 21) (by omega) (neg_bd x1 hx) vm c1
  obtain ⟨nx, nx1, bnx⟩ := same_ex nx2
  have ny2 := div_by (k := 21) (by omega) (neg_bd y1 hy) vm c1
  obtain ⟨ny, ny1, bny⟩ := same_ex ny2
  have nz2 := div_by (k := 0) (by omega) (bd_one 0) vm c1
  obtain ⟨nz, nz1, bnz⟩ := same_ex nz2
  have a2 : Same2 .mul (21 + 24) nx (floatOfInt .f32 lx) := mul_same (by omega) bnx bx
  obtain ⟨a, a1, ba⟩ := same_ex a2
  have b2 : Same2 .mul (21 + 24) ny (floatOfInt .f32 ly) := mul_same (by omega) bny by'
  obtain ⟨b, b1, bb⟩ := same_ex b2
  have s2 : Same2 .add 46 a b := add_same (k := 45) (by omega) ba bb
  obtain ⟨s, s1, bs⟩ := same_ex s2
  have d2 : Same2 .mul (0 + 24) nz (floatOfInt .f32 lz) := mul_same (by omega) bnz bz
  obtain ⟨d, d1, bd⟩ := same_ex d2
  have t2 : Same2 .add 47 s d := add_same (k := 46) (by omega) bs (bd_up bd (by omega))
  obtain ⟨t, t1, bt⟩ := same_ex t2
  have r2 := div_by (k := 47) (by omega) bt vM cM1
  obtain ⟨r, r1, br⟩ := same_ex r2
  obtain ⟨ar, vr, _⟩ := val_bd br
  refine ⟨nx, ny, nz, a, b, s, d, t, r, nx1, nx2, ny1, ny2, nz1, nz2, a1, a2, b1, b2, s1, s2, d1, d2, t1, t2, r1, r2, ?_, ⟨ar, vr⟩, quo_lt r1⟩
  unfold litW
  rw [hm]
  have e1 : quoW (negW dx) m = nx := by unfold quoW; rw [nx1]; rfl
  have e2 : quoW (negW dy) m = ny := by unfold quoW; rw [ny1]; rfl
  have e3 : quoW 1065353216 m = nz := by unfold quoW; rw [nz1]; rfl
  have e4 : mulW nx (floatOfInt .f32 lx) = a := by unfold mulW; rw [a1]; rfl
  have e5 : mulW ny (floatOfInt .f32 ly) = b := by unfold mulW; rw [b1]; rfl
  have e6 : addW a b = s := by unfold addW; rw [s1]; rfl
  have e7 : mulW nz (floatOfInt .f32 lz) = d := by unfold mulW; rw [d1]; rfl
  have e8 : addW s d = t := by unfold addW; rw [t1]; rfl
  rw [e1, e2, e3, e4, e5, e6, e7, e8]
  unfold quoW; rw [r1]; rfl

/-- A shade is not below 0. -/
theorem shd_nn {x : Nat} {a : Int} (h : vS x = some a) : (FloatKind.f32.format.order (shdW x) 0 == some .lt) = false := by
  unfold shdW
  split
  · rename_i c
    rw [f32f, lss_val vS_zero h] at c
    rw [f32f, lss_val h vS_zero]
    simp at c ⊢; omega
  · rw [f32f, lss_val vS_zero vS_zero]; simp
theorem shd_lt {x : Nat} (h : x < 4294967296) : shdW x < 4294967296 := by unfold shdW; split <;> first | exact h | decide
end Go.Proofs.Ytdbponidkodmfaa

/- Contracts: Same$1, EqualFunc, Same, same. -/
namespace Go.Proofs.Ytdbponidkodmfaa
open Go.RowKit Fl
set_option linter.unusedVariables false

theorem enters_Same1 : Enters 116 := by intro args W; simp [callFunc, Try.func116, Try.f116]

set_option maxHeartbeats 400000 in
theorem same1_self (x : Nat) (w : World) :
    Calls Try.prog 116 #[.float .f32 x, .float .f32 x] w fun e w' => e = .returned (.bool true) ∧ w = w' := by
  have h1 := f32bits
  go_enter Try.func116, Try.ntmps116
  go_wp2
  go_ret
  exact ⟨rfl, rfl⟩

set_option maxHeartbeats 1000000 in
theorem equalFunc_row (b b' cap cap' n : Nat) (v : Nat → Nat) (hl : n ≤ 9223372036854775807) (w : World) (hc : FlAt w b 0 n v) (hc' : FlAt w b' 0 n v) :
    Calls Try.prog 115 #[.slice (some ⟨b, 0, none⟩) n cap, .slice (some ⟨b', 0, none⟩) n cap', .func (.func 116) #[] #[]] w fun e w' => e = .returned (.bool true) ∧ w = w' := by
  have hcall := enters_Same1
  unfold Enters at hcall
  go_enter Try.func115, Try.ntmps115
  go_wp2
  go_loop [17] (fun i => ∃ k : Nat, k ≤ n ∧ i = .int .i64 k) (fun i => n - (intOf i).toNat)
  case atStart => exact ⟨0, Nat.zero_le _, rfl⟩
  case round =>
    obtain ⟨k, hk, rfl⟩ := hrel
    by_cases hlt : k < n
    · have hcell := hc k hlt
      have hcell' := hc' k hlt
      rw [Nat.zero_add] at hcell hcell'
      have IH := Lib.hid (fun w => same1_self (v k) w)
      go_wp2_with fail
      refine (IH.out _).mono ?_
      rintro e w' ⟨rfl, rfl⟩
      go_wp2
      go_round
      case rel => exact ⟨k + 1, by omega, by go_num⟩
      case measure => simp [intOf]; omega
    · go_wp2
      go_ret
      exact ⟨rfl, rfl⟩

set_option maxHeartbeats 1000000 in
theorem same_ok (X Y W H : Int) (b b' cap cap' n : Nat) (v : Nat → Nat) (hl : n ≤ 9223372036854775807) (h1 : 1 ≤ n) (w : World) (hc : FlAt w b 0 n v) (hc' : FlAt w b' 0 n v) :
    Calls Try.prog 47 #[fldV X Y W H (.slice (some ⟨b, 0, none⟩) n cap), fldV X Y W H (.slice (some ⟨b', 0, none⟩) n cap')] w fun e w' => e = .returned (.bool true) ∧ Below w.heap.size w w' := by
  have z := World.block_lt_of_cell? w _ (hc 0 h1)
  have z' := World.block_lt_of_cell? w _ (hc' 0 h1)
  have EF := Lib.hid (fun W' (hb : Below w.heap.size w W') => equalFunc_row b b' cap cap' n v hl W' (flAt_congr hc (hb.block _ z)) (flAt_congr hc' (hb.block _ z')))
  clear hc hc'
  go_enter Try.func47, Try.ntmps47
  go_wp2_with (first | (go_at_call 115; refine (EF.out _ (by repeat (first | exact Below.refl _ _ | refine Below.alloc ?_ (by first | omega | (simp; done) | (simp; omega)) _ | refine Below.setCell ?_ (by first | omega | (simp; done) | (simp; omega)) _ | refine Below.drew ?_))).mono ?_; rintro e w' ⟨rfl, rfl⟩))
  go_ret
  exact ⟨rfl, (by repeat (first | exact Below.refl _ _ | refine Below.alloc ?_ (by first | omega | (simp; done) | (simp; omega)) _ | refine Below.setCell ?_ (by first | omega | (simp; done) | (simp; omega)) _ | refine Below.drew ?_))⟩

set_option maxHeartbeats 1000000 in
theorem law_same_ok (X Y W H : Int) (b b' cap cap' n : Nat) (v : Nat → Nat) (hl : n ≤ 9223372036854775807) (h1 : 1 ≤ n) (w : World) (hc : FlAt w b 0 n v) (hc' : FlAt w b' 0 n v) :
    Calls Try.prog 13 #[fldV X Y W H (.slice (some ⟨b, 0, none⟩) n cap), .int .i64 0, fldV X Y W H (.slice (some ⟨b', 0, none⟩) n cap'), .int .i64 0] w fun e w' => e = .returned (.bool true) ∧ Below w.heap.size w w' := by
  have z := World.block_lt_of_cell? w _ (hc 0 h1)
  have z' := World.block_lt_of_cell? w _ (hc' 0 h1)
  have SM := Lib.hid (fun W' (hb : Below w.heap.size w W') => same_ok X Y W H b b' cap cap' n v hl h1 W' (flAt_congr hc (hb.block _ z)) (flAt_congr hc' (hb.block _ z')))
  clear hc hc'
  go_enter Try.func13, Try.ntmps13
  go_wp2_with (first | (go_at_call 47; refine (SM.out _ (by repeat (first | exact Below.refl _ _ | refine Below.alloc ?_ (by first | omega | (simp; done) | (simp; omega)) _ | refine Below.setCell ?_ (by first | omega | (simp; done) | (simp; omega)) _ | refine Below.drew ?_))).mono ?_; rintro e w2 ⟨rfl, hb2⟩))
  go_ret
  exact ⟨rfl, Below.trans (by repeat (first | exact Below.refl _ _ | refine Below.alloc ?_ (by first | omega | (simp; done) | (simp; omega)) _ | refine Below.setCell ?_ (by first | omega | (simp; done) | (simp; omega)) _ | refine Below.drew ?_)) (Below.mono hb2 (by simp; try omega))⟩

set_option maxHeartbeats 1000000 in
theorem law_same_err (e1 : Int) (he : e1 ≠ 0) (w : World) :
    Calls Try.prog 13 #[fldV 0 0 0 0 (.slice none 0 0), .int .i64 e1, fldV 0 0 0 0 (.slice none 0 0), .int .i64 e1] w fun e w' => e = .returned (.bool true) ∧ Below w.heap.size w w' := by
  have hb : (e1 != 0) = true := by simp [he]
  go_enter Try.func13, Try.ntmps13
  go_wp2
  go_ret
  exact ⟨rfl, (by repeat (first | exact Below.refl _ _ | refine Below.alloc ?_ (by first | omega | (simp; done) | (simp; omega)) _ | refine Below.setCell ?_ (by first | omega | (simp; done) | (simp; omega)) _ | refine Below.drew ?_))⟩

end Go.Proofs.Ytdbponidkodmfaa

/- What the two sides answer, told alike: so the law's walk has one way. -/
namespace Go.Proofs.Ytdbponidkodmfaa
open Go.RowKit Fl
set_option linter.unusedVariables false

/-- A result (the field x y u h s, the error k) of a function that makes f over a region, behind the error er. -/
def Res (lo : Nat) (w : World) (X Y W H : Int) (n : Nat) (f : Nat → Nat) (er : Int) (x y u h : Int) (s : Value) (k : Int) : Prop :=
  (er ≠ 0 ∧ x = 0 ∧ y = 0 ∧ u = 0 ∧ h = 0 ∧ s = .slice none 0 0 ∧ k = er) ∨
  (er = 0 ∧ allB n (fun i => hgtB (f i)) = true ∧ x = X ∧ y = Y ∧ u = W ∧ h = H ∧ (∃ b cap, s = .slice (some ⟨b, 0, none⟩) n cap ∧ lo ≤ b ∧ b < w.heap.size ∧ FlAt w b 0 n f) ∧ k = 0) ∨
  (er = 0 ∧ allB n (fun i => hgtB (f i)) = false ∧ x = 0 ∧ y = 0 ∧ u = 0 ∧ h = 0 ∧ s = .slice none 0 0 ∧ k = 3)
theorem Res.stay {lo : Nat} {w w' : World} {X Y W H : Int} {n : Nat} {f : Nat → Nat} {er x y u h : Int} {s : Value} {k : Int} (r : Res lo w X Y W H n f er x y u h s k) (hb : Below w.heap.size w w') : Res lo w' X Y W H n f er x y u h s k := by
  rcases r with r | ⟨r1, r2, r3, r4, r5, r6, ⟨b, cap, r7, r0, r8, r9⟩, r10⟩ | r
  · exact .inl r
  · exact .inr (.inl ⟨r1, r2, r3, r4, r5, r6, ⟨b, cap, r7, r0, Nat.lt_of_lt_of_le r8 hb.size, flAt_congr r9 (hb.block _ r8)⟩, r10⟩)
  · exact .inr (.inr r)
theorem Res.heap {lo : Nat} {w w' : World} {X Y W H : Int} {n : Nat} {f : Nat → Nat} {er x y u h : Int} {s : Value} {k : Int} (r : Res lo w X Y W H n f er x y u h s k) {p : Nat} (hz : w.heap.size ≤ w'.heap.size) (hne : p < lo) (hb : ∀ b, b ≠ p → b < w.heap.size → w'.heap[b]? = w.heap[b]?) : Res lo w' X Y W H n f er x y u h s k := by
  rcases r with r | ⟨r1, r2, r3, r4, r5, r6, ⟨b, cap, r7, r0, r8, r9⟩, r10⟩ | r
  · exact .inl r
  · exact .inr (.inl ⟨r1, r2, r3, r4, r5, r6, ⟨b, cap, r7, r0, Nat.lt_of_lt_of_le r8 hz, flAt_congr r9 (hb _ (by omega) r8)⟩, r10⟩)
  · exact .inr (.inr r)

theorem made_res {w w' : World} {X Y W H : Int} {n : Nat} {f : Nat → Nat} {er : Int} {e : Ending} (h : ScPost w X Y W H n f er e w') :
    ∃ x y u hh : Int, ∃ a : Option Addr, ∃ l cp : Nat, ∃ k : Int, e = .returned (.tuple #[fldV x y u hh (.slice a l cp), .int .i64 k]) ∧ Res w.heap.size w' X Y W H n f er x y u hh (.slice a l cp) k ∧ Below w.heap.size w w' := by
  rcases h with ⟨h1, h2, h3⟩ | ⟨h1, ⟨h2, b, cap, h3, h4, h5, h6, h7⟩ | ⟨h2, h3, h4⟩⟩
  · exact ⟨_, _, _, _, _, _, _, _, h2, .inl ⟨h1, rfl, rfl, rfl, rfl, rfl, rfl⟩, h3⟩
  · exact ⟨_, _, _, _, _, _, _, _, h3, .inr (.inl ⟨h1, h2, rfl, rfl, rfl, rfl, ⟨b, cap, rfl, h4, h5, h6⟩, rfl⟩), h7⟩
  · exact ⟨_, _, _, _, _, _, _, _, h3, .inr (.inr ⟨h1, h2, rfl, rfl, rfl, rfl, rfl, rfl⟩), h4⟩

/-- Two results of one thing are the same to the law. -/
theorem same_res {W0 : World} {X Y W H : Int} {n : Nat} {f : Nat → Nat} {er x y u h x' y' u' h' : Int} {s s' : Value} {k k' : Int} (hn : 1 ≤ n) (hl : n ≤ 9223372036854775807)
    {lo lo' : Nat} (r : Res lo W0 X Y W H n f er x y u h s k) (r' : Res lo' W0 X Y W H n f er x' y' u' h' s' k') :
    Calls Try.prog 13 #[fldV x y u h s, .int .i64 k, fldV x' y' u' h' s', .int .i64 k'] W0 fun e w' => e = .returned (.bool true) ∧ Below W0.heap.size W0 w' := by
  rcases r with ⟨a1, rfl, rfl, rfl, rfl, rfl, rfl⟩ | ⟨a1, a2, rfl, rfl, rfl, rfl, ⟨b, cap, rfl, _, _, c⟩, rfl⟩ | ⟨a1, a2, rfl, rfl, rfl, rfl, rfl, rfl⟩ <;>
  rcases r' with ⟨b1, rfl, rfl, rfl, rfl, rfl, rfl⟩ | ⟨b1, b2, rfl, rfl, rfl, rfl, ⟨b', cap', rfl, _, _, c'⟩, rfl⟩ | ⟨b1, b2, rfl, rfl, rfl, rfl, rfl, rfl⟩
  · exact law_same_err _ a1 W0
  · exact absurd b1 a1
  · exact absurd b1 a1
  · exact absurd a1 b1
  · exact law_same_ok _ _ _ _ b b' cap cap' n f hl hn W0 c c'
  · rw [a2] at b2; cases b2
  · exact absurd a1 b1
  · rw [a2] at b2; cases b2
  · exact law_same_err 3 (by decide) W0

theorem set5_self {wr : World} {b : Nat} {a1 a2 a3 a4 a5 : Value} {t : TypeId} (u1 u2 u3 u4 u5 : Value) (h : wr.heap[b]? = some (.cells #[a1, a2, a3, a4, a5] t (0, 0))) :
    (set5 wr b u1 u2 u3 u4 u5).heap[b]? = some (.cells #[u1, u2, u3, u4, u5] t (0, 0)) := by
  have h1 := heap_setCell_same wr b 0 _ _ u1 h
  have h2 := heap_setCell_same _ b 1 _ _ u2 h1
  have h3 := heap_setCell_same _ b 2 _ _ u3 h2
  have h4 := heap_setCell_same _ b 3 _ _ u4 h3
  have h5 := heap_setCell_same _ b 4 _ _ u5 h4
  exact h5
/-- A field stored into a block of its own: what stands elsewhere stays. -/
theorem box_old (wr : World) (o : Obj) (u1 u2 u3 u4 u5 : Value) {k : Nat} (h : k < wr.heap.size) : (set5 (wr.alloc o) wr.heap.size u1 u2 u3 u4 u5).heap[k]? = wr.heap[k]? := by
  rw [set5_heap _ _ _ _ _ _ _ _ (by omega), heap_alloc_old _ _ h]
theorem box_below (wr : World) (o : Obj) (u1 u2 u3 u4 u5 : Value) : Below wr.heap.size wr (set5 (wr.alloc o) wr.heap.size u1 u2 u3 u4 u5) :=
  set5_below ((Below.refl _ _).alloc (Nat.le_refl _) o) _ _ _ _ _ _ (Nat.le_refl _)

/-- What a fit field is, its singles by a function. -/
theorem fit_fn {w : World} {b n : Nat} (h : FitRow w b n n) : ∃ v : Nat → Nat, FlAt w b 0 n v ∧ wf32 n v ∧ allB n (fun i => hgtB (v i)) = true ∧ b < w.heap.size := by
  obtain ⟨cs, h1, h2, h3⟩ := h
  refine ⟨fun j => if hj : j < n then (h3 j hj).choose else 0, fun i hi => ?_, fun i hi => ?_, allB_iff.2 fun i hi => ?_, (blkC h1).2.2⟩
  · rw [Nat.zero_add, (blkC h1).1 i]; simp only [dif_pos hi]; exact (h3 i hi).choose_spec.1
  · simp only [dif_pos hi]; exact (h3 i hi).choose_spec.2.1
  · simp only [dif_pos hi]; exact (h3 i hi).choose_spec.2.2 hi
theorem fit_check {X Y : Int} {W H n : Nat} (x1 : -5000 ≤ X) (x2 : X ≤ 5000) (y1 : -5000 ≤ Y) (y2 : Y ≤ 5000) (w1 : (1 : Int) ≤ W) (w2 : (W : Int) ≤ 16) (h1 : (1 : Int) ≤ H) (h2 : (H : Int) ≤ 16) (hn : (n : Int) = W * H) (hn2 : n ≤ 256) : checkR X Y W H = 0 := by
  unfold checkR
  rw [if_neg (by omega), if_neg (by rw [← hn]; omega), if_neg (by omega)]

end Go.Proofs.Ytdbponidkodmfaa

/- Contracts: shrink, crossAt, rise, square, normal of the program. -/
namespace Go.Proofs.Ytdbponidkodmfaa
open Go.RowKit Fl
set_option linter.unusedVariables false

set_option maxHeartbeats 1000000 in
theorem shrink_any (X Y W H : Int) (w : World) (x1 : -4194304 ≤ X) (x2 : X ≤ 4194304) (y1 : -4194304 ≤ Y) (y2 : Y ≤ 4194304) (w1 : 1 ≤ W) (w2 : W ≤ 512) (h1 : 1 ≤ H) (h2 : H ≤ 512) :
    Calls Try.prog 146 #[reg X Y W H, .int .i64 1] w fun e w' => e = .returned (.tuple #[reg (X + 1) (Y + 1) (W - 2) (H - 2), .bool (decide (3 ≤ W ∧ 3 ≤ H))]) ∧ Below w.heap.size w w' := by
  cases c1 : decide (2 < W) with
  | false =>
    have e : decide (3 ≤ W ∧ 3 ≤ H) = false := by simp at c1 ⊢; omega
    rw [e]
    clear e
    go_enter Try.func146, Try.ntmps146
    go_wp2
    go_region
    all_goals go_wp2
    all_goals refine bodyPost_ret (v := .tuple #[reg (X + 1) (Y + 1) (W - 2) (H - 2), .bool false]) (by simp [results, Try.results146, go_sem]) rfl ?_
    all_goals exact ⟨rfl, by repeat (first | exact Below.refl _ _ | refine Below.drew ?_ | refine Below.alloc ?_ (by simp; try omega) _ | refine Below.setCell ?_ (by simp; try omega) _)⟩
  | true =>
    cases c2 : decide (2 < H) with
    | false =>
      have e : decide (3 ≤ W ∧ 3 ≤ H) = false := by simp at c1 c2 ⊢; omega
      rw [e]
      clear e
      go_enter Try.func146, Try.ntmps146
      go_wp2
      go_region
      all_goals go_wp2
      all_goals refine bodyPost_ret (v := .tuple #[reg (X + 1) (Y + 1) (W - 2) (H - 2), .bool false]) (by simp [results, Try.results146, go_sem]) rfl ?_
      all_goals exact ⟨rfl, by repeat (first | exact Below.refl _ _ | refine Below.drew ?_ | refine Below.alloc ?_ (by simp; try omega) _ | refine Below.setCell ?_ (by simp; try omega) _)⟩
    | true =>
      have e : decide (3 ≤ W ∧ 3 ≤ H) = true := by simp at c1 c2 ⊢; omega
      rw [e]
      clear e
      go_enter Try.func146, Try.ntmps146
      go_wp2
      go_region
      all_goals go_wp2
      all_goals refine bodyPost_ret (v := .tuple #[reg (X + 1) (Y + 1) (W - 2) (H - 2), .bool true]) (by simp [results, Try.results146, go_sem]) rfl ?_
      all_goals exact ⟨rfl, by repeat (first | exact Below.refl _ _ | refine Below.drew ?_ | refine Below.alloc ?_ (by simp; try omega) _ | refine Below.setCell ?_ (by simp; try omega) _)⟩

theorem blkDrew {w : World} {b : Nat} {o : Obj} (h : w.heap[b]? = some o) : w.drew.heap[b]? = some o := h
theorem store_fl {w : World} {p o x : Nat} {cs : Array Value} {t : TypeId} {m : Mode} (h : w.heap[p]? = some (.cells cs t (0, 0))) (ho : o < cs.size) :
    (store ⟨p, o, none⟩ (.float .f32 x) m).run Try.prog w = .ok () (w.setCell ⟨p, o, none⟩ (.float .f32 x)) := by
  obtain ⟨c, f, z⟩ := blkC h
  have c0 := c o
  have f0 := f o
  rw [run_store_float]
  have : cs[o]? = some cs[o] := Array.getElem?_eq_getElem ho
  rw [this] at c0
  simp [stored, c0, f0]

theorem store_fld {w : World} {p o x : Nat} {cs : Array Value} {t : TypeId} {m : Mode} (h : w.heap[p]? = some (.cells cs t (0, 0))) (ho : o < cs.size) :
    (store ⟨p, o, none⟩ (.float .f32 x) m).run Try.prog w.drew = .ok () (w.setCell ⟨p, o, none⟩ (.float .f32 x)).drew := store_fl (blkDrew h) ho
theorem store5_fl {w : World} {p : Nat} {z0 z1 z2 z3 z4 : Value} {t : TypeId} (h : w.heap[p]? = some (.cells #[z0, z1, z2, z3, z4] t (0, 0))) (a b c d e : Nat) :
    (store ⟨p, 0, none⟩ (.float .f32 a) .plain).run Try.prog w.drew = .ok () (w.setCell ⟨p, 0, none⟩ (.float .f32 a)).drew ∧
    (store ⟨p, 1, none⟩ (.float .f32 b) .plain).run Try.prog (w.setCell ⟨p, 0, none⟩ (.float .f32 a)).drew = .ok () ((w.setCell ⟨p, 0, none⟩ (.float .f32 a)).setCell ⟨p, 1, none⟩ (.float .f32 b)).drew ∧
    (store ⟨p, 2, none⟩ (.float .f32 c) .plain).run Try.prog ((w.setCell ⟨p, 0, none⟩ (.float .f32 a)).setCell ⟨p, 1, none⟩ (.float .f32 b)).drew = .ok () (((w.setCell ⟨p, 0, none⟩ (.float .f32 a)).setCell ⟨p, 1, none⟩ (.float .f32 b)).setCell ⟨p, 2, none⟩ (.float .f32 c)).drew ∧
    (store ⟨p, 3, none⟩ (.float .f32 d) .plain).run Try.prog (((w.setCell ⟨p, 0, none⟩ (.float .f32 a)).setCell ⟨p, 1, none⟩ (.float .f32 b)).setCell ⟨p, 2, none⟩ (.float .f32 c)).drew = .ok () ((((w.setCell ⟨p, 0, none⟩ (.float .f32 a)).setCell ⟨p, 1, none⟩ (.float .f32 b)).setCell ⟨p, 2, none⟩ (.float .f32 c)).setCell ⟨p, 3, none⟩ (.float .f32 d)).drew ∧
    (store ⟨p, 4, none⟩ (.float .f32 e) .plain).run Try.prog ((((w.setCell ⟨p, 0, none⟩ (.float .f32 a)).setCell ⟨p, 1, none⟩ (.float .f32 b)).setCell ⟨p, 2, none⟩ (.float .f32 c)).setCell ⟨p, 3, none⟩ (.float .f32 d)).drew = .ok () (((((w.setCell ⟨p, 0, none⟩ (.float .f32 a)).setCell ⟨p, 1, none⟩ (.float .f32 b)).setCell ⟨p, 2, none⟩ (.float .f32 c)).setCell ⟨p, 3, none⟩ (.float .f32 d)).setCell ⟨p, 4, none⟩ (.float .f32 e)).drew := by
  have h1 := heap_setCell_same w p 0 _ _ (.float .f32 a) h
  have h2 := heap_setCell_same _ p 1 _ _ (.float .f32 b) h1
  have h3 := heap_setCell_same _ p 2 _ _ (.float .f32 c) h2
  have h4 := heap_setCell_same _ p 3 _ _ (.float .f32 d) h3
  exact ⟨store_fld h (by simp), store_fld h1 (by simp), store_fld h2 (by simp), store_fld h3 (by simp), store_fld h4 (by simp)⟩

/-- A cell with its neighbours, as a value. -/
abbrev crossO : Obj := .cells #[.float .f32 0, .float .f32 0, .float .f32 0, .float .f32 0, .float .f32 0] 102
abbrev crossV (c n w e s : Nat) : Value := .agg #[.float .f32 c, .float .f32 n, .float .f32 w, .float .f32 e, .float .f32 s]

set_option maxHeartbeats 4000000 in
set_option maxRecDepth 100000 in
theorem crossAt_any (X Y : Int) (W H n b cap i : Nat) (v : Nat → Nat) (x y : Int) (w : World) (h0 : checkR X Y W H = 0) (hn : n = H * W) (hcap : n ≤ cap) (hcp : cap ≤ 9223372036854775807) (hc : FlAt w b 0 n v)
    (h1 : X + 1 ≤ x) (h2 : x + 1 < X + W) (h3 : Y + 1 ≤ y) (h4 : y + 1 < Y + H) (hi : (i : Int) = (y - Y) * W + (x - X)) :
    Calls Try.prog 94 #[fldV X Y W H (.slice (some ⟨b, 0, none⟩) n cap), .int .i64 x, .int .i64 y] w fun e w' => e = .returned (crossV (v i) (v (i - W)) (v (i - 1)) (v (i + 1)) (v (i + W))) ∧ Below w.heap.size w w' := by
  obtain ⟨b1, b2, b3, b4, b5, b6, b7, b8, b9⟩ := checkR_zero h0
  have hn2 : n ≤ 65536 := by
    have : ((W : Int) * (H : Int)) = (n : Int) := by rw [hn, Nat.mul_comm]; simp
    omega
  have q0 : (W : Int) ≤ (y - Y) * W := by
    have := Int.mul_le_mul_of_nonneg_right (show (1 : Int) ≤ y - Y by omega) (show (0 : Int) ≤ W by omega); omega
  have q1 : (y - Y) * W ≤ (n : Int) - 2 * W := by
    have a : (y - Y) * W ≤ ((H : Int) - 2) * W := Int.mul_le_mul_of_nonneg_right (by omega) (by omega)
    have b : ((H : Int) - 2) * W = (n : Int) - 2 * W := by rw [hn, Int.sub_mul]; simp
    omega
  have IX := Lib.hid (fun w => index_any X Y W H i x y w (by omega) (by omega) (by omega) (by omega) (by omega) (by omega) (by omega) (by omega) (by omega) (by omega) (by omega) hi (by omega))
  obtain ⟨iN, eN⟩ : ∃ k, k = i - W := ⟨_, rfl⟩
  obtain ⟨iW, eW⟩ : ∃ k, k = i - 1 := ⟨_, rfl⟩
  obtain ⟨iE, eE⟩ : ∃ k, k = i + 1 := ⟨_, rfl⟩
  obtain ⟨iS, eS⟩ : ∃ k, k = i + W := ⟨_, rfl⟩
  rw [← eN, ← eW, ← eE, ← eS]
  have cell : ∀ k, k < n → w.cell? ⟨b, k, none⟩ = some (.float .f32 (v k)) := fun k hk => by have := hc k hk; rwa [Nat.zero_add] at this
  have k0 := cell i (by omega)
  have k1 := cell iN (by omega)
  have k2 := cell iW (by omega)
  have k3 := cell iE (by omega)
  have k4 := cell iS (by omega)
  have zb : b < w.heap.size := World.block_lt_of_cell? w _ k0
  have f1 : (i : Int) - (W : Int) = (iN : Int) := by omega
  have f2 : (i : Int) - 1 = (iW : Int) := by omega
  have f3 : (i : Int) + 1 = (iE : Int) := by omega
  have f4 : (i : Int) + (W : Int) = (iS : Int) := by omega
  have u1 : IntKind.i64.wrap (iN : Int) = iN := IntWalk.i64_in _ (by omega)
  have u2 : IntKind.i64.wrap (iW : Int) = iW := IntWalk.i64_in _ (by omega)
  have u3 : IntKind.i64.wrap (iE : Int) = iE := IntWalk.i64_in _ (by omega)
  have u4 : IntKind.i64.wrap (iS : Int) = iS := IntWalk.i64_in _ (by omega)
  have g0 : (i : Int) < (n : Int) := by omega
  have g1 : (iN : Int) < (n : Int) := by omega
  have g2 : (iW : Int) < (n : Int) := by omega
  have g3 : (iE : Int) < (n : Int) := by omega
  have g4 : (iS : Int) < (n : Int) := by omega
  have p0 : (0 : Int) ≤ (i : Int) := by omega
  have p1 : (0 : Int) ≤ (iN : Int) := by omega
  have p2 : (0 : Int) ≤ (iW : Int) := by omega
  have p3 : (0 : Int) ≤ (iE : Int) := by omega
  have p4 : (0 : Int) ≤ (iS : Int) := by omega
  clear hc h0 hi q0 q1 b1 b2 b3 b4 b5 b6 b7 b8 b9 h1 h2 h3 h4 hn hn2 eN eW eE eS cell
  go_enter Try.func94, Try.ntmps94
  go_wp2_with (first | (go_at_call 114; refine (IX.out _).mono ?_; rintro e w3 ⟨rfl, hw3⟩; have hB3 : Below w.heap.size w w3 := (by rw [← hw3]; exact (by repeat (first | exact Below.refl _ _ | refine Below.alloc ?_ (by first | omega | (simp; done) | (simp; omega)) _ | refine Below.setCell ?_ (by first | omega | (simp; done) | (simp; omega)) _ | refine Below.drew ?_))); have HF3 := Lib.hid (show w3.heap[w.heap.size]? = some (fldO X Y W H (.slice (some ⟨b, 0, none⟩) n cap)) by rw [← hw3]; ((simp only [heap_alloc_get, heap_size_alloc, if_true]) <;> ((repeat' split) <;> first | rfl | omega))); have HR3 := Lib.hid (show w3.heap[w.heap.size + 1]? = some crossO by rw [← hw3]; ((simp only [heap_alloc_get, heap_size_alloc, if_true]) <;> ((repeat' split) <;> first | rfl | omega))); clear hw3; obtain ⟨cF, fF, zF⟩ := blkC HF3.out; obtain ⟨cR, fR, zR⟩ := blkC HR3.out; have j0 := (Below.cell (p := ⟨b, i, none⟩) hB3 zb).trans k0; have j1 := (Below.cell (p := ⟨b, iN, none⟩) hB3 zb).trans k1; have j2 := (Below.cell (p := ⟨b, iW, none⟩) hB3 zb).trans k2; have j3 := (Below.cell (p := ⟨b, iE, none⟩) hB3 zb).trans k3; have j4 := (Below.cell (p := ⟨b, iS, none⟩) hB3 zb).trans k4; clear k0 k1 k2 k3 k4))
  obtain ⟨s0, s1, s2, s3, s4⟩ := store5_fl HR3.out (v i) (v iN) (v iW) (v iE) (v iS)
  clear IX hcap hcp
  have HRES := (blkC (blkDrew (set5_self (.float .f32 (v i)) (.float .f32 (v iN)) (.float .f32 (v iW)) (.float .f32 (v iE)) (.float .f32 (v iS)) HR3.out))).1
  simp only [set5] at HRES
  have HBEL := Lib.hid (set5_below hB3 (w.heap.size + 1) (.float .f32 (v i)) (.float .f32 (v iN)) (.float .f32 (v iW)) (.float .f32 (v iE)) (.float .f32 (v iS)) (by omega)).drew
  simp only [set5] at HBEL
  go_still_tail 36, (by kernel_rfl)
  change wpList _ _ _ _ _ w3.drew
  go_wp2
  refine bodyPost_ret (v := crossV (v i) (v iN) (v iW) (v iE) (v iS)) (by simp [results, Try.results94, go_sem, HRES]) rfl ?_
  exact ⟨rfl, HBEL.out⟩
end Go.Proofs.Ytdbponidkodmfaa

/- Contracts: rise, square, normal, inner of the program. -/
namespace Go.Proofs.Ytdbponidkodmfaa
open Go.RowKit Fl
set_option linter.unusedVariables false

theorem dwBox (w : World) (o : Obj) (k : Nat) {w' : World} (h : w' = (w.alloc o).drewN k) : Below w.heap.size w w' := by
  rw [h]
  exact ((Below.refl _ _).alloc (Nat.le_refl _) _).trans ((below_drewN _ _).mono (by simp))

set_option maxHeartbeats 1000000 in
theorem rise_any (c n ww e s : Nat) (w : World) (hn : hgtB n = true) (hw : hgtB ww = true) (he : hgtB e = true) (hs : hgtB s = true) :
    Calls Try.prog 147 #[crossV c n ww e s] w fun e' w' => e' = .returned (.tuple #[.float .f32 (riseW e ww), .float .f32 (riseW s n)]) ∧ Below w.heap.size w w' := by
  obtain ⟨d, r, A⟩ := rise_parts he hw
  obtain ⟨d', r', B⟩ := rise_parts hs hn
  rw [A.w, B.w]
  have a1 := fun (W : World) => run_float_arith (P := Try.prog) W .sub 34 .f32 e ww d A.d1
  have a2 := fun (W : World) => run_float_arith (P := Try.prog) W .mul 34 .f32 d 1056964608 r A.r1
  have a3 := fun (W : World) => run_float_arith (P := Try.prog) W .sub 34 .f32 s n d' B.d1
  have a4 := fun (W : World) => run_float_arith (P := Try.prog) W .mul 34 .f32 d' 1056964608 r' B.r1
  clear A B hn hw he hs
  go_enter Try.func147, Try.ntmps147
  go_wp2
  go_quiet (fail)
  go_wp2
  go_ret2
  exact ⟨rfl, dwBox w _ _ rfl⟩

set_option maxHeartbeats 1000000 in
theorem square_cross (c n ww e s : Nat) (w : World) (hn : hgtB n = true) (hw : hgtB ww = true) (he : hgtB e = true) (hs : hgtB s = true) {p q u v : Nat} {a cc : Int} {X Z : Nat} (N : NrmAt (riseW e ww) (riseW s n) p q u v a X Z cc) :
    Calls Try.prog 143 #[crossV c n ww e s] w fun e' w' => e' = .returned (.float .f32 u) ∧ Below w.heap.size w w' := by
  have RI := Lib.hid (fun w => rise_any c n ww e s w hn hw he hs)
  have a1 := fun (W : World) => run_float_arith (P := Try.prog) W .mul 34 .f32 _ _ p N.p1
  have a2 := fun (W : World) => run_float_arith (P := Try.prog) W .mul 34 .f32 _ _ q N.q1
  have a3 := fun (W : World) => run_float_arith (P := Try.prog) W .add 34 .f32 p q u N.s1
  clear N
  generalize riseW e ww = dx at *
  generalize riseW s n = dy at *
  clear hn hw he hs
  go_enter Try.func143, Try.ntmps143
  go_wp2_with (first | (go_at_call 147; refine (RI.out _).mono ?_; rintro e2 w2 ⟨rfl, hb2⟩; have hB2 : Below w.heap.size w w2 := Below.trans (by repeat (first | exact Below.refl _ _ | refine Below.alloc ?_ (by first | omega | (simp; done) | (simp; omega)) _ | refine Below.setCell ?_ (by first | omega | (simp; done) | (simp; omega)) _ | refine Below.drew ?_)) (Below.mono hb2 (by first | omega | (simp; done) | (simp; omega))); clear hb2))
  go_ret
  exact ⟨rfl, hB2⟩

theorem run_neg_f32 (w : World) (b : Nat) : (Op.unary .neg (.float .f32 b)).run Try.prog w = .ok (.float .f32 (negW b)) w := rfl

set_option maxHeartbeats 1000000 in
theorem normal_any (c n ww e s : Nat) (w : World) (hn : hgtB n = true) (hw : hgtB ww = true) (he : hgtB e = true) (hs : hgtB s = true) {p q u v : Nat} {a cc : Int} {X Z : Nat} (N : NrmAt (riseW e ww) (riseW s n) p q u v a X Z cc) {nx ny nz : Nat}
    (e1 : floatBits .quo .f32 (negW (riseW e ww)) (rootW v) = some nx) (e2 : floatBits .quo .f32 (negW (riseW s n)) (rootW v) = some ny) (e3 : floatBits .quo .f32 1065353216 (rootW v) = some nz) :
    Calls Try.prog 98 #[crossV c n ww e s] w fun e' w' => e' = .returned (.tuple #[.float .f32 nx, .float .f32 ny, .float .f32 nz]) ∧ Below w.heap.size w w' := by
  have RI := Lib.hid (fun w => rise_any c n ww e s w hn hw he hs)
  have SQ := Lib.hid (fun w => square_cross c n ww e s w hn hw he hs N)
  have RT := Lib.hid (fun w => root_any N.rt w)
  have a1 := fun (W : World) => run_float_arith (P := Try.prog) W .add 34 .f32 u 1065353216 v N.u1
  have a2 := fun (W : World) => run_float_arith (P := Try.prog) W .quo 34 .f32 _ _ nx e1
  have a3 := fun (W : World) => run_float_arith (P := Try.prog) W .quo 34 .f32 _ _ ny e2
  have a4 := fun (W : World) => run_float_arith (P := Try.prog) W .quo 34 .f32 _ _ nz e3
  have ng := run_neg_f32
  clear N e1 e2 e3
  generalize riseW e ww = dx at *
  generalize riseW s n = dy at *
  generalize rootW v = m at *
  clear hn hw he hs
  go_enter Try.func98, Try.ntmps98
  go_wp2_with (first | (go_at_call 147; refine (RI.out _).mono ?_; rintro e2 w2 ⟨rfl, hb2⟩; have HC2 := Lib.hid (blkStay (b := w.heap.size) (o := .cells #[.float .f32 c, .float .f32 n, .float .f32 ww, .float .f32 e, .float .f32 s] 102) (by ((simp only [heap_alloc_get, if_true]) <;> ((repeat' split) <;> first | rfl | omega))) hb2); have hB2 : Below w.heap.size w w2 := Below.trans (by repeat (first | exact Below.refl _ _ | refine Below.alloc ?_ (by first | omega | (simp; done) | (simp; omega)) _ | refine Below.setCell ?_ (by first | omega | (simp; done) | (simp; omega)) _ | refine Below.drew ?_)) (Below.mono hb2 (by first | omega | (simp; done) | (simp; omega))); obtain ⟨cC, fC, zC⟩ := blkC HC2.out; clear hb2) | (go_at_call 143; refine (SQ.out _).mono ?_; rintro e3 w3 ⟨rfl, hb3⟩; have hB3 := hB2.trans (hb3.mono hB2.size); clear hb3) | (go_at_call 142; refine (RT.out _).mono ?_; rintro e' w' ⟨rfl, rfl⟩))
  refine bodyPost_ret (v := .tuple #[.float .f32 nx, .float .f32 ny, .float .f32 nz]) (by simp [results, Try.results98, go_sem]) rfl ?_
  exact ⟨rfl, hB3⟩

/-- A region's four cells stored into block b. -/
abbrev set4 (wr : World) (b : Nat) (u1 u2 u3 u4 : Value) : World := (((wr.setCell ⟨b, 0, none⟩ u1).setCell ⟨b, 1, none⟩ u2).setCell ⟨b, 2, none⟩ u3).setCell ⟨b, 3, none⟩ u4
theorem set4_size (wr : World) (b : Nat) (u1 u2 u3 u4 : Value) : (set4 wr b u1 u2 u3 u4).heap.size = wr.heap.size := by simp [set4]
theorem set4_self {wr : World} {b : Nat} {a1 a2 a3 a4 : Value} {t : TypeId} (u1 u2 u3 u4 : Value) (h : wr.heap[b]? = some (.cells #[a1, a2, a3, a4] t (0, 0))) :
    (set4 wr b u1 u2 u3 u4).heap[b]? = some (.cells #[u1, u2, u3, u4] t (0, 0)) := by
  have h1 := heap_setCell_same wr b 0 _ _ u1 h
  have h2 := heap_setCell_same _ b 1 _ _ u2 h1
  have h3 := heap_setCell_same _ b 2 _ _ u3 h2
  exact heap_setCell_same _ b 3 _ _ u4 h3

/-- The region without its rim, and the error where nothing is left. -/
def innB (W H : Int) : Bool := decide (3 ≤ W ∧ 3 ≤ H)

set_option maxHeartbeats 1000000 in
theorem inner_any (X Y : Int) (W H n b cap : Nat) (v : Nat → Nat) (w : World) (h0 : checkR X Y W H = 0) (hn : n = W * H) (hc : FlAt w b 0 n v) (hh : allB n (fun i => hgtB (v i)) = true) :
    Calls Try.prog 91 #[fldV X Y W H (.slice (some ⟨b, 0, none⟩) n cap)] w fun e w' => e = .returned (.tuple #[if innB W H then reg (X + 1) (Y + 1) (W - 2) (H - 2) else reg 0 0 0 0, .int .i64 (if innB W H then 0 else 10)]) ∧ Below w.heap.size w w' := by
  obtain ⟨b1, b2, b3, b4, b5, b6, b7, b8, b9⟩ := checkR_zero h0
  have h1 : 1 ≤ n := by rw [hn]; exact Nat.mul_pos (by omega) (by omega)
  have hlt : b < w.heap.size := World.block_lt_of_cell? w _ (hc 0 h1)
  have CK := Lib.hid (fun W' (hb : Below w.heap.size w W') => check_ok X Y W H n b cap v W' h0 hn (flAt_congr hc (hb.block _ hlt)) hh)
  have SH := Lib.hid (fun w => shrink_any X Y W H w (by omega) (by omega) (by omega) (by omega) (by omega) (by omega) (by omega) (by omega))
  unfold innB
  cases c : decide (3 ≤ (W : Int) ∧ 3 ≤ (H : Int)) with
  | true =>
    rw [c] at SH
    clear h0 hn hc hh c b1 b2 b3 b4 b5 b6 b7 b8 b9 h1 hlt
    go_enter Try.func91, Try.ntmps91
    go_wp2_with (first | (go_at_call 101; refine (CK.out _ (by repeat (first | exact Below.refl _ _ | refine Below.alloc ?_ (by first | omega | (simp; done) | (simp; omega)) _ | refine Below.setCell ?_ (by first | omega | (simp; done) | (simp; omega)) _ | refine Below.drew ?_))).mono ?_; rintro e w2 ⟨rfl, hb2⟩; have HF2 := Lib.hid (blkStay (b := w.heap.size) (o := fldO X Y W H (.slice (some ⟨b, 0, none⟩) n cap)) (by ((simp only [heap_alloc_get, heap_size_alloc, if_true]) <;> ((repeat' split) <;> first | rfl | omega))) hb2); have HS2 := Lib.hid (blkStay (b := w.heap.size + 1) (o := regObj 0 0 0 0) (by ((simp only [heap_alloc_get, heap_size_alloc, if_true]) <;> ((repeat' split) <;> first | rfl | omega))) hb2); have hB2 : Below w.heap.size w w2 := Below.trans (by repeat (first | exact Below.refl _ _ | refine Below.alloc ?_ (by first | omega | (simp; done) | (simp; omega)) _ | refine Below.setCell ?_ (by first | omega | (simp; done) | (simp; omega)) _ | refine Below.drew ?_)) (Below.mono hb2 (by first | omega | (simp; done) | (simp; omega))); obtain ⟨cF, fF, zF⟩ := blkC HF2.out; clear hb2) | (go_at_call 146; refine (SH.out _).mono ?_; rintro e w3 ⟨rfl, hb3⟩; have HS3 := Lib.hid (blkStay HS2.out hb3); have hB3 := hB2.trans (hb3.mono hB2.size); clear hb3 cF fF zF HF2; obtain ⟨cS, fS, zS⟩ := blkC HS3.out))
    have HRES := fun (u1 u2 u3 u4 : Value) (o : Obj) => (blkC ((heap_alloc_old (set4 w3 (w.heap.size + 1) u1 u2 u3 u4) o (by rw [set4_size]; exact zS)).trans (set4_self u1 u2 u3 u4 HS3.out))).1
    simp only [set4] at HRES
    refine bodyPost_ret (v := .tuple #[reg (X + 1) (Y + 1) (W - 2) (H - 2), .int .i64 0]) (by simp [results, Try.results91, go_sem, HRES]) rfl ?_
    exact ⟨rfl, by repeat (first | exact hB3 | refine Below.alloc ?_ (by first | omega | (simp; done) | (simp; omega)) _ | refine Below.setCell ?_ (by first | omega | (simp; done) | (simp; omega)) _)⟩
  | false =>
    rw [c] at SH
    clear h0 hn hc hh c b1 b2 b3 b4 b5 b6 b7 b8 b9 h1 hlt
    go_enter Try.func91, Try.ntmps91
    go_wp2_with (first | (go_at_call 101; refine (CK.out _ (by repeat (first | exact Below.refl _ _ | refine Below.alloc ?_ (by first | omega | (simp; done) | (simp; omega)) _ | refine Below.setCell ?_ (by first | omega | (simp; done) | (simp; omega)) _ | refine Below.drew ?_))).mono ?_; rintro e w2 ⟨rfl, hb2⟩; have HF2 := Lib.hid (blkStay (b := w.heap.size) (o := fldO X Y W H (.slice (some ⟨b, 0, none⟩) n cap)) (by ((simp only [heap_alloc_get, heap_size_alloc, if_true]) <;> ((repeat' split) <;> first | rfl | omega))) hb2); have HS2 := Lib.hid (blkStay (b := w.heap.size + 1) (o := regObj 0 0 0 0) (by ((simp only [heap_alloc_get, heap_size_alloc, if_true]) <;> ((repeat' split) <;> first | rfl | omega))) hb2); have hB2 : Below w.heap.size w w2 := Below.trans (by repeat (first | exact Below.refl _ _ | refine Below.alloc ?_ (by first | omega | (simp; done) | (simp; omega)) _ | refine Below.setCell ?_ (by first | omega | (simp; done) | (simp; omega)) _ | refine Below.drew ?_)) (Below.mono hb2 (by first | omega | (simp; done) | (simp; omega))); obtain ⟨cF, fF, zF⟩ := blkC HF2.out; clear hb2) | (go_at_call 146; refine (SH.out _).mono ?_; rintro e w3 ⟨rfl, hb3⟩; have HS3 := Lib.hid (blkStay HS2.out hb3); have hB3 := hB2.trans (hb3.mono hB2.size); clear hb3 cF fF zF HF2; obtain ⟨cS, fS, zS⟩ := blkC HS3.out))
    have HRES := fun (u1 u2 u3 u4 : Value) (o : Obj) => (blkC ((heap_alloc_old (set4 w3 (w.heap.size + 1) u1 u2 u3 u4) o (by rw [set4_size]; exact zS)).trans (set4_self u1 u2 u3 u4 HS3.out))).1
    simp only [set4] at HRES
    refine bodyPost_ret (v := .tuple #[reg 0 0 0 0, .int .i64 10]) (by simp [results, Try.results91, go_sem, HRES]) rfl ?_
    exact ⟨rfl, by repeat (first | exact hB3 | refine Below.alloc ?_ (by first | omega | (simp; done) | (simp; omega)) _ | refine Below.setCell ?_ (by first | omega | (simp; done) | (simp; omega)) _)⟩
end Go.Proofs.Ytdbponidkodmfaa

/- Contracts: inner, around, inclines, normal, greater of the reference. -/
namespace Go.Proofs.Ytdbponidkodmfaa
open Go.RowKit Fl
set_option linter.unusedVariables false

set_option maxHeartbeats 1000000 in
theorem rinner_any (X Y : Int) (W H n b cap : Nat) (w : World) (h0 : checkR X Y W H = 0) :
    Calls Try.prog 82 #[fldV X Y W H (.slice (some ⟨b, 0, none⟩) n cap), .int .i64 1] w fun e w' => e = .returned (.tuple #[if innB W H then reg (X + 1) (Y + 1) (W - 2) (H - 2) else reg 0 0 0 0, .int .i64 (if innB W H then 0 else 10)]) ∧ Below w.heap.size w w' := by
  obtain ⟨b1, b2, b3, b4, b5, b6, b7, b8, b9⟩ := checkR_zero h0
  have GR := Lib.hid (fun w => show Calls Try.prog 144 #[reg X Y W H, .int .i64 (-1)] w fun e w' => e = .returned (reg (X + 1) (Y + 1) (W - 2) (H - 2)) ∧ Below w.heap.size w w' by
    have := refGrown_any X Y W H (-1) w (by omega) (by omega) (by omega) (by omega) (by omega) (by omega) (by omega) (by omega) (by omega) (by omega)
    simpa [Int.sub_eq_add_neg] using this)
  unfold innB
  by_cases c1 : (W : Int) < 3
  · have e : decide (3 ≤ (W : Int) ∧ 3 ≤ (H : Int)) = false := by simp; omega
    rw [e]
    clear e
    go_enter Try.func82, Try.ntmps82
    go_wp2_with (first | (go_at_call 144; refine (GR.out _).mono ?_; rintro e w3 ⟨rfl, hb3⟩; have HS3 := Lib.hid (blkStay (b := w.heap.size + 1) (o := regObj 0 0 0 0) (by ((simp only [heap_alloc_get, heap_size_alloc, if_true]) <;> ((repeat' split) <;> first | rfl | omega))) hb3); have hB3 : Below w.heap.size w w3 := Below.trans (by repeat (first | exact Below.refl _ _ | refine Below.alloc ?_ (by first | omega | (simp; done) | (simp; omega)) _ | refine Below.setCell ?_ (by first | omega | (simp; done) | (simp; omega)) _ | refine Below.drew ?_)) (Below.mono hb3 (by first | omega | (simp; done) | (simp; omega))); clear hb3; obtain ⟨cS, fS, zS⟩ := blkC HS3.out))
    all_goals
      have HRES := fun (u1 u2 u3 u4 : Value) (o : Obj) => (blkC ((heap_alloc_old (set4 w3 (w.heap.size + 1) u1 u2 u3 u4) o (by rw [set4_size]; exact zS)).trans (set4_self u1 u2 u3 u4 HS3.out))).1
      simp only [set4] at HRES
      refine bodyPost_ret (v := .tuple #[reg 0 0 0 0, .int .i64 10]) (by simp [results, Try.results82, go_sem, HRES]) rfl ?_
      exact ⟨rfl, by repeat (first | exact hB3 | refine Below.alloc ?_ (by first | omega | (simp; done) | (simp; omega)) _ | refine Below.setCell ?_ (by first | omega | (simp; done) | (simp; omega)) _)⟩
  · by_cases c2 : (H : Int) < 3
    · have e : decide (3 ≤ (W : Int) ∧ 3 ≤ (H : Int)) = false := by simp; omega
      rw [e]
      clear e
      go_enter Try.func82, Try.ntmps82
      go_wp2_with (first | (go_at_call 144; refine (GR.out _).mono ?_; rintro e w3 ⟨rfl, hb3⟩; have HS3 := Lib.hid (blkStay (b := w.heap.size + 1) (o := regObj 0 0 0 0) (by ((simp only [heap_alloc_get, heap_size_alloc, if_true]) <;> ((repeat' split) <;> first | rfl | omega))) hb3); have hB3 : Below w.heap.size w w3 := Below.trans (by repeat (first | exact Below.refl _ _ | refine Below.alloc ?_ (by first | omega | (simp; done) | (simp; omega)) _ | refine Below.setCell ?_ (by first | omega | (simp; done) | (simp; omega)) _ | refine Below.drew ?_)) (Below.mono hb3 (by first | omega | (simp; done) | (simp; omega))); clear hb3; obtain ⟨cS, fS, zS⟩ := blkC HS3.out))
      all_goals
        have HRES := fun (u1 u2 u3 u4 : Value) (o : Obj) => (blkC ((heap_alloc_old (set4 w3 (w.heap.size + 1) u1 u2 u3 u4) o (by rw [set4_size]; exact zS)).trans (set4_self u1 u2 u3 u4 HS3.out))).1
        simp only [set4] at HRES
        refine bodyPost_ret (v := .tuple #[reg 0 0 0 0, .int .i64 10]) (by simp [results, Try.results82, go_sem, HRES]) rfl ?_
        exact ⟨rfl, by repeat (first | exact hB3 | refine Below.alloc ?_ (by first | omega | (simp; done) | (simp; omega)) _ | refine Below.setCell ?_ (by first | omega | (simp; done) | (simp; omega)) _)⟩
    · have e : decide (3 ≤ (W : Int) ∧ 3 ≤ (H : Int)) = true := by simp; omega
      rw [e]
      clear e
      go_enter Try.func82, Try.ntmps82
      go_wp2_with (first | (go_at_call 144; refine (GR.out _).mono ?_; rintro e w3 ⟨rfl, hb3⟩; have HS3 := Lib.hid (blkStay (b := w.heap.size + 1) (o := regObj 0 0 0 0) (by ((simp only [heap_alloc_get, heap_size_alloc, if_true]) <;> ((repeat' split) <;> first | rfl | omega))) hb3); have hB3 : Below w.heap.size w w3 := Below.trans (by repeat (first | exact Below.refl _ _ | refine Below.alloc ?_ (by first | omega | (simp; done) | (simp; omega)) _ | refine Below.setCell ?_ (by first | omega | (simp; done) | (simp; omega)) _ | refine Below.drew ?_)) (Below.mono hb3 (by first | omega | (simp; done) | (simp; omega))); clear hb3; obtain ⟨cS, fS, zS⟩ := blkC HS3.out))
      all_goals
        have HRES := fun (u1 u2 u3 u4 : Value) (o : Obj) => (blkC ((heap_alloc_old (set4 w3 (w.heap.size + 1) u1 u2 u3 u4) o (by rw [set4_size]; exact zS)).trans (set4_self u1 u2 u3 u4 HS3.out))).1
        simp only [set4] at HRES
        refine bodyPost_ret (v := .tuple #[reg (X + 1) (Y + 1) (W - 2) (H - 2), .int .i64 0]) (by simp [results, Try.results82, go_sem, HRES]) rfl ?_
        exact ⟨rfl, by repeat (first | exact hB3 | refine Below.alloc ?_ (by first | omega | (simp; done) | (simp; omega)) _ | refine Below.setCell ?_ (by first | omega | (simp; done) | (simp; omega)) _)⟩

set_option maxHeartbeats 4000000 in
set_option maxRecDepth 100000 in
theorem around_any (X Y : Int) (W H n b cap i : Nat) (v : Nat → Nat) (x y : Int) (w : World) (h0 : checkR X Y W H = 0) (hn : n = H * W) (hc : FlAt w b 0 n v)
    (h1 : X + 1 ≤ x) (h2 : x + 1 < X + W) (h3 : Y + 1 ≤ y) (h4 : y + 1 < Y + H) (hi : (i : Int) = (y - Y) * W + (x - X)) :
    Calls Try.prog 89 #[fldV X Y W H (.slice (some ⟨b, 0, none⟩) n cap), .int .i64 x, .int .i64 y] w fun e w' => e = .returned (.tuple #[.float .f32 (v i), .float .f32 (v (i - W)), .float .f32 (v (i + W)), .float .f32 (v (i + 1)), .float .f32 (v (i - 1))]) ∧ Below w.heap.size w w' := by
  obtain ⟨b1, b2, b3, b4, b5, b6, b7, b8, b9⟩ := checkR_zero h0
  have hn2 : n ≤ 65536 := by
    have : ((W : Int) * (H : Int)) = (n : Int) := by rw [hn, Nat.mul_comm]; simp
    omega
  have q0 : (W : Int) ≤ (y - Y) * W := by
    have := Int.mul_le_mul_of_nonneg_right (show (1 : Int) ≤ y - Y by omega) (show (0 : Int) ≤ W by omega); omega
  have q1 : (y - Y) * W ≤ (n : Int) - 2 * W := by
    have a : (y - Y) * W ≤ ((H : Int) - 2) * W := Int.mul_le_mul_of_nonneg_right (by omega) (by omega)
    have b : ((H : Int) - 2) * W = (n : Int) - 2 * W := by rw [hn, Int.sub_mul]; simp
    omega
  have zb : b < w.heap.size := World.block_lt_of_cell? w _ (hc i (by omega))
  have A0 := Lib.hid (fun W' (hb : Below w.heap.size w W') => refAt_any X Y W H n b cap i v x y W' (by omega) (by omega) (by omega) (by omega) (by omega) (by omega) (by omega) (by omega) (by omega) (by omega) (by omega) hi (by omega) hn2 (flAt_congr hc (hb.block _ zb)))
  have A1 := Lib.hid (fun W' (hb : Below w.heap.size w W') => refAt_any X Y W H n b cap (i - W) v x (y - 1) W' (by omega) (by omega) (by omega) (by omega) (by omega) (by omega) (by omega) (by omega) (by omega) (by omega) (by omega) (by rw [show y - 1 - Y = (y - Y) - 1 by omega, Int.sub_mul]; omega) (by omega) hn2 (flAt_congr hc (hb.block _ zb)))
  have A2 := Lib.hid (fun W' (hb : Below w.heap.size w W') => refAt_any X Y W H n b cap (i + W) v x (y + 1) W' (by omega) (by omega) (by omega) (by omega) (by omega) (by omega) (by omega) (by omega) (by omega) (by omega) (by omega) (by rw [show y + 1 - Y = (y - Y) + 1 by omega, Int.add_mul]; omega) (by omega) hn2 (flAt_congr hc (hb.block _ zb)))
  have A3 := Lib.hid (fun W' (hb : Below w.heap.size w W') => refAt_any X Y W H n b cap (i + 1) v (x + 1) y W' (by omega) (by omega) (by omega) (by omega) (by omega) (by omega) (by omega) (by omega) (by omega) (by omega) (by omega) (by omega) (by omega) hn2 (flAt_congr hc (hb.block _ zb)))
  have A4 := Lib.hid (fun W' (hb : Below w.heap.size w W') => refAt_any X Y W H n b cap (i - 1) v (x - 1) y W' (by omega) (by omega) (by omega) (by omega) (by omega) (by omega) (by omega) (by omega) (by omega) (by omega) (by omega) (by omega) (by omega) hn2 (flAt_congr hc (hb.block _ zb)))
  have u1 : IntKind.i64.wrap (y - 1) = y - 1 := IntWalk.i64_in _ (by omega)
  have u2 : IntKind.i64.wrap (y + 1) = y + 1 := IntWalk.i64_in _ (by omega)
  have u3 : IntKind.i64.wrap (x + 1) = x + 1 := IntWalk.i64_in _ (by omega)
  have u4 : IntKind.i64.wrap (x - 1) = x - 1 := IntWalk.i64_in _ (by omega)
  have GF := Lib.hid (show (w.alloc (fldO X Y W H (.slice (some ⟨b, 0, none⟩) n cap))).heap[w.heap.size]? = some (fldO X Y W H (.slice (some ⟨b, 0, none⟩) n cap)) from heap_alloc_new _ _)
  have zF : w.heap.size < (w.alloc (fldO X Y W H (.slice (some ⟨b, 0, none⟩) n cap))).heap.size := by simp
  clear hc h0 hi q0 q1 b1 b2 b3 b4 b5 b6 b7 b8 b9 h1 h2 h3 h4 hn hn2
  generalize v i = v0 at *
  generalize v (i - W) = v1 at *
  generalize v (i + W) = v2 at *
  generalize v (i + 1) = v3 at *
  generalize v (i - 1) = v4 at *
  go_enter Try.func89, Try.ntmps89
  go_wp2
  go_region_held3 (fun w' => (∀ o, w'.cell? ⟨w.heap.size, o, none⟩ = #[.int .i64 X, .int .i64 Y, .int .i64 W, .int .i64 H, .slice (some ⟨b, 0, none⟩) n cap][o]?) ∧ Below (w.alloc (fldO X Y W H (.slice (some ⟨b, 0, none⟩) n cap))).heap.size (w.alloc (fldO X Y W H (.slice (some ⟨b, 0, none⟩) n cap))) w') (first | exact ⟨(blkC (blkStay GF.out (by repeat (first | exact Below.refl _ _ | refine Below.alloc ?_ (by first | omega | (simp; done) | (simp; omega)) _ | refine Below.setCell ?_ (by first | omega | (simp; done) | (simp; omega)) _ | refine Below.drew ?_)))).1, (by repeat (first | exact Below.refl _ _ | refine Below.alloc ?_ (by first | omega | (simp; done) | (simp; omega)) _ | refine Below.setCell ?_ (by first | omega | (simp; done) | (simp; omega)) _ | refine Below.drew ?_))⟩) (first
    | (go_at_call 58; (with_reducible refine Calls.mono (A0.out _ ?_) ?_); exact (by repeat (first | exact Below.refl _ _ | refine Below.alloc ?_ (by first | omega | (simp; done) | (simp; omega)) _ | refine Below.setCell ?_ (by first | omega | (simp; done) | (simp; omega)) _ | refine Below.drew ?_)); rintro e w' ⟨rfl, rfl⟩)
    | (go_at_call 58; (with_reducible refine Calls.mono (A1.out _ ?_) ?_); exact (by repeat (first | exact Below.refl _ _ | refine Below.alloc ?_ (by first | omega | (simp; done) | (simp; omega)) _ | refine Below.setCell ?_ (by first | omega | (simp; done) | (simp; omega)) _ | refine Below.drew ?_)); rintro e w' ⟨rfl, rfl⟩)
    | (go_at_call 58; (with_reducible refine Calls.mono (A2.out _ ?_) ?_); exact (by repeat (first | exact Below.refl _ _ | refine Below.alloc ?_ (by first | omega | (simp; done) | (simp; omega)) _ | refine Below.setCell ?_ (by first | omega | (simp; done) | (simp; omega)) _ | refine Below.drew ?_)); rintro e w' ⟨rfl, rfl⟩)
    | (go_at_call 58; (with_reducible refine Calls.mono (A3.out _ ?_) ?_); exact (by repeat (first | exact Below.refl _ _ | refine Below.alloc ?_ (by first | omega | (simp; done) | (simp; omega)) _ | refine Below.setCell ?_ (by first | omega | (simp; done) | (simp; omega)) _ | refine Below.drew ?_)); rintro e w' ⟨rfl, rfl⟩)
    | (go_at_call 58; (with_reducible refine Calls.mono (A4.out _ ?_) ?_); exact (by repeat (first | exact Below.refl _ _ | refine Below.alloc ?_ (by first | omega | (simp; done) | (simp; omega)) _ | refine Below.setCell ?_ (by first | omega | (simp; done) | (simp; omega)) _ | refine Below.drew ?_)); rintro e w' ⟨rfl, rfl⟩))
  rename_i wh hHeld
  go_wp2
  refine bodyPost_ret (v := .tuple #[.float .f32 v0, .float .f32 v1, .float .f32 v2, .float .f32 v3, .float .f32 v4]) (by simp [results, Try.results89, go_sem]) rfl ?_
  exact ⟨rfl, Below.trans ((Below.refl _ _).alloc (Nat.le_refl _) _) (hHeld.2.mono (by simp))⟩
end Go.Proofs.Ytdbponidkodmfaa

/- Contracts: inclines, normal, greater of the reference; the closures of Shade on both sides. -/
namespace Go.Proofs.Ytdbponidkodmfaa
open Go.RowKit Fl
set_option linter.unusedVariables false

/-- A cell that has all four neighbours: its place and its number. -/
structure InCell (X Y : Int) (W H n i : Nat) (x y : Int) : Prop where
  h1 : X + 1 ≤ x
  h2 : x + 1 < X + W
  h3 : Y + 1 ≤ y
  h4 : y + 1 < Y + H
  hi : (i : Int) = (y - Y) * W + (x - X)
  a0 : i < n
  a1 : i - W < n
  a2 : i + W < n
  a3 : i + 1 < n
  a4 : i - 1 < n

theorem in_cell {X Y : Int} {W H n i : Nat} {x y : Int} (hn : n = H * W) (h1 : X + 1 ≤ x) (h2 : x + 1 < X + W) (h3 : Y + 1 ≤ y) (h4 : y + 1 < Y + H) (hi : (i : Int) = (y - Y) * W + (x - X)) : InCell X Y W H n i x y := by
  have q0 : (W : Int) ≤ (y - Y) * W := by
    have := Int.mul_le_mul_of_nonneg_right (show (1 : Int) ≤ y - Y by omega) (show (0 : Int) ≤ W by omega); omega
  have q1 : (y - Y) * W ≤ (n : Int) - 2 * W := by
    have a : (y - Y) * W ≤ ((H : Int) - 2) * W := Int.mul_le_mul_of_nonneg_right (by omega) (by omega)
    have b : ((H : Int) - 2) * W = (n : Int) - 2 * W := by rw [hn, Int.sub_mul]; simp
    omega
  exact ⟨h1, h2, h3, h4, hi, by omega, by omega, by omega, by omega, by omega⟩

set_option maxHeartbeats 1000000 in
theorem inclines_any (X Y : Int) (W H n b cap i : Nat) (v : Nat → Nat) (x y : Int) (w : World) (h0 : checkR X Y W H = 0) (hn : n = H * W) (hc : FlAt w b 0 n v) (hh : allB n (fun i => hgtB (v i)) = true) (I : InCell X Y W H n i x y) :
    Calls Try.prog 84 #[fldV X Y W H (.slice (some ⟨b, 0, none⟩) n cap), .int .i64 x, .int .i64 y] w fun e w' => e = .returned (.tuple #[.float .f32 (riseW (v (i + 1)) (v (i - 1))), .float .f32 (riseW (v (i + W)) (v (i - W)))]) ∧ Below w.heap.size w w' := by
  have zb : b < w.heap.size := World.block_lt_of_cell? w _ (hc i I.a0)
  have AR := Lib.hid (fun W' (hb : Below w.heap.size w W') => around_any X Y W H n b cap i v x y W' h0 hn (flAt_congr hc (hb.block _ zb)) I.h1 I.h2 I.h3 I.h4 I.hi)
  obtain ⟨d, r, A⟩ := rise_parts (allB_iff.1 hh _ I.a3) (allB_iff.1 hh _ I.a4)
  obtain ⟨d', r', B⟩ := rise_parts (allB_iff.1 hh _ I.a2) (allB_iff.1 hh _ I.a1)
  rw [A.w, B.w]
  have S1 := Lib.hid (fun w => refSub_any 21 _ _ d A.d2 A.d1 w)
  have M1 := Lib.hid (fun w => refMul_any 21 d _ r A.r2 A.r1 w)
  have S2 := Lib.hid (fun w => refSub_any 21 _ _ d' B.d2 B.d1 w)
  have M2 := Lib.hid (fun w => refMul_any 21 d' _ r' B.r2 B.r1 w)
  clear A B I hc hh h0 hn zb
  generalize v i = v0 at *
  generalize v (i - W) = v1 at *
  generalize v (i + W) = v2 at *
  generalize v (i + 1) = v3 at *
  generalize v (i - 1) = v4 at *
  go_enter Try.func84, Try.ntmps84
  go_wp2_with (first | (go_at_call 89; refine (AR.out _ (by repeat (first | exact Below.refl _ _ | refine Below.alloc ?_ (by first | omega | (simp; done) | (simp; omega)) _ | refine Below.setCell ?_ (by first | omega | (simp; done) | (simp; omega)) _ | refine Below.drew ?_))).mono ?_; rintro e w2 ⟨rfl, hb2⟩; have hB2 : Below w.heap.size w w2 := Below.trans (by repeat (first | exact Below.refl _ _ | refine Below.alloc ?_ (by first | omega | (simp; done) | (simp; omega)) _ | refine Below.setCell ?_ (by first | omega | (simp; done) | (simp; omega)) _ | refine Below.drew ?_)) (Below.mono hb2 (by first | omega | (simp; done) | (simp; omega))); clear hb2) | (go_at_call 90; (with_reducible refine (S1.out _).mono ?_); rintro e w' ⟨rfl, rfl⟩) | (go_at_call 90; (with_reducible refine (S2.out _).mono ?_); rintro e w' ⟨rfl, rfl⟩) | (go_at_call 86; (with_reducible refine (M1.out _).mono ?_); rintro e w' ⟨rfl, rfl⟩) | (go_at_call 86; (with_reducible refine (M2.out _).mono ?_); rintro e w' ⟨rfl, rfl⟩))
  go_ret2
  exact ⟨rfl, hB2⟩

set_option maxHeartbeats 1000000 in
theorem rnormal_any (X Y : Int) (W H n b cap i : Nat) (v : Nat → Nat) (x y : Int) (w : World) (h0 : checkR X Y W H = 0) (hn : n = H * W) (hc : FlAt w b 0 n v) (hh : allB n (fun i => hgtB (v i)) = true) (I : InCell X Y W H n i x y)
    {p q u m : Nat} {a cc : Int} {X' Z : Nat} (N : NrmAt (riseW (v (i + 1)) (v (i - 1))) (riseW (v (i + W)) (v (i - W))) p q u m a X' Z cc) {nx ny nz : Nat}
    (e1 : floatBits .quo .f32 (negW (riseW (v (i + 1)) (v (i - 1)))) (rootW m) = some nx) (t1 : Same2 .quo 21 (negW (riseW (v (i + 1)) (v (i - 1)))) (rootW m))
    (e2 : floatBits .quo .f32 (negW (riseW (v (i + W)) (v (i - W)))) (rootW m) = some ny) (t2 : Same2 .quo 21 (negW (riseW (v (i + W)) (v (i - W)))) (rootW m))
    (e3 : floatBits .quo .f32 1065353216 (rootW m) = some nz) (t3 : Same2 .quo 0 1065353216 (rootW m)) :
    Calls Try.prog 99 #[fldV X Y W H (.slice (some ⟨b, 0, none⟩) n cap), .int .i64 x, .int .i64 y] w fun e w' => e = .returned (.tuple #[.float .f32 nx, .float .f32 ny, .float .f32 nz]) ∧ Below w.heap.size w w' := by
  have zb : b < w.heap.size := World.block_lt_of_cell? w _ (hc i I.a0)
  have IC := Lib.hid (fun W' (hb : Below w.heap.size w W') => inclines_any X Y W H n b cap i v x y W' h0 hn (flAt_congr hc (hb.block _ zb)) hh I)
  have M1 := Lib.hid (fun w => refMul_any 42 _ _ p N.p2 N.p1 w)
  have M2 := Lib.hid (fun w => refMul_any 42 _ _ q N.q2 N.q1 w)
  have A1 := Lib.hid (fun w => refAdd_any 43 p q u N.s2 N.s1 w)
  have A2 := Lib.hid (fun w => refAdd_any 44 u _ m N.u2 N.u1 w)
  have RT := Lib.hid (fun w => refRoot_any N.rt w)
  have D1 := Lib.hid (fun w => refDiv_any 21 _ _ nx t1 e1 w)
  have D2 := Lib.hid (fun w => refDiv_any 21 _ _ ny t2 e2 w)
  have D3 := Lib.hid (fun w => refDiv_any 0 _ _ nz t3 e3 w)
  have ng := run_neg_f32
  clear N e1 e2 e3 t1 t2 t3 I hc hh h0 hn zb
  generalize riseW (v (i + 1)) (v (i - 1)) = dx at *
  generalize riseW (v (i + W)) (v (i - W)) = dy at *
  generalize rootW m = mm at *
  go_enter Try.func99, Try.ntmps99
  go_wp2_with (first | (go_at_call 84; refine (IC.out _ (by repeat (first | exact Below.refl _ _ | refine Below.alloc ?_ (by first | omega | (simp; done) | (simp; omega)) _ | refine Below.setCell ?_ (by first | omega | (simp; done) | (simp; omega)) _ | refine Below.drew ?_))).mono ?_; rintro e w2 ⟨rfl, hb2⟩; have hB2 : Below w.heap.size w w2 := Below.trans (by repeat (first | exact Below.refl _ _ | refine Below.alloc ?_ (by first | omega | (simp; done) | (simp; omega)) _ | refine Below.setCell ?_ (by first | omega | (simp; done) | (simp; omega)) _ | refine Below.drew ?_)) (Below.mono hb2 (by first | omega | (simp; done) | (simp; omega))); clear hb2) | (go_at_call 86; (with_reducible refine (M1.out _).mono ?_); rintro e w' ⟨rfl, rfl⟩) | (go_at_call 86; (with_reducible refine (M2.out _).mono ?_); rintro e w' ⟨rfl, rfl⟩) | (go_at_call 59; (with_reducible refine (A1.out _).mono ?_); rintro e w' ⟨rfl, rfl⟩) | (go_at_call 59; (with_reducible refine (A2.out _).mono ?_); rintro e w' ⟨rfl, rfl⟩) | (go_at_call 85; refine (RT.out _).mono ?_; rintro e w' ⟨rfl, rfl⟩) | (go_at_call 130; (with_reducible refine (D1.out _).mono ?_); rintro e w' ⟨rfl, rfl⟩) | (go_at_call 130; (with_reducible refine (D2.out _).mono ?_); rintro e w' ⟨rfl, rfl⟩) | (go_at_call 130; (with_reducible refine (D3.out _).mono ?_); rintro e w' ⟨rfl, rfl⟩))
  refine bodyPost_ret (v := .tuple #[.float .f32 nx, .float .f32 ny, .float .f32 nz]) (by simp [results, Try.results99, go_sem]) rfl ?_
  exact ⟨rfl, hB2⟩

/-- The builtin max of 0 and a single. -/
theorem run_max_zero (ts : Array TypeId) (t : TypeId) (x : Nat) {a : Int} (hv : vS x = some a) (w : World) :
    (Builtin.max_ ts t #[.float .f32 0, .float .f32 x]).run Try.prog w = .ok (.float .f32 (shdW x)) w := by
  have o := order_val vS_zero hv
  have o' : FloatKind.f32.format.order 0 x = some (compare 0 a) := o
  unfold shdW
  rw [o']
  show (([Value.float .f32 x]).foldlM Builtin.max2 (Value.float .f32 0)).run Try.prog w = _
  simp only [List.foldlM]
  have m : Builtin.max2 (.float .f32 0) (.float .f32 x) = pure (.float .f32 (if (some (compare 0 a) == some Ordering.lt) = true then x else 0)) := by
    unfold Builtin.max2
    dsimp only
    rw [o']
    rcases h : compare 0 a with _ | _ | _
    · rfl
    · rfl
    · rfl
  rw [m]
  rfl
end Go.Proofs.Ytdbponidkodmfaa

/- Slope, curve and aspect of a cell: words and bounds. -/
namespace Go.Proofs.Ytdbponidkodmfaa
open Go.RowKit Fl
set_option linter.unusedVariables false

/-- The slope. -/
def slpW (dx dy : Nat) : Nat := rootW (sqrW dx dy)
structure SlpAt (dx dy p q s u : Nat) (a : Int) (X Z : Nat) (c : Int) (a2 : Int) (X2 Z2 : Nat) (c2 : Int) : Prop where
  nm : NrmAt dx dy p q s u a X Z c
  rt : RootAt s a2 X2 Z2 c2
  w : slpW dx dy = rootW s
  lt : rootW s < 4294967296

theorem root_lt {x : Nat} {a c : Int} {X Z : Nat} (R : RootAt x a X Z c) : rootW x < 4294967296 := by
  have h := R.dn
  unfold floatToFloatBits at h
  rw [if_neg (by decide)] at h
  split at h
  · cases h
  · rw [← Option.some.inj h]; exact Ieee.Format.write_lt Ieee.single _
  · split at h
    · cases h
    · rw [← Option.some.inj h]; exact Ieee.Format.write_lt Ieee.single _

theorem slp_parts {dx dy : Nat} (hx : Bd 21 dx) (hy : Bd 21 dy) : ∃ p q s u a X Z c a2 X2 Z2 c2, SlpAt dx dy p q s u a X Z c a2 X2 Z2 c2 := by
  obtain ⟨p, q, s, u, a, X, Z, c, N⟩ := nrm_parts hx hy
  obtain ⟨B, hB⟩ : ∃ B : Nat, B = 1150 := ⟨_, rfl⟩
  obtain ⟨ap, vp, p0⟩ := square_nn (B := B) hx N.p1 (by omega) (by omega)
  obtain ⟨aq, vq, q0⟩ := square_nn (B := B) hy N.q1 (by omega) (by omega)
  obtain ⟨_, e1, bp⟩ := same_ex N.p2
  rw [N.p1] at e1; have e1 := Option.some.inj e1; rw [← e1] at bp
  obtain ⟨_, e2, bq⟩ := same_ex N.q2
  rw [N.q1] at e2; have e2 := Option.some.inj e2; rw [← e2] at bq
  obtain ⟨_, e3, bs⟩ := same_ex N.s2
  rw [N.s1] at e3; have e3 := Option.some.inj e3; rw [← e3] at bs
  obtain ⟨J, hJ⟩ : ∃ J : Nat, J = 1074 := ⟨_, rfl⟩
  have up : ∀ {x k : Nat} {a : Int}, Bd k x → vS x = some a → k ≤ 60 → a.natAbs < 2 ^ (J + 61) := by
    intro x k a hb hv hk
    obtain ⟨a', h', l'⟩ := val_bd hb
    rw [hv] at h'
    have := Option.some.inj h'
    subst this
    rw [← hJ] at l'
    exact Nat.lt_of_le_of_lt l' (Nat.pow_lt_pow_right (by omega) (by omega))
  have l1 := up bp vp (by omega)
  have l2 := up bq vq (by omega)
  have vs : vS s = some (rdS (ap + aq)) := vS_add (B := J + 62) N.s1 vp vq (by rw [show J + 62 = J + 61 + 1 by omega, Nat.pow_succ]; generalize 2 ^ (J + 61) = T at *; omega) (by omega)
  obtain ⟨X2, Z2, c2, RT⟩ := root_parts vs (rdS_nonneg (by omega)) bs (by omega)
  exact ⟨p, q, s, u, a, X, Z, c, _, X2, Z2, c2, N, RT, by unfold slpW; rw [N.ws], root_lt RT⟩

/-- The curve. -/
def crvW (c n w e s : Nat) : Nat := subW (mulW (addW (addW (addW n s) e) w) 1048576000) c
structure CrvAt (c n w e s t1 t2 t3 m r : Nat) : Prop where
  a1 : floatBits .add .f32 n s = some t1
  a1' : Same2 .add 21 n s
  a2 : floatBits .add .f32 t1 e = some t2
  a2' : Same2 .add 22 t1 e
  a3 : floatBits .add .f32 t2 w = some t3
  a3' : Same2 .add 23 t2 w
  m1 : floatBits .mul .f32 t3 1048576000 = some m
  m1' : Same2 .mul 23 t3 1048576000
  d1 : floatBits .sub .f32 m c = some r
  d1' : Same2 .sub 24 m c
  w : crvW c n w e s = r
  lt : r < 4294967296
theorem vS_quart {j : Nat} (hj : j = 1072) : vS 1048576000 = some ((2 ^ j : Nat) : Int) := by
  have r : Ieee.single.read 1048576000 = .number false 8388608 (-25) := by decide
  have := vS_lit (t := 1) (k := 23) (j := j) r (by decide) (by omega)
  simpa using this
theorem bd_quart : Bd 0 1048576000 := by
  obtain ⟨J, hJ⟩ : ∃ J : Nat, J = 1074 := ⟨_, rfl⟩
  exact bd_val' (j := J) (vS_quart (j := J - 2) (by omega)) (by omega) (by rw [Int.natAbs_natCast]; exact Nat.pow_le_pow_right (by omega) (by omega))
theorem crv_parts {c n w e s : Nat} (hc : hgtB c = true) (hn : hgtB n = true) (hw : hgtB w = true) (he : hgtB e = true) (hs : hgtB s = true) : ∃ t1 t2 t3 m r, CrvAt c n w e s t1 t2 t3 m r := by
  have a1 : Same2 .add 21 n s := add_same (k := 20) (by omega) (hgt_bd hn) (hgt_bd hs)
  obtain ⟨t1, e1, b1⟩ := same_ex a1
  have a2 : Same2 .add 22 t1 e := add_same (k := 21) (by omega) b1 (bd_up (hgt_bd he) (by omega))
  obtain ⟨t2, e2, b2⟩ := same_ex a2
  have a3 : Same2 .add 23 t2 w := add_same (k := 22) (by omega) b2 (bd_up (hgt_bd hw) (by omega))
  obtain ⟨t3, e3, b3⟩ := same_ex a3
  have m1 : Same2 .mul (23 + 0) t3 1048576000 := mul_same (by omega) b3 bd_quart
  obtain ⟨m, e4, b4⟩ := same_ex m1
  have d1 : Same2 .sub 24 m c := sub_same (k := 23) (by omega) b4 (bd_up (hgt_bd hc) (by omega))
  obtain ⟨r, e5, _⟩ := same_ex d1
  refine ⟨t1, t2, t3, m, r, e1, a1, e2, a2, e3, a3, e4, m1, e5, d1, ?_, sub_lt e5⟩
  unfold crvW addW
  rw [e1]
  show subW (mulW ((floatBits .add .f32 ((floatBits .add .f32 t1 e).getD 0) w).getD 0) 1048576000) c = r
  rw [e2]
  show subW (mulW ((floatBits .add .f32 t2 w).getD 0) 1048576000) c = r
  rw [e3]
  unfold mulW
  show subW ((floatBits .mul .f32 t3 1048576000).getD 0) c = r
  rw [e4]
  unfold subW
  show (floatBits .sub .f32 m c).getD 0 = r
  rw [e5]; rfl

/-- A single without its sign. -/
def absW (v : Nat) : Nat := v % 2147483648
theorem sign_low {v : Nat} {a : Int} (h : v < 2147483648) (hv : vS v = some a) : 0 ≤ a := by
  obtain ⟨s, m, p, e, rfl⟩ := vS_some hv
  have hs : s = false := by
    unfold Ieee.Format.read at e
    simp only [swS, show v / 2147483648 = 0 by omega] at e
    split at e
    · cases e; rfl
    · split at e
      · cases e; rfl
      · split at e <;> cases e
  subst hs
  rw [vOf_mag, if_neg (by simp)]
  have : (0 : Int) ≤ ((m * 2 ^ (p + 1074).toNat : Nat) : Int) := Int.natCast_nonneg _
  omega
theorem neg_low {v : Nat} (h : 2147483648 ≤ v) (h2 : v < 4294967296) : negW v = absW v := by
  unfold negW absW
  rw [xor31 h2, if_neg (by omega)]; omega
theorem sign_high {v : Nat} {a : Int} (h : 2147483648 ≤ v) (h2 : v < 4294967296) (hv : vS v = some a) : a ≤ 0 := by
  have e := neg_low h h2
  have n := neg_val h2 hv
  rw [e] at n
  have := sign_low (by unfold absW; omega) n
  omega
theorem abs_bd {v k : Nat} (h2 : v < 4294967296) (hb : Bd k v) : Bd k (absW v) := by
  rcases Nat.lt_or_ge v 2147483648 with c | c
  · rw [show absW v = v by unfold absW; omega]; exact hb
  · rw [← neg_low c h2]; exact neg_bd h2 hb

theorem read_sign (v : Nat) : (Ieee.single.read v).neg = (v / 2147483648 % 2 == 1) := by
  unfold Ieee.Format.read
  simp only [swS]
  repeat' split
  all_goals rfl

/-- The builtin max of a single and of its opposite. -/
theorem run_max_neg (ts : Array TypeId) (t : TypeId) (x : Nat) {a : Int} (hx : x < 4294967296) (hv : vS x = some a) (w : World) :
    (Builtin.max_ ts t #[.float .f32 x, .float .f32 (negW x)]).run Try.prog w = .ok (.float .f32 (absW x)) w := by
  have o := order_val hv (neg_val hx hv)
  have o' : FloatKind.f32.format.order x (negW x) = some (compare a (-a)) := o
  show (([Value.float .f32 (negW x)]).foldlM Builtin.max2 (Value.float .f32 x)).run Try.prog w = _
  simp only [List.foldlM]
  have m : Builtin.max2 (.float .f32 x) (.float .f32 (negW x)) = pure (.float .f32 (absW x)) := by
    unfold Builtin.max2
    dsimp only
    rw [o']
    rcases Nat.lt_or_ge x 2147483648 with c | c
    · have a0 := sign_low c hv
      have ex : absW x = x := by unfold absW; omega
      rcases h : compare a (-a) with _ | _ | _
      · have : a < -a := Int.compare_eq_lt.1 h
        omega
      · have hd : (FloatKind.f32.decode x).neg = false := by
          show (Ieee.single.read x).neg = false
          rw [read_sign, show x / 2147483648 = 0 by omega]; rfl
        dsimp only
        rw [hd, ex]; rfl
      · dsimp only
        rw [ex]
    · have a0 := sign_high c hx hv
      have ex := neg_low c hx
      rcases h : compare a (-a) with _ | _ | _
      · dsimp only
        rw [ex]
      · have hd : (FloatKind.f32.decode x).neg = true := by
          show (Ieee.single.read x).neg = true
          rw [read_sign, show x / 2147483648 = 1 by omega]; rfl
        dsimp only
        rw [hd, ← ex]; rfl
      · have : -a < a := Int.compare_eq_gt.1 h
        omega
  rw [m]
  rfl
end Go.Proofs.Ytdbponidkodmfaa

/- The closures of Shade on both sides. -/
namespace Go.Proofs.Ytdbponidkodmfaa
open Go.RowKit Fl
set_option linter.unusedVariables false

/-- An integer in a box. -/
abbrev inObj (z : Int) : Obj := .cells #[.int .i64 z] 3
/-- What Shade makes of the cell number j of the region without the rim; i is the cell's number in the field. -/
def shaW (M : Nat) (lx ly lz : Int) (v : Nat → Nat) (W i : Nat) : Nat := shdW (litW M lx ly lz (riseW (v (i + 1)) (v (i - 1))) (riseW (v (i + W)) (v (i - W))))
def rimI (W : Nat) (j : Nat) : Nat := (j / (W - 2) + 1) * W + (j % (W - 2) + 1)
def shaF (M : Nat) (lx ly lz : Int) (v : Nat → Nat) (W : Nat) (j : Nat) : Nat := shaW M lx ly lz v W (rimI W j)

structure ShaAt (M : Nat) (lx ly lz : Int) (v : Nat → Nat) (W i p q u m : Nat) (a : Int) (X Z : Nat) (c : Int) (nx ny nz e f s d t r : Nat) : Prop where
  nm : NrmAt (riseW (v (i + 1)) (v (i - 1))) (riseW (v (i + W)) (v (i - W))) p q u m a X Z c
  lt : LitAt M lx ly lz (riseW (v (i + 1)) (v (i - 1))) (riseW (v (i + W)) (v (i - W))) (rootW m) nx ny nz e f s d t r
  w : shaW M lx ly lz v W i = shdW r

theorem sha_parts {M : Nat} {lx ly lz : Int} {v : Nat → Nat} {X Y : Int} {W H n i : Nat} {x y : Int} (hh : allB n (fun i => hgtB (v i)) = true) (I : InCell X Y W H n i x y) (hM : LenOk M) (l1 : lx.natAbs ≤ 1000) (l2 : ly.natAbs ≤ 1000) (l3 : lz.natAbs ≤ 1000) :
    ∃ p q u m a X' Z c nx ny nz e f s d t r, ShaAt M lx ly lz v W i p q u m a X' Z c nx ny nz e f s d t r := by
  obtain ⟨_, r1, A⟩ := rise_parts (allB_iff.1 hh _ I.a3) (allB_iff.1 hh _ I.a4)
  obtain ⟨_, r2, B⟩ := rise_parts (allB_iff.1 hh _ I.a2) (allB_iff.1 hh _ I.a1)
  have bx : Bd 21 (riseW (v (i + 1)) (v (i - 1))) := by rw [A.w]; exact A.bd
  have by' : Bd 21 (riseW (v (i + W)) (v (i - W))) := by rw [B.w]; exact B.bd
  have lx' : riseW (v (i + 1)) (v (i - 1)) < 4294967296 := by rw [A.w]; exact A.lt
  have ly' : riseW (v (i + W)) (v (i - W)) < 4294967296 := by rw [B.w]; exact B.lt
  obtain ⟨p, q, u, m, a, X', Z, c, N⟩ := nrm_parts bx by'
  obtain ⟨nx, ny, nz, e, f, s, d, t, r, L⟩ := lit_parts bx by' lx' ly' N.w N.rt.val N.c1 hM l1 l2 l3
  exact ⟨p, q, u, m, a, X', Z, c, nx, ny, nz, e, f, s, d, t, r, N, L, by unfold shaW; rw [L.w]⟩

/-- What Shade's closures hold: the field, the direction, its length. -/
structure ShCaps (w : World) (X Y : Int) (W H n b cap : Nat) (v : Nat → Nat) (p pm : Nat) (lx ly lz : Int) (M : Nat) : Prop where
  fld : w.heap[p]? = some (fldO X Y W H (.slice (some ⟨b, 0, none⟩) n cap))
  k1 : w.heap[p + 1]? = some (inObj lx)
  k2 : w.heap[p + 1 + 1]? = some (inObj ly)
  k3 : w.heap[p + 1 + 1 + 1]? = some (inObj lz)
  km : w.heap[pm]? = some (flObj M)
  row : FlAt w b 0 n v
theorem ShCaps.stay {w w' : World} {X Y : Int} {W H n b cap : Nat} {v : Nat → Nat} {p pm : Nat} {lx ly lz : Int} {M : Nat} (h : ShCaps w X Y W H n b cap v p pm lx ly lz M) (hn : 1 ≤ n) (hb : Below w.heap.size w w') : ShCaps w' X Y W H n b cap v p pm lx ly lz M :=
  ⟨blkStay h.fld hb, blkStay h.k1 hb, blkStay h.k2 hb, blkStay h.k3 hb, blkStay h.km hb, flAt_congr h.row (hb.block _ (World.block_lt_of_cell? w _ (h.row 0 hn)))⟩

theorem rim_num {X Y x y : Int} {W j : Nat} (hW : 3 ≤ W) (h1 : X + 1 ≤ x) (h2 : x < X + 1 + ((W : Int) - 2)) (h3 : Y + 1 ≤ y) (hj : (j : Int) = (y - (Y + 1)) * ((W : Int) - 2) + (x - (X + 1))) : ((rimI W j : Nat) : Int) = (y - Y) * W + (x - X) := by
  obtain ⟨W2, e2⟩ : ∃ W2 : Nat, W2 = W - 2 := ⟨_, rfl⟩
  have e3 : ((W : Int) - 2) = (W2 : Int) := by omega
  rw [e3] at hj h2
  obtain ⟨ex, ey⟩ := place_of (X := X + 1) (Y := Y + 1) (x := x) (y := y) (W := W2) (i := j) (by omega) h1 h2 h3 hj
  unfold rimI
  rw [← e2]
  have : (((j / W2 + 1) * W + (j % W2 + 1) : Nat) : Int) = (((j / W2 : Nat) : Int) + 1) * W + (((j % W2 : Nat) : Int) + 1) := by simp
  rw [this, show ((j / W2 : Nat) : Int) + 1 = y - Y by omega, show ((j % W2 : Nat) : Int) + 1 = x - X by omega]

end Go.Proofs.Ytdbponidkodmfaa

/- The reference's closure of Shade; directions and their lengths. -/
namespace Go.Proofs.Ytdbponidkodmfaa
open Go.RowKit Fl
set_option linter.unusedVariables false

/-- Three integers, as a list. -/
def zI (a b c : Int) (m : Nat) : Int := if m = 0 then a else if m = 1 then b else c
abbrev dirObj (a b c : Int) : Obj := .cells #[.int .i64 a, .int .i64 b, .int .i64 c] 3
theorem zI_cell {w : World} {k : Nat} {a b c : Int} (h : w.heap[k]? = some (dirObj a b c)) (j : Nat) (hj : j < 3) : w.cell? ⟨k, j, none⟩ = some (.int .i64 (zI a b c j)) := by
  rw [(blkC h).1 j]
  have : j = 0 ∨ j = 1 ∨ j = 2 := by omega
  rcases this with rfl | rfl | rfl <;> rfl
/-- The error of a direction. -/
def dirE (a b c : Int) : Int := if withinB a (-1000) 1000 = true ∧ withinB b (-1000) 1000 = true ∧ withinB c (-1000) 1000 = true then (if a = 0 ∧ b = 0 ∧ c = 0 then 12 else 0) else 3

set_option maxHeartbeats 1000000 in
theorem checkDir_any (a b c : Int) (k : Nat) (w : World) (h : w.heap[k]? = some (dirObj a b c)) :
    Calls Try.prog 64 #[.slice (some ⟨k, 0, none⟩) 3 3] w fun e w' => e = .returned (.int .i64 (dirE a b c)) ∧ w = w' := by
  have hz := zI_cell h
  have z0 : zI a b c 0 = a := rfl
  have z1 : zI a b c 1 = b := rfl
  have z2 : zI a b c 2 = c := rfl
  have D := Lib.hid (show (∀ m, m < 3 → withinB (zI a b c m) (-1000) 1000 = true) → dirE a b c = (if a = 0 ∧ b = 0 ∧ c = 0 then 12 else 0) from fun q => by
    unfold dirE; rw [if_pos ⟨q 0 (by omega), q 1 (by omega), q 2 (by omega)⟩])
  have D' := Lib.hid (show ∀ m, m < 3 → withinB (zI a b c m) (-1000) 1000 = false → dirE a b c = 3 from fun m hm q => by
    unfold dirE; rw [if_neg]
    rintro ⟨q0, q1, q2⟩
    have : m = 0 ∨ m = 1 ∨ m = 2 := by omega
    rcases this with rfl | rfl | rfl
    · rw [z0, q0] at q; cases q
    · rw [z1, q1] at q; cases q
    · rw [z2, q2] at q; cases q)
  have Z := Lib.hid (show (∀ m, m < 3 → zI a b c m = 0) → (a = 0 ∧ b = 0 ∧ c = 0) from fun q => ⟨q 0 (by omega), q 1 (by omega), q 2 (by omega)⟩)
  have Z' := Lib.hid (show ∀ m, m < 3 → zI a b c m ≠ 0 → ¬ (a = 0 ∧ b = 0 ∧ c = 0) from fun m hm q h => by
    have : m = 0 ∨ m = 1 ∨ m = 2 := by omega
    rcases this with rfl | rfl | rfl
    · exact q h.1
    · exact q h.2.1
    · exact q h.2.2)
  have WI := Lib.hid (fun x w => within_any x (-1000) 1000 w)
  generalize zI a b c = z at *
  clear z0 z1 z2 h
  go_enter Try.func64, Try.ntmps64
  go_wp2
  go_loop [3, 8] (fun s i => ∃ (j : Nat) (q : Bool), j ≤ 3 ∧ i = .int .i64 j ∧ s = .bool q ∧ (∀ m, m < j → withinB (z m) (-1000) 1000 = true) ∧ (q = true → ∃ m, m < j ∧ z m ≠ 0) ∧ (q = false → ∀ m, m < j → z m = 0)) (fun s i => 3 - (intOf i).toNat)
  case atStart => exact ⟨0, false, by omega, rfl, rfl, (fun m hm => by omega), (fun h => by cases h), (fun _ m hm => by omega)⟩
  case round =>
    obtain ⟨j, q, hj, rfl, rfl, hw, ht, hf⟩ := hrel
    have HW := Lib.hid hw
    have HT := Lib.hid ht
    have HF := Lib.hid hf
    clear hw ht hf
    by_cases c3 : j < 3
    · have hcell := hz j c3
      have nextw : withinB (z j) (-1000) 1000 = true → ∀ m, m < j + 1 → withinB (z m) (-1000) 1000 = true := fun hh m hm => by
        rcases Nat.lt_or_ge m j with l | l
        · exact HW.out m l
        · rw [show m = j by omega]; exact hh
      cases hwi : withinB (z j) (-1000) 1000 with
      | false =>
        have W1 := Lib.hid (fun w => within_any (z j) (-1000) 1000 w)
        rw [hwi] at W1
        have HD := Lib.hid (D'.out j c3 hwi)
        clear hwi nextw
        go_wp2_with (first | (go_at_call 63; refine (W1.out _).mono ?_; rintro e' w' ⟨rfl, rfl⟩))
        go_ret
        exact ⟨ret_int HD.out.symm, rfl⟩
      | true =>
        have W1 := Lib.hid (fun w => within_any (z j) (-1000) 1000 w)
        rw [hwi] at W1
        have NW := Lib.hid (nextw hwi)
        clear hwi nextw
        cases q with
        | true =>
          go_wp2_with (first | (go_at_call 63; refine (W1.out _).mono ?_; rintro e' w' ⟨rfl, rfl⟩))
          go_round
          case rel => exact ⟨j + 1, true, by omega, by go_num, rfl, NW.out, (fun _ => by obtain ⟨m, hm, hne⟩ := HT.out (by first | rfl | trivial); exact ⟨m, by omega, hne⟩), (fun h => by cases h)⟩
          case measure => simp [intOf]; omega
        | false =>
          by_cases z0 : z j = 0
          · have zb : (z j != 0) = false := by simp [z0]
            have Z0 := Lib.hid z0
            clear z0
            go_wp2_with (first | (go_at_call 63; refine (W1.out _).mono ?_; rintro e' w' ⟨rfl, rfl⟩))
            go_round
            case rel => exact ⟨j + 1, false, by omega, by go_num, rfl, NW.out, (fun h => by cases h), (fun _ m hm => by
              rcases Nat.lt_or_ge m j with l | l
              · exact HF.out (by first | rfl | trivial) m l
              · rw [show m = j by omega]; exact Z0.out)⟩
            case measure => simp [intOf]; omega
          · have zb : (z j != 0) = true := by simp [z0]
            have Z0 := Lib.hid z0
            clear z0
            go_wp2_with (first | (go_at_call 63; refine (W1.out _).mono ?_; rintro e' w' ⟨rfl, rfl⟩))
            go_round
            case rel => exact ⟨j + 1, true, by omega, by go_num, rfl, NW.out, (fun _ => ⟨j, by omega, Z0.out⟩), (fun h => by cases h)⟩
            case measure => simp [intOf]; omega
    · have : j = 3 := by omega
      subst this
      cases q with
      | true =>
        go_wp2
        go_ret
        obtain ⟨m, hm, hne⟩ := HT.out (by first | rfl | trivial)
        exact ⟨ret_int (by rw [D.out HW.out, if_neg (Z'.out m hm hne)]), rfl⟩
      | false =>
        go_wp2
        go_ret
        exact ⟨ret_int (by rw [D.out HW.out, if_pos (Z.out (HF.out (by first | rfl | trivial)))]), rfl⟩
end Go.Proofs.Ytdbponidkodmfaa

/- The length of a direction; the reference's error of a direction. -/
namespace Go.Proofs.Ytdbponidkodmfaa
open Go.RowKit Fl
set_option linter.unusedVariables false

def sq3 (a b c : Int) : Int := a * a + b * b + c * c
def lenW (a b c : Int) : Nat := rootW (floatOfInt .f32 (sq3 a b c))
theorem sq_small {d : Int} (h : d.natAbs ≤ 1000) : 0 ≤ d * d ∧ d * d ≤ 1000000 := by
  rw [← Int.natAbs_mul_self' d]
  have l : d.natAbs * d.natAbs ≤ 1000 * 1000 := Nat.mul_le_mul h h
  have e : ((d.natAbs : Int) * (d.natAbs : Int)) = ((d.natAbs * d.natAbs : Nat) : Int) := by simp
  rw [e]; omega
theorem sq_pos {d : Int} (h : d ≠ 0) : 1 ≤ d * d := by
  rw [← Int.natAbs_mul_self' d]
  have : 0 < d.natAbs * d.natAbs := Nat.mul_pos (by omega) (by omega)
  have e : ((d.natAbs : Int) * (d.natAbs : Int)) = ((d.natAbs * d.natAbs : Nat) : Int) := by simp
  rw [e]; omega

theorem dir_ok {a b c : Int} (h : dirE a b c = 0) : a.natAbs ≤ 1000 ∧ b.natAbs ≤ 1000 ∧ c.natAbs ≤ 1000 ∧ 1 ≤ sq3 a b c := by
  unfold dirE at h
  split at h
  · rename_i q
    obtain ⟨q1, q2, q3⟩ := q
    have w1 := withinB_iff.1 q1
    have w2 := withinB_iff.1 q2
    have w3 := withinB_iff.1 q3
    have l1 : a.natAbs ≤ 1000 := by omega
    have l2 : b.natAbs ≤ 1000 := by omega
    have l3 : c.natAbs ≤ 1000 := by omega
    have s1 := sq_small l1
    have s2 := sq_small l2
    have s3 := sq_small l3
    refine ⟨l1, l2, l3, ?_⟩
    unfold sq3
    split at h
    · cases h
    · rename_i nz
      by_cases za : a = 0
      · by_cases zb : b = 0
        · have := sq_pos (show c ≠ 0 from fun z => nz ⟨za, zb, z⟩); omega
        · have := sq_pos zb; omega
      · have := sq_pos za; omega
  · cases h

theorem dir_len {a b c : Int} (l1 : a.natAbs ≤ 1000) (l2 : b.natAbs ≤ 1000) (l3 : c.natAbs ≤ 1000) (p : 1 ≤ sq3 a b c) : (∃ X Z cc, RootAt (floatOfInt .f32 (sq3 a b c)) (sq3 a b c * (one : Int)) X Z cc) ∧ LenOk (lenW a b c) := by
  have s1 := sq_small l1
  have s2 := sq_small l2
  have s3 := sq_small l3
  have hs : sq3 a b c ≤ 3000000 := by unfold sq3; omega
  have hp : (0 : Int) < (one : Int) := Int.natCast_pos.2 one_pos
  obtain ⟨vn, bn⟩ := int_val (n := sq3 a b c) (by omega)
  obtain ⟨X, Z, cc, RT⟩ := root_parts vn (Int.mul_nonneg (by omega) (by omega)) bn (by omega)
  refine ⟨⟨X, Z, cc, RT⟩, cc, RT.val, ?_⟩
  have := RT.lo 1 (by omega) (by
    have := Int.mul_le_mul_of_nonneg_right p (show (0 : Int) ≤ (one : Int) by omega)
    simpa using this)
  simpa using this

set_option maxHeartbeats 2000000 in
theorem length_any (a b c : Int) (k : Nat) (w : World) (h : w.heap[k]? = some (dirObj a b c)) (l1 : a.natAbs ≤ 1000) (l2 : b.natAbs ≤ 1000) (l3 : c.natAbs ≤ 1000) (p : 1 ≤ sq3 a b c) :
    Calls Try.prog 137 #[.slice (some ⟨k, 0, none⟩) 3 3] w fun e w' => e = .returned (.float .f32 (lenW a b c)) ∧ w = w' := by
  obtain ⟨⟨X, Z, cc, RT⟩, _⟩ := dir_len l1 l2 l3 p
  have s1 := sq_small l1
  have s2 := sq_small l2
  have s3 := sq_small l3
  have RO := Lib.hid (fun w => root_any RT w)
  unfold lenW
  generalize rootW (floatOfInt .f32 (sq3 a b c)) = M at *
  obtain ⟨A, hA⟩ : ∃ A, a * a = A := ⟨_, rfl⟩
  obtain ⟨B, hB⟩ : ∃ B, b * b = B := ⟨_, rfl⟩
  obtain ⟨C, hC⟩ : ∃ C, c * c = C := ⟨_, rfl⟩
  have u1 : wrap64 (a * a) = A := by rw [← hA]; exact IntWalk.wrap64_in _ ⟨by omega, by omega⟩
  have u2 : wrap64 (b * b) = B := by rw [← hB]; exact IntWalk.wrap64_in _ ⟨by omega, by omega⟩
  have u3 : wrap64 (c * c) = C := by rw [← hC]; exact IntWalk.wrap64_in _ ⟨by omega, by omega⟩
  have e : sq3 a b c = A + B + C := by unfold sq3; rw [hA, hB, hC]
  rw [e] at RO
  rw [hA] at s1
  rw [hB] at s2
  rw [hC] at s3
  obtain ⟨cB, fB, zB⟩ := blkC h
  clear hA hB hC e p l1 l2 l3 RT h
  go_enter Try.func137, Try.ntmps137
  go_wp2
  go_loop [3, 8] (fun s i => (i = .int .i64 0 ∧ s = .int .i64 0) ∨ (i = .int .i64 1 ∧ s = .int .i64 A) ∨ (i = .int .i64 2 ∧ s = .int .i64 (A + B)) ∨ (i = .int .i64 3 ∧ s = .int .i64 (A + B + C))) (fun s i => 3 - (intOf i).toNat)
  case atStart => exact .inl ⟨rfl, rfl⟩
  case round =>
    rcases hrel with ⟨rfl, rfl⟩ | ⟨rfl, rfl⟩ | ⟨rfl, rfl⟩ | ⟨rfl, rfl⟩
    · go_wp2
      go_round
      case rel => exact .inr (.inl ⟨rfl, by simp⟩)
      case measure => simp [intOf]
    · go_wp2
      go_round
      case rel => exact .inr (.inr (.inl ⟨rfl, rfl⟩))
      case measure => simp [intOf]
    · go_wp2
      go_round
      case rel => exact .inr (.inr (.inr ⟨rfl, rfl⟩))
      case measure => simp [intOf]
    · go_wp2_with (first | (go_at_call 142; refine (RO.out _).mono ?_; rintro e' w' ⟨rfl, rfl⟩))
      go_ret
      exact ⟨rfl, rfl⟩

end Go.Proofs.Ytdbponidkodmfaa

/- Shade of the program, of a right field. -/
namespace Go.Proofs.Ytdbponidkodmfaa
open Go.RowKit Fl
set_option linter.unusedVariables false

end Go.Proofs.Ytdbponidkodmfaa

/- Shade of the program, of a right field that has a rim, and a right direction. -/
namespace Go.Proofs.Ytdbponidkodmfaa
open Go.RowKit Fl
set_option linter.unusedVariables false

theorem rim_check {X Y : Int} {W H W2 H2 : Nat} (h0 : checkR X Y W H = 0) (eW : W = W2 + 2) (eH : H = H2 + 2) (w1 : 1 ≤ W2) (h1 : 1 ≤ H2) : checkR (X + 1) (Y + 1) W2 H2 = 0 := by
  obtain ⟨b1, b2, b3, b4, b5, b6, b7, b8, b9⟩ := checkR_zero h0
  have m : W2 * H2 ≤ W * H := Nat.mul_le_mul (by omega) (by omega)
  have m' : ((W2 : Int) * (H2 : Int)) ≤ (W : Int) * (H : Int) := by
    have : ((W2 * H2 : Nat) : Int) ≤ ((W * H : Nat) : Int) := Int.ofNat_le.2 m
    simpa using this
  unfold checkR
  rw [if_neg (by omega), if_neg (by omega), if_neg (by omega)]

end Go.Proofs.Ytdbponidkodmfaa

/- Contracts: slope and curve of a cell, and look, of the program. -/
namespace Go.Proofs.Ytdbponidkodmfaa
open Go.RowKit Fl
set_option linter.unusedVariables false

set_option maxHeartbeats 1000000 in
theorem slope_any (c n ww e s : Nat) (w : World) (hn : hgtB n = true) (hw : hgtB ww = true) (he : hgtB e = true) (hs : hgtB s = true) :
    Calls Try.prog 81 #[crossV c n ww e s] w fun e' w' => e' = .returned (.float .f32 (slpW (riseW e ww) (riseW s n))) ∧ Below w.heap.size w w' := by
  obtain ⟨d, r, A⟩ := rise_parts he hw
  obtain ⟨d', r', B⟩ := rise_parts hs hn
  obtain ⟨p, q, t, u, a, X, Z, cc, a2, X2, Z2, c2, S⟩ := slp_parts (dx := riseW e ww) (dy := riseW s n) (by rw [A.w]; exact A.bd) (by rw [B.w]; exact B.bd)
  have SQ := Lib.hid (fun w => square_cross c n ww e s w hn hw he hs S.nm)
  have RT := Lib.hid (fun w => root_any S.rt w)
  rw [S.w]
  clear S A B hn hw he hs
  go_enter Try.func81, Try.ntmps81
  go_wp2_with (first | (go_at_call 143; refine (SQ.out _).mono ?_; rintro e3 w3 ⟨rfl, hb3⟩; have hB3 : Below w.heap.size w w3 := Below.trans (by repeat (first | exact Below.refl _ _ | refine Below.alloc ?_ (by first | omega | (simp; done) | (simp; omega)) _ | refine Below.setCell ?_ (by first | omega | (simp; done) | (simp; omega)) _ | refine Below.drew ?_)) (Below.mono hb3 (by first | omega | (simp; done) | (simp; omega)))) | (go_at_call 142; refine (RT.out _).mono ?_; rintro e' w' ⟨rfl, rfl⟩))
  go_ret
  exact ⟨rfl, hB3⟩

set_option maxHeartbeats 1000000 in
theorem curve_any (c n ww e s : Nat) (w : World) (hc : hgtB c = true) (hn : hgtB n = true) (hw : hgtB ww = true) (he : hgtB e = true) (hs : hgtB s = true) :
    Calls Try.prog 87 #[crossV c n ww e s] w fun e' w' => e' = .returned (.float .f32 (crvW c n ww e s)) ∧ Below w.heap.size w w' := by
  obtain ⟨t1, t2, t3, m, r, C⟩ := crv_parts hc hn hw he hs
  rw [C.w]
  have a1 := fun (W : World) => run_float_arith (P := Try.prog) W .add 34 .f32 n s t1 C.a1
  have a2 := fun (W : World) => run_float_arith (P := Try.prog) W .add 34 .f32 t1 e t2 C.a2
  have a3 := fun (W : World) => run_float_arith (P := Try.prog) W .add 34 .f32 t2 ww t3 C.a3
  have a4 := fun (W : World) => run_float_arith (P := Try.prog) W .mul 34 .f32 t3 1048576000 m C.m1
  have a5 := fun (W : World) => run_float_arith (P := Try.prog) W .sub 34 .f32 m c r C.d1
  clear C hc hn hw he hs
  go_enter Try.func87, Try.ntmps87
  go_wp2
  go_ret
  exact ⟨rfl, (by repeat (first | exact Below.refl _ _ | refine Below.alloc ?_ (by first | omega | (simp; done) | (simp; omega)) _ | refine Below.setCell ?_ (by first | omega | (simp; done) | (simp; omega)) _ | refine Below.drew ?_))⟩

/-- A function of a cell with its four neighbours. -/
def At5 (g : Nat) (F : Nat → Nat → Nat → Nat → Nat → Nat) : Prop :=
  ∀ (c n ww e s : Nat) (w : World), hgtB c = true → hgtB n = true → hgtB ww = true → hgtB e = true → hgtB s = true →
    Calls Try.prog g #[crossV c n ww e s] w fun e' w' => e' = .returned (.float .f32 (F c n ww e s)) ∧ Below w.heap.size w w'
/-- .. on the rim's inside. -/
def rimF (F : Nat → Nat → Nat → Nat → Nat → Nat) (v : Nat → Nat) (W j : Nat) : Nat := F (v (rimI W j)) (v (rimI W j - W)) (v (rimI W j - 1)) (v (rimI W j + 1)) (v (rimI W j + W))

theorem enters_look1 : Enters 141 := by intro args W; simp [callFunc, Try.func141, Try.f141]
abbrev atObj (g : Nat) : Obj := .cells #[.func (.func g) #[] #[]] 99

set_option maxHeartbeats 4000000 in
set_option maxRecDepth 100000 in
theorem look1_any (X Y : Int) (W H n b cap : Nat) (v : Nat → Nat) (p q g : Nat) (F : Nat → Nat → Nat → Nat → Nat → Nat) (hg : At5 g F) (hcall : Enters g) (w : World) (hp : w.heap[p]? = some (fldO X Y W H (.slice (some ⟨b, 0, none⟩) n cap))) (hq : w.heap[q]? = some (atObj g)) (hr : FlAt w b 0 n v)
    (h0 : checkR X Y W H = 0) (hn : n = H * W) (hcap : n ≤ cap) (hcp : cap ≤ 9223372036854775807) (hh : allB n (fun i => hgtB (v i)) = true) (hW : 3 ≤ W) (hH : 3 ≤ H) :
    Clos2 141 #[.pointer (some ⟨q, 0, none⟩), .pointer (some ⟨p, 0, none⟩)] (X + 1) (Y + 1) ((W : Int) - 2) ((H : Int) - 2) (rimF F v W) w := by
  intro x y j w2 h1 h2 h3 h4 hj hb
  have n1 : 1 ≤ n := by rw [hn]; exact Nat.mul_pos (by omega) (by omega)
  have hr2 := flAt_congr hr (hb.block _ (World.block_lt_of_cell? w _ (hr 0 n1)))
  have hi := rim_num hW h1 h2 h3 hj
  unfold rimF
  obtain ⟨i, hi'⟩ : ∃ i, rimI W j = i := ⟨_, rfl⟩
  rw [hi'] at hi ⊢
  have I := in_cell hn h1 (show x + 1 < X + W by omega) h3 (show y + 1 < Y + H by omega) hi
  have zb : b < w2.heap.size := World.block_lt_of_cell? w2 _ (hr2 i I.a0)
  have CA := Lib.hid (fun W' (hb : Below w2.heap.size w2 W') => crossAt_any X Y W H n b cap i v x y W' h0 hn hcap hcp (flAt_congr hr2 (hb.block _ zb)) I.h1 I.h2 I.h3 I.h4 I.hi)
  have NO := Lib.hid (fun w => hg (v i) (v (i - W)) (v (i - 1)) (v (i + 1)) (v (i + W)) w (allB_iff.1 hh _ I.a0) (allB_iff.1 hh _ I.a1) (allB_iff.1 hh _ I.a4) (allB_iff.1 hh _ I.a3) (allB_iff.1 hh _ I.a2))
  have GF := Lib.hid (blkStay hp hb)
  have GQ := Lib.hid (blkStay hq hb)
  obtain ⟨cF, fF, zF⟩ := blkC GF.out
  obtain ⟨cQ, fQ, zQ⟩ := blkC GQ.out
  unfold Enters at hcall
  clear hp hq hr h0 hn hcap hcp hh hW hH hb hi hi' I h1 h2 h3 h4 hj n1 hr2 hg zb
  generalize F (v i) (v (i - W)) (v (i - 1)) (v (i + 1)) (v (i + W)) = res at *
  generalize v i = v0 at *
  generalize v (i - W) = v1 at *
  generalize v (i + W) = v2 at *
  generalize v (i + 1) = v3 at *
  generalize v (i - 1) = v4 at *
  go_enter Try.func141, Try.ntmps141
  go_wp2
  go_region_held3 (fun w' => (∀ o, w'.cell? ⟨p, o, none⟩ = #[.int .i64 X, .int .i64 Y, .int .i64 W, .int .i64 H, .slice (some ⟨b, 0, none⟩) n cap][o]?) ∧ (∀ o, w'.cell? ⟨q, o, none⟩ = #[.func (.func g) #[] #[]][o]?) ∧ Below w2.heap.size w2 w') (first | exact ⟨(blkC (blkStay GF.out hb9)).1, (blkC (blkStay GQ.out hb9)).1, hb9⟩ | exact ⟨(blkC (blkStay GF.out (by repeat (first | exact Below.refl _ _ | refine Below.alloc ?_ (by first | omega | (simp; done) | (simp; omega)) _ | refine Below.setCell ?_ (by first | omega | (simp; done) | (simp; omega)) _ | refine Below.drew ?_)))).1, (blkC (blkStay GQ.out (by repeat (first | exact Below.refl _ _ | refine Below.alloc ?_ (by first | omega | (simp; done) | (simp; omega)) _ | refine Below.setCell ?_ (by first | omega | (simp; done) | (simp; omega)) _ | refine Below.drew ?_)))).1, (by repeat (first | exact Below.refl _ _ | refine Below.alloc ?_ (by first | omega | (simp; done) | (simp; omega)) _ | refine Below.setCell ?_ (by first | omega | (simp; done) | (simp; omega)) _ | refine Below.drew ?_))⟩) (first | (go_at_call 94; (with_reducible refine Calls.mono (CA.out _ ?_) ?_); exact (by repeat (first | exact Below.refl _ _ | refine Below.alloc ?_ (by first | omega | (simp; done) | (simp; omega)) _ | refine Below.setCell ?_ (by first | omega | (simp; done) | (simp; omega)) _ | refine Below.drew ?_)); rintro e w' ⟨rfl, hb8⟩; have hb9 : Below w2.heap.size w2 w' := Below.trans (by first | exact hb9 | exact hb9.drew | exact (by repeat (first | exact Below.refl _ _ | refine Below.alloc ?_ (by first | omega | (simp; done) | (simp; omega)) _ | refine Below.setCell ?_ (by first | omega | (simp; done) | (simp; omega)) _ | refine Below.drew ?_))) (Below.mono hb8 (by first | exact hb9.size | exact Nat.le_refl _ | (simp; done) | (simp; omega))); clear hb8) | (go_simp; (with_reducible refine Calls.mono (NO.out _) ?_); rintro e w' ⟨rfl, hb8⟩; have hb9 : Below w2.heap.size w2 w' := Below.trans (by first | exact hb9 | exact hb9.drew | exact (by repeat (first | exact Below.refl _ _ | refine Below.alloc ?_ (by first | omega | (simp; done) | (simp; omega)) _ | refine Below.setCell ?_ (by first | omega | (simp; done) | (simp; omega)) _ | refine Below.drew ?_))) (Below.mono hb8 (by first | exact hb9.size | exact Nat.le_refl _ | (simp; done) | (simp; omega))); clear hb8))
  rename_i wh hHeld
  go_wp2
  go_ret
  exact ⟨rfl, hHeld.2.2⟩

set_option maxHeartbeats 2000000 in
theorem look_no (X Y : Int) (W H n b cap : Nat) (v : Nat → Nat) (g : Nat) (w : World) (h0 : checkR X Y W H = 0) (hn : n = W * H) (hc : FlAt w b 0 n v) (hh : allB n (fun i => hgtB (v i)) = true) (hi : innB W H = false) :
    Calls Try.prog 80 #[fldV X Y W H (.slice (some ⟨b, 0, none⟩) n cap), .func (.func g) #[] #[]] w fun e w' => e = .returned (.tuple #[fldV 0 0 0 0 (.slice none 0 0), .int .i64 10]) ∧ Below w.heap.size w w' := by
  have h1 : 1 ≤ n := by
    obtain ⟨b1, b2, b3, b4, b5, _⟩ := checkR_zero h0
    rw [hn]; exact Nat.mul_pos (by omega) (by omega)
  have hlt : b < w.heap.size := World.block_lt_of_cell? w _ (hc 0 h1)
  have IN := Lib.hid (fun W' (hb : Below w.heap.size w W') => inner_any X Y W H n b cap v W' h0 hn (flAt_congr hc (hb.block _ hlt)) hh)
  rw [hi] at IN
  simp only [Bool.false_eq_true, if_false] at IN
  clear h0 hn hc hh h1 hi
  go_enter Try.func80, Try.ntmps80
  go_wp2_with (first | (go_at_call 91; refine (IN.out _ (by repeat (first | exact Below.refl _ _ | refine Below.alloc ?_ (by first | omega | (simp; done) | (simp; omega)) _ | refine Below.setCell ?_ (by first | omega | (simp; done) | (simp; omega)) _ | refine Below.drew ?_))).mono ?_; rintro e w2 ⟨rfl, hb2⟩; have HS2 := Lib.hid (blkStay (b := w.heap.size + 1 + 1) (o := fldO 0 0 0 0 (.slice none 0 0)) (by (first | (rw [heap_alloc_get, if_pos rfl]; done) | ((simp only [heap_alloc_get, heap_size_alloc, if_true]) <;> ((repeat' split) <;> first | rfl | omega)))) hb2); have hB2 : Below w.heap.size w w2 := Below.trans (by repeat (first | exact Below.refl _ _ | refine Below.alloc ?_ (by first | omega | (simp; done) | (simp; omega)) _ | refine Below.setCell ?_ (by first | omega | (simp; done) | (simp; omega)) _ | refine Below.drew ?_)) (Below.mono hb2 (by first | omega | (simp; done) | (simp; omega))); clear hb2; obtain ⟨cS, fS, zS⟩ := blkC HS2.out))
  have HRES := fun (u1 u2 u3 u4 u5 : Value) (o : Obj) => (blkC ((heap_alloc_old (set5 w2 (w.heap.size + 1 + 1) u1 u2 u3 u4 u5) o (by rw [set5_size]; exact zS)).trans (set5_self u1 u2 u3 u4 u5 HS2.out))).1
  simp only [set5] at HRES
  refine bodyPost_ret (v := .tuple #[fldV 0 0 0 0 (.slice none 0 0), .int .i64 10]) (by simp [results, Try.results80, go_sem, HRES]) rfl ?_
  exact ⟨rfl, by repeat (first | exact hB2 | refine Below.alloc ?_ (by first | omega | (simp; done) | (simp; omega)) _ | refine Below.setCell ?_ (by first | omega | (simp; done) | (simp; omega)) _)⟩

set_option maxHeartbeats 4000000 in
theorem look_ok (X Y : Int) (W H n b cap W2 H2 : Nat) (v : Nat → Nat) (g : Nat) (F : Nat → Nat → Nat → Nat → Nat → Nat) (hg : At5 g F) (hcall : Enters g) (w : World) (h0 : checkR X Y W H = 0) (hn : n = W * H) (hcap : n ≤ cap) (hcp : cap ≤ 9223372036854775807) (hc : FlAt w b 0 n v) (hh : allB n (fun i => hgtB (v i)) = true)
    (eW : W = W2 + 2) (eH : H = H2 + 2) (w1 : 1 ≤ W2) (g1 : 1 ≤ H2) :
    Calls Try.prog 80 #[fldV X Y W H (.slice (some ⟨b, 0, none⟩) n cap), .func (.func g) #[] #[]] w (ScPost w (X + 1) (Y + 1) W2 H2 (H2 * W2) (rimF F v W) 0) := by
  obtain ⟨b1, b2, b3, b4, b5, _⟩ := checkR_zero h0
  have h1 : 1 ≤ n := by rw [hn]; exact Nat.mul_pos (by omega) (by omega)
  have hnn : n = H * W := by rw [hn]; exact Nat.mul_comm _ _
  have hlt : b < w.heap.size := World.block_lt_of_cell? w _ (hc 0 h1)
  have iW : (W : Int) - 2 = (W2 : Int) := by omega
  have iH : (H : Int) - 2 = (H2 : Int) := by omega
  have IN := Lib.hid (fun W' (hb : Below w.heap.size w W') => inner_any X Y W H n b cap v W' h0 hn (flAt_congr hc (hb.block _ hlt)) hh)
  have hi : innB W H = true := by unfold innB; simp; omega
  rw [hi, iW, iH] at IN
  simp only [if_true] at IN
  have MK := Lib.hid (fun W' p (k1 : W'.heap[p]? = some (fldO X Y W H (.slice (some ⟨b, 0, none⟩) n cap))) (k2 : W'.heap[p + 1]? = some (atObj g)) (hr : FlAt W' b 0 n v) => make_ok (X + 1) (Y + 1) W2 H2 (H2 * W2) 141 #[.pointer (some ⟨p + 1, 0, none⟩), .pointer (some ⟨p, 0, none⟩)] (rimF F v W) W' enters_look1
    (by have C := look1_any X Y W H n b cap v p (p + 1) g F hg hcall W' k1 k2 hr h0 hnn hcap hcp hh (by omega) (by omega)
        rw [iW, iH] at C; exact C) (rim_check h0 eW eH w1 g1) rfl)
  have HC := Lib.hid hc
  generalize rimF F v W = f at *
  generalize H2 * W2 = n2 at *
  clear h0 hn hnn hcap hcp hc hh eW eH w1 g1 b1 b2 b3 b4 b5 iW iH hi h1 hg hcall
  go_enter Try.func80, Try.ntmps80
  go_wp2_with (first | (go_at_call 91; refine (IN.out _ (by repeat (first | exact Below.refl _ _ | refine Below.alloc ?_ (by first | omega | (simp; done) | (simp; omega)) _ | refine Below.setCell ?_ (by first | omega | (simp; done) | (simp; omega)) _ | refine Below.drew ?_))).mono ?_; rintro e w2 ⟨rfl, hb2⟩; have HF2 := Lib.hid (blkStay (b := w.heap.size) (o := fldO X Y W H (.slice (some ⟨b, 0, none⟩) n cap)) (by (first | (rw [heap_alloc_get, if_pos rfl]; done) | ((simp only [heap_alloc_get, heap_size_alloc, if_true]) <;> ((repeat' split) <;> first | rfl | omega)))) hb2); have HQ2 := Lib.hid (blkStay (b := w.heap.size + 1) (o := atObj g) (by (first | (rw [heap_alloc_get, if_pos rfl]; done) | ((simp only [heap_alloc_get, heap_size_alloc, if_true]) <;> ((repeat' split) <;> first | rfl | omega)))) hb2); have HS2 := Lib.hid (blkStay (b := w.heap.size + 1 + 1) (o := fldO 0 0 0 0 (.slice none 0 0)) (by (first | (rw [heap_alloc_get, if_pos rfl]; done) | ((simp only [heap_alloc_get, heap_size_alloc, if_true]) <;> ((repeat' split) <;> first | rfl | omega)))) hb2); have hB2 : Below w.heap.size w w2 := Below.trans (by repeat (first | exact Below.refl _ _ | refine Below.alloc ?_ (by first | omega | (simp; done) | (simp; omega)) _ | refine Below.setCell ?_ (by first | omega | (simp; done) | (simp; omega)) _ | refine Below.drew ?_)) (Below.mono hb2 (by first | omega | (simp; done) | (simp; omega))); clear hb2))
  have hbA : Below w2.heap.size w2 (w2.alloc (regObj (X + 1) (Y + 1) W2 H2)) := (Below.refl _ _).alloc (Nat.le_refl _) _
  have z2 := hB2.size
  refine (MK.out _ w.heap.size (blkStay HF2.out hbA) (blkStay HQ2.out hbA) (flAt_congr HC.out ((hB2.trans (hbA.mono z2)).block _ hlt))).mono ?_
  intro e w4 hmade
  rcases hmade with ⟨hall, b', cap', rfl, hb', hlt', hrow, hbel⟩ | ⟨hall, rfl, hbel⟩
  · have hb24 : Below w2.heap.size w2 w4 := hbA.trans (hbel.mono hbA.size)
    have hz5 := hbA.size
    obtain ⟨cS, fS, zS⟩ := blkC (blkStay HS2.out hb24)
    go_wp2
    refine bodyPost_ret (v := .tuple #[fldV (X + 1) (Y + 1) W2 H2 (.slice (some ⟨b', 0, none⟩) n2 cap'), .int .i64 0]) (by simp [results, Try.results80, go_sem, cS]) rfl ?_
    exact .inr ⟨rfl, .inl ⟨hall, b', cap', rfl, by omega, by rw [set5_size]; exact hlt', flAt_congr hrow (set5_heap w4 _ _ _ _ _ _ _ (by have := HS2.out; have := (blkC this).2.2; omega)), set5_below (hB2.trans (hb24.mono z2)) _ _ _ _ _ _ (by omega)⟩⟩
  · have hb24 : Below w2.heap.size w2 w4 := hbA.trans (hbel.mono hbA.size)
    obtain ⟨cS, fS, zS⟩ := blkC (blkStay HS2.out hb24)
    go_wp2
    refine bodyPost_ret (v := .tuple #[fldV 0 0 0 0 (.slice none 0 0), .int .i64 3]) (by simp [results, Try.results80, go_sem, cS]) rfl ?_
    exact .inr ⟨rfl, .inr ⟨hall, rfl, set5_below (hB2.trans (hb24.mono z2)) _ _ _ _ _ _ (by omega)⟩⟩

theorem enters_slope : Enters 81 := by intro args W; simp [callFunc, Try.func81, Try.f81]
theorem enters_curve : Enters 87 := by intro args W; simp [callFunc, Try.func87, Try.f87]
def slpF (c n ww e s : Nat) : Nat := slpW (riseW e ww) (riseW s n)
theorem at_slope : At5 81 slpF := fun c n ww e s w _ h2 h3 h4 h5 => slope_any c n ww e s w h2 h3 h4 h5
theorem at_curve : At5 87 crvW := fun c n ww e s w h1 h2 h3 h4 h5 => curve_any c n ww e s w h1 h2 h3 h4 h5

set_option maxHeartbeats 1000000 in
theorem slopeX_wrap (X Y W H : Int) (n : Nat) (F : Nat → Nat) (er : Int) (X1 Y1 W1 H1 : Int) (s : Value) (w : World) (hl : ∀ W', Below w.heap.size w W' → Calls Try.prog 80 #[fldV X1 Y1 W1 H1 s, .func (.func 81) #[] #[]] W' (ScPost W' X Y W H n F er)) :
    Calls Try.prog 28 #[fldV X1 Y1 W1 H1 s] w (ScPost w X Y W H n F er) := by
  have BT := Lib.hid hl
  clear hl
  go_enter Try.func28, Try.ntmps28
  go_wp2_with fail
  refine (BT.out _ (by repeat (first | exact Below.refl _ _ | refine Below.alloc ?_ (by first | omega | (simp; done) | (simp; omega)) _ | refine Below.setCell ?_ (by first | omega | (simp; done) | (simp; omega)) _ | refine Below.drew ?_))).mono ?_
  intro e w4 hp
  rcases hp with ⟨ne, rfl, hbel⟩ | ⟨rfl, ⟨hall, b', cap', rfl, hb', hlt', hrow, hbel⟩ | ⟨hall, rfl, hbel⟩⟩
  · have hS := Lib.hid (blkStay (b := w.heap.size + 1) (o := fldO 0 0 0 0 (.slice none 0 0)) (by (first | (rw [heap_alloc_get, if_pos rfl]; done) | ((simp only [heap_alloc_get, heap_size_alloc, if_true]) <;> ((repeat' split) <;> first | rfl | omega)))) hbel)
    have hB : Below w.heap.size w w4 := Below.trans (by repeat (first | exact Below.refl _ _ | refine Below.alloc ?_ (by first | omega | (simp; done) | (simp; omega)) _ | refine Below.setCell ?_ (by first | omega | (simp; done) | (simp; omega)) _ | refine Below.drew ?_)) (Below.mono hbel (by simp; omega))
    obtain ⟨cS, fS, zS⟩ := blkC hS.out
    go_wp2
    refine bodyPost_ret (v := .tuple #[fldV 0 0 0 0 (.slice none 0 0), .int .i64 er]) (by simp [results, Try.results28, go_sem, cS]) rfl ?_
    exact .inl ⟨ne, rfl, set5_below hB _ _ _ _ _ _ (by omega)⟩
  · have hS := Lib.hid (blkStay (b := w.heap.size + 1) (o := fldO 0 0 0 0 (.slice none 0 0)) (by (first | (rw [heap_alloc_get, if_pos rfl]; done) | ((simp only [heap_alloc_get, heap_size_alloc, if_true]) <;> ((repeat' split) <;> first | rfl | omega)))) hbel)
    have hB : Below w.heap.size w w4 := Below.trans (by repeat (first | exact Below.refl _ _ | refine Below.alloc ?_ (by first | omega | (simp; done) | (simp; omega)) _ | refine Below.setCell ?_ (by first | omega | (simp; done) | (simp; omega)) _ | refine Below.drew ?_)) (Below.mono hbel (by simp; omega))
    obtain ⟨cS, fS, zS⟩ := blkC hS.out
    have HB := Lib.hid hb'
    clear hb'
    go_wp2
    refine bodyPost_ret (v := .tuple #[fldV X Y W H (.slice (some ⟨b', 0, none⟩) n cap'), .int .i64 0]) (by simp [results, Try.results28, go_sem, cS]) rfl ?_
    have hb' := HB.out
    simp only [heap_size_alloc] at hb'
    exact .inr ⟨rfl, .inl ⟨hall, b', cap', rfl, by omega, by rw [set5_size]; exact hlt', flAt_congr hrow (set5_heap w4 _ _ _ _ _ _ _ (by omega)), set5_below hB _ _ _ _ _ _ (by omega)⟩⟩
  · have hS := Lib.hid (blkStay (b := w.heap.size + 1) (o := fldO 0 0 0 0 (.slice none 0 0)) (by (first | (rw [heap_alloc_get, if_pos rfl]; done) | ((simp only [heap_alloc_get, heap_size_alloc, if_true]) <;> ((repeat' split) <;> first | rfl | omega)))) hbel)
    have hB : Below w.heap.size w w4 := Below.trans (by repeat (first | exact Below.refl _ _ | refine Below.alloc ?_ (by first | omega | (simp; done) | (simp; omega)) _ | refine Below.setCell ?_ (by first | omega | (simp; done) | (simp; omega)) _ | refine Below.drew ?_)) (Below.mono hbel (by simp; omega))
    obtain ⟨cS, fS, zS⟩ := blkC hS.out
    go_wp2
    refine bodyPost_ret (v := .tuple #[fldV 0 0 0 0 (.slice none 0 0), .int .i64 3]) (by simp [results, Try.results28, go_sem, cS]) rfl ?_
    exact .inr ⟨rfl, .inr ⟨hall, rfl, set5_below hB _ _ _ _ _ _ (by omega)⟩⟩

set_option maxHeartbeats 1000000 in
theorem curveX_wrap (X Y W H : Int) (n : Nat) (F : Nat → Nat) (er : Int) (X1 Y1 W1 H1 : Int) (s : Value) (w : World) (hl : ∀ W', Below w.heap.size w W' → Calls Try.prog 80 #[fldV X1 Y1 W1 H1 s, .func (.func 87) #[] #[]] W' (ScPost W' X Y W H n F er)) :
    Calls Try.prog 30 #[fldV X1 Y1 W1 H1 s] w (ScPost w X Y W H n F er) := by
  have BT := Lib.hid hl
  clear hl
  go_enter Try.func30, Try.ntmps30
  go_wp2_with fail
  refine (BT.out _ (by repeat (first | exact Below.refl _ _ | refine Below.alloc ?_ (by first | omega | (simp; done) | (simp; omega)) _ | refine Below.setCell ?_ (by first | omega | (simp; done) | (simp; omega)) _ | refine Below.drew ?_))).mono ?_
  intro e w4 hp
  rcases hp with ⟨ne, rfl, hbel⟩ | ⟨rfl, ⟨hall, b', cap', rfl, hb', hlt', hrow, hbel⟩ | ⟨hall, rfl, hbel⟩⟩
  · have hS := Lib.hid (blkStay (b := w.heap.size + 1) (o := fldO 0 0 0 0 (.slice none 0 0)) (by (first | (rw [heap_alloc_get, if_pos rfl]; done) | ((simp only [heap_alloc_get, heap_size_alloc, if_true]) <;> ((repeat' split) <;> first | rfl | omega)))) hbel)
    have hB : Below w.heap.size w w4 := Below.trans (by repeat (first | exact Below.refl _ _ | refine Below.alloc ?_ (by first | omega | (simp; done) | (simp; omega)) _ | refine Below.setCell ?_ (by first | omega | (simp; done) | (simp; omega)) _ | refine Below.drew ?_)) (Below.mono hbel (by simp; omega))
    obtain ⟨cS, fS, zS⟩ := blkC hS.out
    go_wp2
    refine bodyPost_ret (v := .tuple #[fldV 0 0 0 0 (.slice none 0 0), .int .i64 er]) (by simp [results, Try.results30, go_sem, cS]) rfl ?_
    exact .inl ⟨ne, rfl, set5_below hB _ _ _ _ _ _ (by omega)⟩
  · have hS := Lib.hid (blkStay (b := w.heap.size + 1) (o := fldO 0 0 0 0 (.slice none 0 0)) (by (first | (rw [heap_alloc_get, if_pos rfl]; done) | ((simp only [heap_alloc_get, heap_size_alloc, if_true]) <;> ((repeat' split) <;> first | rfl | omega)))) hbel)
    have hB : Below w.heap.size w w4 := Below.trans (by repeat (first | exact Below.refl _ _ | refine Below.alloc ?_ (by first | omega | (simp; done) | (simp; omega)) _ | refine Below.setCell ?_ (by first | omega | (simp; done) | (simp; omega)) _ | refine Below.drew ?_)) (Below.mono hbel (by simp; omega))
    obtain ⟨cS, fS, zS⟩ := blkC hS.out
    have HB := Lib.hid hb'
    clear hb'
    go_wp2
    refine bodyPost_ret (v := .tuple #[fldV X Y W H (.slice (some ⟨b', 0, none⟩) n cap'), .int .i64 0]) (by simp [results, Try.results30, go_sem, cS]) rfl ?_
    have hb' := HB.out
    simp only [heap_size_alloc] at hb'
    exact .inr ⟨rfl, .inl ⟨hall, b', cap', rfl, by omega, by rw [set5_size]; exact hlt', flAt_congr hrow (set5_heap w4 _ _ _ _ _ _ _ (by omega)), set5_below hB _ _ _ _ _ _ (by omega)⟩⟩
  · have hS := Lib.hid (blkStay (b := w.heap.size + 1) (o := fldO 0 0 0 0 (.slice none 0 0)) (by (first | (rw [heap_alloc_get, if_pos rfl]; done) | ((simp only [heap_alloc_get, heap_size_alloc, if_true]) <;> ((repeat' split) <;> first | rfl | omega)))) hbel)
    have hB : Below w.heap.size w w4 := Below.trans (by repeat (first | exact Below.refl _ _ | refine Below.alloc ?_ (by first | omega | (simp; done) | (simp; omega)) _ | refine Below.setCell ?_ (by first | omega | (simp; done) | (simp; omega)) _ | refine Below.drew ?_)) (Below.mono hbel (by simp; omega))
    obtain ⟨cS, fS, zS⟩ := blkC hS.out
    go_wp2
    refine bodyPost_ret (v := .tuple #[fldV 0 0 0 0 (.slice none 0 0), .int .i64 3]) (by simp [results, Try.results30, go_sem, cS]) rfl ?_
    exact .inr ⟨rfl, .inr ⟨hall, rfl, set5_below hB _ _ _ _ _ _ (by omega)⟩⟩
end Go.Proofs.Ytdbponidkodmfaa

/- Shade of the reference, of a right field that has a rim, and a right direction. -/
namespace Go.Proofs.Ytdbponidkodmfaa
open Go.RowKit Fl
set_option linter.unusedVariables false

/-- Every value of a shade is told by its lit word. -/
theorem sha_all {X Y : Int} {W H n W2 H2 : Nat} {v : Nat → Nat} {M : Nat} {lx ly lz : Int} (hn : n = H * W) (hh : allB n (fun i => hgtB (v i)) = true) (eW : W = W2 + 2) (eH : H = H2 + 2) (w1 : 1 ≤ W2) (hM : LenOk M) (l1 : lx.natAbs ≤ 1000) (l2 : ly.natAbs ≤ 1000) (l3 : lz.natAbs ≤ 1000) (j : Nat) (hj : j < H2 * W2) :
    ∃ r a, shaF M lx ly lz v W j = shdW r ∧ vS r = some a ∧ r < 4294967296 := by
  have q1 : j % W2 < W2 := Nat.mod_lt _ (by omega)
  have q2 : j / W2 < H2 := Nat.div_lt_of_lt_mul (by rw [Nat.mul_comm]; exact hj)
  have e1 : (W - 2 : Nat) = W2 := by omega
  obtain ⟨p1, hp1⟩ : ∃ p, j % W2 = p := ⟨_, rfl⟩
  obtain ⟨p2, hp2⟩ : ∃ p, j / W2 = p := ⟨_, rfl⟩
  rw [hp1] at q1
  rw [hp2] at q2
  have hi : ((rimI W j : Nat) : Int) = ((Y + 1 + ((p2 : Nat) : Int)) - Y) * W + ((X + 1 + ((p1 : Nat) : Int)) - X) := by
    unfold rimI
    rw [e1, hp1, hp2]
    have : (((p2 + 1) * W + (p1 + 1) : Nat) : Int) = (((p2 : Nat) : Int) + 1) * W + (((p1 : Nat) : Int) + 1) := by simp
    rw [this, show (Y + 1 + ((p2 : Nat) : Int)) - Y = ((p2 : Nat) : Int) + 1 by omega, show (X + 1 + ((p1 : Nat) : Int)) - X = ((p1 : Nat) : Int) + 1 by omega]
  have I := in_cell hn (by omega) (show X + 1 + ((p1 : Nat) : Int) + 1 < X + W by omega) (by omega) (show Y + 1 + ((p2 : Nat) : Int) + 1 < Y + H by omega) hi
  obtain ⟨pp, q, u, m, a, X', Z, c, nx, ny, nz, e, f, s, d, t, r, S⟩ := sha_parts hh I hM l1 l2 l3
  obtain ⟨a', ha⟩ := S.lt.v
  exact ⟨r, a', S.w, ha, S.lt.lt⟩

end Go.Proofs.Ytdbponidkodmfaa

/- Slope and Curve of the reference. -/
namespace Go.Proofs.Ytdbponidkodmfaa
open Go.RowKit Fl
set_option linter.unusedVariables false

theorem enters_rSlope1 : Enters 83 := by intro args W; simp [callFunc, Try.func83, Try.f83]
theorem enters_rCurve1 : Enters 88 := by intro args W; simp [callFunc, Try.func88, Try.f88]

/-- A cell of the rim's inside, by its number there. -/
theorem rim_cell {X Y : Int} {W H n W2 H2 : Nat} (hn : n = H * W) (eW : W = W2 + 2) (eH : H = H2 + 2) (w1 : 1 ≤ W2) (j : Nat) (hj : j < H2 * W2) : ∃ x y, InCell X Y W H n (rimI W j) x y := by
  have q1 : j % W2 < W2 := Nat.mod_lt _ (by omega)
  have q2 : j / W2 < H2 := Nat.div_lt_of_lt_mul (by rw [Nat.mul_comm]; exact hj)
  have e1 : (W - 2 : Nat) = W2 := by omega
  obtain ⟨p1, hp1⟩ : ∃ p, j % W2 = p := ⟨_, rfl⟩
  obtain ⟨p2, hp2⟩ : ∃ p, j / W2 = p := ⟨_, rfl⟩
  rw [hp1] at q1
  rw [hp2] at q2
  have hi : ((rimI W j : Nat) : Int) = ((Y + 1 + ((p2 : Nat) : Int)) - Y) * W + ((X + 1 + ((p1 : Nat) : Int)) - X) := by
    unfold rimI
    rw [e1, hp1, hp2]
    have : (((p2 + 1) * W + (p1 + 1) : Nat) : Int) = (((p2 : Nat) : Int) + 1) * W + (((p1 : Nat) : Int) + 1) := by simp
    rw [this, show (Y + 1 + ((p2 : Nat) : Int)) - Y = ((p2 : Nat) : Int) + 1 by omega, show (X + 1 + ((p1 : Nat) : Int)) - X = ((p1 : Nat) : Int) + 1 by omega]
  exact ⟨_, _, in_cell hn (by omega) (show X + 1 + ((p1 : Nat) : Int) + 1 < X + W by omega) (by omega) (show Y + 1 + ((p2 : Nat) : Int) + 1 < Y + H by omega) hi⟩

theorem slp_lt {c n ww e s : Nat} (hn : hgtB n = true) (hw : hgtB ww = true) (he : hgtB e = true) (hs : hgtB s = true) : slpF c n ww e s < 4294967296 := by
  obtain ⟨d, r, A⟩ := rise_parts he hw
  obtain ⟨d', r', B⟩ := rise_parts hs hn
  obtain ⟨p, q, t, u, a, X, Z, cc, a2, X2, Z2, c2, S⟩ := slp_parts (dx := riseW e ww) (dy := riseW s n) (by rw [A.w]; exact A.bd) (by rw [B.w]; exact B.bd)
  unfold slpF; rw [S.w]; exact S.lt
theorem crv_lt {c n ww e s : Nat} (hc : hgtB c = true) (hn : hgtB n = true) (hw : hgtB ww = true) (he : hgtB e = true) (hs : hgtB s = true) : crvW c n ww e s < 4294967296 := by
  obtain ⟨t1, t2, t3, m, r, C⟩ := crv_parts hc hn hw he hs
  rw [C.w]; exact C.lt

set_option maxHeartbeats 4000000 in
theorem rslope1_any (X Y : Int) (W H n b cap : Nat) (v : Nat → Nat) (p : Nat) (w : World) (hp : w.heap[p]? = some (fldO X Y W H (.slice (some ⟨b, 0, none⟩) n cap))) (hr : FlAt w b 0 n v)
    (h0 : checkR X Y W H = 0) (hn : n = H * W) (hh : allB n (fun i => hgtB (v i)) = true) (hW : 3 ≤ W) (hH : 3 ≤ H) :
    Clos2 83 #[.pointer (some ⟨p, 0, none⟩)] (X + 1) (Y + 1) ((W : Int) - 2) ((H : Int) - 2) (rimF slpF v W) w := by
  intro x y j w2 h1 h2 h3 h4 hj hb
  have n1 : 1 ≤ n := by rw [hn]; exact Nat.mul_pos (by omega) (by omega)
  have hr2 := flAt_congr hr (hb.block _ (World.block_lt_of_cell? w _ (hr 0 n1)))
  have hi := rim_num hW h1 h2 h3 hj
  unfold rimF
  obtain ⟨i, hi'⟩ : ∃ i, rimI W j = i := ⟨_, rfl⟩
  rw [hi'] at hi ⊢
  have I := in_cell hn h1 (show x + 1 < X + W by omega) h3 (show y + 1 < Y + H by omega) hi
  have zb : b < w2.heap.size := World.block_lt_of_cell? w2 _ (hr2 i I.a0)
  have IC := Lib.hid (fun W' (hb : Below w2.heap.size w2 W') => inclines_any X Y W H n b cap i v x y W' h0 hn (flAt_congr hr2 (hb.block _ zb)) hh I)
  obtain ⟨d, r, A⟩ := rise_parts (allB_iff.1 hh _ I.a3) (allB_iff.1 hh _ I.a4)
  obtain ⟨d', r', B⟩ := rise_parts (allB_iff.1 hh _ I.a2) (allB_iff.1 hh _ I.a1)
  obtain ⟨p', q, t, u, a, X', Z, cc, a2, X2, Z2, c2, S⟩ := slp_parts (dx := riseW (v (i + 1)) (v (i - 1))) (dy := riseW (v (i + W)) (v (i - W))) (by rw [A.w]; exact A.bd) (by rw [B.w]; exact B.bd)
  have M1 := Lib.hid (fun w => refMul_any 42 _ _ p' S.nm.p2 S.nm.p1 w)
  have M2 := Lib.hid (fun w => refMul_any 42 _ _ q S.nm.q2 S.nm.q1 w)
  have AD := Lib.hid (fun w => refAdd_any 43 _ _ t S.nm.s2 S.nm.s1 w)
  have RT := Lib.hid (fun w => refRoot_any S.rt w)
  unfold slpF
  rw [S.w]
  clear S A B
  generalize riseW (v (i + 1)) (v (i - 1)) = dx at *
  generalize riseW (v (i + W)) (v (i - W)) = dy at *
  have GF := Lib.hid (blkStay hp hb)
  obtain ⟨cF, fF, zF⟩ := blkC GF.out
  clear hp hr h0 hn hh hW hH hb hi hi' I h1 h2 h3 h4 hj n1 hr2
  generalize v i = v0 at *
  generalize v (i - W) = v1 at *
  generalize v (i + W) = v2 at *
  generalize v (i + 1) = v3 at *
  generalize v (i - 1) = v4 at *
  go_enter Try.func83, Try.ntmps83
  go_wp2_with (first | (go_at_call 84; refine (IC.out _ (Below.refl _ _)).mono ?_; rintro e' w3 ⟨rfl, hb3⟩; have B3 := Lib.hid hb3; clear cF fF zF) | (go_at_call 86; (with_reducible refine (M1.out _).mono ?_); rintro e w' ⟨rfl, rfl⟩) | (go_at_call 86; (with_reducible refine (M2.out _).mono ?_); rintro e w' ⟨rfl, rfl⟩) | (go_at_call 59; refine (AD.out _).mono ?_; rintro e w' ⟨rfl, rfl⟩) | (go_at_call 85; refine (RT.out _).mono ?_; rintro e w' ⟨rfl, rfl⟩))
  go_ret
  exact ⟨rfl, B3.out⟩

set_option maxHeartbeats 4000000 in
theorem rcurve1_any (X Y : Int) (W H n b cap : Nat) (v : Nat → Nat) (p : Nat) (w : World) (hp : w.heap[p]? = some (fldO X Y W H (.slice (some ⟨b, 0, none⟩) n cap))) (hr : FlAt w b 0 n v)
    (h0 : checkR X Y W H = 0) (hn : n = H * W) (hh : allB n (fun i => hgtB (v i)) = true) (hW : 3 ≤ W) (hH : 3 ≤ H) :
    Clos2 88 #[.pointer (some ⟨p, 0, none⟩)] (X + 1) (Y + 1) ((W : Int) - 2) ((H : Int) - 2) (rimF crvW v W) w := by
  intro x y j w2 h1 h2 h3 h4 hj hb
  have n1 : 1 ≤ n := by rw [hn]; exact Nat.mul_pos (by omega) (by omega)
  have hr2 := flAt_congr hr (hb.block _ (World.block_lt_of_cell? w _ (hr 0 n1)))
  have hi := rim_num hW h1 h2 h3 hj
  unfold rimF
  obtain ⟨i, hi'⟩ : ∃ i, rimI W j = i := ⟨_, rfl⟩
  rw [hi'] at hi ⊢
  have I := in_cell hn h1 (show x + 1 < X + W by omega) h3 (show y + 1 < Y + H by omega) hi
  have zb : b < w2.heap.size := World.block_lt_of_cell? w2 _ (hr2 i I.a0)
  have AR := Lib.hid (fun W' (hb : Below w2.heap.size w2 W') => around_any X Y W H n b cap i v x y W' h0 hn (flAt_congr hr2 (hb.block _ zb)) I.h1 I.h2 I.h3 I.h4 I.hi)
  obtain ⟨t1, t2, t3, m, r, C⟩ := crv_parts (allB_iff.1 hh _ I.a0) (allB_iff.1 hh _ I.a1) (allB_iff.1 hh _ I.a4) (allB_iff.1 hh _ I.a3) (allB_iff.1 hh _ I.a2)
  have A1 := Lib.hid (fun w => refAdd_any 21 _ _ t1 C.a1' C.a1 w)
  have A2 := Lib.hid (fun w => refAdd_any 22 _ _ t2 C.a2' C.a2 w)
  have A3 := Lib.hid (fun w => refAdd_any 23 _ _ t3 C.a3' C.a3 w)
  have M1 := Lib.hid (fun w => refMul_any 23 _ _ m C.m1' C.m1 w)
  have S1 := Lib.hid (fun w => refSub_any 24 _ _ r C.d1' C.d1 w)
  rw [C.w]
  clear C
  have GF := Lib.hid (blkStay hp hb)
  obtain ⟨cF, fF, zF⟩ := blkC GF.out
  clear hp hr h0 hn hh hW hH hb hi hi' I h1 h2 h3 h4 hj n1 hr2
  generalize v i = v0 at *
  generalize v (i - W) = v1 at *
  generalize v (i + W) = v2 at *
  generalize v (i + 1) = v3 at *
  generalize v (i - 1) = v4 at *
  go_enter Try.func88, Try.ntmps88
  go_wp2_with (first | (go_at_call 89; refine (AR.out _ (Below.refl _ _)).mono ?_; rintro e' w3 ⟨rfl, hb3⟩; have B3 := Lib.hid hb3; clear cF fF zF) | (go_at_call 59; (with_reducible refine (A1.out _).mono ?_); rintro e w' ⟨rfl, rfl⟩) | (go_at_call 59; (with_reducible refine (A2.out _).mono ?_); rintro e w' ⟨rfl, rfl⟩) | (go_at_call 59; (with_reducible refine (A3.out _).mono ?_); rintro e w' ⟨rfl, rfl⟩) | (go_at_call 86; refine (M1.out _).mono ?_; rintro e w' ⟨rfl, rfl⟩) | (go_at_call 90; refine (S1.out _).mono ?_; rintro e w' ⟨rfl, rfl⟩))
  go_ret
  exact ⟨rfl, B3.out⟩

set_option maxHeartbeats 2000000 in
theorem rslope_no (X Y : Int) (W H n b cap : Nat) (w : World) (h0 : checkR X Y W H = 0) (hi : innB W H = false) :
    Calls Try.prog 29 #[fldV X Y W H (.slice (some ⟨b, 0, none⟩) n cap)] w fun e w' => e = .returned (.tuple #[fldV 0 0 0 0 (.slice none 0 0), .int .i64 10]) ∧ Below w.heap.size w w' := by
  have IN := Lib.hid (fun W' => rinner_any X Y W H n b cap W' h0)
  rw [hi] at IN
  simp only [Bool.false_eq_true, if_false] at IN
  clear h0 hi
  go_enter Try.func29, Try.ntmps29
  go_wp2_with (first | (go_at_call 82; refine (IN.out _).mono ?_; rintro e w2 ⟨rfl, hb2⟩; have HS2 := Lib.hid (blkStay (b := w.heap.size + 1) (o := fldO 0 0 0 0 (.slice none 0 0)) (by (first | (rw [heap_alloc_get, if_pos rfl]; done) | ((simp only [heap_alloc_get, heap_size_alloc, if_true]) <;> ((repeat' split) <;> first | rfl | omega)))) hb2); have hB2 : Below w.heap.size w w2 := Below.trans (by repeat (first | exact Below.refl _ _ | refine Below.alloc ?_ (by first | omega | (simp; done) | (simp; omega)) _ | refine Below.setCell ?_ (by first | omega | (simp; done) | (simp; omega)) _ | refine Below.drew ?_)) (Below.mono hb2 (by first | omega | (simp; done) | (simp; omega))); clear hb2; obtain ⟨cS, fS, zS⟩ := blkC HS2.out))
  have HRES := fun (u1 u2 u3 u4 u5 : Value) (o : Obj) => (blkC ((heap_alloc_old (set5 w2 (w.heap.size + 1) u1 u2 u3 u4 u5) o (by rw [set5_size]; exact zS)).trans (set5_self u1 u2 u3 u4 u5 HS2.out))).1
  simp only [set5] at HRES
  refine bodyPost_ret (v := .tuple #[fldV 0 0 0 0 (.slice none 0 0), .int .i64 10]) (by simp [results, Try.results29, go_sem, HRES]) rfl ?_
  exact ⟨rfl, by repeat (first | exact hB2 | refine Below.alloc ?_ (by first | omega | (simp; done) | (simp; omega)) _ | refine Below.setCell ?_ (by first | omega | (simp; done) | (simp; omega)) _)⟩

set_option maxHeartbeats 4000000 in
theorem rslope_ok (X Y : Int) (W H n b cap W2 H2 : Nat) (v : Nat → Nat) (w : World) (h0 : checkR X Y W H = 0) (hn : n = W * H) (hc : FlAt w b 0 n v) (hh : allB n (fun i => hgtB (v i)) = true)
    (eW : W = W2 + 2) (eH : H = H2 + 2) (w1 : 1 ≤ W2) (g1 : 1 ≤ H2) :
    Calls Try.prog 29 #[fldV X Y W H (.slice (some ⟨b, 0, none⟩) n cap)] w (ScPost w (X + 1) (Y + 1) W2 H2 (H2 * W2) (rimF slpF v W) 0) := by
  obtain ⟨b1, b2, b3, b4, b5, _⟩ := checkR_zero h0
  have h1 : 1 ≤ n := by rw [hn]; exact Nat.mul_pos (by omega) (by omega)
  have hnn : n = H * W := by rw [hn]; exact Nat.mul_comm _ _
  have hlt : b < w.heap.size := World.block_lt_of_cell? w _ (hc 0 h1)
  have iW : (W : Int) - 2 = (W2 : Int) := by omega
  have iH : (H : Int) - 2 = (H2 : Int) := by omega
  have IN := Lib.hid (fun W' => rinner_any X Y W H n b cap W' h0)
  have hi : innB W H = true := by unfold innB; simp; omega
  rw [hi, iW, iH] at IN
  simp only [if_true] at IN
  have hwf : wf32 (H2 * W2) (rimF slpF v W) := fun j hj => by
    obtain ⟨x, y, I⟩ := rim_cell (X := X) (Y := Y) hnn eW eH w1 j hj
    exact slp_lt (allB_iff.1 hh _ I.a1) (allB_iff.1 hh _ I.a4) (allB_iff.1 hh _ I.a3) (allB_iff.1 hh _ I.a2)
  have MK := Lib.hid (fun W' p (k1 : W'.heap[p]? = some (fldO X Y W H (.slice (some ⟨b, 0, none⟩) n cap))) (hr : FlAt W' b 0 n v) => made_any (X + 1) (Y + 1) W2 H2 (H2 * W2) 83 #[.pointer (some ⟨p, 0, none⟩)] (rimF slpF v W) W' enters_rSlope1
    (by have C := rslope1_any X Y W H n b cap v p W' k1 hr h0 hnn hh (by omega) (by omega)
        rw [iW, iH] at C; exact C) hwf (by omega) (by omega) (by omega) (by omega) (by omega) (by omega) (by omega) (by omega) rfl)
  have HC := Lib.hid hc
  generalize rimF slpF v W = f at *
  generalize H2 * W2 = n2 at *
  clear h0 hn hnn hc hh eW eH w1 g1 b1 b2 b3 b4 b5 iW iH hi h1 hwf
  go_enter Try.func29, Try.ntmps29
  go_wp2_with (first | (go_at_call 82; refine (IN.out _).mono ?_; rintro e w2 ⟨rfl, hb2⟩; have HF2 := Lib.hid (blkStay (b := w.heap.size) (o := fldO X Y W H (.slice (some ⟨b, 0, none⟩) n cap)) (by (first | (rw [heap_alloc_get, if_pos rfl]; done) | ((simp only [heap_alloc_get, heap_size_alloc, if_true]) <;> ((repeat' split) <;> first | rfl | omega)))) hb2); have HS2 := Lib.hid (blkStay (b := w.heap.size + 1) (o := fldO 0 0 0 0 (.slice none 0 0)) (by (first | (rw [heap_alloc_get, if_pos rfl]; done) | ((simp only [heap_alloc_get, heap_size_alloc, if_true]) <;> ((repeat' split) <;> first | rfl | omega)))) hb2); have hB2 : Below w.heap.size w w2 := Below.trans (by repeat (first | exact Below.refl _ _ | refine Below.alloc ?_ (by first | omega | (simp; done) | (simp; omega)) _ | refine Below.setCell ?_ (by first | omega | (simp; done) | (simp; omega)) _ | refine Below.drew ?_)) (Below.mono hb2 (by first | omega | (simp; done) | (simp; omega))); clear hb2))
  have hbA : Below w2.heap.size w2 (w2.alloc (regObj (X + 1) (Y + 1) W2 H2)) := (Below.refl _ _).alloc (Nat.le_refl _) _
  have z2 := hB2.size
  refine (MK.out _ w.heap.size (blkStay HF2.out hbA) (flAt_congr HC.out ((hB2.trans (hbA.mono z2)).block _ hlt))).mono ?_
  intro e w4 hmade
  rcases hmade with ⟨hall, b', cap', rfl, hb', hlt', hrow, hbel⟩ | ⟨hall, rfl, hbel⟩
  · have hb24 : Below w2.heap.size w2 w4 := hbA.trans (hbel.mono hbA.size)
    have hz5 := hbA.size
    obtain ⟨cS, fS, zS⟩ := blkC (blkStay HS2.out hb24)
    go_wp2
    refine bodyPost_ret (v := .tuple #[fldV (X + 1) (Y + 1) W2 H2 (.slice (some ⟨b', 0, none⟩) n2 cap'), .int .i64 0]) (by simp [results, Try.results29, go_sem, cS]) rfl ?_
    exact .inr ⟨rfl, .inl ⟨hall, b', cap', rfl, by omega, by rw [set5_size]; exact hlt', flAt_congr hrow (set5_heap w4 _ _ _ _ _ _ _ (by have := HS2.out; have := (blkC this).2.2; omega)), set5_below (hB2.trans (hb24.mono z2)) _ _ _ _ _ _ (by omega)⟩⟩
  · have hb24 : Below w2.heap.size w2 w4 := hbA.trans (hbel.mono hbA.size)
    obtain ⟨cS, fS, zS⟩ := blkC (blkStay HS2.out hb24)
    go_wp2
    refine bodyPost_ret (v := .tuple #[fldV 0 0 0 0 (.slice none 0 0), .int .i64 3]) (by simp [results, Try.results29, go_sem, cS]) rfl ?_
    exact .inr ⟨rfl, .inr ⟨hall, rfl, set5_below (hB2.trans (hb24.mono z2)) _ _ _ _ _ _ (by omega)⟩⟩

set_option maxHeartbeats 2000000 in
theorem rcurve_no (X Y : Int) (W H n b cap : Nat) (w : World) (h0 : checkR X Y W H = 0) (hi : innB W H = false) :
    Calls Try.prog 31 #[fldV X Y W H (.slice (some ⟨b, 0, none⟩) n cap)] w fun e w' => e = .returned (.tuple #[fldV 0 0 0 0 (.slice none 0 0), .int .i64 10]) ∧ Below w.heap.size w w' := by
  have IN := Lib.hid (fun W' => rinner_any X Y W H n b cap W' h0)
  rw [hi] at IN
  simp only [Bool.false_eq_true, if_false] at IN
  clear h0 hi
  go_enter Try.func31, Try.ntmps31
  go_wp2_with (first | (go_at_call 82; refine (IN.out _).mono ?_; rintro e w2 ⟨rfl, hb2⟩; have HS2 := Lib.hid (blkStay (b := w.heap.size + 1) (o := fldO 0 0 0 0 (.slice none 0 0)) (by (first | (rw [heap_alloc_get, if_pos rfl]; done) | ((simp only [heap_alloc_get, heap_size_alloc, if_true]) <;> ((repeat' split) <;> first | rfl | omega)))) hb2); have hB2 : Below w.heap.size w w2 := Below.trans (by repeat (first | exact Below.refl _ _ | refine Below.alloc ?_ (by first | omega | (simp; done) | (simp; omega)) _ | refine Below.setCell ?_ (by first | omega | (simp; done) | (simp; omega)) _ | refine Below.drew ?_)) (Below.mono hb2 (by first | omega | (simp; done) | (simp; omega))); clear hb2; obtain ⟨cS, fS, zS⟩ := blkC HS2.out))
  have HRES := fun (u1 u2 u3 u4 u5 : Value) (o : Obj) => (blkC ((heap_alloc_old (set5 w2 (w.heap.size + 1) u1 u2 u3 u4 u5) o (by rw [set5_size]; exact zS)).trans (set5_self u1 u2 u3 u4 u5 HS2.out))).1
  simp only [set5] at HRES
  refine bodyPost_ret (v := .tuple #[fldV 0 0 0 0 (.slice none 0 0), .int .i64 10]) (by simp [results, Try.results31, go_sem, HRES]) rfl ?_
  exact ⟨rfl, by repeat (first | exact hB2 | refine Below.alloc ?_ (by first | omega | (simp; done) | (simp; omega)) _ | refine Below.setCell ?_ (by first | omega | (simp; done) | (simp; omega)) _)⟩

set_option maxHeartbeats 4000000 in
theorem rcurve_ok (X Y : Int) (W H n b cap W2 H2 : Nat) (v : Nat → Nat) (w : World) (h0 : checkR X Y W H = 0) (hn : n = W * H) (hc : FlAt w b 0 n v) (hh : allB n (fun i => hgtB (v i)) = true)
    (eW : W = W2 + 2) (eH : H = H2 + 2) (w1 : 1 ≤ W2) (g1 : 1 ≤ H2) :
    Calls Try.prog 31 #[fldV X Y W H (.slice (some ⟨b, 0, none⟩) n cap)] w (ScPost w (X + 1) (Y + 1) W2 H2 (H2 * W2) (rimF crvW v W) 0) := by
  obtain ⟨b1, b2, b3, b4, b5, _⟩ := checkR_zero h0
  have h1 : 1 ≤ n := by rw [hn]; exact Nat.mul_pos (by omega) (by omega)
  have hnn : n = H * W := by rw [hn]; exact Nat.mul_comm _ _
  have hlt : b < w.heap.size := World.block_lt_of_cell? w _ (hc 0 h1)
  have iW : (W : Int) - 2 = (W2 : Int) := by omega
  have iH : (H : Int) - 2 = (H2 : Int) := by omega
  have IN := Lib.hid (fun W' => rinner_any X Y W H n b cap W' h0)
  have hi : innB W H = true := by unfold innB; simp; omega
  rw [hi, iW, iH] at IN
  simp only [if_true] at IN
  have hwf : wf32 (H2 * W2) (rimF crvW v W) := fun j hj => by
    obtain ⟨x, y, I⟩ := rim_cell (X := X) (Y := Y) hnn eW eH w1 j hj
    exact crv_lt (allB_iff.1 hh _ I.a0) (allB_iff.1 hh _ I.a1) (allB_iff.1 hh _ I.a4) (allB_iff.1 hh _ I.a3) (allB_iff.1 hh _ I.a2)
  have MK := Lib.hid (fun W' p (k1 : W'.heap[p]? = some (fldO X Y W H (.slice (some ⟨b, 0, none⟩) n cap))) (hr : FlAt W' b 0 n v) => made_any (X + 1) (Y + 1) W2 H2 (H2 * W2) 88 #[.pointer (some ⟨p, 0, none⟩)] (rimF crvW v W) W' enters_rCurve1
    (by have C := rcurve1_any X Y W H n b cap v p W' k1 hr h0 hnn hh (by omega) (by omega)
        rw [iW, iH] at C; exact C) hwf (by omega) (by omega) (by omega) (by omega) (by omega) (by omega) (by omega) (by omega) rfl)
  have HC := Lib.hid hc
  generalize rimF crvW v W = f at *
  generalize H2 * W2 = n2 at *
  clear h0 hn hnn hc hh eW eH w1 g1 b1 b2 b3 b4 b5 iW iH hi h1 hwf
  go_enter Try.func31, Try.ntmps31
  go_wp2_with (first | (go_at_call 82; refine (IN.out _).mono ?_; rintro e w2 ⟨rfl, hb2⟩; have HF2 := Lib.hid (blkStay (b := w.heap.size) (o := fldO X Y W H (.slice (some ⟨b, 0, none⟩) n cap)) (by (first | (rw [heap_alloc_get, if_pos rfl]; done) | ((simp only [heap_alloc_get, heap_size_alloc, if_true]) <;> ((repeat' split) <;> first | rfl | omega)))) hb2); have HS2 := Lib.hid (blkStay (b := w.heap.size + 1) (o := fldO 0 0 0 0 (.slice none 0 0)) (by (first | (rw [heap_alloc_get, if_pos rfl]; done) | ((simp only [heap_alloc_get, heap_size_alloc, if_true]) <;> ((repeat' split) <;> first | rfl | omega)))) hb2); have hB2 : Below w.heap.size w w2 := Below.trans (by repeat (first | exact Below.refl _ _ | refine Below.alloc ?_ (by first | omega | (simp; done) | (simp; omega)) _ | refine Below.setCell ?_ (by first | omega | (simp; done) | (simp; omega)) _ | refine Below.drew ?_)) (Below.mono hb2 (by first | omega | (simp; done) | (simp; omega))); clear hb2))
  have hbA : Below w2.heap.size w2 (w2.alloc (regObj (X + 1) (Y + 1) W2 H2)) := (Below.refl _ _).alloc (Nat.le_refl _) _
  have z2 := hB2.size
  refine (MK.out _ w.heap.size (blkStay HF2.out hbA) (flAt_congr HC.out ((hB2.trans (hbA.mono z2)).block _ hlt))).mono ?_
  intro e w4 hmade
  rcases hmade with ⟨hall, b', cap', rfl, hb', hlt', hrow, hbel⟩ | ⟨hall, rfl, hbel⟩
  · have hb24 : Below w2.heap.size w2 w4 := hbA.trans (hbel.mono hbA.size)
    have hz5 := hbA.size
    obtain ⟨cS, fS, zS⟩ := blkC (blkStay HS2.out hb24)
    go_wp2
    refine bodyPost_ret (v := .tuple #[fldV (X + 1) (Y + 1) W2 H2 (.slice (some ⟨b', 0, none⟩) n2 cap'), .int .i64 0]) (by simp [results, Try.results31, go_sem, cS]) rfl ?_
    exact .inr ⟨rfl, .inl ⟨hall, b', cap', rfl, by omega, by rw [set5_size]; exact hlt', flAt_congr hrow (set5_heap w4 _ _ _ _ _ _ _ (by have := HS2.out; have := (blkC this).2.2; omega)), set5_below (hB2.trans (hb24.mono z2)) _ _ _ _ _ _ (by omega)⟩⟩
  · have hb24 : Below w2.heap.size w2 w4 := hbA.trans (hbel.mono hbA.size)
    obtain ⟨cS, fS, zS⟩ := blkC (blkStay HS2.out hb24)
    go_wp2
    refine bodyPost_ret (v := .tuple #[fldV 0 0 0 0 (.slice none 0 0), .int .i64 3]) (by simp [results, Try.results31, go_sem, cS]) rfl ?_
    exact .inr ⟨rfl, .inr ⟨hall, rfl, set5_below (hB2.trans (hb24.mono z2)) _ _ _ _ _ _ (by omega)⟩⟩

/-- Both sides of Slope. -/
theorem slope_both (X Y : Int) (W H n b cap : Nat) (v : Nat → Nat) (h0 : checkR X Y W H = 0) (hn : n = W * H) (hcap : n ≤ cap) (hcp : cap ≤ 9223372036854775807) (hh : allB n (fun i => hgtB (v i)) = true) :
    ∃ (X' Y' W' H' : Int) (n' : Nat) (f : Nat → Nat) (er : Int), 1 ≤ n' ∧ n' ≤ 65536 ∧
      (∀ w, FlAt w b 0 n v → Calls Try.prog 28 #[fldV X Y W H (.slice (some ⟨b, 0, none⟩) n cap)] w (ScPost w X' Y' W' H' n' f er)) ∧
      (∀ w, FlAt w b 0 n v → Calls Try.prog 29 #[fldV X Y W H (.slice (some ⟨b, 0, none⟩) n cap)] w (ScPost w X' Y' W' H' n' f er)) := by
  have h1 : 1 ≤ n := by
    obtain ⟨b1, b2, b3, b4, b5, _⟩ := checkR_zero h0
    rw [hn]; exact Nat.mul_pos (by omega) (by omega)
  cases hi : innB W H with
  | false =>
    exact ⟨0, 0, 0, 0, 1, fun _ => 0, 10, by omega, by omega,
      fun w hc => slopeX_wrap _ _ _ _ _ _ _ _ _ _ _ _ w (fun W' hb => (look_no X Y W H n b cap v _ W' h0 hn (flAt_congr hc (hb.block _ (World.block_lt_of_cell? w _ (hc 0 h1)))) hh hi).mono fun e w' h => .inl ⟨by decide, h.1, h.2⟩),
      fun w hc => (rslope_no X Y W H n b cap w h0 hi).mono fun e w' h => .inl ⟨by decide, h.1, h.2⟩⟩
  | true =>
    have h3 : 3 ≤ (W : Int) ∧ 3 ≤ (H : Int) := by unfold innB at hi; exact of_decide_eq_true hi
    obtain ⟨h3, h4⟩ := h3
    obtain ⟨W2, eW⟩ : ∃ W2 : Nat, W = W2 + 2 := ⟨W - 2, by omega⟩
    obtain ⟨H2, eH⟩ : ∃ H2 : Nat, H = H2 + 2 := ⟨H - 2, by omega⟩
    have w1 : 1 ≤ W2 := by omega
    have g1 : 1 ≤ H2 := by omega
    obtain ⟨_, _, _, _, c5, _⟩ := checkR_zero (rim_check h0 eW eH w1 g1)
    have hz : ((H2 * W2 : Nat) : Int) ≤ 65536 := by rw [Nat.mul_comm]; simpa using c5
    exact ⟨X + 1, Y + 1, W2, H2, H2 * W2, rimF slpF v W, 0, Nat.mul_pos (by omega) (by omega), by omega,
      fun w hc => slopeX_wrap _ _ _ _ _ _ _ _ _ _ _ _ w (fun W' hb => look_ok X Y W H n b cap W2 H2 v _ slpF at_slope enters_slope W' h0 hn hcap hcp (flAt_congr hc (hb.block _ (World.block_lt_of_cell? w _ (hc 0 h1)))) hh eW eH w1 g1),
      fun w hc => rslope_ok X Y W H n b cap W2 H2 v w h0 hn hc hh eW eH w1 g1⟩

/-- Both sides of Curve. -/
theorem curve_both (X Y : Int) (W H n b cap : Nat) (v : Nat → Nat) (h0 : checkR X Y W H = 0) (hn : n = W * H) (hcap : n ≤ cap) (hcp : cap ≤ 9223372036854775807) (hh : allB n (fun i => hgtB (v i)) = true) :
    ∃ (X' Y' W' H' : Int) (n' : Nat) (f : Nat → Nat) (er : Int), 1 ≤ n' ∧ n' ≤ 65536 ∧
      (∀ w, FlAt w b 0 n v → Calls Try.prog 30 #[fldV X Y W H (.slice (some ⟨b, 0, none⟩) n cap)] w (ScPost w X' Y' W' H' n' f er)) ∧
      (∀ w, FlAt w b 0 n v → Calls Try.prog 31 #[fldV X Y W H (.slice (some ⟨b, 0, none⟩) n cap)] w (ScPost w X' Y' W' H' n' f er)) := by
  have h1 : 1 ≤ n := by
    obtain ⟨b1, b2, b3, b4, b5, _⟩ := checkR_zero h0
    rw [hn]; exact Nat.mul_pos (by omega) (by omega)
  cases hi : innB W H with
  | false =>
    exact ⟨0, 0, 0, 0, 1, fun _ => 0, 10, by omega, by omega,
      fun w hc => curveX_wrap _ _ _ _ _ _ _ _ _ _ _ _ w (fun W' hb => (look_no X Y W H n b cap v _ W' h0 hn (flAt_congr hc (hb.block _ (World.block_lt_of_cell? w _ (hc 0 h1)))) hh hi).mono fun e w' h => .inl ⟨by decide, h.1, h.2⟩),
      fun w hc => (rcurve_no X Y W H n b cap w h0 hi).mono fun e w' h => .inl ⟨by decide, h.1, h.2⟩⟩
  | true =>
    have h3 : 3 ≤ (W : Int) ∧ 3 ≤ (H : Int) := by unfold innB at hi; exact of_decide_eq_true hi
    obtain ⟨h3, h4⟩ := h3
    obtain ⟨W2, eW⟩ : ∃ W2 : Nat, W = W2 + 2 := ⟨W - 2, by omega⟩
    obtain ⟨H2, eH⟩ : ∃ H2 : Nat, H = H2 + 2 := ⟨H - 2, by omega⟩
    have w1 : 1 ≤ W2 := by omega
    have g1 : 1 ≤ H2 := by omega
    obtain ⟨_, _, _, _, c5, _⟩ := checkR_zero (rim_check h0 eW eH w1 g1)
    have hz : ((H2 * W2 : Nat) : Int) ≤ 65536 := by rw [Nat.mul_comm]; simpa using c5
    exact ⟨X + 1, Y + 1, W2, H2, H2 * W2, rimF crvW v W, 0, Nat.mul_pos (by omega) (by omega), by omega,
      fun w hc => curveX_wrap _ _ _ _ _ _ _ _ _ _ _ _ w (fun W' hb => look_ok X Y W H n b cap W2 H2 v _ crvW at_curve enters_curve W' h0 hn hcap hcp (flAt_congr hc (hb.block _ (World.block_lt_of_cell? w _ (hc 0 h1)))) hh eW eH w1 g1),
      fun w hc => rcurve_ok X Y W H n b cap W2 H2 v w h0 hn hc hh eW eH w1 g1⟩
end Go.Proofs.Ytdbponidkodmfaa
