/- Lemmas and contracts for the proof that the last text of this claim holds. -/
import Derived.Test.YtkcehbnmcdppkaaHnJA
import Derived.Test.YtkcehbnmcdppkaaRows
import Derived.WalkKit
import Derived.WalkSpells
import Derived.WalkLawsBesides
import Derived.BigQuiet
import Derived.Deep.QuietTactic
import Derived.Lib.Hide
import Derived.Deep.RegionHeld3
import Derived.Deep.DeepCutAuto
import Derived.Deep.AppendLies
import Derived.Deep.RegionLaw

/- math.floor of doubles: its words and their values. -/
namespace Go.Proofs.Ytkcehbnmcdppkaa.Fl
open Ieee

theorem read_dbl_low {x : Nat} {s : Bool} {m : Nat} {p : Int} (h : double.read x = .number s m p) : -1074 ≤ p := by
  unfold Format.read at h
  rw [lpD] at h
  simp only at h
  split at h
  · cases h; omega
  · split at h
    · cases h; omega
    · split at h <;> cases h

theorem order_valD {x y : Nat} {a b : Int} (hx : vD x = some a) (hy : vD y = some b) : double.order x y = some (compare a b) := by
  obtain ⟨s, m, p, h1, rfl⟩ := vD_some hx
  obtain ⟨t, n, q, h2, rfl⟩ := vD_some hy
  unfold Format.order
  rw [h1, h2]
  exact order_num (read_dbl_low h1) (read_dbl_low h2)
theorem eql_valD {x y : Nat} {a b : Int} (hx : vD x = some a) (hy : vD y = some b) : (double.order x y == some .eq) = decide (a = b) := by rw [order_valD hx hy, some_beq, cmp_eq]
theorem lss_valD {x y : Nat} {a b : Int} (hx : vD x = some a) (hy : vD y = some b) : (double.order x y == some .lt) = decide (a < b) := by rw [order_valD hx hy, some_beq, cmp_lt]

theorem vD_word {sg : Bool} {V B : Nat} (hB : V < 2 ^ B) (hB' : B < 2098) : vD (wordAt double 0 sg V) = some ((if sg then -1 else 1) * ((rd double 0 V : Nat) : Int)) := by
  obtain ⟨M, I, q1, _, q3⟩ := read_val double sg (-1074) 0 leastD V (rungD_lt hB hB')
  rw [vD_num q1]; unfold vOf; rw [signed_eq]
  have e : (I - (-1074)).toNat = (I + 1074).toNat := by omega
  rw [e] at q3; rw [q3]

/-- A sum of doubles that is a double. -/
theorem vD_sum {s t : Bool} {m n : Nat} {i j : Int} {c : Int} {u k B : Nat} (hi : -1074 ≤ i) (hj : -1074 ≤ j) (hc : vOf s m i + vOf t n j = c) (hu : c.natAbs = u * 2 ^ k) (hu2 : u < 2 ^ 53) (hB : c.natAbs < 2 ^ B) (hB' : B < 2098) :
    ∃ r, ((Datum.number s m i).sum (.number t n j)).map double.write = some r ∧ vD r = some c := by
  obtain ⟨p, q, q1, q2, q3⟩ := sum_val (s := s) (t := t) (m := m) (n := n) hi hj
  rw [q1]
  refine ⟨_, rfl, ?_⟩
  show vD (double.nearest _ p q) = _
  rw [nearest_val double _ (-1074) 0 leastD p (p := q) q2, show (q - (-1074)).toNat = (q + 1074).toNat by omega, q3, hc, vD_word hB hB']
  rw [hu, rd_exact double 0 u k (by rw [fbD]; exact hu2) (by omega), ← hu]
  by_cases z : c = 0
  · rw [if_pos z, z]; simp
  · rw [if_neg z]
    by_cases z' : c < 0
    · simp [z']; omega
    · simp [z']; omega

theorem vD_add {x y : Nat} {a b c : Int} {u k B : Nat} (hx : vD x = some a) (hy : vD y = some b) (hc : a + b = c) (hu : c.natAbs = u * 2 ^ k) (hu2 : u < 2 ^ 53) (hB : c.natAbs < 2 ^ B) (hB' : B < 2098) :
    ∃ r, Go.floatBits .add .f64 x y = some r ∧ vD r = some c := by
  obtain ⟨s, m, p, h1, rfl⟩ := vD_some hx
  obtain ⟨t, n, q, h2, rfl⟩ := vD_some hy
  obtain ⟨r, e1, e2⟩ := vD_sum (read_dbl_low h1) (read_dbl_low h2) hc hu hu2 hB hB'
  refine ⟨r, ?_, e2⟩
  show ((double.read x).sum (double.read y)).map double.write = some r
  rw [h1, h2]; exact e1
theorem vD_sub {x y : Nat} {a b c : Int} {u k B : Nat} (hx : vD x = some a) (hy : vD y = some b) (hc : a - b = c) (hu : c.natAbs = u * 2 ^ k) (hu2 : u < 2 ^ 53) (hB : c.natAbs < 2 ^ B) (hB' : B < 2098) :
    ∃ r, Go.floatBits .sub .f64 x y = some r ∧ vD r = some c := by
  obtain ⟨s, m, p, h1, rfl⟩ := vD_some hx
  obtain ⟨t, n, q, h2, rfl⟩ := vD_some hy
  obtain ⟨r, e1, e2⟩ := vD_sum (s := s) (t := !t) (m := m) (n := n) (read_dbl_low h1) (read_dbl_low h2) (c := c) (by rw [vOf_opp, ← hc]; omega) hu hu2 hB hB'
  refine ⟨r, ?_, e2⟩
  show ((double.read x).sum (double.read y).opposite).map double.write = some r
  rw [h1, h2]; exact e1

/-- What is left behind the point has few enough digits. -/
theorem frac_form {E f : Nat} (hf : f < b52) : ∃ t j, t < 2 ^ 53 ∧ magOf E f % one = t * 2 ^ j := by
  have h53 : (2 : Nat) ^ 53 = 2 * b52 := rfl
  unfold magOf
  by_cases z : E = 0
  · rw [if_pos z]
    have : f < one := by
      have := mag_small (E := 0) (f := f) (by omega) hf
      simpa [magOf] using this
    exact ⟨f, 0, by omega, by rw [Nat.mod_eq_of_lt this]; simp⟩
  · rw [if_neg z]
    rcases Nat.lt_or_ge 1074 (E - 1) with c | c
    · refine ⟨0, 0, by omega, ?_⟩
      obtain ⟨j, hj⟩ : ∃ j : Nat, j = 1074 := ⟨_, rfl⟩
      have : (b52 + f) * 2 ^ (E - 1) = (b52 + f) * 2 ^ (E - 1 - j) * one := by
        rw [one_pow hj, Nat.mul_assoc, ← Nat.pow_add, show E - 1 - j + j = E - 1 by omega]
      rw [this, Nat.mul_mod_left, Nat.zero_mul]
    · obtain ⟨k, hk⟩ : ∃ k, k = 1074 - (E - 1) := ⟨_, rfl⟩
      have eo : one = 2 ^ k * 2 ^ (E - 1) := one_split (by omega)
      refine ⟨(b52 + f) % 2 ^ k, E - 1, ?_, by rw [eo, Nat.mul_mod_mul_right]⟩
      exact Nat.lt_of_le_of_lt (Nat.mod_le _ _) (by omega)

/-- Copysign as words. -/
def copyW (X Y : Nat) : Nat := X % s63 + Y / s63 * s63

/-- What math.floor does with a double that is no zero: the words of its steps. -/
structure FloorNeg (X T F G R : Nat) : Prop where
  d1 : truncW (X - s63) = T
  d2 : Go.floatBits .sub .f64 (X - s63) T = some F
  d3 : (double.order (copyW F (X - s63)) 0 == some .eq) = false → Go.floatBits .add .f64 T 4607182418800017408 = some G
  d4 : (double.order (copyW F (X - s63)) 0 == some .eq) = false → R = G + s63 ∧ G < s63
  d5 : (double.order (copyW F (X - s63)) 0 == some .eq) = true → R = T + s63 ∧ T < s63

theorem vD_oneW : vD 4607182418800017408 = some (one : Int) := by
  have := vD_parts (s := 0) (E := 1023) (f := 0) (by omega) (by omega) b52_pos
  have e : 0 * s63 + 1023 * b52 + 0 = 4607182418800017408 := by decide
  rw [e] at this
  rw [this]
  obtain ⟨j, hj⟩ : ∃ j : Nat, j = 1022 := ⟨_, rfl⟩
  have eo : one = b52 * 2 ^ j := by rw [one_split (a := 52) (j := j) (by omega)]; rfl
  unfold magOf
  rw [if_neg (by omega), eo, show 1023 - 1 = j by omega]; simp
theorem vD_zeroW : vD 0 = some 0 := by
  have := vD_parts (s := 0) (E := 0) (f := 0) (by omega) (by omega) b52_pos
  simpa [magOf] using this

theorem mag_lt {E f : Nat} (hE : E < 2047) (hf : f < b52) {B : Nat} (hB : B = 2098) : magOf E f < 2 ^ B := by
  obtain ⟨j, hj⟩ : ∃ j : Nat, j = 2045 := ⟨_, rfl⟩
  have h : 2 ^ B = 2 * b52 * 2 ^ j := by rw [show B = 53 + j by omega, Nat.pow_add]; rfl
  unfold magOf
  rw [h]
  split
  · have := Nat.mul_le_mul_left (2 * b52) (Nat.two_pow_pos j : 1 ≤ 2 ^ j)
    omega
  · exact Nat.lt_of_le_of_lt (Nat.mul_le_mul_left _ (Nat.pow_le_pow_right (by omega) (by omega) : 2 ^ (E - 1) ≤ 2 ^ j)) (Nat.mul_lt_mul_of_pos_right (by omega) (Nat.two_pow_pos j))

end Go.Proofs.Ytkcehbnmcdppkaa.Fl

/- The floor of a single, by the model's own rounding of a double to a whole number. -/
namespace Go.Proofs.Ytkcehbnmcdppkaa.Fl
open Ieee

/-- Down to a whole number: the magnitude. -/
theorem cut_down (s : Bool) (M k : Nat) : Toward.down.cut s M k = M / 2 ^ k + (s && decide (M % 2 ^ k ≠ 0)).toNat := by
  unfold Toward.cut
  simp only [Nat.one_shiftLeft]
  rcases Nat.le_total k (M.log2 + 2) with c | c
  · rw [Nat.min_eq_left c]
    congr 2
    simp [bne, BEq.beq]
  · rw [Nat.min_eq_right c]
    have h : M < 2 ^ (M.log2 + 2) := by
      rcases Nat.eq_zero_or_pos M with z | z
      · subst z; exact Nat.two_pow_pos _
      · exact Nat.lt_trans (Nat.lt_log2_self) (Nat.pow_lt_pow_right (by omega) (by omega))
    have h' : M < 2 ^ k := Nat.lt_of_lt_of_le h (Nat.pow_le_pow_right (by omega) c)
    rw [Nat.div_eq_of_lt h, Nat.div_eq_of_lt h', Nat.mod_eq_of_lt h, Nat.mod_eq_of_lt h']
    congr 2
    simp [bne, BEq.beq]

/-- The whole part of a double's magnitude, rounded down. -/
theorem integral_down {s : Bool} {M : Nat} {I : Int} {A : Nat} (hI : -1074 ≤ I) (hA : M * 2 ^ (I + 1074).toNat = A) :
    (Datum.number s M I).integral .down = .number s (A / one + (s && decide (A % one ≠ 0)).toNat) 0 := by
  show Datum.number s (Toward.down.cut s (M <<< I.toNat) (-I).toNat) 0 = _
  rw [cut_down, Nat.shiftLeft_eq]
  congr 1
  obtain ⟨j, hj⟩ : ∃ j : Nat, j = 1074 := ⟨_, rfl⟩
  rcases Int.le_total 0 I with c | c
  · have e : (I + 1074).toNat = I.toNat + j := by omega
    rw [e, Nat.pow_add, ← Nat.mul_assoc] at hA
    rw [show (-I).toNat = 0 by omega, Nat.pow_zero, Nat.div_one, Nat.mod_one, ← hA, one_pow hj, Nat.mul_div_cancel _ (Nat.two_pow_pos j), Nat.mul_mod_left]
  · obtain ⟨k, hk⟩ : ∃ k : Nat, k = (-I).toNat := ⟨_, rfl⟩
    have eo : one = 2 ^ k * 2 ^ (I + 1074).toNat := one_split (by omega)
    have p : 0 < 2 ^ (I + 1074).toNat := Nat.two_pow_pos _
    have hdec : decide (M % 2 ^ k * 2 ^ (I + 1074).toNat ≠ 0) = decide (M % 2 ^ k ≠ 0) := by
      generalize 2 ^ (I + 1074).toNat = P at *
      rw [decide_eq_decide]
      constructor
      · intro h h'; exact h (by rw [h', Nat.zero_mul])
      · intro h h'
        rcases Nat.mul_eq_zero.1 h' with x | x
        · exact h x
        · omega
    rw [show I.toNat = 0 by omega, Nat.pow_zero, Nat.mul_one, ← hk, ← hA, eo, Nat.mul_div_mul_right _ _ p, Nat.mul_mod_mul_right, hdec]

/-- The floor of a value. -/
def flV (a : Int) : Int := a / (one : Int) * (one : Int)

theorem fl_sign {O A : Nat} (hO : 0 < O) {s : Bool} {a : Int} (ha : a = (if s then -1 else 1) * (A : Int)) : (if s then -1 else 1) * (((A / O + (s && decide (A % O ≠ 0)).toNat) * O : Nat) : Int) = a / (O : Int) * (O : Int) := by
  have hd := Nat.div_add_mod A O
  have hr := Nat.mod_lt A hO
  have key : a / (O : Int) = (if s then -1 else 1) * ((A / O + (s && decide (A % O ≠ 0)).toNat : Nat) : Int) := by
    cases s with
    | false =>
      simp at ha ⊢
      rw [ha]
    | true =>
      generalize A / O = q at *
      generalize A % O = r at *
      simp only [if_true, Bool.true_and] at *
      have e : (A : Int) = (O : Int) * (q : Int) + (r : Int) := by rw [← Int.natCast_mul, ← Int.natCast_add, hd]
      rw [ha, e]
      by_cases z : r = 0
      · subst z
        have : (-1 : Int) * ((O : Int) * (q : Int) + ((0 : Nat) : Int)) = (O : Int) * (-(q : Int)) := by grind
        rw [this, Int.mul_ediv_cancel_left _ (by omega)]; simp
      · have : (-1 : Int) * ((O : Int) * (q : Int) + (r : Int)) = ((O : Int) - r) + (O : Int) * (-((q : Int) + 1)) := by grind
        rw [this, Int.add_mul_ediv_left _ _ (by omega), Int.ediv_eq_zero_of_lt (by omega) (by omega)]
        simp [z]
  rw [key, Int.natCast_mul, Int.mul_assoc]

theorem flV_sign {s : Bool} {A : Nat} {a : Int} (ha : a = (if s then -1 else 1) * (A : Int)) : (if s then -1 else 1) * (((A / one + (s && decide (A % one ≠ 0)).toNat) * one : Nat) : Int) = flV a := fl_sign one_pos ha

theorem whole_small {O A c : Nat} (hO : 0 < O) (h : c = A / O ∨ c = A / O + 1) : c * O ≤ A + O := by
  have hd := Nat.div_add_mod A O
  rcases h with rfl | rfl
  · rw [Nat.mul_comm]; omega
  · rw [Nat.succ_mul, Nat.mul_comm]; omega

/-- The word of a floor. -/
def flW (x : Nat) : Nat := ((Go.floatToFloatBits .f32 x .f64).bind fun X => Go.floatToFloatBits .f64 (double.write ((double.read X).integral .down)) .f32).getD 0

theorem floor_parts2 {x : Nat} {a : Int} {k : Nat} (h : vS x = some a) (hb : Bd k x) (hk : k ≤ 124) :
    ∃ X s M I F, Go.floatToFloatBits .f32 x .f64 = some X ∧ double.read X = .number s M I ∧ double.write ((double.read X).integral .down) = F ∧ Go.floatToFloatBits .f64 F .f32 = some (flW x) ∧ vS (flW x) = some (flV a) := by
  obtain ⟨s, m, p, e, rfl⟩ := vS_some h
  obtain ⟨X, M, I, c1, c2, c3, c4, _⟩ := toD e
  obtain ⟨A, hA⟩ : ∃ A, A = m * 2 ^ (p + 1074).toNat := ⟨_, rfl⟩
  have hv : vOf s m p = (if s then -1 else 1) * (A : Int) := by unfold vOf; rw [signed_eq, hA]
  have hbA : A ≤ 2 ^ (1074 + k) := by
    obtain ⟨s', m', p', e', b'⟩ := hb
    rw [e] at e'; cases e'
    rw [hA]; exact b'
  obtain ⟨t, j, ht, hj, hform⟩ := vS_form h
  have hAf : A = t.natAbs * 2 ^ j := by
    have := congrArg Int.natAbs hform
    rw [hv, Int.natAbs_mul, Int.natAbs_mul, Int.natAbs_natCast, Int.natAbs_natCast] at this
    cases s <;> simpa using this
  rw [← hA] at c4
  have hi := integral_down (s := s) c3 c4
  obtain ⟨c, hc⟩ : ∃ c, c = A / one + (s && decide (A % one ≠ 0)).toNat := ⟨_, rfl⟩
  rw [← hc] at hi
  obtain ⟨J, hJ⟩ : ∃ J : Nat, J = 1074 := ⟨_, rfl⟩
  have hw : double.write ((double.read X).integral .down) = wordAt double 0 s (c * one) := by
    rw [c2, hi]
    show double.nearest s c 0 = _
    rw [nearest_val double s (-1074) 0 leastD c (p := 0) (by omega), one_pow hJ, show ((0 : Int) - (-1074)).toNat = J by omega]
  -- the magnitude of the floor is a single's
  have hrep : ∃ u i, u < 16777216 ∧ 925 ≤ i ∧ c * one = u * 2 ^ i := by
    by_cases z : A % one = 0
    · refine ⟨t.natAbs, j, ht, hj, ?_⟩
      rw [← hAf, hc, z]
      have := Nat.div_add_mod A one
      rw [z, Nat.add_zero, Nat.mul_comm] at this
      simp [this]
    · have hj2 : j < J := by
        rcases Nat.lt_or_ge j J with q | q
        · exact q
        · exfalso; apply z
          have : A = t.natAbs * 2 ^ (j - J) * one := by rw [hAf, one_pow hJ, Nat.mul_assoc, ← Nat.pow_add, Nat.sub_add_cancel q]
          rw [this, Nat.mul_mod_left]
      have hlt : A < 8388608 * one := by
        have e1 : one = 2 * 2 ^ (J - 1) := by rw [one_pow hJ, ← Nat.pow_succ']; congr 1; omega
        rw [hAf, e1]
        have e2 : 2 ^ j ≤ 2 ^ (J - 1) := Nat.pow_le_pow_right (by omega) (by omega)
        have p1 : 0 < 2 ^ (J - 1) := Nat.two_pow_pos _
        calc t.natAbs * 2 ^ j ≤ t.natAbs * 2 ^ (J - 1) := Nat.mul_le_mul_left _ e2
          _ < 16777216 * 2 ^ (J - 1) := Nat.mul_lt_mul_of_pos_right ht p1
          _ = 8388608 * (2 * 2 ^ (J - 1)) := by rw [← Nat.mul_assoc]
      refine ⟨c, J, ?_, by omega, by rw [one_pow hJ]⟩
      have hq : A / one < 8388608 := Nat.div_lt_of_lt_mul (by rw [Nat.mul_comm]; exact hlt)
      have hb1 : (s && decide (A % one ≠ 0)).toNat ≤ 1 := Bool.toNat_le _
      generalize A / one = Q at *
      generalize (s && decide (A % one ≠ 0)).toNat = B1 at *
      omega
  obtain ⟨u, i, hu, hi2, hcu⟩ := hrep
  have hV : c * one < 2 ^ (1074 + k + 1 + 1) := by
    have hb1 : c = A / one ∨ c = A / one + 1 := by
      rw [hc]; cases (s && decide (A % one ≠ 0)) <;> simp
    have h1 := whole_small one_pos hb1
    have h2 : one ≤ 2 ^ (1074 + k) := by rw [one_pow hJ]; exact Nat.pow_le_pow_right (by omega) (by omega)
    rw [Nat.pow_succ, Nat.pow_succ]
    have p1 : 0 < 2 ^ (1074 + k) := Nat.two_pow_pos _
    generalize 2 ^ (1074 + k) = T at *
    generalize c * one = CO at *
    generalize one = O at *
    omega
  have hround : sRung (dVal (c * one)) = sRung (c * one) := by
    rw [hcu]; exact exact_round (Nat.lt_of_lt_of_le hu (by decide))
  have hback := back (sg := s) hV (by omega) hround
  have hfl : flW x = wordAt single 925 s (c * one) := by
    unfold flW
    rw [c1]
    show (Go.floatToFloatBits .f64 (double.write ((double.read X).integral .down)) .f32).getD 0 = _
    rw [hw, hback]; rfl
  refine ⟨X, s, M, I, _, c1, c2, rfl, by rw [hw, hback, hfl], ?_⟩
  rw [hfl, vS_word hV (by omega), hcu, rd_exact single 925 u i (by rw [fbS]; exact hu) hi2, ← hcu, hc, flV_sign hv]

theorem floor_parts {x : Nat} {a : Int} {k : Nat} (h : vS x = some a) (hb : Bd k x) (hk : k ≤ 50) :
    ∃ X s M I F, Go.floatToFloatBits .f32 x .f64 = some X ∧ double.read X = .number s M I ∧ double.write ((double.read X).integral .down) = F ∧ Go.floatToFloatBits .f64 F .f32 = some (flW x) ∧ vS (flW x) = some (flV a) := floor_parts2 h hb (by omega)

end Go.Proofs.Ytkcehbnmcdppkaa.Fl

/- A whole single as an integer; magnitudes of singles. -/
namespace Go.Proofs.Ytkcehbnmcdppkaa.Fl
open Ieee

theorem cut_zero (s : Bool) (M k : Nat) : Toward.zero.cut s M k = M / 2 ^ k := by
  unfold Toward.cut
  simp only [Nat.one_shiftLeft]
  rcases Nat.le_total k (M.log2 + 2) with c | c
  · rw [Nat.min_eq_left c]; simp
  · rw [Nat.min_eq_right c]
    have h : M < 2 ^ (M.log2 + 2) := by
      rcases Nat.eq_zero_or_pos M with z | z
      · subst z; exact Nat.two_pow_pos _
      · exact Nat.lt_trans (Nat.lt_log2_self) (Nat.pow_lt_pow_right (by omega) (by omega))
    have h' : M < 2 ^ k := Nat.lt_of_lt_of_le h (Nat.pow_le_pow_right (by omega) c)
    rw [Nat.div_eq_of_lt h, Nat.div_eq_of_lt h']; simp

theorem integral_zero {s : Bool} {M : Nat} {I : Int} {A : Nat} (hI : -1074 ≤ I) (hA : M * 2 ^ (I + 1074).toNat = A) :
    (Datum.number s M I).integral .zero = .number s (A / one) 0 := by
  show Datum.number s (Toward.zero.cut s (M <<< I.toNat) (-I).toNat) 0 = _
  rw [cut_zero, Nat.shiftLeft_eq]
  congr 1
  obtain ⟨j, hj⟩ : ∃ j : Nat, j = 1074 := ⟨_, rfl⟩
  rcases Int.le_total 0 I with c | c
  · have e : (I + 1074).toNat = I.toNat + j := by omega
    rw [e, Nat.pow_add, ← Nat.mul_assoc] at hA
    rw [show (-I).toNat = 0 by omega, Nat.pow_zero, Nat.div_one, ← hA, one_pow hj, Nat.mul_div_cancel _ (Nat.two_pow_pos j)]
  · obtain ⟨k, hk⟩ : ∃ k : Nat, k = (-I).toNat := ⟨_, rfl⟩
    have eo : one = 2 ^ k * 2 ^ (I + 1074).toNat := one_split (by omega)
    have p : 0 < 2 ^ (I + 1074).toNat := Nat.two_pow_pos _
    rw [show I.toNat = 0 by omega, Nat.pow_zero, Nat.mul_one, ← hk, ← hA, eo, Nat.mul_div_mul_right _ _ p]

theorem toInt_whole {x : Nat} {g : Int} (h : vS x = some (g * (one : Int))) (hb : -1073741824 ≤ g) (hb' : g ≤ 1073741824) : Go.floatToIntVal .f32 x .i64 = some g := by
  obtain ⟨s, m, p, e, hv⟩ := vS_some h
  have lo := (read_single e).low
  obtain ⟨A, hA⟩ : ∃ A, m * 2 ^ (p + 1074).toNat = A := ⟨_, rfl⟩
  have hp : (0 : Int) < (one : Int) := Int.natCast_pos.2 one_pos
  have hs : g * (one : Int) = (if s then -1 else 1) * (A : Int) := by rw [← hv]; unfold vOf; rw [signed_eq, hA]
  have hAg : A = g.natAbs * one := by
    have := congrArg Int.natAbs hs
    rw [Int.natAbs_mul, Int.natAbs_mul, Int.natAbs_natCast, Int.natAbs_natCast] at this
    cases s <;> simpa using this.symm
  have hq : A / one = g.natAbs := by rw [hAg, Nat.mul_div_cancel _ one_pos]
  have hg : (if s then -1 else 1) * (g.natAbs : Int) = g := by
    refine Int.eq_of_mul_eq_mul_right (Int.ne_of_gt hp) ?_
    rw [hs, hAg, Int.natCast_mul, Int.mul_assoc]
  unfold Go.floatToIntVal
  have hd : Go.FloatKind.f32.decode x = .number s m p := e
  have ht : (Datum.number s m p).toInt .zero = some g := by
    unfold Datum.toInt
    rw [integral_zero (s := s) (by omega) hA, hq]
    show some (signed s g.natAbs 0) = some g
    rw [signed_eq, Nat.pow_zero, Nat.mul_one, hg]
  rw [hd, ht]
  have e1 : Go.IntKind.i64.min = -9223372036854775808 := by decide
  have e2 : Go.IntKind.i64.max = 9223372036854775807 := by decide
  simp only [e1, e2]
  rw [if_pos ⟨by omega, by omega⟩]

theorem flV_whole (a : Int) : ∃ g : Int, g = a / (one : Int) ∧ flV a = g * (one : Int) := ⟨_, rfl, rfl⟩

theorem abs_val {x : Nat} {a : Int} (h : vS x = some a) : vS (x % 2147483648) = some ((a.natAbs : Nat) : Int) := by
  obtain ⟨s, m, p, e, rfl⟩ := vS_some h
  have hr := read_abs single x
  rw [swS, e] at hr
  rw [vS_num hr]
  unfold vOf
  rw [signed_eq, signed_eq, Int.natAbs_mul, Int.natAbs_natCast]
  cases s <;> simp

end Go.Proofs.Ytkcehbnmcdppkaa.Fl

/- Any single that is no NaN: sums, quotients, floors and levels of it (pure). -/
namespace Go.Proofs.Ytkcehbnmcdppkaa.Fl
open Ieee

theorem infS' : single.infRung = 2139095040 := by decide
theorem infD' : double.infRung = 9218868437227405312 := by decide
theorem binS' : single.binade = 8388608 := by decide

/-- A number or an infinity of the sign s. -/
def Sg (s : Bool) (x : Nat) : Prop := (∃ m p, single.read x = .number s m p) ∨ single.read x = .infinity s
/-- No NaN. -/
def Sgl' (x : Nat) : Prop := ∃ s, Sg s x

theorem read_inf (s : Bool) : single.read (single.word s single.infRung) = .infinity s := by cases s <;> decide
theorem read_infD (s : Bool) : double.read (double.word s double.infRung) = .infinity s := by cases s <;> decide
theorem read_le (s : Bool) (r : Nat) (h : r ≤ single.infRung) : Sg s (single.word s r) := by
  rcases Nat.lt_or_eq_of_le h with c | c
  · left
    rw [infS'] at c
    have e1 : (single.word s r / single.signWeight % 2 == 1) = s := by
      unfold Format.word; rw [swS]
      cases s with
      | false => simp; omega
      | true => simp; omega
    have e2 : single.word s r % single.signWeight = r := by
      unfold Format.word; rw [swS]
      cases s with
      | false => simp; omega
      | true => simp; omega
    unfold Format.read
    simp only [e1, e2, binS', infS']
    split
    · exact ⟨_, _, rfl⟩
    · first | exact ⟨_, _, rfl⟩ | (rw [if_pos c]; exact ⟨_, _, rfl⟩)
  · subst c; exact .inr (read_inf s)
theorem near_sg (s : Bool) (m : Nat) (p : Int) : Sg s (single.nearest s m p) := by
  unfold Format.nearest
  split
  · exact read_le s 0 (by omega)
  · exact read_le s _ (Nat.min_le_right _ _)

theorem op_near {d : Option Datum} (h : ∃ s m p, d = some (.number s m p)) : ∃ r, d.map single.write = some r ∧ Sgl' r := by
  obtain ⟨s, m, p, rfl⟩ := h
  exact ⟨single.nearest s m p, rfl, s, near_sg s m p⟩
theorem op_inf {d : Option Datum} (h : ∃ s, d = some (.infinity s)) : ∃ r, d.map single.write = some r ∧ Sgl' r := by
  obtain ⟨s, rfl⟩ := h
  exact ⟨single.word s single.infRung, rfl, s, .inr (read_inf s)⟩
theorem sub_sgl {x y : Nat} {a b : Int} (ha : vS x = some a) (hb : vS y = some b) : ∃ r, Go.floatBits .sub .f32 x y = some r ∧ Sgl' r := by
  obtain ⟨s, m, i, h1, -⟩ := vS_some ha
  obtain ⟨t, n, j, h2, -⟩ := vS_some hb
  show ∃ r, ((single.read x).sum (single.read y).opposite).map single.write = some r ∧ _
  rw [h1, h2]
  exact op_near ⟨_, _, _, rfl⟩
theorem add_sgl {x y : Nat} {b : Int} (ha : Sgl' x) (hb : vS y = some b) : ∃ r, Go.floatBits .add .f32 x y = some r ∧ Sgl' r := by
  obtain ⟨t, n, j, h2, -⟩ := vS_some hb
  show ∃ r, ((single.read x).sum (single.read y)).map single.write = some r ∧ _
  obtain ⟨s, ⟨m, i, h1⟩ | h1⟩ := ha
  · rw [h1, h2]
    exact op_near ⟨_, _, _, rfl⟩
  · rw [h1, h2]
    exact op_inf ⟨_, rfl⟩
theorem quo_sgl {x y : Nat} {b : Int} (ha : Sgl' x) (hb : vS y = some b) (hb0 : b ≠ 0) : ∃ r, Go.floatBits .quo .f32 x y = some r ∧ Sgl' r := by
  obtain ⟨t, n, j, h2, e⟩ := vS_some hb
  have hn : n ≠ 0 := by
    intro z; subst z; apply hb0; rw [← e, vOf_mag]; simp
  show ∃ r, ((single.read x).quotient (single.fractionBits + 2) (single.read y)).map single.write = some r ∧ _
  obtain ⟨s, ⟨m, i, h1⟩ | h1⟩ := ha
  · rw [h1, h2]
    refine op_near ?_
    unfold Datum.quotient
    simp only
    rw [if_neg hn]
    exact ⟨_, _, _, rfl⟩
  · rw [h1, h2]
    exact op_inf ⟨_, rfl⟩

/-- Truncation of what is not negative. -/
theorem toInt_floor {x : Nat} {a : Int} (h : vS x = some a) (h0 : 0 ≤ a) (hb : a / (one : Int) ≤ 1073741824) : Go.floatToIntVal .f32 x .i64 = some (a / (one : Int)) := by
  obtain ⟨s, m, p, e, hv⟩ := vS_some h
  have lo := (read_single e).low
  obtain ⟨A, hA⟩ : ∃ A, m * 2 ^ (p + 1074).toNat = A := ⟨_, rfl⟩
  have hs : a = (if s then -1 else 1) * (A : Int) := by rw [← hv, vOf_mag, hA]
  have hz : s = true → A = 0 := by
    intro c; subst c; simp at hs; omega
  have haA : a = (A : Int) := by
    cases s with
    | false => simpa using hs
    | true => rw [hz rfl] at hs ⊢; simpa using hs
  unfold Go.floatToIntVal
  have hd : Go.FloatKind.f32.decode x = .number s m p := e
  have ht : (Datum.number s m p).toInt .zero = some (a / (one : Int)) := by
    unfold Datum.toInt
    rw [integral_zero (s := s) (by omega) hA]
    show some (signed s (A / one) 0) = _
    rw [signed_eq, Nat.pow_zero, Nat.mul_one, haA]
    cases s with
    | false => simp
    | true => rw [hz rfl]; simp
  have hq : 0 ≤ a / (one : Int) := Int.ediv_nonneg h0 (by omega)
  rw [hd, ht]
  have e1 : Go.IntKind.i64.min = -9223372036854775808 := by decide
  have e2 : Go.IntKind.i64.max = 9223372036854775807 := by decide
  simp only [e1, e2]
  rw [if_pos ⟨by omega, by omega⟩]

/-- The double of an int that is not great. -/
theorem int_valD {n : Nat} (h : n < 2 ^ 53) : vD (Go.floatOfInt .f64 (n : Int)) = some ((n * one : Nat) : Int) := by
  obtain ⟨J, hJ⟩ : ∃ J : Nat, J = 1074 := ⟨_, rfl⟩
  have e : Go.floatOfInt .f64 (n : Int) = double.nearest (decide ((n : Int) < 0)) n 0 := rfl
  rw [e, show decide ((n : Int) < 0) = false by simp, nearest_val double false (-1074) 0 leastD n (p := 0) (by omega), show ((0 : Int) - (-1074)).toNat = J by omega, ← one_pow hJ]
  have hB : n * one < 2 ^ (53 + J) := by
    rw [Nat.pow_add, ← one_pow hJ]
    exact Nat.mul_lt_mul_of_pos_right h one_pos
  rw [vD_word hB (by omega), one_pow hJ, rd_exact double 0 n J (by rw [fbD]; exact h) (by omega)]
  simp

/-- The double of a single has its value. -/
theorem toD_val {x : Nat} {a : Int} (h : vS x = some a) : ∃ X, Go.floatToFloatBits .f32 x .f64 = some X ∧ vD X = some a := by
  obtain ⟨s, m, p, e, rfl⟩ := vS_some h
  obtain ⟨X, M, I, c1, c2, c3, c4, _⟩ := toD e
  exact ⟨X, c1, by rw [vD_num c2, vOf_mag, vOf_mag, c4]⟩

theorem geq_valD {x y : Nat} {a b : Int} (hx : vD x = some a) (hy : vD y = some b) : (double.order x y == some .gt || double.order x y == some .eq) = decide (b ≤ a) := by
  rw [order_valD hx hy, some_beq, some_beq, cmp_gt, cmp_eq, ← Bool.decide_or]
  exact decide_eq_decide.2 (by omega)
end Go.Proofs.Ytkcehbnmcdppkaa.Fl

/- Singles by their words; halves and shorts of them (pure). -/
namespace Go.Proofs.Ytkcehbnmcdppkaa.Fl
open Ieee

/-- The magnitude of a rung. -/
def rv (r : Nat) : Nat := rgM r * 2 ^ rgE r

theorem read_rungs (s : Bool) {r : Nat} (h : r < 2139095040) : single.read (s.toNat * 2147483648 + r) = .number s (rgM r) ((rgE r : Int) - 1074) := by
  have e1 : ((s.toNat * 2147483648 + r) / 2147483648 % 2 == 1) = s := by
    cases s with
    | false => simp; omega
    | true => simp; omega
  have e2 : (s.toNat * 2147483648 + r) % 2147483648 = r := by
    cases s with
    | false => simp; omega
    | true => simp; omega
  unfold Format.read
  simp only [swS, binS, infS, lpS, e1, e2]
  unfold rgM rgE
  split
  · rfl
  · congr 1
    omega
theorem vS_rung (s : Bool) {r : Nat} (h : r < 2139095040) : vS (s.toNat * 2147483648 + r) = some ((if s then -1 else 1) * ((rv r : Nat) : Int)) := by
  rw [vS_num (read_rungs s h), vOf_mag, show (((rgE r : Nat) : Int) - 1074 + 1074).toNat = rgE r by omega]
  rfl
theorem vS_pos {r : Nat} (h : r < 2139095040) : vS r = some ((rv r : Nat) : Int) := by
  have := vS_rung false h
  simpa using this

theorem rv_lt {r q : Nat} (h : r < q) : rv r < rv q := by
  unfold rv
  have p := Nat.two_pow_pos (rgE r)
  rcases Nat.lt_trichotomy (rgE r) (rgE q) with c | c | c
  · have mq := rgM_ge (show 925 < rgE q by have := rgE_le r; omega)
    have mr := rgM_lt r
    have e : 2 ^ rgE q = 2 ^ (rgE q - rgE r - 1) * 2 * 2 ^ rgE r := by rw [← Nat.pow_succ, ← Nat.pow_add]; congr 1; omega
    have p2 := Nat.two_pow_pos (rgE q - rgE r - 1)
    rw [e, ← Nat.mul_assoc]
    refine Nat.mul_lt_mul_of_pos_right ?_ p
    have : 8388608 * 2 ≤ rgM q * (2 ^ (rgE q - rgE r - 1) * 2) := Nat.mul_le_mul mq (by omega)
    omega
  · rw [c]
    refine Nat.mul_lt_mul_of_pos_right ?_ (Nat.two_pow_pos _)
    unfold rgM
    unfold rgE at c
    repeat' split at c
    all_goals (repeat' split)
    all_goals omega
  · exfalso
    unfold rgE at c
    repeat' split at c
    all_goals omega
theorem rv_le {r q : Nat} : rv r ≤ rv q ↔ r ≤ q := by
  constructor
  · intro h
    rcases Nat.lt_or_ge q r with c | c
    · have := rv_lt c; omega
    · exact c
  · intro h
    rcases Nat.lt_or_eq_of_le h with c | c
    · exact Nat.le_of_lt (rv_lt c)
    · rw [c]; exact Nat.le_refl _
theorem rv_lt' {r q : Nat} : rv r < rv q ↔ r < q := by
  have := @rv_le q r
  omega

/-- 2 ^ -24. -/
def u24 : Nat := 2 ^ (1050 : Int).toNat
theorem u24_pow {j : Nat} (h : j = 1050) : u24 = 2 ^ j := by unfold u24; exact congrArg (2 ^ ·) (by omega)
theorem u24_pos : 0 < u24 := Nat.two_pow_pos _
theorem one_u24 : one = 16777216 * u24 := by
  obtain ⟨j, hj⟩ : ∃ j : Nat, j = 1050 := ⟨_, rfl⟩
  rw [one_pow (j := 24 + j) (by omega), Nat.pow_add, u24_pow hj]
/-- The value of a half that is no infinity. -/
def hvM (r : Nat) : Nat := if r < 1024 then r * u24 else (1024 + r % 1024) * 2 ^ (1049 + r / 1024)
/-- The word of a half's magnitude. -/
def whW (r : Nat) : Nat := (Go.floatBits .mul .f32 (r * 8192) 2004877312).getD 0

theorem near_word (s : Bool) (m : Nat) (p : Int) : ∃ q, q ≤ single.infRung ∧ single.nearest s m p = single.word s q := by
  unfold Format.nearest
  split
  · exact ⟨0, by omega, rfl⟩
  · exact ⟨_, Nat.min_le_right _ _, rfl⟩

theorem mul_pos_word {x y : Nat} {a b : Nat} (ha : vS x = some (a : Int)) (hb : vS y = some (b : Int)) (hx : x < 2147483648) (hy : y < 2147483648) : ∃ r, Go.floatBits .mul .f32 x y = some r ∧ r ≤ 2139095040 := by
  obtain ⟨s, m, i, h1, -⟩ := vS_some ha
  obtain ⟨t, n, j, h2, -⟩ := vS_some hb
  have hs : ∀ {x : Nat} {s : Bool} {m : Nat} {i : Int}, x < 2147483648 → single.read x = .number s m i → s = false := by
    intro x s m i hx h
    unfold Format.read at h
    simp only [swS] at h
    have : (x / 2147483648 % 2 == 1) = false := by rw [Nat.div_eq_of_lt hx]; rfl
    rw [this] at h
    split at h
    · cases h; rfl
    · split at h
      · cases h; rfl
      · split at h <;> cases h
  obtain rfl := hs hx h1
  obtain rfl := hs hy h2
  obtain ⟨q, q1, q2⟩ := near_word (false ^^ false) (m * n) (i + j)
  refine ⟨q, ?_, by rw [infS] at q1; exact q1⟩
  show ((single.read x).product (single.read y)).map single.write = _
  rw [h1, h2]
  show some (single.nearest (false ^^ false) (m * n) (i + j)) = _
  rw [q2]; rfl

theorem vS_big {j : Nat} (hj : j = 1186) : vS 2004877312 = some ((2 ^ j : Nat) : Int) := by
  have h : single.read 2004877312 = .number false 8388608 89 := by decide
  rw [vS_num h, vOf_mag, show ((89 : Int) + 1074).toNat = j - 23 by omega]
  simp only [Bool.false_eq_true, if_false, Int.one_mul]
  congr 1
  have : (8388608 : Nat) = 2 ^ 23 := by decide
  rw [this, ← Nat.pow_add]
  congr 2
  omega

theorem whole_val {r : Nat} {e : Nat} (he : e = rgE (r * 8192)) (h : r < 31744) : rgM (r * 8192) * 2 ^ (e + 112) = hvM r := by
  rw [he]
  unfold hvM rgM rgE
  obtain ⟨K, hK⟩ : ∃ K : Nat, K = 1050 := ⟨_, rfl⟩
  by_cases c : r < 1024
  · rw [if_pos (show r * 8192 < 8388608 by omega), if_pos (show r * 8192 < 8388608 by omega), if_pos c, show 925 + 112 = K - 13 by omega, Nat.mul_assoc, u24_pow hK, show (8192 : Nat) = 2 ^ 13 by decide, ← Nat.pow_add]
    congr 2
    omega
  · rw [if_neg (show ¬ r * 8192 < 8388608 by omega), if_neg (show ¬ r * 8192 < 8388608 by omega), if_neg c]
    have e1 : 8388608 + r * 8192 % 8388608 = (1024 + r % 1024) * 2 ^ 13 := by omega
    have e2 : r * 8192 / 8388608 = r / 1024 := by omega
    rw [e1, e2, Nat.mul_assoc, ← Nat.pow_add]
    congr 2
    omega
theorem whole_word {r : Nat} (h : r < 31744) : Go.floatBits .mul .f32 (r * 8192) 2004877312 = some (whW r) ∧ whW r < 2139095040 ∧ vS (whW r) = some ((hvM r : Nat) : Int) := by
  obtain ⟨J, hJ⟩ : ∃ J : Nat, J = 1074 := ⟨_, rfl⟩
  have h1 : vS (r * 8192) = some ((rv (r * 8192) : Nat) : Int) := vS_pos (by omega)
  obtain ⟨U, hU⟩ : ∃ U : Nat, U = 1186 := ⟨_, rfl⟩
  have h2 := vS_big hU
  obtain ⟨q, q1, q2⟩ := mul_pos_word h1 h2 (by omega) (by omega)
  have hw : whW r = q := by unfold whW; rw [q1]; rfl
  rw [hw]
  obtain ⟨e, he⟩ : ∃ e, e = rgE (r * 8192) := ⟨_, rfl⟩
  have he2 : e ≤ 955 := by
    rw [he]; unfold rgE
    split <;> omega
  have hm := rgM_lt (r * 8192)
  have hc : ((rv (r * 8192) : Nat) : Int) * ((2 ^ U : Nat) : Int) = ((rgM (r * 8192) * 2 ^ (e + 112) : Nat) : Int) * (one : Int) := by
    unfold rv
    rw [← he, one_pow hJ, ← Int.natCast_mul, ← Int.natCast_mul]
    refine congrArg (fun z : Nat => (z : Int)) ?_
    rw [Nat.mul_assoc, Nat.mul_assoc, ← Nat.pow_add, ← Nat.pow_add, show e + U = e + 112 + J by omega]
  obtain ⟨B, hB⟩ : ∃ B : Nat, B = 1100 := ⟨_, rfl⟩
  have hlt : rgM (r * 8192) * 2 ^ (e + 112) < 2 ^ B := by
    calc rgM (r * 8192) * 2 ^ (e + 112) < 16777216 * 2 ^ (e + 112) := Nat.mul_lt_mul_of_pos_right hm (Nat.two_pow_pos _)
      _ = 2 ^ (24 + (e + 112)) := (Nat.pow_add 2 24 (e + 112)).symm
      _ ≤ 2 ^ B := Nat.pow_le_pow_right (by omega) (by omega)
  have hv := vS_mul (B := B) q1 h1 h2 hc (by rw [Int.natAbs_natCast]; exact hlt) (by omega)
  rw [rdS_exact ((rgM (r * 8192) : Nat) : Int) (e + 112) (by rw [Int.natAbs_natCast]; exact hm) (by have := rgE_le (r * 8192); omega) (by rw [Int.natCast_mul])] at hv
  have hval := whole_val he h
  rw [hval] at hv
  refine ⟨q1, ?_, hv⟩
  rcases Nat.lt_or_eq_of_le q2 with c | c
  · exact c
  · exfalso
    subst c
    have : single.read 2139095040 = .infinity false := by decide
    unfold vS at hv
    rw [this] at hv
    cases hv

/-- The word of a half that is not small. -/
theorem whW_big {r : Nat} (h : r < 31744) (h0 : 1024 ≤ r) : whW r = r * 8192 + 939524096 := by
  obtain ⟨-, h2, h3⟩ := whole_word h
  have hv : vS (r * 8192 + 939524096) = some ((hvM r : Nat) : Int) := by
    rw [vS_pos (by omega)]
    unfold rv rgM rgE hvM
    rw [if_neg (by omega), if_neg (by omega), if_neg (by omega)]
    have e1 : 8388608 + (r * 8192 + 939524096) % 8388608 = (1024 + r % 1024) * 2 ^ 13 := by omega
    have e2 : (r * 8192 + 939524096) / 8388608 = r / 1024 + 112 := by omega
    rw [e1, e2, Nat.mul_assoc, ← Nat.pow_add, show 13 + (924 + (r / 1024 + 112)) = 1049 + r / 1024 by omega]
  refine word_inj (by omega) (by omega) h3 hv ?_
  unfold hvM
  rw [if_neg (by omega)]
  have : 0 < (1024 + r % 1024) * 2 ^ (1049 + r / 1024) := Nat.mul_pos (by omega) (Nat.two_pow_pos _)
  omega

theorem rv_m14 : rv 947912704 = 1024 * u24 := by
  obtain ⟨j, hj⟩ : ∃ j : Nat, j = 1037 := ⟨_, rfl⟩
  unfold rv
  rw [show rgM 947912704 = 2 ^ 23 by decide, show rgE 947912704 = j by rw [hj]; decide, ← Nat.pow_add, u24_pow (j := 13 + j) (by omega), Nat.pow_add, Nat.pow_add, ← Nat.mul_assoc]

/-- The nearest half of a magnitude below 2 ^ -14, as the program has it. -/
theorem small_sum {r : Nat} (h : r < 947912704) : Go.floatBits .add .f32 r 1056964608 = some (1056964608 + rnq (rv r) u24) ∧ rnq (rv r) u24 ≤ 1024 := by
  have h1 := read_rungs false (r := r) (by omega)
  simp only [Bool.toNat_false, Nat.zero_mul, Nat.zero_add] at h1
  have h2 : single.read 1056964608 = .number false 8388608 (-24) := by decide
  obtain ⟨K, hK⟩ : ∃ K : Nat, K = 1050 := ⟨_, rfl⟩
  have hU := u24_pow hK
  have p1 := u24_pos
  obtain ⟨p, q, q1, q2, q3⟩ := sum_val (s := false) (t := false) (m := rgM r) (n := 8388608) (i := (rgE r : Int) - 1074) (j := -24) (by have := rgE_le r; omega) (by omega)
  have hrv : rv r < 1024 * u24 := by rw [← rv_m14]; exact rv_lt h
  have hv : vOf false (rgM r) ((rgE r : Int) - 1074) + vOf false 8388608 (-24) = ((8388608 * u24 + rv r : Nat) : Int) := by
    rw [vOf_mag, vOf_mag, show (((rgE r : Nat) : Int) - 1074 + 1074).toNat = rgE r by omega, show ((-24 : Int) + 1074).toNat = K by omega, ← hU]
    unfold rv
    simp only [Bool.false_eq_true, if_false, Int.one_mul]
    rw [← Int.natCast_add, Nat.add_comm]
  rw [hv] at q1 q3
  rw [Int.natAbs_natCast] at q3
  have e23 : 8388608 * u24 = 2 ^ (23 + K) := by rw [hU, Nat.pow_add]
  have hlog : (8388608 * u24 + rv r).log2 = 23 + K := by
    rw [Nat.log2_eq_iff (by omega)]
    refine ⟨by omega, ?_⟩
    rw [Nat.pow_succ, ← e23]
    omega
  have hrq : rnq (8388608 * u24 + rv r) u24 = 8388608 + rnq (rv r) u24 := by
    unfold rnq
    generalize u24 = P at *
    have d1 : (8388608 * P + rv r) / P = 8388608 + rv r / P := by rw [Nat.mul_comm, Nat.mul_add_div p1]
    have d2 : (8388608 * P + rv r) % P = rv r % P := by rw [Nat.mul_comm, Nat.mul_add_mod]
    rw [d1, d2]
    have d3 : (8388608 + rv r / P) % 2 = rv r / P % 2 := by omega
    rw [d3]
    omega
  have hsmall : rnq (rv r) u24 ≤ 1024 := by
    have := rnq_mono p1 (Nat.le_of_lt hrv)
    rwa [rnq_mul _ _ p1] at this
  have hrung : rungOf single 925 (8388608 * u24 + rv r) = 1056964608 + rnq (rv r) u24 := by
    have hlast : lastOf single 925 (8388608 * u24 + rv r) = K := by unfold lastOf; rw [hlog, fbS]; omega
    unfold rungOf
    rw [hlast, ← hU, hrq, binS]
    omega
  refine ⟨?_, hsmall⟩
  show ((single.read r).sum (single.read 1056964608)).map single.write = _
  rw [h1, h2, q1]
  show some (single.nearest _ p q) = _
  rw [nearest_val single _ (-1074) 925 leastS p (p := q) q2, show (q - (-1074)).toNat = (q + 1074).toNat by omega, q3]
  unfold wordAt
  rw [hrung, infS, Nat.min_eq_left (by omega)]
  have hp : ¬ (((8388608 * u24 + rv r : Nat) : Int) = 0) := by omega
  have hp2 : ¬ (((8388608 * u24 + rv r : Nat) : Int) < 0) := by omega
  rw [if_neg hp]
  simp only [hp2, decide_false]
  rfl
end Go.Proofs.Ytkcehbnmcdppkaa.Fl

/- Halves and shorts: how far they are from their singles, in doubles (pure). -/
namespace Go.Proofs.Ytkcehbnmcdppkaa.Fl
open Ieee

theorem gtr_valD {x y : Nat} {a b : Int} (hx : vD x = some a) (hy : vD y = some b) : (double.order x y == some .gt) = decide (b < a) := by rw [order_valD hx hy, some_beq, cmp_gt]
theorem leq_valD {x y : Nat} {a b : Int} (hx : vD x = some a) (hy : vD y = some b) : (double.order x y == some .lt || double.order x y == some .eq) = decide (a ≤ b) := by
  rw [order_valD hx hy, some_beq, some_beq, cmp_lt, cmp_eq, ← Bool.decide_or]
  exact decide_eq_decide.2 (by omega)

/-- A magnitude by the place of its last bit. -/
theorem rv_near {r r' : Nat} (h : 8388608 ≤ r) (h1 : r / 8388608 * 8388608 ≤ r') (h2 : r' ≤ r / 8388608 * 8388608 + 8388608) : rv r' = (8388608 + (r' - r / 8388608 * 8388608)) * 2 ^ (924 + r / 8388608) := by
  unfold rv
  rcases Nat.lt_or_eq_of_le h2 with c | c
  · have e1 : r' / 8388608 = r / 8388608 := by omega
    unfold rgM rgE
    rw [if_neg (by omega), if_neg (by omega), e1]
    congr 2
    omega
  · have e1 : r' / 8388608 = r / 8388608 + 1 := by omega
    unfold rgM rgE
    rw [if_neg (by omega), if_neg (by omega), e1, ← Nat.add_assoc, Nat.pow_succ]
    have e2 : r' % 8388608 = 0 := by omega
    have e3 : r' - r / 8388608 * 8388608 = 8388608 := by omega
    rw [e2, e3]
    generalize 2 ^ (924 + r / 8388608) = P
    omega

/-- What is lost, and the bound: both are singles times a power of 2. -/
theorem near_lost {r r' k : Nat} (h : 8388608 ≤ r) (hk : k ≤ 23) (h1 : r / 8388608 * 8388608 ≤ r') (h2 : r' ≤ r / 8388608 * 8388608 + 8388608) (h3 : r' ≤ r + 2 ^ (23 - k)) (h4 : r ≤ r' + 2 ^ (23 - k)) :
    ∃ u j, ((rv r' : Nat) : Int) - ((rv r : Nat) : Int) = (if r ≤ r' then 1 else -1) * ((u * 2 ^ j : Nat) : Int) ∧ u ≤ 8388608 ∧ j = 924 + r / 8388608 ∧ u * 2 ^ j * 2 ^ k ≤ rv r := by
  have e1 := rv_near h h1 h2
  have e2 := rv_near h (r' := r) (by omega) (by omega)
  have p := Nat.two_pow_pos (924 + r / 8388608)
  have p23 : 2 ^ (23 - k) ≤ 8388608 := by
    have : (8388608 : Nat) = 2 ^ 23 := by decide
    rw [this]; exact Nat.pow_le_pow_right (by omega) (by omega)
  refine ⟨(r' - r) + (r - r'), 924 + r / 8388608, ?_, by omega, rfl, ?_⟩
  · rw [e1, e2]
    have a1 : r / 8388608 * 8388608 ≤ r := by omega
    obtain ⟨B, hB⟩ : ∃ B, B = r / 8388608 * 8388608 := ⟨_, rfl⟩
    rw [← hB] at h1 a1 ⊢
    generalize 2 ^ (924 + r / 8388608) = P
    by_cases c : r ≤ r'
    · rw [if_pos c]
      have : (8388608 + (r' - B)) * P = (8388608 + (r - B)) * P + (r' - r + (r - r')) * P := by rw [← Nat.add_mul]; congr 1; omega
      omega
    · rw [if_neg c]
      have : (8388608 + (r - B)) * P = (8388608 + (r' - B)) * P + (r' - r + (r - r')) * P := by rw [← Nat.add_mul]; congr 1; omega
      omega
  · rw [e2, Nat.mul_right_comm]
    refine Nat.mul_le_mul_right _ ?_
    have q : (r' - r + (r - r')) ≤ 2 ^ (23 - k) := by omega
    calc (r' - r + (r - r')) * 2 ^ k ≤ 2 ^ (23 - k) * 2 ^ k := Nat.mul_le_mul_right _ q
      _ = 8388608 := by rw [← Nat.pow_add, Nat.sub_add_cancel hk]
      _ ≤ _ := by omega

theorem dbl_small {X : Nat} {s : Bool} {m : Nat} {i : Int} (h : double.read X = .number s m i) : m < 2 ^ 53 := by
  unfold Format.read at h
  have e : (2 : Nat) ^ 53 = 9007199254740992 := by decide
  have e2 : b52 = 4503599627370496 := rfl
  rw [bnD, infD, e2] at h
  simp only at h
  rw [e]
  split at h
  · cases h; omega
  · split at h
    · cases h; omega
    · split at h <;> cases h

/-- A quotient by a power of 2 is exact. -/
theorem quo_pow {X Y t : Nat} {s : Bool} {m : Nat} {i j : Int} (h : double.read X = .number s m i) (hi : -300 ≤ i) (hi2 : i ≤ 200) (hy : double.read Y = .number false 4503599627370496 j) (hj : j = (t : Int) - 52) (ht : t ≤ 100) :
    ∃ Q V, Go.floatBits .quo .f64 X Y = some Q ∧ vD Q = some ((if s then -1 else 1) * ((V : Nat) : Int)) ∧ V * 2 ^ t = m * 2 ^ (i + 1074).toNat := by
  have hm := dbl_small h
  obtain ⟨e, he⟩ : ∃ e : Nat, e = (i + 1074).toNat - t := ⟨_, rfl⟩
  have h52 : (4503599627370496 : Nat) = 2 ^ 52 := by decide
  have hl52 : (4503599627370496 : Nat).log2 = 52 := by rw [h52]; exact Nat.log2_two_pow
  have hlm : m.log2 ≤ 52 := by
    rcases Nat.eq_zero_or_pos m with z | z
    · subst z; decide
    · have := (Nat.log2_lt (n := m) (k := 53) (by omega)).2 hm; omega
  obtain ⟨more, hmore⟩ : ∃ more : Nat, more = 54 + 52 - m.log2 := ⟨_, rfl⟩
  have hdiv : m * 2 ^ more = m * 2 ^ (more - 52) * 4503599627370496 := by rw [h52, Nat.mul_assoc, ← Nat.pow_add, Nat.sub_add_cancel (by omega)]
  have hq : (Datum.number s m i).quotient 54 (.number false 4503599627370496 j) = some (.number s (m * 2 ^ (more - 51)) (i - j - more - 1)) := by
    have q1 : 2 * (m <<< more / 4503599627370496) + (m <<< more % 4503599627370496 != 0).toNat = m * 2 ^ (more - 51) := by
      rw [Nat.shiftLeft_eq, hdiv, Nat.mul_div_cancel _ (by decide), Nat.mul_mod_left, show more - 51 = (more - 52) + 1 by omega, Nat.pow_succ]
      simp only [bne_self_eq_false, Bool.toNat_false, Nat.add_zero]
      rw [Nat.mul_comm 2, Nat.mul_assoc]
    show some (Datum.number (s ^^ false) (2 * (m <<< (54 + (4503599627370496 : Nat).log2 - m.log2) / 4503599627370496) + (m <<< (54 + (4503599627370496 : Nat).log2 - m.log2) % 4503599627370496 != 0).toNat) (i - j - ((54 + (4503599627370496 : Nat).log2 - m.log2 : Nat) : Int) - 1)) = _
    rw [hl52, ← hmore, q1, Bool.xor_false]
  refine ⟨double.nearest s (m * 2 ^ (more - 51)) (i - j - more - 1), m * 2 ^ e, ?_, ?_, by rw [Nat.mul_assoc, ← Nat.pow_add, show e + t = (i + 1074).toNat by omega]⟩
  · show ((double.read X).quotient 54 (double.read Y)).map double.write = _
    rw [h, hy, hq]
    rfl
  · show vD (double.nearest s (m * 2 ^ (more - 51)) (i - j - more - 1)) = _
    rw [nearest_val double s (-1074) 0 leastD _ (p := i - j - more - 1) (by omega)]
    have hV : m * 2 ^ (more - 51) * 2 ^ (i - j - more - 1 - (-1074)).toNat = m * 2 ^ e := by
      rw [Nat.mul_assoc, ← Nat.pow_add, show more - 51 + (i - j - more - 1 - (-1074)).toNat = e by omega]
    obtain ⟨B, hB⟩ : ∃ B : Nat, B = 1500 := ⟨_, rfl⟩
    have hlt : m * 2 ^ e < 2 ^ B := by
      calc m * 2 ^ e < 2 ^ 53 * 2 ^ e := Nat.mul_lt_mul_of_pos_right hm (Nat.two_pow_pos _)
        _ = 2 ^ (53 + e) := (Nat.pow_add 2 53 e).symm
        _ ≤ 2 ^ B := Nat.pow_le_pow_right (by omega) (by omega)
    rw [hV, vD_word hlt (by omega), rd_exact double 0 m e (by rw [fbD]; exact hm) (by omega)]

theorem abs_valD {X : Nat} {a : Int} (h : vD X = some a) : vD (X % 9223372036854775808) = some ((a.natAbs : Nat) : Int) := by
  obtain ⟨s, m, p, e, rfl⟩ := vD_some h
  have hr := read_abs double X
  rw [swD, e] at hr
  rw [vD_num hr, vOf_mag, vOf_mag, Int.natAbs_mul, Int.natAbs_natCast]
  cases s <;> simp

/-- The half nearest to a magnitude that is not small. -/
def nrH (r : Nat) : Nat := (r + 4095 + r / 8192 % 2) / 8192 - 114688
/-- The short nearest to a word. -/
def nrS (b : Nat) : Nat := (b + 32767 + b / 65536 % 2) / 65536

theorem half_near {r : Nat} (h1 : 947912704 ≤ r) (h2 : r ≤ 1199562752) : 1024 ≤ nrH r ∧ nrH r < 31744 ∧ r / 8388608 * 8388608 ≤ whW (nrH r) ∧ whW (nrH r) ≤ r / 8388608 * 8388608 + 8388608 ∧ whW (nrH r) ≤ r + 4096 ∧ r ≤ whW (nrH r) + 4096 := by
  have a1 : 1024 ≤ nrH r := by unfold nrH; omega
  have a2 : nrH r < 31744 := by unfold nrH; omega
  rw [whW_big a2 a1]
  refine ⟨a1, a2, ?_, ?_, ?_, ?_⟩ <;> (unfold nrH; omega)

theorem short_sign {s r : Nat} (hs : s ≤ 1) : nrS (s * 2147483648 + r) = s * 32768 + nrS r := by
  unfold nrS
  rcases (show s = 0 ∨ s = 1 by omega) with rfl | rfl
  · omega
  · have e : (1 * 2147483648 + r) / 65536 % 2 = r / 65536 % 2 := by omega
    rw [e]; omega
theorem short_near {r : Nat} (hr : r < 2130706432) : nrS r < 32640 ∧ r / 8388608 * 8388608 ≤ nrS r * 65536 ∧ nrS r * 65536 ≤ r / 8388608 * 8388608 + 8388608 ∧ nrS r * 65536 ≤ r + 32768 ∧ r ≤ nrS r * 65536 + 32768 := by
  have h : ∃ q, q = nrS r := ⟨_, rfl⟩
  obtain ⟨q, hq⟩ := h
  have h2 : q = (r + 32767 + r / 65536 % 2) / 65536 := hq
  rw [← hq]
  clear hq
  refine ⟨?_, ?_, ?_, ?_, ?_⟩ <;> omega
end Go.Proofs.Ytkcehbnmcdppkaa.Fl

/- Contracts of the regions' functions. -/
namespace Go.Proofs.Ytkcehbnmcdppkaa
open Go.RowKit

def withinB (n a b : Int) : Bool := decide (a ≤ n) && decide (n ≤ b)
theorem withinB_iff {n a b : Int} : withinB n a b = true ↔ a ≤ n ∧ n ≤ b := by simp [withinB]
theorem withinB_no {n a b : Int} : withinB n a b = false ↔ (n < a ∨ b < n) := by
  rw [← Bool.not_eq_true, withinB_iff]; omega

theorem ret_int {k : IntKind} {a b : Int} (h : a = b) : Ending.returned (.int k a) = .returned (.int k b) := by rw [h]
theorem ret_bool {a b : Bool} (h : a = b) : Ending.returned (.bool a) = .returned (.bool b) := by rw [h]

/-- What CheckRegion answers. -/
def checkR (x y w h : Int) : Int :=
  if w < 1 ∨ 512 < w ∨ h < 1 ∨ 512 < h then 3
  else if 65536 < w * h then 4
  else if x < -4194304 ∨ 4194304 - w < x ∨ y < -4194304 ∨ 4194304 - h < y then 5
  else 0

theorem mul_side {w h : Int} (a : 1 ≤ w) (b : w ≤ 512) (c : 1 ≤ h) (d : h ≤ 512) : 1 ≤ w * h ∧ w * h ≤ 262144 := by
  constructor
  · have := Int.mul_le_mul a c (by omega) (by omega : (0:Int) ≤ w); omega
  · have := Int.mul_le_mul b d (by omega : (0:Int) ≤ h) (by omega : (0:Int) ≤ 512); omega
theorem wrap_side {w h : Int} (a : 1 ≤ w) (b : w ≤ 512) (c : 1 ≤ h) (d : h ≤ 512) : wrap64 (w * h) = w * h := by
  obtain ⟨e, f⟩ := mul_side a b c d
  exact IntWalk.wrap64_in _ ⟨by omega, by omega⟩

theorem checkR_range {x y w h : Int} (a : withinB w 1 512 = false ∨ withinB h 1 512 = false) : checkR x y w h = 3 := by
  simp only [withinB_no] at a
  unfold checkR; rw [if_pos (by omega)]
theorem checkR_large {x y w h : Int} (a : withinB w 1 512 = true) (b : withinB h 1 512 = true) (c : 65536 < wrap64 (w * h)) : checkR x y w h = 4 := by
  simp only [withinB_iff] at a b
  rw [wrap_side a.1 a.2 b.1 b.2] at c
  unfold checkR; rw [if_neg (by omega), if_pos c]
theorem checkR_place {x y w h : Int} (a : withinB w 1 512 = true) (b : withinB h 1 512 = true) (c : wrap64 (w * h) ≤ 65536)
    (d : withinB x (-4194304) (4194304 - w) = false ∨ withinB y (-4194304) (4194304 - h) = false) : checkR x y w h = 5 := by
  simp only [withinB_iff] at a b
  simp only [withinB_no] at d
  rw [wrap_side a.1 a.2 b.1 b.2] at c
  unfold checkR; rw [if_neg (by omega), if_neg (by omega), if_pos (by omega)]
theorem checkR_ok {x y w h : Int} (a : withinB w 1 512 = true) (b : withinB h 1 512 = true) (c : wrap64 (w * h) ≤ 65536)
    (d : withinB x (-4194304) (4194304 - w) = true) (e : withinB y (-4194304) (4194304 - h) = true) : checkR x y w h = 0 := by
  simp only [withinB_iff] at a b d e
  rw [wrap_side a.1 a.2 b.1 b.2] at c
  unfold checkR; rw [if_neg (by omega), if_neg (by omega), if_neg (by omega)]

set_option maxHeartbeats 400000 in
theorem within_any (n a b : Int) (w : World) :
    Calls Try.prog 79 #[.int .i64 n, .int .i64 a, .int .i64 b] w fun e w' => e = .returned (.bool (withinB n a b)) ∧ w = w' := by
  go_enter Try.func79, Try.ntmps79
  go_wp2
  all_goals go_ret
  all_goals exact ⟨ret_bool (by rw [Bool.eq_iff_iff, withinB_iff]; simp; omega), rfl⟩

set_option maxHeartbeats 400000 in
theorem hasPlace_any (x l : Int) (w : World) (h1 : 0 ≤ l) (h2 : l ≤ 512) :
    Calls Try.prog 139 #[.int .i64 x, .int .i64 l] w fun e w' => e = .returned (.bool (withinB x (-4194304) (4194304 - l))) ∧ w = w' := by
  go_enter Try.func139, Try.ntmps139
  go_wp2_with (go_at_call 79; refine (within_any _ _ _ _).mono ?_; rintro e w' ⟨rfl, rfl⟩)
  go_ret
  exact ⟨rfl, rfl⟩

set_option maxHeartbeats 400000 in
theorem checkRegion_any (x y ww hh : Int) (w : World) :
    Calls Try.prog 84 #[.agg #[.int .i64 x, .int .i64 y, .int .i64 ww, .int .i64 hh]] w fun e w' => e = .returned (.int .i64 (checkR x y ww hh)) ∧ w' = w.alloc (.cells #[.int .i64 x, .int .i64 y, .int .i64 ww, .int .i64 hh] 38) := by
  go_enter Try.func84, Try.ntmps84
  go_wp2_with (first | (go_at_call 79; refine (within_any _ _ _ _).mono ?_; rintro e w' ⟨rfl, rfl⟩) | (go_at_call 139; refine (hasPlace_any _ _ _ ?_ ?_).mono ?_; rotate_left 2; rintro e w' ⟨rfl, rfl⟩))
  all_goals simp only [Bool.not_eq_true, Bool.not_eq_true', Bool.not_eq_false'] at *
  all_goals first
    | (simp only [withinB_iff] at *; omega)
    | (go_ret
       refine ⟨ret_int (Eq.symm ?_), rfl⟩
       first
         | exact checkR_range (.inl ‹_›)
         | exact checkR_range (.inr ‹_›)
         | exact checkR_large ‹_› ‹_› ‹_›
         | exact checkR_place ‹_› ‹_› ‹_› (.inl ‹_›)
         | exact checkR_place ‹_› ‹_› ‹_› (.inr ‹_›)
         | exact checkR_ok ‹_› ‹_› ‹_› ‹_› ‹_›)

/-- A region as a value; its cells. -/
abbrev reg (x y w h : Int) : Value := .agg #[.int .i64 x, .int .i64 y, .int .i64 w, .int .i64 h]
abbrev regObj (x y w h : Int) : Obj := .cells #[.int .i64 x, .int .i64 y, .int .i64 w, .int .i64 h] 38

set_option maxHeartbeats 400000 in
theorem widen_any (x y ww hh n : Int) (w : World) (a1 : -4194304 ≤ x) (a2 : x ≤ 4194304) (b1 : -4194304 ≤ y) (b2 : y ≤ 4194304) (c1 : 0 ≤ ww) (c2 : ww ≤ 512) (d1 : 0 ≤ hh) (d2 : hh ≤ 512) (n1 : -512 ≤ n) (n2 : n ≤ 512) :
    Calls Try.prog 143 #[reg x y ww hh, .int .i64 n] w fun e w' => e = .returned (reg (x - n) (y - n) (ww + 2 * n) (hh + 2 * n)) ∧ Below w.heap.size w w' := by
  go_enter Try.func143, Try.ntmps143
  go_wp2
  exact bodyPost_ret (v := reg (x - n) (y - n) (ww + 2 * n) (hh + 2 * n)) (by simp [results, Try.results143, go_sem]) rfl ⟨rfl, by repeat (first | exact Below.refl _ _ | refine Below.alloc ?_ (by simp; try omega) _ | refine Below.setCell ?_ (by simp; try omega) _)⟩

set_option maxHeartbeats 400000 in
theorem refGrown_any (x y ww hh n : Int) (w : World) (a1 : -4194304 ≤ x) (a2 : x ≤ 4194304) (b1 : -4194304 ≤ y) (b2 : y ≤ 4194304) (c1 : 0 ≤ ww) (c2 : ww ≤ 512) (d1 : 0 ≤ hh) (d2 : hh ≤ 512) (n1 : -512 ≤ n) (n2 : n ≤ 512) :
    Calls Try.prog 91 #[reg x y ww hh, .int .i64 n] w fun e w' => e = .returned (reg (x - n) (y - n) (ww + 2 * n) (hh + 2 * n)) ∧ Below w.heap.size w w' := by
  go_enter Try.func91, Try.ntmps91
  go_wp2
  exact bodyPost_ret (v := reg (x - n) (y - n) (ww + 2 * n) (hh + 2 * n)) (by simp [results, Try.results91, go_sem]) rfl ⟨rfl, by repeat (first | exact Below.refl _ _ | refine Below.alloc ?_ (by simp; try omega) _ | refine Below.setCell ?_ (by simp; try omega) _)⟩

end Go.Proofs.Ytkcehbnmcdppkaa

/- Contracts of the regions' functions, continued: Grow, Common, Inside. -/
namespace Go.Proofs.Ytkcehbnmcdppkaa
open Go.RowKit

/-- What Grow answers. -/
def growE (x y w h n : Int) : Int :=
  if checkR x y w h = 0 then if n < -512 ∨ 512 < n then 3 else checkR (x - n) (y - n) (w + 2 * n) (h + 2 * n) else checkR x y w h
def growR (x y w h n : Int) : Value := if growE x y w h n = 0 then reg (x - n) (y - n) (w + 2 * n) (h + 2 * n) else reg 0 0 0 0
theorem checkR_zero {x y w h : Int} (e : checkR x y w h = 0) : 1 ≤ w ∧ w ≤ 512 ∧ 1 ≤ h ∧ h ≤ 512 ∧ w * h ≤ 65536 ∧ -4194304 ≤ x ∧ x ≤ 4194304 - w ∧ -4194304 ≤ y ∧ y ≤ 4194304 - h := by
  unfold checkR at e
  split at e <;> omega

theorem bcell {W w1 : World} (hb : Below W.heap.size W w1) : (∀ b o, b < W.heap.size → w1.cell? ⟨b, o, none⟩ = W.cell? ⟨b, o, none⟩) ∧ (∀ b o, b < W.heap.size → w1.frozen? ⟨b, o, none⟩ = W.frozen? ⟨b, o, none⟩) :=
  ⟨fun b o h => hb.cell (p := ⟨b, o, none⟩) h, fun b o h => hb.frozen (p := ⟨b, o, none⟩) h⟩

theorem ret2 {a b : Value} {c d : Value} (h1 : a = b) (h2 : c = d) : Ending.returned (.tuple #[a, c]) = .returned (.tuple #[b, d]) := by rw [h1, h2]

end Go.Proofs.Ytkcehbnmcdppkaa

/- Contracts: isFinite, isHeight, checkRange, CheckHeights, Check; the reference's abs, Height. -/
namespace Go.Proofs.Ytkcehbnmcdppkaa
open Go.RowKit Fl

theorem f32fmt : FloatKind.f32.format = Ieee.single := rfl

set_option maxHeartbeats 400000 in
theorem isFinite_any (x : Nat) (w : World) :
    Calls Try.prog 135 #[.float .f32 x] w fun e w' => e = .returned (.bool (finB x)) ∧ w = w' := by
  rw [← isFinite_eq]
  go_enter Try.func135, Try.ntmps135
  go_wp2
  all_goals go_ret
  · exact ⟨rfl, rfl⟩
  · rename_i h
    refine ⟨ret_bool (Eq.symm ?_), rfl⟩
    rw [f32fmt] at h
    rw [Bool.and_eq_false_iff]; left
    simpa using h

set_option maxHeartbeats 400000 in
theorem isHeight_any (x : Nat) (w : World) :
    Calls Try.prog 170 #[.float .f32 x] w fun e w' => e = .returned (.bool (hgtB x)) ∧ w = w' := by
  rw [← isHeight_eq]
  go_enter Try.func170, Try.ntmps170
  go_wp2
  all_goals go_ret
  · exact ⟨rfl, rfl⟩
  · rename_i h
    refine ⟨ret_bool (Eq.symm ?_), rfl⟩
    rw [f32fmt] at h
    rw [Bool.and_eq_false_iff]; left
    simpa using h

/-- Do all below n have it? -/
def allB (n : Nat) (p : Nat → Bool) : Bool := (List.range n).all p
theorem allB_iff {n : Nat} {p : Nat → Bool} : allB n p = true ↔ ∀ i, i < n → p i = true := by simp [allB]
theorem allB_no {n : Nat} {p : Nat → Bool} {k : Nat} (h : k < n) (h2 : p k = false) : allB n p = false := by
  rw [← Bool.not_eq_true, allB_iff]; intro c; rw [c k h] at h2; cases h2

def hgtE (n : Nat) (v : Nat → Nat) : Int := if allB n (fun i => hgtB (v i)) then 0 else 3
/-- The error of singles that should be heights. -/
def fldE (n : Nat) (v : Nat → Nat) : Int := if allB n (fun i => finB (v i)) then hgtE n v else 2

/-- n cells from b, off on are the singles v. -/
def FlAt (w : World) (b off n : Nat) (v : Nat → Nat) : Prop := ∀ i, i < n → w.cell? ⟨b, off + i, none⟩ = some (.float .f32 (v i))

set_option maxHeartbeats 400000 in
theorem checkRange_nil (a : Option Addr) (cap : Nat) (w : World) :
    Calls Try.prog 136 #[.slice a 0 cap] w fun e w' => e = .returned (.int .i64 0) ∧ w = w' := by
  go_enter Try.func136, Try.ntmps136
  go_wp2
  go_loop [7] (fun i => i = .int .i64 0) (fun _ => 0)
  case atStart => rfl
  case round =>
    subst hrel
    go_wp2
    go_ret
    exact ⟨rfl, rfl⟩

set_option maxHeartbeats 400000 in
theorem checkRange_row (b off cap n : Nat) (v : Nat → Nat) (hl : n ≤ 9223372036854775807) (w : World) (hc : FlAt w b off n v) :
    Calls Try.prog 136 #[.slice (some ⟨b, off, none⟩) n cap] w fun e w' => e = .returned (.int .i64 (hgtE n v)) ∧ w = w' := by
  go_enter Try.func136, Try.ntmps136
  go_wp2
  go_loop [7] (fun i => ∃ k : Nat, k ≤ n ∧ i = .int .i64 k ∧ allB k (fun i => hgtB (v i)) = true) (fun i => n - (intOf i).toNat)
  case atStart => exact ⟨0, Nat.zero_le _, rfl, rfl⟩
  case round =>
    obtain ⟨k, hk, rfl, hall⟩ := hrel
    have HA := Lib.hid hall
    clear hall
    by_cases hlt : k < n
    · have hcell := hc k hlt
      have IH := Lib.hid (fun w => isHeight_any (v k) w)
      cases hb : hgtB (v k) with
      | true =>
        have HB := Lib.hid hb
        rw [hb] at IH
        clear hb
        go_wp2_with (go_at_call 170; refine (IH.out _).mono ?_; rintro e w' ⟨rfl, rfl⟩)
        go_round
        case rel => exact ⟨k + 1, by omega, by go_num, allB_iff.2 fun i hi => by rcases Nat.lt_or_ge i k with c | c; exact allB_iff.1 HA.out i c; rw [show i = k by omega]; exact HB.out⟩
        case measure => simp [intOf]; omega
      | false =>
        have HB := Lib.hid hb
        rw [hb] at IH
        clear hb
        go_wp2_with (go_at_call 170; refine (IH.out _).mono ?_; rintro e w' ⟨rfl, rfl⟩)
        go_ret
        exact ⟨ret_int (by unfold hgtE; rw [allB_no hlt HB.out]; rfl), rfl⟩
    · go_wp2
      go_ret
      have : k = n := by omega
      subst this
      exact ⟨ret_int (by unfold hgtE; rw [HA.out]; rfl), rfl⟩

set_option maxHeartbeats 400000 in
theorem CheckHeights_nil (a : Option Addr) (cap : Nat) (w : World) :
    Calls Try.prog 76 #[.slice a 0 cap] w fun e w' => e = .returned (.int .i64 0) ∧ w = w' := by
  go_enter Try.func76, Try.ntmps76
  go_wp2
  go_loop [7] (fun i => i = .int .i64 0) (fun _ => 0)
  case atStart => rfl
  case round =>
    subst hrel
    go_wp2_with (go_at_call 136; refine (checkRange_nil _ _ _).mono ?_; rintro e w' ⟨rfl, rfl⟩)
    go_ret
    exact ⟨rfl, rfl⟩

set_option maxHeartbeats 400000 in
theorem CheckHeights_row (b off cap n : Nat) (v : Nat → Nat) (hl : n ≤ 9223372036854775807) (w : World) (hc : FlAt w b off n v) :
    Calls Try.prog 76 #[.slice (some ⟨b, off, none⟩) n cap] w fun e w' => e = .returned (.int .i64 (fldE n v)) ∧ w = w' := by
  have CH := Lib.hid (checkRange_row b off cap n v hl w hc)
  go_enter Try.func76, Try.ntmps76
  go_wp2
  go_loop [7] (fun i => ∃ k : Nat, k ≤ n ∧ i = .int .i64 k ∧ allB k (fun i => finB (v i)) = true) (fun i => n - (intOf i).toNat)
  case atStart => exact ⟨0, Nat.zero_le _, rfl, rfl⟩
  case round =>
    obtain ⟨k, hk, rfl, hall⟩ := hrel
    have HA := Lib.hid hall
    clear hall
    by_cases hlt : k < n
    · have hcell := hc k hlt
      have IH := Lib.hid (fun w => isFinite_any (v k) w)
      cases hb : finB (v k) with
      | true =>
        have HB := Lib.hid hb
        rw [hb] at IH
        clear hb
        go_wp2_with (go_at_call 135; refine (IH.out _).mono ?_; rintro e w' ⟨rfl, rfl⟩)
        go_round
        case rel => exact ⟨k + 1, by omega, by go_num, allB_iff.2 fun i hi => by rcases Nat.lt_or_ge i k with c | c; exact allB_iff.1 HA.out i c; rw [show i = k by omega]; exact HB.out⟩
        case measure => simp [intOf]; omega
      | false =>
        have HB := Lib.hid hb
        rw [hb] at IH
        clear hb
        go_wp2_with (go_at_call 135; refine (IH.out _).mono ?_; rintro e w' ⟨rfl, rfl⟩)
        go_ret
        exact ⟨ret_int (by unfold fldE; rw [allB_no hlt HB.out]; rfl), rfl⟩
    · go_wp2_with (go_at_call 136; refine CH.out.mono ?_; rintro e w' ⟨rfl, rfl⟩)
      go_ret
      have : k = n := by omega
      subst this
      exact ⟨ret_int (by unfold fldE; rw [HA.out]; rfl), rfl⟩

end Go.Proofs.Ytkcehbnmcdppkaa

/- Contracts: the reference's abs, Height, Out. -/
namespace Go.Proofs.Ytkcehbnmcdppkaa
open Go.RowKit Fl

theorem f32bits (b : Nat) (w : World) : (callFunc 62 #[.float .f32 b]).run Try.prog w = .ok (.value (.int .u32 b)) w := by
  rw [run_callFunc_extern Try.func62 (by kernel_rfl) (by kernel_rfl) (by kernel_rfl) (e := Extern.MathFloatBits.float32bits) (by kernel_rfl)]; rfl
theorem f32from (n : Int) (w : World) : (callFunc 68 #[.int .u32 n]).run Try.prog w = .ok (.value (.float .f32 n.toNat)) w := by
  rw [run_callFunc_extern Try.func68 (by kernel_rfl) (by kernel_rfl) (by kernel_rfl) (e := Extern.MathFloatBits.float32frombits) (by kernel_rfl)]; rfl

theorem f64bits (b : Nat) (w : World) : (callFunc 73 #[.float .f64 b]).run Try.prog w = .ok (.value (.int .u64 b)) w := by
  rw [run_callFunc_extern Try.func73 (by kernel_rfl) (by kernel_rfl) (by kernel_rfl) (e := Extern.MathFloatBits.float64bits) (by kernel_rfl)]; rfl
theorem f64from (n : Int) (w : World) : (callFunc 72 #[.int .u64 n]).run Try.prog w = .ok (.value (.float .f64 n.toNat)) w := by
  rw [run_callFunc_extern Try.func72 (by kernel_rfl) (by kernel_rfl) (by kernel_rfl) (e := Extern.MathFloatBits.float64frombits) (by kernel_rfl)]; rfl

theorem andNot32 (x : Nat) (hx : x < 4294967296) : bits BinOp.andNot IntKind.u32 (x : Int) 2147483648 = ((x % 2147483648 : Nat) : Int) := by
  have h := u32_andNot_nat x 2147483648 hx (by omega)
  rw [show ((2147483648 : Nat) : Int) = 2147483648 from rfl] at h
  rw [h]
  have : x &&& (4294967295 - 2147483648) = x % 2147483648 := Nat.and_two_pow_sub_one_eq_mod x 31
  rw [this]
/-- 2 ^ 63 and 2 ^ 64 behind names: no walk sees the numerals. -/
def b63 : Nat := 9223372036854775808
def b64 : Nat := 18446744073709551616
theorem andNot64 (x : Nat) (hx : x < b64) : bits BinOp.andNot IntKind.u64 (x : Int) 9223372036854775808 = ((x % b63 : Nat) : Int) := by
  have h := u64_andNot_nat x 9223372036854775808 hx (by omega)
  rw [show ((9223372036854775808 : Nat) : Int) = 9223372036854775808 from rfl] at h
  rw [h]
  have : x &&& (18446744073709551615 - 9223372036854775808) = x % 9223372036854775808 := Nat.and_two_pow_sub_one_eq_mod x 63
  rw [this]; rfl

set_option maxHeartbeats 400000 in
theorem refAbs_any (x : Nat) (w : World) (hx : x < 4294967296) :
    Calls Try.prog 140 #[.float .f32 x] w fun e w' => e = .returned (.float .f32 (x % 2147483648)) ∧ w = w' := by
  have h1 := f32bits
  have h2 := f32from
  have h3 := andNot32 x hx
  go_enter Try.func140, Try.ntmps140
  go_wp2
  go_ret
  exact ⟨rfl, rfl⟩

set_option maxHeartbeats 400000 in
theorem mathAbs_any (X : Nat) (w : World) (hX : X < b64) :
    Calls Try.prog 19 #[.float .f64 X] w fun e w' => e = .returned (.float .f64 (X % b63)) ∧ w = w' := by
  have h1 := f64bits
  have h2 := f64from
  have h3 := andNot64 X hX
  go_enter Try.func19, Try.ntmps19
  go_wp2
  go_ret
  exact ⟨rfl, rfl⟩

set_option maxHeartbeats 400000 in
theorem isInf_any (X : Nat) (k : Bool) (hX : X < b64) (h : (FloatKind.f64.format.order (X % b63) 9218868437227405311 == some .gt) = k) (w : World) :
    Calls Try.prog 65 #[.float .f64 X, .int .i64 0] w fun e w' => e = .returned (.bool k) ∧ w = w' := by
  go_enter Try.func65, Try.ntmps65
  go_wp2_with (go_at_call 19; refine (mathAbs_any _ _ hX).mono ?_; rintro e w' ⟨rfl, rfl⟩)
  go_ret
  exact ⟨rfl, rfl⟩

end Go.Proofs.Ytkcehbnmcdppkaa

/- Contracts: the reference's Height and Out. -/
namespace Go.Proofs.Ytkcehbnmcdppkaa
open Go.RowKit Fl

theorem conv32_lt {x X : Nat} (h : floatToFloatBits .f32 x .f64 = some X) : X < b64 := by
  unfold floatToFloatBits at h
  rw [if_neg (by decide)] at h
  split at h
  · cases h
  · cases h; exact Ieee.Format.write_lt _ _
  · split at h
    · cases h
    · cases h; exact Ieee.Format.write_lt _ _

/-- What the first loop asks of one single: a NaN, an infinity, or a finite one. -/
theorem step1 (x : Nat) : (finB x = true ∧ (FloatKind.f32.format.order x x == some .eq) = true ∧ ∃ X, floatToFloatBits .f32 x .f64 = some X ∧ X < b64 ∧ (FloatKind.f64.format.order (X % b63) 9218868437227405311 == some .gt) = false) ∨
    (finB x = false ∧ (FloatKind.f32.format.order x x == some .eq) = false) ∨
    (finB x = false ∧ (FloatKind.f32.format.order x x == some .eq) = true ∧ ∃ X, floatToFloatBits .f32 x .f64 = some X ∧ X < b64 ∧ (FloatKind.f64.format.order (X % b63) 9218868437227405311 == some .gt) = true) := by
  cases hv : vS x with
  | some a =>
    left
    have hr : ∃ s m p, Ieee.single.read x = .number s m p := by
      unfold vS at hv
      split at hv
      · exact ⟨_, _, _, by assumption⟩
      · cases hv
    obtain ⟨s, m, p, hr⟩ := hr
    obtain ⟨X, _, _, c1, _⟩ := toD hr
    exact ⟨by unfold finB; rw [hv]; rfl, self_eq (by rw [hr]; rfl), X, c1, conv32_lt c1, isInf_no (by rw [hv]; simp) c1⟩
  | none =>
    right
    have hf : finB x = false := by unfold finB; rw [hv]; rfl
    rcases vS_none hv with ⟨s, hs⟩ | hn
    · right
      exact ⟨hf, self_eq (by rw [hs]; rfl), _, conv_inf hs, conv32_lt (conv_inf hs), isInf_yes s⟩
    · left
      exact ⟨hf, self_ne hn⟩

def wf32 (n : Nat) (v : Nat → Nat) : Prop := ∀ i, i < n → v i < 4294967296

set_option maxHeartbeats 400000 in
theorem refHeight_nil (a : Option Addr) (cap : Nat) (w : World) :
    Calls Try.prog 85 #[.slice a 0 cap] w fun e w' => e = .returned (.int .i64 0) ∧ w = w' := by
  go_enter Try.func85, Try.ntmps85
  go_wp2
  go_loop [9] (fun i => i = .int .i64 0) (fun _ => 0)
  case atStart => rfl
  case round =>
    subst hrel
    go_wp2
    go_loop [24] (fun i => i = .int .i64 0) (fun _ => 0)
    case atStart => rfl
    case round =>
      subst hrel
      go_wp2
      go_ret
      exact ⟨rfl, rfl⟩

set_option maxHeartbeats 1000000 in
theorem refHeight_row (b off cap n : Nat) (v : Nat → Nat) (hl : n ≤ 9223372036854775807) (w : World) (hc : FlAt w b off n v) (hw : wf32 n v) :
    Calls Try.prog 85 #[.slice (some ⟨b, off, none⟩) n cap] w fun e w' => e = .returned (.int .i64 (fldE n v)) ∧ w = w' := by
  have HW := Lib.hid hw
  clear hw
  go_enter Try.func85, Try.ntmps85
  go_wp2
  go_loop [9] (fun i => ∃ k : Nat, k ≤ n ∧ i = .int .i64 k ∧ allB k (fun i => finB (v i)) = true) (fun i => n - (intOf i).toNat)
  case atStart => exact ⟨0, Nat.zero_le _, rfl, rfl⟩
  case round =>
    obtain ⟨k, hk, rfl, hall⟩ := hrel
    have HA := Lib.hid hall
    clear hall
    by_cases hlt : k < n
    · have hcell := hc k hlt
      rcases step1 (v k) with ⟨hb, h1, X, h2, h3, h4⟩ | ⟨hb, h1⟩ | ⟨hb, h1, X, h2, h3, h4⟩
      · have HB := Lib.hid hb
        have h1' : (FloatKind.f32.format.order (v k) (v k) != some .eq) = false := by rw [bne, h1]; rfl
        have hcv := fun (W : World) => run_convert_float_float (P := Try.prog) W 22 32 .f32 .f64 (v k) X (by kernel_rfl) Try.underlying32 h2
        have IH := Lib.hid (fun w => isInf_any X false h3 h4 w)
        clear hb h1 h2 h3 h4
        go_wp2_with (go_at_call 65; refine (IH.out _).mono ?_; rintro e w' ⟨rfl, rfl⟩)
        go_round
        case rel => exact ⟨k + 1, by omega, by go_num, allB_iff.2 fun i hi => by rcases Nat.lt_or_ge i k with c | c; exact allB_iff.1 HA.out i c; rw [show i = k by omega]; exact HB.out⟩
        case measure => simp [intOf]; omega
      · have HB := Lib.hid hb
        have h1' : (FloatKind.f32.format.order (v k) (v k) != some .eq) = true := by rw [bne, h1]; rfl
        clear hb h1
        go_wp2
        go_ret
        exact ⟨ret_int (by unfold fldE; rw [allB_no hlt HB.out]; rfl), rfl⟩
      · have HB := Lib.hid hb
        have h1' : (FloatKind.f32.format.order (v k) (v k) != some .eq) = false := by rw [bne, h1]; rfl
        have hcv := fun (W : World) => run_convert_float_float (P := Try.prog) W 22 32 .f32 .f64 (v k) X (by kernel_rfl) Try.underlying32 h2
        have IH := Lib.hid (fun w => isInf_any X true h3 h4 w)
        clear hb h1 h2 h3 h4
        go_wp2_with (go_at_call 65; refine (IH.out _).mono ?_; rintro e w' ⟨rfl, rfl⟩)
        go_ret
        exact ⟨ret_int (by unfold fldE; rw [allB_no hlt HB.out]; rfl), rfl⟩
    · have hkn : k = n := by omega
      subst hkn
      go_wp2
      go_loop [24] (fun i => ∃ j : Nat, j ≤ k ∧ i = .int .i64 j ∧ allB j (fun i => hgtB (v i)) = true) (fun i => k - (intOf i).toNat)
      case atStart => exact ⟨0, Nat.zero_le _, rfl, rfl⟩
      case round =>
        obtain ⟨j, hj, rfl, hall2⟩ := hrel
        have HH := Lib.hid hall2
        clear hall2
        by_cases hlt2 : j < k
        · have hcell := hc j hlt2
          have hx := HW.out j hlt2
          have ht := top_abs (allB_iff.1 HA.out j hlt2)
          rw [← f32fmt] at ht
          have AB := Lib.hid (fun w => refAbs_any (v j) w hx)
          clear hx
          cases hb : hgtB (v j) with
          | true =>
            rw [hb] at ht
            have HB := Lib.hid hb
            clear hb
            simp only [Bool.not_true] at ht
            go_wp2_with (go_at_call 140; refine (AB.out _).mono ?_; rintro e w' ⟨rfl, rfl⟩)
            go_round
            case rel => exact ⟨j + 1, by omega, by go_num, allB_iff.2 fun i hi => by rcases Nat.lt_or_ge i j with c | c; exact allB_iff.1 HH.out i c; rw [show i = j by omega]; exact HB.out⟩
            case measure => simp [intOf]; omega
          | false =>
            rw [hb] at ht
            have HB := Lib.hid hb
            clear hb
            simp only [Bool.not_false] at ht
            go_wp2_with (go_at_call 140; refine (AB.out _).mono ?_; rintro e w' ⟨rfl, rfl⟩)
            go_ret
            exact ⟨ret_int (by unfold fldE hgtE; rw [HA.out, allB_no hlt2 HB.out]; rfl), rfl⟩
        · go_wp2
          go_ret
          have : j = k := by omega
          subst this
          exact ⟨ret_int (by unfold fldE hgtE; rw [HA.out, HH.out]; rfl), rfl⟩

theorem fldE_zero {n : Nat} {v : Nat → Nat} : fldE n v = 0 ↔ allB n (fun i => hgtB (v i)) = true := by
  unfold fldE hgtE
  constructor
  · intro h
    split at h
    · split at h
      · assumption
      · cases h
    · cases h
  · intro h
    have f : allB n (fun i => finB (v i)) = true := allB_iff.2 fun i hi => hgt_fin (allB_iff.1 h i hi)
    rw [if_pos f, if_pos h]

set_option maxHeartbeats 400000 in
theorem refOut_row (b off cap n : Nat) (v : Nat → Nat) (hl : n ≤ 9223372036854775807) (w : World) (hc : FlAt w b off n v) (hw : wf32 n v) :
    Calls Try.prog 146 #[.slice (some ⟨b, off, none⟩) n cap] w fun e w' => e = .returned (.int .i64 (if allB n (fun i => hgtB (v i)) then 0 else 3)) ∧ w = w' := by
  have HH := Lib.hid (refHeight_row b off cap n v hl w hc hw)
  clear hc hw
  cases h : allB n (fun i => hgtB (v i)) with
  | true =>
    rw [fldE_zero.2 h] at HH
    clear h
    go_enter Try.func146, Try.ntmps146
    go_wp2_with (go_at_call 85; refine HH.out.mono ?_; rintro e w' ⟨rfl, rfl⟩)
    go_ret
    exact ⟨rfl, rfl⟩
  | false =>
    have hne : (fldE n v != 0) = true := by
      rw [bne_iff_ne]; intro c; rw [fldE_zero.1 c] at h; cases h
    clear h
    go_enter Try.func146, Try.ntmps146
    go_wp2_with (go_at_call 85; refine HH.out.mono ?_; rintro e w' ⟨rfl, rfl⟩)
    go_ret
    exact ⟨rfl, rfl⟩

end Go.Proofs.Ytkcehbnmcdppkaa

/- The root of a single lies between whole numbers whose squares lie around it. -/
namespace Go.Proofs.Ytkcehbnmcdppkaa.Fl
open Ieee

/-- Digits of a root, with what is left over told by one more digit, against a whole number. -/
theorem root_between {n w G : Nat} (h1 : w * w ≤ n) (h2 : n < (w + 1) * (w + 1)) :
    (n ≤ G * G → 2 * w + (w * w != n).toNat ≤ 2 * G) ∧ (G * G ≤ n → 2 * G ≤ 2 * w + (w * w != n).toNat) := by
  constructor
  · intro h
    have hw : w ≤ G := by
      rcases Nat.lt_or_ge G w with c | c
      · have : (G + 1) * (G + 1) ≤ w * w := Nat.mul_le_mul c c
        have e : (G + 1) * (G + 1) = G * G + 2 * G + 1 := by rw [Nat.add_mul, Nat.mul_add]; omega
        omega
      · exact c
    rcases Nat.lt_or_ge w G with c | c
    · have := Bool.toNat_le (w * w != n); omega
    · have : w = G := by omega
      subst this
      have : w * w = n := by omega
      rw [this]; simp
  · intro h
    have : G < w + 1 := by
      rcases Nat.lt_or_ge G (w + 1) with c | c
      · exact c
      · have := Nat.mul_le_mul c c; omega
    omega

theorem rootW_of {x X Z r : Nat} (c : Go.floatToFloatBits .f32 x .f64 = some X) (h : double.sqrt X = some Z) (d : Go.floatToFloatBits .f64 Z .f32 = some r) : rootW x = r := by
  unfold rootW
  rw [c, Option.bind_some, h, Option.bind_some, d, Option.getD_some]

theorem root_num {d M mo0 mo n w : Nat} {I : Int} (hM : M ≠ 0) (h0 : 2 * d - M.log2 = mo0) (h1 : mo0 + ((I - (mo0 : Int)) % 2).toNat = mo) (h2 : M <<< mo = n) (h3 : Datum.rootFrom n (n.log2 / 2 + 1) 0 = w) :
    Datum.root d (.number false M I) = some (.number false (2 * w + (w * w != n).toNat) ((I - (mo : Int)) / 2 - 1)) := by
  unfold Datum.root
  simp only [hM, if_false, Bool.false_eq_true, h0, h1, h2, h3]

theorem root_parts {x : Nat} {a : Int} {k : Nat} (h : vS x = some a) (a0 : 0 ≤ a) (hb : Bd k x) (hk : k ≤ 60) : ∃ X Z c, RootAt x a X Z c := by
  obtain ⟨s, m, p, e, rfl⟩ := vS_some h
  obtain ⟨X, M, I, c1, c2, c3, c4, c5⟩ := toD e
  have g := read_single e
  obtain ⟨A, hA⟩ : ∃ A, A = m * 2 ^ (p + 1074).toNat := ⟨_, rfl⟩
  have hv : vOf s m p = (if s then -1 else 1) * (A : Int) := by rw [vOf_mag, hA]
  have hbA : A ≤ 2 ^ (1074 + k) := by
    obtain ⟨s', m', p', e', b'⟩ := hb
    rw [e] at e'; cases e'
    rw [hA]; exact b'
  rw [← hA] at c4
  rcases Nat.eq_zero_or_pos M with zM | hM
  · -- nought
    subst zM
    have zA : A = 0 := by rw [← c4]; simp
    have hz : vOf s m p = 0 := by rw [hv, zA]; simp
    have hq : double.sqrt X = some (wordAt double 0 s 0) := by
      show ((double.read X).root _).map double.write = _
      rw [c2]
      unfold Datum.root
      simp only [if_true, Option.map_some]
      show some (double.nearest s 0 _) = _
      rw [nearest_zero, wordAt_zero]
    have hd : Go.floatToFloatBits .f64 (wordAt double 0 s 0) .f32 = some (wordAt single 925 s 0) := back (B := 1) (by omega) (by omega) (by show rungOf single 925 (rd double 0 0) = _; rw [rd_zero])
    have hw : rootW x = wordAt single 925 s 0 := rootW_of c1 hq hd
    have hvz := vS_word (sg := s) (V := 0) (B := 1) (by omega) (by omega)
    rw [rd_zero] at hvz
    simp only [Int.natCast_zero, Int.mul_zero] at hvz
    refine ⟨X, _, 0, c1, hq, by rw [hw]; exact hd, by rw [hw]; exact hvz, by omega, fun G _ _ => Int.mul_nonneg (by omega) (by omega), fun G _ hg => ?_⟩
    rw [hz] at hg
    have hp := one_pos
    have : G * G * one ≤ 0 := by
      have : ((G * G * one : Nat) : Int) ≤ ((0 : Nat) : Int) := by rw [Int.natCast_mul]; exact hg
      exact Int.ofNat_le.1 this
    have : G = 0 := by
      rcases Nat.eq_zero_or_pos G with z | z
      · exact z
      · have := Nat.mul_pos (Nat.mul_pos z z) hp; omega
    subst this; simp
  · have hm : 0 < A := by rw [← c4]; exact Nat.mul_pos hM (Nat.two_pow_pos _)
    have hs : s = false := by
      cases s
      · rfl
      · rw [hv] at a0; simp only [if_true] at a0; omega
    subst hs
    have hva : vOf false m p = (A : Int) := by rw [hv]; simp
    rw [hva]
    have hI := c5 (by omega)
    -- the dividend
    obtain ⟨mo0, hmo0⟩ : ∃ mo0, mo0 = 2 * (double.fractionBits + 2) - M.log2 := ⟨_, rfl⟩
    obtain ⟨mo, hmo⟩ : ∃ mo, mo = mo0 + ((I - (mo0 : Int)) % 2).toNat := ⟨_, rfl⟩
    obtain ⟨n, hn⟩ : ∃ n, n = M <<< mo := ⟨_, rfl⟩
    obtain ⟨w, hw⟩ : ∃ w, w = Datum.rootFrom n (n.log2 / 2 + 1) 0 := ⟨_, rfl⟩
    obtain ⟨d1, d2⟩ := root_digits n
    rw [← hw] at d1 d2
    have hr : (double.read X).root (double.fractionBits + 2) = some (.number false (2 * w + (w * w != n).toNat) ((I - (mo : Int)) / 2 - 1)) := by
      rw [c2]; exact root_num (by omega) hmo0.symm hmo.symm hn.symm hw.symm
    -- the place is even
    have heven : (I - (mo : Int)) % 2 = 0 := by
      rw [hmo]; have := Int.emod_two_eq (I - (mo0 : Int)); omega
    obtain ⟨hh, hhh⟩ : ∃ hh : Int, hh = (I - (mo : Int)) / 2 := ⟨_, rfl⟩
    have hI2 : I - (mo : Int) = 2 * hh := by omega
    rw [← hhh] at hr
    have l53 : M.log2 + (I + 1074).toNat < 1074 + k + 1 := by
      have := log_units (m := M) (B := 1074 + k + 1) (e := (I + 1074).toNat) hM (by rw [c4]; exact Nat.lt_of_le_of_lt hbA (Nat.pow_lt_pow_right (by omega) (by omega)))
      exact this
    rw [fbD] at hmo0
    have e1 : hh ≤ 0 := by omega
    have e2 : -400 ≤ hh := by omega
    -- units
    obtain ⟨E, hE⟩ : ∃ E : Nat, (E : Int) = hh + 1073 := ⟨(hh + 1073).toNat, by omega⟩
    obtain ⟨T, hT⟩ : ∃ T : Nat, T = 1074 := ⟨_, rfl⟩
    have hET : E + 1 ≤ T := by omega
    have hZ : double.sqrt X = some (wordAt double 0 false ((2 * w + (w * w != n).toNat) * 2 ^ E)) := by
      show ((double.read X).root _).map double.write = _
      rw [hr]
      show some (double.nearest false _ (hh - 1)) = _
      rw [nearest_val double false (-1074) 0 leastD _ (p := hh - 1) (by omega), show (hh - 1 - -1074).toNat = E by omega]
    -- the square in units
    have hsq : n * (2 ^ (E + 1) * 2 ^ (E + 1)) = A * 2 ^ T := by
      rw [hn, Nat.shiftLeft_eq, ← c4, Nat.mul_assoc, Nat.mul_assoc, ← Nat.pow_add, ← Nat.pow_add, ← Nat.pow_add]
      congr 2; omega
    have key : ∀ g : Nat, ∃ G : Nat, g * one = G * 2 ^ (E + 1) ∧ (A ≤ g * g * one ↔ n ≤ G * G) ∧ (g * g * one ≤ A ↔ G * G ≤ n) := by
      intro g
      refine ⟨g * 2 ^ (T - (E + 1)), ?_, ?_, ?_⟩
      · rw [one_pow hT, Nat.mul_assoc, ← Nat.pow_add, Nat.sub_add_cancel hET]
      all_goals
        have hp : 0 < 2 ^ (E + 1) * 2 ^ (E + 1) := Nat.mul_pos (Nat.two_pow_pos _) (Nat.two_pow_pos _)
        have e : g * 2 ^ (T - (E + 1)) * (g * 2 ^ (T - (E + 1))) * (2 ^ (E + 1) * 2 ^ (E + 1)) = g * g * one * 2 ^ T := by
          have e' : 2 ^ (T - (E + 1)) * 2 ^ (E + 1) = 2 ^ T := by rw [← Nat.pow_add, Nat.sub_add_cancel hET]
          rw [one_pow hT]
          calc g * 2 ^ (T - (E + 1)) * (g * 2 ^ (T - (E + 1))) * (2 ^ (E + 1) * 2 ^ (E + 1)) = g * g * ((2 ^ (T - (E + 1)) * 2 ^ (E + 1)) * (2 ^ (T - (E + 1)) * 2 ^ (E + 1))) := by
                simp only [Nat.mul_assoc, Nat.mul_left_comm, Nat.mul_comm]
            _ = g * g * 2 ^ T * 2 ^ T := by rw [e']; simp only [Nat.mul_assoc]
        constructor
        · intro q
          refine Nat.le_of_mul_le_mul_right ?_ hp
          rw [hsq, e]; exact Nat.mul_le_mul_right _ q
        · intro q
          have := Nat.mul_le_mul_right (2 ^ (E + 1) * 2 ^ (E + 1)) q
          rw [hsq, e] at this
          exact Nat.le_of_mul_le_mul_right this (Nat.two_pow_pos T)
    obtain ⟨V, hV⟩ : ∃ V, V = (2 * w + (w * w != n).toNat) * 2 ^ E := ⟨_, rfl⟩
    rw [← hV] at hZ
    have cmp : ∀ g : Nat, (A ≤ g * g * one → V ≤ g * one) ∧ (g * g * one ≤ A → g * one ≤ V) := by
      intro g
      obtain ⟨G, k1, k2, k3⟩ := key g
      obtain ⟨b1, b2⟩ := root_between (G := G) d1 d2
      have k4 : g * one = 2 * G * 2 ^ E := by rw [k1, Nat.pow_succ, Nat.mul_comm 2 G, Nat.mul_assoc, Nat.mul_comm 2 (2 ^ E)]
      rw [k4, hV]
      exact ⟨fun q => Nat.mul_le_mul_right _ (b1 (k2.1 q)), fun q => Nat.mul_le_mul_right _ (b2 (k3.1 q))⟩
    -- V is small
    have hVB : V < 2 ^ (T + 61) := by
      obtain ⟨L, hL⟩ : ∃ L : Nat, L = 60 := ⟨_, rfl⟩
      have e6 : A ≤ 2 ^ L * 2 ^ L * one := by
        refine Nat.le_trans hbA ?_
        rw [one_pow hT, ← Nat.pow_add, ← Nat.pow_add]
        exact two_le (by omega)
      have := (cmp (2 ^ L)).1 e6
      rw [one_pow hT, ← Nat.pow_add] at this
      exact Nat.lt_of_le_of_lt this (Nat.pow_lt_pow_right (by omega) (by omega))
    obtain ⟨q1, q2⟩ := down_word hVB (by omega)
    have hw2 : rootW x = wordAt single 925 false (rd double 0 V) := rootW_of c1 hZ q1
    -- whole numbers are not rounded
    have fix : ∀ g : Nat, g < 16777216 → rd double 0 (g * one) = g * one ∧ rd single 925 (g * one) = g * one := by
      intro g hg
      rw [one_pow hT]
      exact ⟨rd_exact double 0 g T (by rw [fbD]; exact Nat.lt_of_lt_of_le hg (by decide)) (by omega), rd_exact single 925 g T (by rw [fbS]; exact hg) (by omega)⟩
    refine ⟨X, _, _, c1, hZ, by rw [hw2]; exact q1, by rw [hw2]; exact q2, by omega, fun g hg ha => ?_, fun g hg ha => ?_⟩
    · have ha' : A ≤ g * g * one := by
        have : (A : Int) ≤ ((g * g * one : Nat) : Int) := by rw [Int.natCast_mul]; exact ha
        exact Int.ofNat_le.1 this
      have h1 := rdD_mono ((cmp g).1 ha')
      rw [(fix g hg).1] at h1
      have h2 := rd_mono h1
      rw [(fix g hg).2] at h2
      rw [← Int.natCast_mul]; exact Int.ofNat_le.2 h2
    · have ha' : g * g * one ≤ A := by
        have : ((g * g * one : Nat) : Int) ≤ (A : Int) := by rw [Int.natCast_mul]; exact ha
        exact Int.ofNat_le.1 this
      have h1 := rdD_mono ((cmp g).2 ha')
      rw [(fix g hg).1] at h1
      have h2 := rd_mono h1
      rw [(fix g hg).2] at h2
      rw [← Int.natCast_mul]; exact Int.ofNat_le.2 h2
end Go.Proofs.Ytkcehbnmcdppkaa.Fl

/- A single with its sign turned; magnitudes of quotients by what is at least 1. -/
namespace Go.Proofs.Ytkcehbnmcdppkaa.Fl
open Ieee

theorem xor_add {r : Nat} (h : r < 2147483648) : r ^^^ 2147483648 = r + 2147483648 := by
  have e : 2 ^ 31 * 1 + r = 2 ^ 31 * 1 ||| r := Nat.two_pow_add_eq_or_of_lt h 1
  have e' : r + 2147483648 = 2147483648 ||| r := by
    rw [Nat.add_comm]; simpa using e
  rw [e']
  apply Nat.eq_of_testBit_eq
  intro i
  rw [Nat.testBit_xor, Nat.testBit_or]
  have t : (2147483648 : Nat) = 2 ^ 31 := by decide
  rw [t, Nat.testBit_two_pow]
  by_cases c : 31 = i
  · subst c
    have : r.testBit 31 = false := Nat.testBit_lt_two_pow (by rw [← t]; exact h)
    rw [this]; simp
  · simp [c]

theorem xor31 {b : Nat} (h : b < 4294967296) : b ^^^ 2147483648 = if b < 2147483648 then b + 2147483648 else b - 2147483648 := by
  split
  · rename_i c; exact xor_add c
  · rename_i c
    have e := xor_add (r := b - 2147483648) (by omega)
    have e2 : b = (b - 2147483648) ^^^ 2147483648 := by rw [e]; omega
    have e3 : b ^^^ 2147483648 = ((b - 2147483648) ^^^ 2147483648) ^^^ 2147483648 := congrArg (· ^^^ 2147483648) e2
    rw [e3, Nat.xor_assoc, Nat.xor_self, Nat.xor_zero]

theorem read_opp {b : Nat} (h : b < 4294967296) : single.read (b ^^^ 2147483648) = (single.read b).opposite := by
  rw [xor31 h]
  by_cases c : b < 2147483648
  · rw [if_pos c]
    have d1 : (b + 2147483648) / 2147483648 = 1 := by omega
    have d2 : (b + 2147483648) % 2147483648 = b := by omega
    have d3 : b / 2147483648 = 0 := by omega
    have d4 : b % 2147483648 = b := by omega
    unfold Format.read
    simp only [swS, d1, d2, d3, d4]
    repeat' split
    all_goals simp_all [Datum.opposite]
  · rw [if_neg c]
    have d1 : (b - 2147483648) / 2147483648 = 0 := by omega
    have d2 : (b - 2147483648) % 2147483648 = b - 2147483648 := by omega
    have d3 : b / 2147483648 = 1 := by omega
    have d4 : b % 2147483648 = b - 2147483648 := by omega
    unfold Format.read
    simp only [swS, d1, d2, d3, d4]
    repeat' split
    all_goals simp_all [Datum.opposite]

/-- A single, its sign turned. -/
def negW (b : Nat) : Nat := b ^^^ 2147483648
theorem neg_val {b : Nat} {a : Int} (h : b < 4294967296) (hv : vS b = some a) : vS (negW b) = some (-a) := by
  obtain ⟨s, m, p, e, rfl⟩ := vS_some hv
  have r : single.read (negW b) = .number (!s) m p := by unfold negW; rw [read_opp h, e]; rfl
  rw [vS_num r, vOf_opp]
theorem neg_bd {b k : Nat} (h : b < 4294967296) (hb : Bd k b) : Bd k (negW b) := by
  obtain ⟨s, m, p, e, l⟩ := hb
  exact ⟨!s, m, p, by unfold negW; rw [read_opp h, e]; rfl, l⟩
theorem negFloat_eq (b : Nat) : Go.Op.negFloat .f32 b = negW b := rfl
end Go.Proofs.Ytkcehbnmcdppkaa.Fl

/- The level of any single that is no NaN (pure). -/
namespace Go.Proofs.Ytkcehbnmcdppkaa.Fl
open Ieee

/-- What a level takes: the double of the single, its floor, this as a single; whether it is below 0, or beyond; the level. -/
structure LvD (x : Nat) (most : Int) (X F r : Nat) (n h : Bool) (k : Int) : Prop where
  c1 : Go.floatToFloatBits .f32 x .f64 = some X
  c2 : double.write ((double.read X).integral .down) = F
  c3 : Go.floatToFloatBits .f64 F .f32 = some r
  c4 : ∃ s, (∃ M I, double.read X = .number s M I) ∨ double.read X = .infinity s
  p1 : (single.order r 0 == some .lt) = n
  p2 : n = false → (single.order r (Go.floatOfInt .f32 most) == some .gt) = h
  p3 : n = false → h = false → Go.floatToIntVal .f32 r .i64 = some k
  q1 : (single.order x 0 == some .lt) = n
  q2 : n = false → (double.order X (Go.floatOfInt .f64 (most + 1)) == some .gt || double.order X (Go.floatOfInt .f64 (most + 1)) == some .eq) = h
  q3 : n = false → h = false → Go.floatToIntVal .f32 x .i64 = some k
  kk : n = false → h = false → 0 ≤ k ∧ k ≤ most

/-- A magnitude of a single has a rung. -/
theorem rung_fit {m j : Nat} (hm : m < 16777216) (hj : j ≤ 1178) (hc : 925 ≤ j) : rungOf single 925 (m * 2 ^ j) < single.infRung := by
  rw [infS']
  rcases Nat.eq_zero_or_pos m with z | z
  · subst z; rw [Nat.zero_mul, rungOf_zero]; omega
  obtain ⟨V, hV⟩ : ∃ V, V = m * 2 ^ j := ⟨_, rfl⟩
  have hV0 : 0 < V := by rw [hV]; exact Nat.mul_pos z (Nat.two_pow_pos _)
  have hl : V.log2 = m.log2 + j := by rw [hV]; exact log2_mul_pow z j
  have hm2 : m.log2 < 24 := (Nat.log2_lt (by omega)).2 hm
  have e1 : lastOf single 925 V = max (V.log2 - 23) 925 := rfl
  have hle : lastOf single 925 V ≤ j := by rw [e1, hl]; omega
  have hge : V.log2 < lastOf single 925 V + 24 := by rw [e1]; omega
  rw [← hV]
  unfold rungOf
  rw [binS']
  generalize lastOf single 925 V = l at *
  have hq : V = m * 2 ^ (j - l) * 2 ^ l := by rw [hV, Nat.mul_assoc, ← Nat.pow_add, Nat.sub_add_cancel hle]
  have hlt : V < 2 ^ (24 + l) := Nat.lt_of_lt_of_le (Nat.lt_log2_self) (Nat.pow_le_pow_right (by omega) (by omega))
  have hq2 : m * 2 ^ (j - l) < 16777216 := by
    rw [hq, Nat.pow_add] at hlt
    exact Nat.lt_of_mul_lt_mul_right hlt
  rw [hq, rnq_mul _ _ (Nat.two_pow_pos _)]
  have := Nat.mul_le_mul_right 8388608 (show l - 925 ≤ 253 by omega)
  omega
theorem back_sgl {F : Nat} {s : Bool} {M : Nat} {I : Int} (h : double.read F = .number s M I) (h2 : ∃ m p, single.read (single.nearest s M I) = .number s m p) :
    Go.floatToFloatBits .f64 F .f32 = some (single.nearest s M I) := by
  unfold Go.floatToFloatBits
  rw [if_neg (by decide)]
  have d : Go.FloatKind.f64.decode F = .number s M I := h
  simp only [d]
  have w : Go.FloatKind.f32.encode (.number s M I) = single.nearest s M I := rfl
  rw [w]
  obtain ⟨m, p, e⟩ := h2
  have d2 : Go.FloatKind.f32.decode (single.nearest s M I) = .number s m p := e
  rw [d2]; rfl
theorem conv_infS {x : Nat} {s : Bool} (h : single.read x = .infinity s) : Go.floatToFloatBits .f32 x .f64 = some (double.word s double.infRung) := by
  unfold Go.floatToFloatBits
  rw [if_neg (by decide)]
  have d : Go.FloatKind.f32.decode x = .infinity s := h
  simp only [d]
  have w : Go.FloatKind.f64.encode (.infinity s) = double.word s double.infRung := rfl
  rw [w]
theorem back_inf (s : Bool) : Go.floatToFloatBits .f64 (double.word s double.infRung) .f32 = some (single.word s single.infRung) := by
  cases s <;> decide

theorem order_inf {x y : Nat} {s : Bool} {b : Int} (h : single.read x = .infinity s) (hb : vS y = some b) : single.order x y = some (if s then .lt else .gt) := by
  obtain ⟨t, n, j, h2, -⟩ := vS_some hb
  unfold Format.order
  rw [h, h2]; rfl
theorem order_infD {x y : Nat} {s : Bool} {b : Int} (h : double.read x = .infinity s) (hb : vD y = some b) : double.order x y = some (if s then .lt else .gt) := by
  obtain ⟨t, n, j, h2, -⟩ := vD_some hb
  unfold Format.order
  rw [h, h2]; rfl

theorem most_val {most : Nat} (h2 : most < 16777216) : vS (Go.floatOfInt .f32 (most : Int)) = some ((most : Int) * (one : Int)) := (int_val (n := (most : Int)) (by omega)).1
theorem most_valD {most : Nat} (h2 : most < 16777216) : vD (Go.floatOfInt .f64 ((most : Int) + 1)) = some (((most + 1) * one : Nat) : Int) := by
  have e : (2 : Nat) ^ 53 = 9007199254740992 := by decide
  exact int_valD (n := most + 1) (by rw [e]; omega)

theorem lvd_small {x : Nat} {a : Int} (ha : vS x = some a) (hb : Bd 120 x) {most : Nat} (h2 : most < 16777216) : ∃ X F r n h k, LvD x (most : Int) X F r n h k := by
  obtain ⟨X, s, M, I, F, c1, c2, c3, c4, c5⟩ := floor_parts2 ha hb (by omega)
  have hp : (0 : Int) < (one : Int) := Int.natCast_pos.2 one_pos
  have e1 : a / (one : Int) * (one : Int) ≤ a := Int.ediv_mul_le a (Int.ne_of_gt hp)
  have e2 : 0 ≤ a / (one : Int) ↔ 0 ≤ a := Int.ediv_nonneg_iff_of_pos hp
  have e3 : ((most : Int) + 1 ≤ a / (one : Int)) ↔ ((most : Int) + 1) * (one : Int) ≤ a := Int.le_ediv_iff_mul_le hp
  obtain ⟨X', d1, d2⟩ := toD_val ha
  rw [c1] at d1; cases d1
  have c5' : vS (flW x) = some (a / (one : Int) * (one : Int)) := c5
  obtain ⟨g, hg⟩ : ∃ g, g = a / (one : Int) := ⟨_, rfl⟩
  have c1' := c1
  refine ⟨X, F, flW x, decide (a < 0), decide ((most : Int) < g), g, c1, c3, c4, ⟨s, .inl ⟨M, I, c2⟩⟩, ?_, ?_, ?_, ?_, ?_, ?_, ?_⟩
  · rw [lss_val c5' vS_zero, decide_eq_decide, ← hg]
    rw [← hg] at e2
    constructor
    · intro q
      rcases Int.lt_or_le g 0 with l | l
      · omega
      · have := Int.mul_nonneg l (Int.le_of_lt hp); omega
    · intro q
      exact Int.mul_neg_of_neg_of_pos (by omega) hp
  · intro _
    rw [gtr_val c5' (most_val h2), decide_eq_decide, ← hg]
    exact ⟨fun q => Int.lt_of_mul_lt_mul_right q (Int.le_of_lt hp), fun q => Int.mul_lt_mul_of_pos_right q hp⟩
  · intro q1 q2
    have q1' : ¬ a < 0 := of_decide_eq_false q1
    have q2' : ¬ (most : Int) < g := of_decide_eq_false q2
    rw [← hg] at c5' e2
    exact toInt_whole c5' (by omega) (by omega)
  · rw [lss_val ha vS_zero]
  · intro _
    rw [geq_valD d2 (most_valD h2), decide_eq_decide, hg, Int.natCast_mul, Int.natCast_add]
    constructor
    · intro q; have := e3.2 (by simpa using q); omega
    · intro q; have := e3.1 (by omega); simpa using this
  · intro q1 q2
    have q1' : ¬ a < 0 := of_decide_eq_false q1
    have q2' : ¬ (most : Int) < g := of_decide_eq_false q2
    rw [hg]
    exact toInt_floor ha (by omega) (by omega)
  · intro q1 q2
    have q1' : ¬ a < 0 := of_decide_eq_false q1
    have q2' : ¬ (most : Int) < g := of_decide_eq_false q2
    rw [← hg] at e2
    omega

theorem lvd_big {x : Nat} {s : Bool} {m : Nat} {p : Int} (e : single.read x = .number s m p) (hA : 2 ^ (1074 + 120) < m * 2 ^ (p + 1074).toNat) {most : Nat} (h2 : most < 16777216) : ∃ X F r n h k, LvD x (most : Int) X F r n h k := by
  obtain ⟨X, M, I, c1, c2, c3, c4, _⟩ := toD e
  have g := read_single e
  have g1 := g.small
  have g3 := g.high
  have ha := vS_num e
  rw [vOf_mag] at ha
  obtain ⟨X', d1, d2⟩ := toD_val ha
  rw [c1] at d1; cases d1
  obtain ⟨J, hJ⟩ : ∃ J : Nat, J = 1074 := ⟨_, rfl⟩
  rw [← hJ] at hA
  have hj : J ≤ (p + 1074).toNat := by
    rcases Nat.lt_or_ge (p + 1074).toNat J with q | q
    · exfalso
      have b1 : 2 ^ (p + 1074).toNat ≤ 2 ^ J := Nat.pow_le_pow_right (by omega) (by omega)
      have b2 : m * 2 ^ (p + 1074).toNat ≤ 16777216 * 2 ^ J := Nat.mul_le_mul (by omega) b1
      have b3 : 2 ^ (J + 120) = 2 ^ 96 * 16777216 * 2 ^ J := by rw [Nat.add_comm, Nat.pow_add]
      have p1 : 0 < 2 ^ J := Nat.two_pow_pos _
      have b4 : 16777216 * 2 ^ J ≤ 2 ^ 96 * 16777216 * 2 ^ J := Nat.mul_le_mul_right _ (by decide)
      omega
    · exact q
  obtain ⟨j, hj2⟩ : ∃ j, j = (p + 1074).toNat := ⟨_, rfl⟩
  have hjl : j ≤ 1178 := by omega
  rw [← hj2] at hj hA c4 ha d2
  obtain ⟨A, hAe⟩ : ∃ A, A = m * 2 ^ j := ⟨_, rfl⟩
  have hdv : A = m * 2 ^ (j - J) * one := by rw [hAe, one_pow hJ, Nat.mul_assoc, ← Nat.pow_add, Nat.sub_add_cancel hj]
  have hi := integral_down (s := s) c3 c4
  rw [← hAe, hdv, Nat.mul_mod_left, Nat.mul_div_cancel _ one_pos] at hi
  simp only [ne_eq, not_true_eq_false, decide_false, Bool.and_false, Bool.toNat_false, Nat.add_zero] at hi
  have hw : double.write ((double.read X).integral .down) = wordAt double 0 s A := by
    rw [c2, hi]
    show double.nearest s _ 0 = _
    rw [nearest_val double s (-1074) 0 leastD _ (p := 0) (by omega), show ((0 : Int) - (-1074)).toNat = J by omega, ← one_pow hJ, ← hdv]
  obtain ⟨B, hB⟩ : ∃ B : Nat, B = 1203 := ⟨_, rfl⟩
  have hlt : A < 2 ^ B := by
    rw [hAe]
    calc m * 2 ^ j < 16777216 * 2 ^ j := Nat.mul_lt_mul_of_pos_right g1 (Nat.two_pow_pos _)
      _ = 2 ^ (24 + j) := by rw [Nat.pow_add]
      _ ≤ 2 ^ B := Nat.pow_le_pow_right (by omega) (by omega)
  obtain ⟨M2, I2, r1, r2, r3⟩ := read_val double s (-1074) 0 leastD A (rungD_lt hlt (by omega))
  have hrd : rd double 0 A = A := by rw [hAe]; exact rd_exact double 0 m j (by rw [fbD]; exact Nat.lt_of_lt_of_le g1 (by decide)) (by omega)
  rw [hrd] at r3
  have hlp : double.leastPlace = -1074 := by decide
  rw [hlp] at r2
  have hn := nearest_val single s (-1074) 925 leastS M2 (p := I2) r2
  rw [r3] at hn
  obtain ⟨M3, I3, t1, t2, t3⟩ := read_val single s (-1074) 925 leastS A (by rw [hAe]; exact rung_fit g1 hjl (by omega))
  have hb := back_sgl r1 ⟨M3, I3, by rw [hn]; exact t1⟩
  rw [hn] at hb
  -- the value of the word, or an infinity
  have hA0 : most * one < A ∧ (most + 1) * one < A := by
    have b3 : 2 ^ (J + 120) = 2 ^ 96 * 16777216 * one := by rw [Nat.add_comm, Nat.pow_add, one_pow hJ]
    have b4 : (most + 1) * one ≤ 2 ^ 96 * 16777216 * one := Nat.mul_le_mul_right _ (Nat.le_trans h2 (by decide))
    have b5 : most * one ≤ (most + 1) * one := Nat.mul_le_mul_right _ (by omega)
    rw [← hAe] at hA
    omega
  obtain ⟨hA1, hA2⟩ := hA0
  rw [← hAe] at ha d2
  have q : vS (wordAt single 925 s A) = some ((if s then -1 else 1) * ((A : Nat) : Int)) := by
    rw [vS_num t1, vOf_mag, show (I3 + 1074).toNat = (I3 - (-1074)).toNat by omega, t3]
    rw [hAe, rd_exact single 925 m j (by rw [fbS]; exact g1) (by omega)]
  have hmo : ((most : Int) * (one : Int)) = ((most * one : Nat) : Int) := by rw [Int.natCast_mul]
  have hAp : 0 < A := by omega
  refine ⟨X, _, _, s, !s, 0, c1, hw, hb, ⟨s, .inl ⟨M, I, c2⟩⟩, ?_, ?_, ?_, ?_, ?_, ?_, ?_⟩
  · rw [lss_val q vS_zero]
    cases s
    · simp
    · simp; omega
  · intro hs
    subst hs
    rw [gtr_val q (most_val h2), hmo]
    simp only [Bool.false_eq_true, if_false, Bool.not_false, decide_eq_true_eq]
    omega
  · intro a b; rw [a] at b; cases b
  · rw [lss_val ha vS_zero]
    cases s
    · simp
    · simp; omega
  · intro hs
    subst hs
    rw [geq_valD d2 (most_valD h2)]
    simp only [Bool.false_eq_true, if_false, Bool.not_false, decide_eq_true_eq]
    omega
  · intro a b; rw [a] at b; cases b
  · intro a b; rw [a] at b; cases b

theorem lvd {x : Nat} (hx : Sgl' x) {mo : Int} (h0 : 0 ≤ mo) (h2' : mo < 16777216) : ∃ X F r n h k, LvD x mo X F r n h k := by
  obtain ⟨most, rfl⟩ := Int.eq_ofNat_of_zero_le h0
  have h2 : most < 16777216 := by omega
  obtain ⟨s, ⟨m, p, e⟩ | e⟩ := hx
  · rcases Nat.lt_or_ge (2 ^ (1074 + 120)) (m * 2 ^ (p + 1074).toNat) with c | c
    · exact lvd_big e c h2
    · exact lvd_small (vS_num e) ⟨s, m, p, e, c⟩ h2
  · refine ⟨_, _, _, s, !s, 0, conv_infS e, ?_, back_inf s, ⟨s, .inr (read_infD s)⟩, ?_, ?_, ?_, ?_, ?_, ?_, ?_⟩
    · rw [read_infD]; rfl
    · rw [order_inf (read_inf s) vS_zero]; cases s <;> rfl
    · intro hs
      rw [order_inf (read_inf s) (most_val h2), hs]; rfl
    · intro a b; rw [a] at b; cases b
    · rw [order_inf e vS_zero]; cases s <;> rfl
    · intro hs
      rw [order_infD (read_infD s) (most_valD h2), hs]; rfl
    · intro a b; rw [a] at b; cases b
    · intro a b; rw [a] at b; cases b
end Go.Proofs.Ytkcehbnmcdppkaa.Fl

/- Contracts: nearest, Magnitude by words, math.IsNaN, math.Signbit. -/
namespace Go.Proofs.Ytkcehbnmcdppkaa
open Go.RowKit Fl
set_option linter.unusedVariables false

theorem near_wordD (s : Bool) (m : Nat) (p : Int) : ∃ q, q ≤ Ieee.double.infRung ∧ Ieee.double.nearest s m p = Ieee.double.word s q := by
  unfold Ieee.Format.nearest
  split
  · exact ⟨0, Nat.zero_le _, rfl⟩
  · exact ⟨_, Nat.min_le_right _ _, rfl⟩
/-- The double of a single that is no NaN, by its sign. -/
theorem conv_sign {x : Nat} {s : Bool} (h : Sg s x) : ∃ X q, floatToFloatBits .f32 x .f64 = some X ∧ q ≤ 9218868437227405312 ∧ X = s.toNat * 9223372036854775808 + q := by
  have hw : ∀ q, Ieee.double.word s q = s.toNat * 9223372036854775808 + q := by
    intro q; unfold Ieee.Format.word; rw [swD]; cases s <;> simp
  rcases h with ⟨m, p, e⟩ | e
  · obtain ⟨X, M, I, c1, -⟩ := toD e
    obtain ⟨q, q1, q2⟩ := near_wordD s m p
    refine ⟨X, q, c1, by rw [← infD']; exact q1, ?_⟩
    rw [← hw, ← q2]
    unfold floatToFloatBits at c1
    rw [if_neg (by decide)] at c1
    have d : FloatKind.f32.decode x = .number s m p := e
    rw [d] at c1
    simp only at c1
    split at c1
    · cases c1
    · exact (Option.some.inj c1).symm
  · refine ⟨_, 9218868437227405312, conv_infS e, Nat.le_refl _, ?_⟩
    rw [hw, infD']

theorem order_self {x : Nat} {s : Bool} (h : Sg s x) : Ieee.single.order x x = some .eq := by
  unfold Ieee.Format.order
  rcases h with ⟨m, p, e⟩ | e
  · rw [e]
    simp [Ieee.Datum.order, Int.compare_eq_eq]
  · rw [e]
    simp [Ieee.Datum.order]
theorem order_selfD {x X : Nat} {s : Bool} (h : Sg s x) (c : floatToFloatBits .f32 x .f64 = some X) : (Ieee.double.order X X == some .eq) = true := by
  rcases h with ⟨m, p, e⟩ | e
  · obtain ⟨X', M, I, c1, c2, -⟩ := toD e
    rw [c] at c1; cases c1
    unfold Ieee.Format.order
    rw [c2]
    simp [Ieee.Datum.order, Int.compare_eq_eq]
  · rw [conv_infS e] at c
    cases c
    unfold Ieee.Format.order
    rw [read_infD]
    simp [Ieee.Datum.order]

set_option maxHeartbeats 400000 in
theorem isNaN_any (X : Nat) (b : Bool) (h : (FloatKind.f64.format.order X X == some .eq) = b) (w : World) : Calls Try.prog 70 #[.float .f64 X] w fun e w' => e = .returned (.bool (!b)) ∧ w = w' := by
  have h2 : (FloatKind.f64.format.order X X != some .eq) = !b := by rw [← h]; rfl
  clear h
  go_enter Try.func70, Try.ntmps70
  go_wp2
  go_ret
  exact ⟨rfl, rfl⟩
set_option maxHeartbeats 400000 in
theorem signbit_any (s : Bool) (X : Int) (h0 : 0 ≤ X) (h1 : X < 18446744073709551616) (hX : decide (9223372036854775808 ≤ X) = s) (w : World) : Calls Try.prog 126 #[.float .f64 X.toNat] w fun e w' => e = .returned (.bool s) ∧ w = w' := by
  have hb := f64bits
  have e : ((X.toNat : Nat) : Int) = X := by omega
  go_enter Try.func126, Try.ntmps126
  go_wp2
  go_ret
  exact ⟨ret_bool (by rw [← hX, decide_eq_decide]; unfold wrap64; omega), rfl⟩

/-- The magnitude by words. -/
theorem vS_neg {r : Nat} (h : r < 2139095040) : vS (2147483648 + r) = some (-((rv r : Nat) : Int)) := by
  have := vS_rung true h
  simpa using this
theorem ord_pn {r : Nat} (hr : r ≤ 2139095040) (h0 : 0 < r) : FloatKind.f32.format.order r (2147483648 + r) = some .gt := by
  rw [f32fmt]
  rcases Nat.lt_or_eq_of_le hr with c | c
  · rw [order_val (vS_pos c) (vS_neg c)]
    have p : 0 < rv r := by have := rv_lt h0; omega
    congr 1
    exact Int.compare_eq_gt.2 (by omega)
  · rw [c]; decide
theorem ord_np {r : Nat} (hr : r ≤ 2139095040) (h0 : 0 < r) : FloatKind.f32.format.order (2147483648 + r) r = some .lt := by
  rw [f32fmt]
  rcases Nat.lt_or_eq_of_le hr with c | c
  · rw [order_val (vS_neg c) (vS_pos c)]
    have p : 0 < rv r := by have := rv_lt h0; omega
    congr 1
    exact Int.compare_eq_lt.2 (by omega)
  · rw [c]; decide
theorem max_pn {r : Nat} (hr : r ≤ 2139095040) : Builtin.max2 (.float .f32 r) (.float .f32 (2147483648 + r)) = pure (.float .f32 r) := by
  unfold Builtin.max2
  dsimp only
  rcases Nat.eq_zero_or_pos r with z | z
  · subst z
    have o : FloatKind.f32.format.order 0 (2147483648 + 0) = some .eq := by decide
    have d : (FloatKind.f32.decode 0).neg = false := by decide
    rw [o]
    dsimp only
    rw [d]
    rfl
  · rw [ord_pn hr z]
theorem max_np {r : Nat} (hr : r ≤ 2139095040) : Builtin.max2 (.float .f32 (2147483648 + r)) (.float .f32 r) = pure (.float .f32 r) := by
  unfold Builtin.max2
  dsimp only
  rcases Nat.eq_zero_or_pos r with z | z
  · subst z
    have o : FloatKind.f32.format.order (2147483648 + 0) 0 = some .eq := by decide
    have d : (FloatKind.f32.decode (2147483648 + 0)).neg = true := by decide
    rw [o]
    dsimp only
    rw [d]
    rfl
  · rw [ord_np hr z]

/-- The word of a sign and a magnitude. -/
def sw (s : Bool) (r : Nat) : Nat := if s then 2147483648 + r else r
theorem sw_form (s : Bool) (r : Nat) : sw s r = s.toNat * 2147483648 + r := by unfold sw; cases s <;> simp
theorem sw_sg {s : Bool} {r : Nat} (h : r ≤ 2139095040) : Sg s (sw s r) := by
  have := read_le s r (by rw [infS']; exact h)
  have e : Ieee.single.word s r = sw s r := by unfold Ieee.Format.word sw; rw [swS]
  rwa [e] at this
theorem run_negS (w : World) (b : Nat) : (Op.unary .neg (.float .f32 b)).run Try.prog w = .ok (.float .f32 (negW b)) w := rfl
theorem neg_pos {r : Nat} (h : r < 2147483648) : negW r = 2147483648 + r := by unfold negW; rw [xor31 (by omega), if_pos h]; omega
theorem neg_neg' {r : Nat} (h : r < 2147483648) : negW (2147483648 + r) = r := by unfold negW; rw [xor31 (by omega), if_neg (by omega)]; omega
theorem neg_sw {s : Bool} {r : Nat} (h : r ≤ 2139095040) : negW (sw s r) = sw (!s) r := by
  cases s
  · show negW r = 2147483648 + r
    exact neg_pos (by omega)
  · show negW (2147483648 + r) = r
    exact neg_neg' (by omega)
theorem max_sw {s : Bool} {r : Nat} (hr : r ≤ 2139095040) (ts : Array TypeId) (t : TypeId) (w : World) : (Builtin.max_ ts t #[.float .f32 (sw s r), .float .f32 (sw (!s) r)]).run Try.prog w = .ok (.float .f32 r) w := by
  show (([Value.float .f32 (sw (!s) r)]).foldlM Builtin.max2 (Value.float .f32 (sw s r))).run Try.prog w = _
  simp only [List.foldlM]
  cases s
  · rw [show sw false r = r from rfl, show sw (!false) r = 2147483648 + r from rfl, max_pn hr]; rfl
  · rw [show sw true r = 2147483648 + r from rfl, show sw (!true) r = r from rfl, max_np hr]; rfl
set_option maxHeartbeats 400000 in
theorem magn_sw {s : Bool} {r : Nat} (hr : r ≤ 2139095040) (w : World) : Calls Try.prog 125 #[.float .f32 (sw s r)] w fun e w' => e = .returned (.float .f32 r) ∧ w = w' := by
  have ng := fun w => run_negS w (sw s r)
  rw [neg_sw hr] at ng
  have mx := fun ts t w => max_sw (s := s) hr ts t w
  generalize sw s r = x at *
  generalize sw (!s) r = y at *
  go_enter Try.func125, Try.ntmps125
  go_wp2
  go_ret
  exact ⟨rfl, rfl⟩

/-- The nearest of two numbers that have 2 ^ 13 and 2 ^ 16 as units. -/
theorem and_one (x : Nat) (h : x < 4294967296) : bits .and .u32 (x : Int) 1 = ((x % 2 : Nat) : Int) := by
  have := u32_and_nat x 1 h (by omega)
  rw [show ((1 : Nat) : Int) = 1 from rfl] at this
  rw [this, Nat.and_one_is_mod]
set_option maxHeartbeats 400000 in
theorem nearest13 (n : Nat) (hn : n < 2147483648) (w : World) : Calls Try.prog 71 #[.int .u32 n, .int .i64 13] w fun e w' => e = .returned (.int .u32 (((n + 4095 + n / 8192 % 2) / 8192 : Nat) : Int)) ∧ w = w' := by
  have a1 : bits .and .u32 ((n : Int) / 8192) 1 = ((n / 8192 % 2 : Nat) : Int) := by
    have := and_one (n / 8192) (by omega)
    rwa [Int.natCast_ediv] at this
  go_enter Try.func71, Try.ntmps71
  go_wp2
  go_ret
  exact ⟨ret_int (by omega), rfl⟩
set_option maxHeartbeats 400000 in
theorem nearest16 (n : Nat) (hn : n ≤ 4286578688) (w : World) : Calls Try.prog 71 #[.int .u32 n, .int .i64 16] w fun e w' => e = .returned (.int .u32 ((nrS n : Nat) : Int)) ∧ w = w' := by
  have a1 : bits .and .u32 ((n : Int) / 65536) 1 = ((n / 65536 % 2 : Nat) : Int) := by
    have := and_one (n / 65536) (by omega)
    rwa [Int.natCast_ediv] at this
  unfold nrS
  go_enter Try.func71, Try.ntmps71
  go_wp2
  go_ret
  exact ⟨ret_int (by omega), rfl⟩
end Go.Proofs.Ytkcehbnmcdppkaa

/- Blocks that are known whole, over calls that leave what was there. -/
namespace Go.Proofs.Ytkcehbnmcdppkaa
open Go.RowKit

/-- A block known whole: its cells, its marks, its place. -/
theorem blkC {w : World} {b : Nat} {cs : Array Value} {t : TypeId} (h : w.heap[b]? = some (.cells cs t (0, 0))) :
    (∀ o, w.cell? ⟨b, o, none⟩ = cs[o]?) ∧ (∀ o, w.frozen? ⟨b, o, none⟩ = false) ∧ b < w.heap.size := by
  refine ⟨fun o => by simp [World.cell?, h], fun o => by simp [World.frozen?, h], ?_⟩
  rcases Nat.lt_or_ge b w.heap.size with h' | h'
  · exact h'
  · simp [Array.getElem?_eq_none h'] at h
theorem blkStay {W w' : World} {b : Nat} {o : Obj} (h : W.heap[b]? = some o) (hb : Below W.heap.size W w') : w'.heap[b]? = some o := by
  rw [hb.block b ?_, h]
  rcases Nat.lt_or_ge b W.heap.size with h' | h'
  · exact h'
  · simp [Array.getElem?_eq_none h'] at h
theorem heap_alloc_get (w : World) (o : Obj) (k : Nat) : (w.alloc o).heap[k]? = if k = w.heap.size then some o else w.heap[k]? := by
  show (w.heap.push o)[k]? = _
  rw [Array.getElem?_push]

theorem hold {W w w' : World} {A : Prop} (h : A ∧ Below W.heap.size W w) (hb : Below w.heap.size w w') : Below W.heap.size W w' := h.2.trans (hb.mono h.2.size)
theorem heap_size_alloc (w : World) (o : Obj) : (w.alloc o).heap.size = w.heap.size + 1 := by
  show (w.heap.push o).size = _
  simp

/-- The store of a float into a cell (the kit has none). -/
theorem run_store_float {P : Program} {w : World} {a : Addr} {m : Mode} (k : FloatKind) (b : Nat) : (store a (.float k b) m).run P w = stored P w a (.float k b) m := run_store P w a _ m rfl

end Go.Proofs.Ytkcehbnmcdppkaa

/- Contract: fit. -/
namespace Go.Proofs.Ytkcehbnmcdppkaa
open Go.RowKit Fl

theorem and15 (x : Int) : ∃ a : Nat, a ≤ 15 ∧ bits BinOp.and IntKind.i64 x 15 = (a : Int) := by
  have h : (BitVec.ofInt 64 x &&& BitVec.ofInt 64 15).toNat ≤ 15 := by
    rw [BitVec.toNat_and]
    exact Nat.le_trans Nat.and_le_right (by decide)
  refine ⟨(BitVec.ofInt 64 x &&& BitVec.ofInt 64 15).toNat, h, ?_⟩
  show IntKind.i64.wrap ((BitVec.ofInt 64 x &&& BitVec.ofInt 64 15).toNat : Int) = _
  rw [IntKind.wrap_i64]
  omega

/-- The made cells of singles. -/
theorem made_f32 (n i : Nat) (h : i < n) : (madeCells #[Value.float .f32 0] n)[i]? = some (.float .f32 0) := by
  simp [madeCells, h, Nat.mod_one]

theorem make_f32 (n : Nat) (hn : n ≤ 65536) (w : World) :
    (Instr.makeSlice 39 (.int .i64 (n : Int)) (.int .i64 (n : Int))).run Try.prog w = .ok (.slice (some ⟨w.heap.size, 0, none⟩) n n) (w.alloc (.cells (madeCells #[Value.float .f32 0] n) 22)) := by
  have h : (Try.prog.info? 22).map (fun i => (i.zero, i.size, i.bytes)) = some (some (.float .f32 0), 1, 4) := by kernel_rfl
  obtain ⟨i0, hi, hz0, hz1, hz2⟩ := info_parts h
  have hr := run_make (P := Try.prog) w 39 22 i0 (.float .f32 0) Try.underlying39 hi hz0 .i64 .i64 n n (by omega) (by omega) (by rw [hz2]; omega) (by omega)
  rw [hz1, Nat.mul_one, Int.toNat_natCast] at hr
  exact hr

/-- A field as a value; the cells of its box. -/
abbrev fldV (x y w h : Int) (sl : Value) : Value := .agg #[.int .i64 x, .int .i64 y, .int .i64 w, .int .i64 h, sl]
abbrev fldO (x y w h : Int) (sl : Value) : Obj := .cells #[.int .i64 x, .int .i64 y, .int .i64 w, .int .i64 h, sl] 41

def cl1 (x : Int) : Int := if x < -5000 then -5000 else x
def clampI (x : Int) : Int := if 5000 < cl1 x then 5000 else cl1 x
theorem clampI_le (x : Int) : -5000 ≤ clampI x ∧ clampI x ≤ 5000 := by unfold clampI cl1; split <;> split <;> omega

/-- Block b is n singles, those below k heights. -/
def FitRow (wr : World) (b n k : Nat) : Prop :=
  ∃ cs : Array Value, wr.heap[b]? = some (.cells cs 22 (0, 0)) ∧ cs.size = n ∧ ∀ j, j < n → ∃ x, cs[j]? = some (.float .f32 x) ∧ x < 4294967296 ∧ (j < k → hgtB x = true)

/-- What fit leaves: a small region near the origin, heights in a new block. -/
def FitPost (w : World) (e : Ending) (w' : World) : Prop :=
  ∃ X Y W H : Int, ∃ b n : Nat, e = .returned (fldV X Y W H (.slice (some ⟨b, 0, none⟩) n n)) ∧ -5000 ≤ X ∧ X ≤ 5000 ∧ -5000 ≤ Y ∧ Y ≤ 5000 ∧ 1 ≤ W ∧ W ≤ 16 ∧ 1 ≤ H ∧ H ≤ 16 ∧ (n : Int) = W * H ∧ 1 ≤ n ∧ n ≤ 256 ∧ w.heap.size ≤ b ∧ FitRow w' b n n ∧ Below w.heap.size w w'

theorem nat_bd {j k T : Nat} (hT : T = 1074) (h : j ≤ 2 ^ k) : j * 2 ^ T ≤ 2 ^ (1074 + k) := by
  rw [← hT, Nat.pow_add, Nat.mul_comm]; exact Nat.mul_le_mul_left _ h
theorem floatOfInt_bd (j k : Nat) (hk : k ≤ 100) (h : j ≤ 2 ^ k) : Bd k (floatOfInt .f32 (j : Int)) := by
  have e : floatOfInt .f32 (j : Int) = Ieee.single.nearest false j 0 := by
    show Ieee.single.nearest (decide ((j : Int) < 0)) (j : Int).natAbs 0 = _
    rw [show decide ((j : Int) < 0) = false by simp, Int.natAbs_natCast]
  rw [e, nearest_val Ieee.single false (-1074) 925 leastS j (p := 0) (by omega)]
  exact bd_word (nat_bd (by omega) h) (by omega)
theorem floatOfInt_lt (j : Int) : floatOfInt .f32 j < 4294967296 := by
  have h := Ieee.Format.write_lt Ieee.single (.number (decide (j < 0)) j.natAbs 0)
  exact h
theorem floatOfInt_small (j : Nat) (h : j ≤ 256) : hgtB (floatOfInt .f32 (j : Int)) = true :=
  bd_hgt (floatOfInt_bd j 20 (by omega) (Nat.le_trans h (by decide)))

theorem fit_keep {wr : World} {b n k x : Nat} (h : FitRow wr b n k) (hk : k < n) (hx : x < 4294967296) (hh : hgtB x = true) : FitRow (wr.setCell ⟨b, k, none⟩ (.float .f32 x)) b n (k + 1) := by
  obtain ⟨cs, h1, h2, h3⟩ := h
  refine ⟨cs.setIfInBounds k (.float .f32 x), heap_setCell_same wr b k cs _ _ h1, by simp [h2], fun j hj => ?_⟩
  by_cases e : k = j
  · subst e
    exact ⟨x, by rw [Array.getElem?_setIfInBounds_self_of_lt (by omega)], hx, fun _ => hh⟩
  · obtain ⟨y, q1, q2, q3⟩ := h3 j hj
    exact ⟨y, by rw [Array.getElem?_setIfInBounds_ne e]; exact q1, q2, fun c => q3 (by omega)⟩

theorem fit_step {wr : World} {b n k x : Nat} (h : FitRow wr b n k) (hk : k < n) (hx : x < 4294967296) : FitRow (wr.setCell ⟨b, k, none⟩ (.float .f32 x)) b n k := by
  obtain ⟨cs, h1, h2, h3⟩ := h
  refine ⟨cs.setIfInBounds k (.float .f32 x), heap_setCell_same wr b k cs _ _ h1, by simp [h2], fun j hj => ?_⟩
  by_cases e : k = j
  · subst e
    exact ⟨x, by rw [Array.getElem?_setIfInBounds_self_of_lt (by omega)], hx, fun c => by omega⟩
  · obtain ⟨y, q1, q2, q3⟩ := h3 j hj
    exact ⟨y, by rw [Array.getElem?_setIfInBounds_ne e]; exact q1, q2, q3⟩

theorem fit_cell {wr : World} {b n k : Nat} (h : FitRow wr b n k) (j : Nat) (hj : j < n) : ∃ x, wr.cell? ⟨b, j, none⟩ = some (.float .f32 x) ∧ x < 4294967296 ∧ (j < k → hgtB x = true) := by
  obtain ⟨cs, h1, h2, h3⟩ := h
  obtain ⟨x, q1, q2, q3⟩ := h3 j hj
  exact ⟨x, by simp [World.cell?, h1, q1], q2, q3⟩

theorem fit_up {wr : World} {b n k x : Nat} (h : FitRow wr b n k) (hc : wr.cell? ⟨b, k, none⟩ = some (.float .f32 x)) (hh : hgtB x = true) : FitRow wr b n (k + 1) := by
  obtain ⟨cs, h1, h2, h3⟩ := h
  refine ⟨cs, h1, h2, fun j hj => ?_⟩
  obtain ⟨y, q1, q2, q3⟩ := h3 j hj
  refine ⟨y, q1, q2, fun c => ?_⟩
  by_cases e : j < k
  · exact q3 e
  · have : j = k := by omega
    subst this
    have : wr.cell? ⟨b, j, none⟩ = some (.float .f32 y) := by simp [World.cell?, h1, q1]
    rw [hc] at this
    cases this
    exact hh

theorem FitRow.congr {w w' : World} {b n k : Nat} (h : FitRow w b n k) (e : w'.heap[b]? = w.heap[b]?) : FitRow w' b n k := by
  obtain ⟨cs, h1, h2⟩ := h
  exact ⟨cs, by rw [e]; exact h1, h2⟩
theorem FitRow.lt {w : World} {b n k : Nat} (h : FitRow w b n k) : b < w.heap.size := by
  obtain ⟨cs, h1, _⟩ := h
  exact (blkC h1).2.2
theorem FitRow.free {w : World} {b n k : Nat} (h : FitRow w b n k) (j : Nat) : w.frozen? ⟨b, j, none⟩ = false := by
  obtain ⟨cs, h1, _⟩ := h
  exact (blkC h1).2.1 j

theorem flAt_one (w : World) (x : Nat) : FlAt (w.alloc (.cells #[.float .f32 x] 22)) w.heap.size 0 1 (fun _ => x) := by
  intro i hi
  have : i = 0 := by omega
  subst this
  have h : (w.alloc (.cells #[Value.float .f32 x] 22)).heap[w.heap.size]? = some (.cells #[.float .f32 x] 22) := by rw [heap_alloc_get, if_pos rfl]
  exact (blkC h).1 0

theorem refHeight_one (x : Nat) (hx : x < 4294967296) (w : World) :
    Calls Try.prog 85 #[.slice (some ⟨w.heap.size, 0, none⟩) 1 1] (w.alloc (.cells #[.float .f32 x] 22)) fun e w' => e = .returned (.int .i64 (fldE 1 (fun _ => x))) ∧ w.alloc (.cells #[.float .f32 x] 22) = w' :=
  refHeight_row _ 0 1 1 (fun _ => x) (by omega) _ (flAt_one w x) (fun _ _ => hx)
theorem fldE_one_ok {x : Nat} (h : hgtB x = true) : fldE 1 (fun _ => x) = 0 := by
  have f := hgt_fin h
  simp [fldE, hgtE, allB, List.range_succ, h, f]
theorem fldE_one_no {x : Nat} (h : hgtB x = false) : fldE 1 (fun _ => x) = 2 ∨ fldE 1 (fun _ => x) = 3 := by
  unfold fldE
  by_cases f : allB 1 (fun _ => finB x) = true
  · right; rw [if_pos f]; unfold hgtE; rw [allB_no (k := 0) (by omega) h]; rfl
  · left; rw [if_neg f]

theorem fit_six (wr : World) (B : Nat) (u0 u1 u2 u3 u4 u5 : Value) :
    ((((((wr.setCell ⟨B, 4, none⟩ u0).setCell ⟨B + 1, 0, none⟩ u1).setCell ⟨B + 1, 1, none⟩ u2).setCell ⟨B + 1, 2, none⟩ u3).setCell ⟨B + 1, 3, none⟩ u4).setCell ⟨B + 1, 4, none⟩ u5).heap[B + 1 + 1]? = wr.heap[B + 1 + 1]? := by
  have n0 : B + 1 + 1 ≠ B := by omega
  have n1 : B + 1 + 1 ≠ B + 1 := by omega
  rw [Below.heap_setCell _ _ _ _ n1, Below.heap_setCell _ _ _ _ n1, Below.heap_setCell _ _ _ _ n1, Below.heap_setCell _ _ _ _ n1, Below.heap_setCell _ _ _ _ n1, Below.heap_setCell _ _ _ _ n0]

set_option maxHeartbeats 2000000 in
theorem fit_some (X Y W H : Int) (sb so len cap : Nat) (v : Nat → Nat) (w : World) (hl : 0 < len) (hl2 : len ≤ 9223372036854775807) (hc : FlAt w sb so len v) (hwf : wf32 len v) :
    Calls Try.prog 36 #[fldV X Y W H (.slice (some ⟨sb, so, none⟩) len cap)] w (FitPost w) := by
  obtain ⟨p, hp, eW⟩ := and15 W
  obtain ⟨q, hq, eH⟩ := and15 H
  obtain ⟨n, hn⟩ : ∃ n : Nat, n = (1 + p) * (1 + q) := ⟨_, rfl⟩
  have hn2 : n ≤ 256 := by rw [hn]; exact Nat.le_trans (Nat.mul_le_mul (by omega : 1 + p ≤ 16) (by omega : 1 + q ≤ 16)) (by omega)
  have hn1 : 1 ≤ n := by rw [hn]; exact Nat.mul_pos (by omega) (by omega)
  have en : wrap64 ((1 + (p : Int)) * (1 + (q : Int))) = (n : Int) := by
    have : ((1 + (p : Int)) * (1 + (q : Int))) = (n : Int) := by rw [hn]; simp
    rw [this]; exact IntWalk.wrap64_in _ ⟨by omega, by omega⟩
  have HN := Lib.hid hn
  clear hn
  have e1 : (if X < -5000 then -5000 else X) = cl1 X := rfl
  have e2 : (if Y < -5000 then -5000 else Y) = cl1 Y := rfl
  have e3 : (if 5000 < cl1 X then 5000 else cl1 X) = clampI X := rfl
  have e4 : (if 5000 < cl1 Y then 5000 else cl1 Y) = clampI Y := rfl
  have hmk := make_f32 n (by omega)
  have hsb : sb < w.heap.size := by
    have := hc 0 hl
    exact World.block_lt_of_cell? w _ this
  have HC := Lib.hid hc
  have HW := Lib.hid hwf
  clear hc hwf
  have hsf := fun (w : World) (a : Addr) (m : Mode) (k : FloatKind) (b : Nat) => run_store_float (P := Try.prog) (w := w) (a := a) (m := m) k b
  go_enter Try.func36, Try.ntmps36
  go_wp2
  clear en e1 e2 e3 e4 eW eH hmk
  go_loopw [43] (fun i wr => ∃ k : Nat, k ≤ n ∧ i = .int .i64 k ∧ FitRow wr (w.heap.size + 1 + 1) n k ∧ wr.heap[w.heap.size]? = some (fldO (clampI X) (clampI Y) (1 + p) (1 + q) (.slice (some ⟨sb, so, none⟩) len cap)) ∧ wr.heap[w.heap.size + 1]? = some (fldO 0 0 0 0 (.slice none 0 0)) ∧ Below w.heap.size w wr) (fun i _ => n - (intOf i).toNat)
  case atStart =>
    refine ⟨0, Nat.zero_le _, rfl, ⟨madeCells #[Value.float .f32 0] n, ?_, size_madeCells _ _, fun j hj => ⟨0, made_f32 n j hj, by omega, fun c => by omega⟩⟩, ?_, ?_, (by repeat (first | exact Below.refl _ _ | refine Below.alloc ?_ (by first | omega | (simp; done) | (simp; omega)) _ | refine Below.setCell ?_ (by first | omega | (simp; done) | (simp; omega)) _ | refine Below.drew ?_))⟩
    · simp only [heap_alloc_get, heap_size_alloc]; simp <;> omega
    · simp only [heap_alloc_get, heap_size_alloc]; simp <;> omega
    · simp only [heap_alloc_get, heap_size_alloc]; simp <;> omega
  case round =>
    obtain ⟨k, hk, rfl, hrow, hbox, hres, hbel⟩ := hrel
    have HR := Lib.hid hrow
    have HB := Lib.hid hbox
    have HS := Lib.hid hres
    obtain ⟨cB, fB, zB⟩ := blkC hbox
    clear hrow hbox hres
    by_cases hlt : k < n
    · obtain ⟨x0, hx0, _, _⟩ := fit_cell HR.out k hlt
      have hfr : wr.frozen? ⟨w.heap.size + 1 + 1, k, none⟩ = false := by
        obtain ⟨cs, h1, _⟩ := HR.out
        exact (blkC h1).2.1 k
      have hm : k % len < len := Nat.mod_lt _ hl
      have hsrc : wr.cell? ⟨sb, so + k % len, none⟩ = some (.float .f32 (v (k % len))) := by
        rw [hbel.cell (p := ⟨sb, so + k % len, none⟩) hsb]; exact HC.out _ hm
      go_wp2
      go_region
      have hx := HW.out _ hm
      generalize v (k % len) = x at *
      have R2 := Lib.hid ((fit_step HR.out hlt hx).congr rfl : FitRow (wr.setCell ⟨w.heap.size + 1 + 1, k, none⟩ (.float .f32 x)).drew (w.heap.size + 1 + 1) n k)
      have B2 : Hid ((wr.setCell ⟨w.heap.size + 1 + 1, k, none⟩ (.float .f32 x)).drew.heap[w.heap.size]? = some (fldO (clampI X) (clampI Y) (1 + p) (1 + q) (.slice (some ⟨sb, so, none⟩) len cap))) := (Below.heap_setCell wr ⟨w.heap.size + 1 + 1, k, none⟩ (.float .f32 x) w.heap.size (show w.heap.size ≠ w.heap.size + 1 + 1 by omega)).trans HB.out
      have S2 : Hid ((wr.setCell ⟨w.heap.size + 1 + 1, k, none⟩ (.float .f32 x)).drew.heap[w.heap.size + 1]? = some (fldO 0 0 0 0 (.slice none 0 0))) := (Below.heap_setCell wr ⟨w.heap.size + 1 + 1, k, none⟩ (.float .f32 x) (w.heap.size + 1) (show w.heap.size + 1 ≠ w.heap.size + 1 + 1 by omega)).trans HS.out
      have L2 : Below w.heap.size w (wr.setCell ⟨w.heap.size + 1 + 1, k, none⟩ (.float .f32 x)).drew := (hbel.setCell (show w.heap.size ≤ w.heap.size + 1 + 1 by omega) _).drew
      have C2 : (wr.setCell ⟨w.heap.size + 1 + 1, k, none⟩ (.float .f32 x)).drew.cell? ⟨w.heap.size + 1 + 1, k, none⟩ = some (.float .f32 x) := by
        obtain ⟨cs, h1, h2, _⟩ := HR.out
        show (wr.setCell ⟨w.heap.size + 1 + 1, k, none⟩ (.float .f32 x)).cell? ⟨w.heap.size + 1 + 1, k, none⟩ = _
        rw [(blkC (heap_setCell_same wr _ k cs _ _ h1)).1 k, Array.getElem?_setIfInBounds_self_of_lt (by omega)]
      generalize (wr.setCell ⟨w.heap.size + 1 + 1, k, none⟩ (.float .f32 x)).drew = w2 at *
      clear hsrc hx0 hfr cB fB zB HR HB HS hbel
      have HX := Lib.hid hx
      have z2 : w.heap.size + 1 + 1 < w2.heap.size := R2.out.lt
      have f2 := R2.out.free k
      cases hh : hgtB x with
      | true =>
        have HG := Lib.hid hh
        clear hh
        have HT := Lib.hid (fun w => refHeight_one x hx w)
        rw [fldE_one_ok HG.out] at HT
        clear hx
        go_wp2_with (go_at_call 85; refine (HT.out _).mono ?_; rintro e w' ⟨rfl, rfl⟩)
        go_roundw
        case rel =>
          exact ⟨k + 1, by omega, by go_num, (fit_up R2.out C2 HG.out).congr (heap_alloc_old _ _ (by omega)), (heap_alloc_old _ _ (by omega)).trans B2.out, (heap_alloc_old _ _ (by omega)).trans S2.out, L2.alloc (by omega) _⟩
        case measure => simp [intOf]; omega
      | false =>
        have HG := Lib.hid hh
        clear hh
        have HT := Lib.hid (fun w => refHeight_one x hx w)
        clear hx
        have hk256 : k ≤ 256 := by omega
        rcases fldE_one_no HG.out with e | e
        all_goals
          rw [e] at HT
          clear e
          go_wp2_with (go_at_call 85; refine (HT.out _).mono ?_; rintro e w' ⟨rfl, rfl⟩)
          go_roundw
          case rel =>
            have sz : ∀ u, (w2.setCell ⟨w.heap.size + 1 + 1, k, none⟩ u).heap.size = w2.heap.size := fun u => by simp
            exact ⟨k + 1, by omega, by go_num, (fit_keep R2.out hlt (floatOfInt_lt _) (floatOfInt_small k hk256)).congr (heap_alloc_old _ _ (by rw [sz]; omega)), (heap_alloc_old _ _ (by rw [sz]; omega)).trans ((Below.heap_setCell _ _ _ _ (show w.heap.size ≠ w.heap.size + 1 + 1 by omega)).trans B2.out), (heap_alloc_old _ _ (by rw [sz]; omega)).trans ((Below.heap_setCell _ _ _ _ (show w.heap.size + 1 ≠ w.heap.size + 1 + 1 by omega)).trans S2.out), (L2.setCell (p := ⟨w.heap.size + 1 + 1, k, none⟩) (show w.heap.size ≤ w.heap.size + 1 + 1 by omega) _).alloc (by rw [sz]; omega) _⟩
          case measure => simp [intOf]; omega
    · obtain ⟨cS, fS, zS⟩ := blkC HS.out
      go_wp2
      have hkn : k = n := by omega
      refine bodyPost_ret (v := fldV (clampI X) (clampI Y) (1 + p) (1 + q) (.slice (some ⟨w.heap.size + 1 + 1, 0, none⟩) n n)) (by simp [results, Try.results36, go_sem, cS]) rfl ?_
      obtain ⟨c1, c2⟩ := clampI_le X
      obtain ⟨c3, c4⟩ := clampI_le Y
      refine ⟨_, _, _, _, _, _, rfl, c1, c2, c3, c4, by omega, by omega, by omega, by omega, ?_, hn1, hn2, by omega, ?_, ?_⟩
      · rw [HN.out]; simp
      · subst hkn
        exact HR.out.congr (fit_six wr _ _ _ _ _ _ _)
      · exact (((((hbel.setCell (p := ⟨w.heap.size, 4, none⟩) (Nat.le_refl _) _).setCell (p := ⟨w.heap.size + 1, 0, none⟩) (Nat.le_succ _) _).setCell (p := ⟨w.heap.size + 1, 1, none⟩) (Nat.le_succ _) _).setCell (p := ⟨w.heap.size + 1, 2, none⟩) (Nat.le_succ _) _).setCell (p := ⟨w.heap.size + 1, 3, none⟩) (Nat.le_succ _) _).setCell (p := ⟨w.heap.size + 1, 4, none⟩) (Nat.le_succ _) _

end Go.Proofs.Ytkcehbnmcdppkaa

/- Contract: fit of a field without singles. -/
namespace Go.Proofs.Ytkcehbnmcdppkaa
open Go.RowKit Fl

set_option maxHeartbeats 2000000 in
theorem fit_none (X Y W H : Int) (a : Option Addr) (cap : Nat) (w : World) :
    Calls Try.prog 36 #[fldV X Y W H (.slice a 0 cap)] w (FitPost w) := by
  obtain ⟨p, hp, eW⟩ := and15 W
  obtain ⟨q, hq, eH⟩ := and15 H
  obtain ⟨n, hn⟩ : ∃ n : Nat, n = (1 + p) * (1 + q) := ⟨_, rfl⟩
  have hn2 : n ≤ 256 := by rw [hn]; exact Nat.le_trans (Nat.mul_le_mul (by omega : 1 + p ≤ 16) (by omega : 1 + q ≤ 16)) (by omega)
  have hn1 : 1 ≤ n := by rw [hn]; exact Nat.mul_pos (by omega) (by omega)
  have en : wrap64 ((1 + (p : Int)) * (1 + (q : Int))) = (n : Int) := by
    have : ((1 + (p : Int)) * (1 + (q : Int))) = (n : Int) := by rw [hn]; simp
    rw [this]; exact IntWalk.wrap64_in _ ⟨by omega, by omega⟩
  have HN := Lib.hid hn
  clear hn
  have e1 : (if X < -5000 then -5000 else X) = cl1 X := rfl
  have e2 : (if Y < -5000 then -5000 else Y) = cl1 Y := rfl
  have e3 : (if 5000 < cl1 X then 5000 else cl1 X) = clampI X := rfl
  have e4 : (if 5000 < cl1 Y then 5000 else cl1 Y) = clampI Y := rfl
  have hmk := make_f32 n (by omega)
  have hsf := fun (w : World) (a : Addr) (m : Mode) (k : FloatKind) (b : Nat) => run_store_float (P := Try.prog) (w := w) (a := a) (m := m) k b
  go_enter Try.func36, Try.ntmps36
  go_wp2
  clear en e1 e2 e3 e4 eW eH hmk
  go_loopw [43] (fun i wr => ∃ k : Nat, k ≤ n ∧ i = .int .i64 k ∧ FitRow wr (w.heap.size + 1 + 1) n k ∧ wr.heap[w.heap.size]? = some (fldO (clampI X) (clampI Y) (1 + p) (1 + q) (.slice a 0 cap)) ∧ wr.heap[w.heap.size + 1]? = some (fldO 0 0 0 0 (.slice none 0 0)) ∧ Below w.heap.size w wr) (fun i _ => n - (intOf i).toNat)
  case atStart =>
    refine ⟨0, Nat.zero_le _, rfl, ⟨madeCells #[Value.float .f32 0] n, ?_, size_madeCells _ _, fun j hj => ⟨0, made_f32 n j hj, by omega, fun c => by omega⟩⟩, ?_, ?_, (by repeat (first | exact Below.refl _ _ | refine Below.alloc ?_ (by first | omega | (simp; done) | (simp; omega)) _ | refine Below.setCell ?_ (by first | omega | (simp; done) | (simp; omega)) _ | refine Below.drew ?_))⟩
    · simp only [heap_alloc_get, heap_size_alloc]; simp <;> omega
    · simp only [heap_alloc_get, heap_size_alloc]; simp <;> omega
    · simp only [heap_alloc_get, heap_size_alloc]; simp <;> omega
  case round =>
    obtain ⟨k, hk, rfl, hrow, hbox, hres, hbel⟩ := hrel
    have HR := Lib.hid hrow
    have HB := Lib.hid hbox
    have HS := Lib.hid hres
    obtain ⟨cB, fB, zB⟩ := blkC hbox
    clear hrow hbox hres
    by_cases hlt : k < n
    · obtain ⟨x, C2, hx, _⟩ := fit_cell HR.out k hlt
      have hfr : wr.frozen? ⟨w.heap.size + 1 + 1, k, none⟩ = false := by
        obtain ⟨cs, h1, _⟩ := HR.out
        exact (blkC h1).2.1 k
      have R2 := HR
      have B2 := HB
      have S2 := HS
      have L2 := hbel
      obtain ⟨w2, rfl⟩ : ∃ w2, w2 = wr := ⟨_, rfl⟩
      clear HR HB HS hbel hfr
      have HX := Lib.hid hx
      have z2 : w.heap.size + 1 + 1 < w2.heap.size := R2.out.lt
      have f2 := R2.out.free k
      cases hh : hgtB x with
      | true =>
        have HG := Lib.hid hh
        clear hh
        have HT := Lib.hid (fun w => refHeight_one x hx w)
        rw [fldE_one_ok HG.out] at HT
        clear hx
        go_wp2_with (go_at_call 85; refine (HT.out _).mono ?_; rintro e w' ⟨rfl, rfl⟩)
        go_roundw
        case rel =>
          exact ⟨k + 1, by omega, by go_num, (fit_up R2.out C2 HG.out).congr (heap_alloc_old _ _ (by omega)), (heap_alloc_old _ _ (by omega)).trans B2.out, (heap_alloc_old _ _ (by omega)).trans S2.out, L2.alloc (by omega) _⟩
        case measure => simp [intOf]; omega
      | false =>
        have HG := Lib.hid hh
        clear hh
        have HT := Lib.hid (fun w => refHeight_one x hx w)
        clear hx
        have hk256 : k ≤ 256 := by omega
        rcases fldE_one_no HG.out with e | e
        all_goals
          rw [e] at HT
          clear e
          go_wp2_with (go_at_call 85; refine (HT.out _).mono ?_; rintro e w' ⟨rfl, rfl⟩)
          go_roundw
          case rel =>
            have sz : ∀ u, (w2.setCell ⟨w.heap.size + 1 + 1, k, none⟩ u).heap.size = w2.heap.size := fun u => by simp
            exact ⟨k + 1, by omega, by go_num, (fit_keep R2.out hlt (floatOfInt_lt _) (floatOfInt_small k hk256)).congr (heap_alloc_old _ _ (by rw [sz]; omega)), (heap_alloc_old _ _ (by rw [sz]; omega)).trans ((Below.heap_setCell _ _ _ _ (show w.heap.size ≠ w.heap.size + 1 + 1 by omega)).trans B2.out), (heap_alloc_old _ _ (by rw [sz]; omega)).trans ((Below.heap_setCell _ _ _ _ (show w.heap.size + 1 ≠ w.heap.size + 1 + 1 by omega)).trans S2.out), (L2.setCell (p := ⟨w.heap.size + 1 + 1, k, none⟩) (show w.heap.size ≤ w.heap.size + 1 + 1 by omega) _).alloc (by rw [sz]; omega) _⟩
          case measure => simp [intOf]; omega
    · obtain ⟨cS, fS, zS⟩ := blkC HS.out
      go_wp2
      have hkn : k = n := by omega
      refine bodyPost_ret (v := fldV (clampI X) (clampI Y) (1 + p) (1 + q) (.slice (some ⟨w.heap.size + 1 + 1, 0, none⟩) n n)) (by simp [results, Try.results36, go_sem, cS]) rfl ?_
      obtain ⟨c1, c2⟩ := clampI_le X
      obtain ⟨c3, c4⟩ := clampI_le Y
      refine ⟨_, _, _, _, _, _, rfl, c1, c2, c3, c4, by omega, by omega, by omega, by omega, ?_, hn1, hn2, by omega, ?_, ?_⟩
      · rw [HN.out]; simp
      · subst hkn
        exact HR.out.congr (fit_six wr _ _ _ _ _ _ _)
      · exact (((((hbel.setCell (p := ⟨w.heap.size, 4, none⟩) (Nat.le_refl _) _).setCell (p := ⟨w.heap.size + 1, 0, none⟩) (Nat.le_succ _) _).setCell (p := ⟨w.heap.size + 1, 1, none⟩) (Nat.le_succ _) _).setCell (p := ⟨w.heap.size + 1, 2, none⟩) (Nat.le_succ _) _).setCell (p := ⟨w.heap.size + 1, 3, none⟩) (Nat.le_succ _) _).setCell (p := ⟨w.heap.size + 1, 4, none⟩) (Nat.le_succ _) _

end Go.Proofs.Ytkcehbnmcdppkaa

/- Contract: byCell, whatever function it is given. -/
namespace Go.Proofs.Ytkcehbnmcdppkaa
open Go.RowKit Fl

/-- Block b has at least n singles; the first k are f. -/
def RowPart (wr : World) (b n k : Nat) (f : Nat → Nat) : Prop :=
  ∃ cs : Array Value, wr.heap[b]? = some (.cells cs 22 (0, 0)) ∧ n ≤ cs.size ∧ ∀ j, j < k → cs[j]? = some (.float .f32 (f j))
theorem RowPart.congr {w w' : World} {b n k : Nat} {f : Nat → Nat} (h : RowPart w b n k f) (e : w'.heap[b]? = w.heap[b]?) : RowPart w' b n k f := by
  obtain ⟨cs, h1, h2⟩ := h
  exact ⟨cs, by rw [e]; exact h1, h2⟩
theorem RowPart.lt {w : World} {b n k : Nat} {f : Nat → Nat} (h : RowPart w b n k f) : b < w.heap.size := by
  obtain ⟨cs, h1, _⟩ := h
  exact (blkC h1).2.2
theorem RowPart.free {w : World} {b n k : Nat} {f : Nat → Nat} (h : RowPart w b n k f) (j : Nat) : w.frozen? ⟨b, j, none⟩ = false := by
  obtain ⟨cs, h1, _⟩ := h
  exact (blkC h1).2.1 j
theorem RowPart.cell {w : World} {b n k : Nat} {f : Nat → Nat} (h : RowPart w b n k f) {j : Nat} (hj : j < n) : ∃ x, w.cell? ⟨b, j, none⟩ = some x := by
  obtain ⟨cs, h1, h2, _⟩ := h
  exact ⟨cs[j]'(by omega), by rw [(blkC h1).1 j, Array.getElem?_eq_getElem (by omega)]⟩
theorem RowPart.flAt {w : World} {b n k : Nat} {f : Nat → Nat} (h : RowPart w b n k f) : FlAt w b 0 k f := by
  intro i hi
  obtain ⟨cs, h1, h2, h3⟩ := h
  rw [Nat.zero_add, (blkC h1).1 i]
  exact h3 i hi
theorem RowPart.put {w : World} {b n k : Nat} {f : Nat → Nat} (h : RowPart w b n k f) (hk : k < n) : RowPart (w.setCell ⟨b, k, none⟩ (.float .f32 (f k))) b n (k + 1) f := by
  obtain ⟨cs, h1, h2, h3⟩ := h
  refine ⟨cs.setIfInBounds k (.float .f32 (f k)), heap_setCell_same w b k cs _ _ h1, by simp [h2], fun j hj => ?_⟩
  by_cases e : k = j
  · subst e; rw [Array.getElem?_setIfInBounds_self_of_lt (by omega)]
  · rw [Array.getElem?_setIfInBounds_ne e]; exact h3 j (by omega)

/-- A function of a cell's number, as a closure: in any world that has grown out of w it answers f, and leaves what was there. -/
def Clos1 (g : Nat) (caps : Array Value) (n : Nat) (f : Nat → Nat) (w : World) : Prop :=
  ∀ (i : Nat) (W : World), i < n → Below w.heap.size w W → Calls Try.prog g (#[.int .i64 i] ++ caps) W fun e W' => e = .returned (.float .f32 (f i)) ∧ Below W.heap.size W W'
def Enters (g : Nat) : Prop := ∀ (args : Array Value) (W : World), (callFunc g args).run Try.prog W = .ok (.enter g args) W

/-- A field that is made of f, or the error. -/
def MadePost (w : World) (X Y W H : Int) (n : Nat) (f : Nat → Nat) (e : Ending) (w' : World) : Prop :=
  (allB n (fun i => hgtB (f i)) = true ∧ ∃ b cap, e = .returned (.tuple #[fldV X Y W H (.slice (some ⟨b, 0, none⟩) n cap), .int .i64 0]) ∧ w.heap.size ≤ b ∧ b < w'.heap.size ∧ FlAt w' b 0 n f ∧ Below w.heap.size w w') ∨
  (allB n (fun i => hgtB (f i)) = false ∧ e = .returned (.tuple #[fldV 0 0 0 0 (.slice none 0 0), .int .i64 3]) ∧ Below w.heap.size w w')

/-- A field's five cells stored into block b. -/
abbrev set5 (wr : World) (b : Nat) (u1 u2 u3 u4 u5 : Value) : World :=
  ((((wr.setCell ⟨b, 0, none⟩ u1).setCell ⟨b, 1, none⟩ u2).setCell ⟨b, 2, none⟩ u3).setCell ⟨b, 3, none⟩ u4).setCell ⟨b, 4, none⟩ u5
theorem set5_heap (wr : World) (b k : Nat) (u1 u2 u3 u4 u5 : Value) (h : k ≠ b) : (set5 wr b u1 u2 u3 u4 u5).heap[k]? = wr.heap[k]? := by
  rw [Below.heap_setCell _ _ _ _ h, Below.heap_setCell _ _ _ _ h, Below.heap_setCell _ _ _ _ h, Below.heap_setCell _ _ _ _ h, Below.heap_setCell _ _ _ _ h]
theorem set5_below {w wr : World} {B : Nat} (hb : Below B w wr) (b : Nat) (u1 u2 u3 u4 u5 : Value) (h : B ≤ b) : Below B w (set5 wr b u1 u2 u3 u4 u5) :=
  ((((hb.setCell (p := ⟨b, 0, none⟩) h u1).setCell (p := ⟨b, 1, none⟩) h u2).setCell (p := ⟨b, 2, none⟩) h u3).setCell (p := ⟨b, 3, none⟩) h u4).setCell (p := ⟨b, 4, none⟩) h u5
theorem set5_size (wr : World) (b : Nat) (u1 u2 u3 u4 u5 : Value) : (set5 wr b u1 u2 u3 u4 u5).heap.size = wr.heap.size := by simp [set5]

set_option maxHeartbeats 2000000 in
theorem byCell_any (X Y W H : Int) (n : Nat) (g : Nat) (caps : Array Value) (f : Nat → Nat) (w : World) (hcall : Enters g) (hcl : Clos1 g caps n f w) (hn : (n : Int) = W * H) (hn1 : 1 ≤ n) (hn2 : n ≤ 65536) :
    Calls Try.prog 172 #[reg X Y W H, .func (.func g) #[] caps] w (MadePost w X Y W H n f) := by
  have en : wrap64 (W * H) = (n : Int) := by rw [← hn]; exact IntWalk.wrap64_in _ ⟨by omega, by omega⟩
  have hmk := make_f32 n hn2
  have HCL := Lib.hid hcl
  unfold Enters at hcall
  clear hn hcl
  have hsf := fun (w : World) (a : Addr) (m : Mode) (k : FloatKind) (b : Nat) => run_store_float (P := Try.prog) (w := w) (a := a) (m := m) k b
  go_enter Try.func172, Try.ntmps172
  go_wp2
  clear en hmk
  go_loopw [17] (fun i wr => ∃ k : Nat, k ≤ n ∧ i = .int .i64 k ∧ RowPart wr (w.heap.size + 1 + 1) n k f ∧ wr.heap[w.heap.size]? = some (regObj X Y W H) ∧ wr.heap[w.heap.size + 1]? = some (fldO 0 0 0 0 (.slice none 0 0)) ∧ Below w.heap.size w wr) (fun i _ => n - (intOf i).toNat)
  case atStart =>
    refine ⟨0, Nat.zero_le _, rfl, ⟨madeCells #[Value.float .f32 0] n, ?_, by rw [size_madeCells]; exact Nat.le_refl _, fun j hj => by omega⟩, ?_, ?_, (by repeat (first | exact Below.refl _ _ | refine Below.alloc ?_ (by first | omega | (simp; done) | (simp; omega)) _ | refine Below.setCell ?_ (by first | omega | (simp; done) | (simp; omega)) _ | refine Below.drew ?_))⟩
    · simp only [heap_alloc_get, heap_size_alloc]; simp <;> omega
    · simp only [heap_alloc_get, heap_size_alloc]; simp <;> omega
    · simp only [heap_alloc_get, heap_size_alloc]; simp <;> omega
  case round =>
    obtain ⟨k, hk, rfl, hrow, hbox, hres, hbel⟩ := hrel
    have HR := Lib.hid hrow
    have HB := Lib.hid hbox
    have HS := Lib.hid hres
    clear hrow hbox hres
    by_cases hlt : k < n
    · have CC := Lib.hid (HCL.out k wr hlt hbel)
      go_wp2_with fail
      refine CC.out.mono ?_
      rintro e w2 ⟨rfl, hb2⟩
      have R2 := Lib.hid (HR.out.congr (hb2.block _ HR.out.lt))
      have B2 := Lib.hid (blkStay HB.out hb2)
      have S2 := Lib.hid (blkStay HS.out hb2)
      have L2 : Below w.heap.size w w2 := hbel.trans (hb2.mono hbel.size)
      have z2 := R2.out.lt
      have f2 := R2.out.free k
      obtain ⟨x0, hx0⟩ := R2.out.cell hlt
      clear hb2 CC HR HB HS hbel
      go_wp2
      go_roundw
      case rel =>
        exact ⟨k + 1, by omega, by go_num, R2.out.put hlt, (Below.heap_setCell _ _ _ _ (show w.heap.size ≠ w.heap.size + 1 + 1 by omega)).trans B2.out, (Below.heap_setCell _ _ _ _ (show w.heap.size + 1 ≠ w.heap.size + 1 + 1 by omega)).trans S2.out, L2.setCell (p := ⟨w.heap.size + 1 + 1, k, none⟩) (show w.heap.size ≤ w.heap.size + 1 + 1 by omega) _⟩
      case measure => simp [intOf]; omega
    · have hkn : k = n := by omega
      subst hkn
      obtain ⟨cB, fB, zB⟩ := blkC HB.out
      obtain ⟨cS, fS, zS⟩ := blkC HS.out
      have HF := HR.out.flAt
      have CH := Lib.hid (checkRange_row (w.heap.size + 1 + 1) 0 k k f (by omega) wr HF)
      clear HF
      cases hall : allB k (fun i => hgtB (f i)) with
      | true =>
        have e : hgtE k f = 0 := by unfold hgtE; rw [hall]; rfl
        rw [e] at CH
        clear e
        go_wp2_with (go_at_call 136; refine CH.out.mono ?_; rintro e w' ⟨rfl, rfl⟩)
        refine bodyPost_ret (v := .tuple #[fldV X Y W H (.slice (some ⟨w.heap.size + 1 + 1, 0, none⟩) k k), .int .i64 0]) (by simp [results, Try.results172, go_sem, cS]) rfl ?_
        exact .inl ⟨hall, w.heap.size + 1 + 1, k, rfl, by omega, by rw [set5_size]; exact HR.out.lt, (HR.out.congr (set5_heap wr (w.heap.size + 1) (w.heap.size + 1 + 1) _ _ _ _ _ (by omega))).flAt, set5_below hbel (w.heap.size + 1) _ _ _ _ _ (by omega)⟩
      | false =>
        have e : hgtE k f = 3 := by unfold hgtE; rw [hall]; rfl
        rw [e] at CH
        clear e
        go_wp2_with (go_at_call 136; refine CH.out.mono ?_; rintro e w' ⟨rfl, rfl⟩)
        refine bodyPost_ret (v := .tuple #[fldV 0 0 0 0 (.slice none 0 0), .int .i64 3]) (by simp [results, Try.results172, go_sem, cS]) rfl ?_
        exact .inr ⟨hall, rfl, set5_below hbel (w.heap.size + 1) _ _ _ _ _ (by omega)⟩

end Go.Proofs.Ytkcehbnmcdppkaa

/- Contract: the reference's made, whatever function it is given. -/
namespace Go.Proofs.Ytkcehbnmcdppkaa
open Go.RowKit Fl
set_option linter.unusedVariables false

def rowL (f : Nat → Nat) (k : Nat) : List Value := (List.range k).map fun i => Value.float .f32 (f i)
theorem rowL_succ (f : Nat → Nat) (k : Nat) : rowL f (k + 1) = rowL f k ++ [.float .f32 (f k)] := by simp [rowL, List.range_succ]
theorem ownsRow_below {w w' : World} {base : Nat} {e : TypeId} {size : Nat} {v : Value} {n : Nat} {xs : List Value} (h : w.ownsRow base e size v n xs) (hb : Below w.heap.size w w') : w'.ownsRow base e size v n xs := by
  obtain ⟨h1, h2⟩ := h
  refine ⟨h1, ?_⟩
  rcases h2 with h2 | ⟨g, cap, cur, hv, hg, hh, r⟩
  · exact .inl h2
  · exact .inr ⟨g, cap, cur, hv, hg, blkStay hh hb, r⟩
theorem ownsRow_far {w : World} {base : Nat} {e : TypeId} {size : Nat} {v : Value} {n : Nat} {xs : List Value} (h : w.ownsRow base e size v n xs) {b : Nat} (hb : b < base) : some b ≠ v.ownBlock := by
  rcases h.2 with ⟨rfl, _⟩ | ⟨g, cap, cur, rfl, hg, _⟩
  · simp [Value.ownBlock]
  · intro c
    have : b = g := by simpa [Value.ownBlock] using c
    omega
theorem ownsRow_flAt {w : World} {base b cap k : Nat} {f : Nat → Nat} (h : w.ownsRow base 22 1 (.slice (some ⟨b, 0, none⟩) k cap) k (rowL f k)) (hk : 0 < k) : FlAt w b 0 k f ∧ b < w.heap.size ∧ base ≤ b := by
  rcases h.2 with ⟨h0, _⟩ | ⟨g, cap', cur, hv, hg, hh, h1, h2, h3, h4⟩
  · cases h0
  · cases hv
    refine ⟨fun i hi => ?_, (blkC hh).2.2, hg⟩
    rw [Nat.zero_add, (blkC hh).1 i]
    have : (cur.toList.take (k * 1))[i]? = some (.float .f32 (f i)) := by rw [h4]; simp [rowL, hi]
    rw [List.getElem?_take, if_pos (by omega)] at this
    simpa using this

/-- A function of a cell's place, as a closure. -/
def Clos2 (g : Nat) (caps : Array Value) (X Y W H : Int) (f : Nat → Nat) (w : World) : Prop :=
  ∀ (x y : Int) (i : Nat) (W' : World), X ≤ x → x < X + W → Y ≤ y → y < Y + H → (i : Int) = (y - Y) * W + (x - X) → Below w.heap.size w W' →
    Calls Try.prog g (#[.int .i64 x, .int .i64 y] ++ caps) W' fun e W'' => e = .returned (.float .f32 (f i)) ∧ Below W'.heap.size W' W''

/-- What holds of the world at each head of made's loops, when k values have been made. -/
def MadeAt (w : World) (X Y W H : Int) (f : Nat → Nat) (k : Nat) (wr : World) : Prop :=
  ∃ ov, wr.ownsRow (w.heap.size + 1 + 1 + 1) 22 1 ov k (rowL f k) ∧ wr.heap[w.heap.size]? = some (regObj X Y W H) ∧ wr.heap[w.heap.size + 1]? = some (fldO 0 0 0 0 (.slice none 0 0)) ∧
    wr.heap[w.heap.size + 1 + 1]? = some (fldO X Y W H ov) ∧ Below w.heap.size w wr

theorem flAt_congr {w w' : World} {b off n : Nat} {f : Nat → Nat} (h : FlAt w b off n f) (e : w'.heap[b]? = w.heap[b]?) : FlAt w' b off n f := fun i hi => by
  rw [← h i hi]; exact World.cell?_of_block (w := w) (a := ⟨b, off + i, none⟩) e

theorem made_step {w wr w2 w3 : World} {X Y W H : Int} {f : Nat → Nat} {k gg cap : Nat} {ov : Value} {o : Obj}
    (HO : wr.ownsRow (w.heap.size + 1 + 1 + 1) 22 1 ov k (rowL f k)) (HB : wr.heap[w.heap.size]? = some (regObj X Y W H)) (HS : wr.heap[w.heap.size + 1]? = some (fldO 0 0 0 0 (.slice none 0 0)))
    (HV : wr.heap[w.heap.size + 1 + 1]? = some (fldO X Y W H ov)) (hbel : Below w.heap.size w wr) (hb2 : Below wr.heap.size wr w2) (hgrow : (w2.alloc o).grownBy w3 ov.ownBlock)
    (hown3 : w3.ownsRow (w.heap.size + 1 + 1 + 1) 22 1 (.slice (some ⟨gg, 0, none⟩) (k + 1) cap) (k + 1) (rowL f k ++ [.float .f32 (f k)])) :
    MadeAt w X Y W H f (k + 1) (w3.setCell ⟨w.heap.size + 1 + 1, 4, none⟩ (.slice (some ⟨gg, 0, none⟩) (k + 1) cap)) := by
  have go : ∀ b o', wr.heap[b]? = some o' → b < w.heap.size + 1 + 1 + 1 → w3.heap[b]? = some o' := by
    intro b o' h hb
    have h2 := blkStay h hb2
    have hlt : b < w2.heap.size := by
      rcases Nat.lt_or_ge b w2.heap.size with x | x
      · exact x
      · rw [Array.getElem?_eq_none x] at h2; cases h2
    rw [hgrow.block b (by rw [heap_size_alloc]; omega) (ownsRow_far HO hb), heap_alloc_old _ _ hlt, h2]
  refine ⟨.slice (some ⟨gg, 0, none⟩) (k + 1) cap, ?_, ?_, ?_, ?_, ?_⟩
  · rw [rowL_succ]; exact ownsRow_setCell_below hown3 (show w.heap.size + 1 + 1 < w.heap.size + 1 + 1 + 1 by omega) _
  · exact (Below.heap_setCell _ _ _ _ (show w.heap.size ≠ w.heap.size + 1 + 1 by omega)).trans (go _ _ HB (by omega))
  · exact (Below.heap_setCell _ _ _ _ (show w.heap.size + 1 ≠ w.heap.size + 1 + 1 by omega)).trans (go _ _ HS (by omega))
  · rw [heap_setCell_same w3 (w.heap.size + 1 + 1) 4 _ _ _ (go _ _ HV (by omega))]; rfl
  · have h2 : Below w.heap.size w w2 := hbel.trans (hb2.mono hbel.size)
    have h3 := (h2.alloc h2.size o).grown hgrow (by rw [heap_size_alloc]; have := h2.size; omega) (fun b hb => by
      rcases HO.2 with ⟨rfl, _⟩ | ⟨g, _, _, rfl, hg, _⟩
      · cases hb
      · have : b = g := by simpa [Value.ownBlock] using hb.symm
        omega)
    exact h3.setCell (p := ⟨w.heap.size + 1 + 1, 4, none⟩) (show w.heap.size ≤ w.heap.size + 1 + 1 by omega) _

set_option maxRecDepth 100000 in
set_option maxHeartbeats 4000000 in
theorem made_any (X Y : Int) (W H n : Nat) (g : Nat) (caps : Array Value) (f : Nat → Nat) (w : World) (hcall : Enters g) (hcl : Clos2 g caps X Y W H f w) (hwf : wf32 n f) (hX1 : -16777216 ≤ X) (hX2 : X ≤ 16777216) (hY1 : -16777216 ≤ Y) (hY2 : Y ≤ 16777216) (hW1 : 1 ≤ W) (hW2 : W ≤ 512) (hH1 : 1 ≤ H) (hH2 : H ≤ 512) (hn : n = H * W) :
    Calls Try.prog 92 #[reg X Y W H, .func (.func g) #[] caps] w (MadePost w X Y W H n f) := by
  have HCL := Lib.hid hcl
  have HWF := Lib.hid hwf
  unfold Enters at hcall
  have HN := Lib.hid hn
  have hinfo : (Try.prog.info? 22).map (fun i => (i.zero, i.size, i.bytes)) = some (some (.float .f32 0), 1, 4) := by kernel_rfl
  obtain ⟨i0, hi, hz0, hz1, hz2⟩ := info_parts hinfo
  clear hcl hn hinfo hwf
  go_enter Try.func92, Try.ntmps92
  go_wp2
  go_loopw [7, 8] (fun y x wr => ∃ j : Nat, j ≤ H ∧ y = .int .i64 (Y + j) ∧ MadeAt w X Y W H f (j * W) wr) (fun y _ _ => (Y + H - intOf y).toNat)
  case atStart =>
    refine ⟨0, by omega, by simp, .slice none 0 0, ⟨by simp [rowL], .inl ⟨rfl, by simp⟩⟩, ?_, ?_, ?_, (by repeat (first | exact Below.refl _ _ | refine Below.alloc ?_ (by first | omega | (simp; done) | (simp; omega)) _ | refine Below.setCell ?_ (by first | omega | (simp; done) | (simp; omega)) _ | refine Below.drew ?_))⟩
    · simp only [heap_alloc_get, heap_size_alloc]; simp <;> omega
    · simp only [heap_alloc_get, heap_size_alloc]; simp <;> omega
    · simp only [heap_alloc_get, heap_size_alloc]; simp <;> omega
  case round =>
    obtain ⟨j, hj, rfl, hmade⟩ := hrel
    have HM := Lib.hid hmade
    obtain ⟨_, _, hbox, _⟩ := hmade
    obtain ⟨cB, fB, zB⟩ := blkC hbox
    clear hbox
    by_cases hlt : j < H
    · go_wp2
      clear cB fB zB
      obtain ⟨w1, rfl⟩ : ∃ w1, w1 = wr := ⟨_, rfl⟩
      go_loopw [8] (fun x wr => ∃ i : Nat, i ≤ W ∧ x = .int .i64 (X + i) ∧ MadeAt w X Y W H f (j * W + i) wr) (fun x _ => (X + W - intOf x).toNat)
      case atStart => exact ⟨0, by omega, by simp, HM.out⟩
      case round =>
        obtain ⟨i, hi1, rfl, hmi⟩ := hrel
        have HMi := Lib.hid hmi
        obtain ⟨ov, hown, hbox, hres, hout, hbel⟩ := hmi
        have HO := Lib.hid hown
        have HB := Lib.hid hbox
        have HS := Lib.hid hres
        have HV := Lib.hid hout
        obtain ⟨cB, fB, zB⟩ := blkC hbox
        obtain ⟨cV, fV, zV⟩ := blkC hout
        clear hbox hown hres hout
        by_cases hlt2 : i < W
        · have CC := Lib.hid (fun W' hb => HCL.out (X + i) (Y + j) (j * W + i) W' (by omega) (by omega) (by omega) (by omega) (by rw [show (Y + (j : Int) - Y) = j by omega, show (X + (i : Int) - X) = i by omega]; simp) hb)
          have hk : j * W + i < 262144 := by
            have : j * W ≤ 511 * 512 := Nat.mul_le_mul (by omega) hW2
            omega
          have hx : f (j * W + i) < 4294967296 := HWF.out _ (by
            rw [HN.out]
            have : (j + 1) * W ≤ H * W := Nat.mul_le_mul_right _ hlt
            rw [Nat.succ_mul] at this; omega)
          obtain ⟨k, hke⟩ : ∃ k, j * W + i = k := ⟨_, rfl⟩
          rw [hke] at CC hk hx HO
          have KE := Lib.hid (show j * W + (i + 1) = k + 1 by omega)
          clear hke
          have hrd : Below w.heap.size w wr.drew := hbel.drew
          have hb1 : k + 1 ≤ maxLen := by unfold maxLen; omega
          have hb2 : (k + 1) * 4 ≤ 140737488355328 := by omega
          have HB1 := Lib.hid hb1
          have HB2 := Lib.hid hb2
          clear hb1 hb2
          go_wp2_with fail
          go_region_law (first
            | (go_simp; (with_reducible refine (CC.out _ hrd).mono ?_); rintro e w2 ⟨rfl, hb2'⟩; have hb2 : Below wr.heap.size wr w2 := ⟨hb2'.os, hb2'.tape, hb2'.output, hb2'.size, hb2'.block⟩; have own2 := Lib.hid (ownsRow_below HO.out hb2); have out2 := Lib.hid (blkStay HV.out hb2); obtain ⟨cV2, fV2, zV2⟩ := blkC out2.out)
            | (refine step_append_lies _ (by rfl) _ _ _ (by rfl) (w.heap.size + 1 + 1 + 1) 22 i0 _ 1 4 Try.underlying39 hi hz0 hz1 hz2 rfl (by omega) ov k (rowL f k) (by rfl) (own2.out.alloc _) ⟨w2.heap.size, 0, none⟩ 1 1 [.float .f32 (f k)] (by rfl) (by rfl) (World.news_of_block (cs := #[.float .f32 (f k)]) (t := 22) (fr := (0, 0)) (heap_alloc_new w2 _)) (by simp [Value.oneCell']) (by omega) HB1.out HB2.out (by simp; omega) (w2.heap.size + 1) (by simp) ?_; intro gg cap w3 hown3 hgrow hat hlt3; have hF := ownsRow_far HO.out (show w.heap.size + 1 + 1 < w.heap.size + 1 + 1 + 1 by omega); have out3 := Lib.hid ((hgrow.block (w.heap.size + 1 + 1) (by rw [heap_size_alloc]; omega) hF).trans ((heap_alloc_old _ _ zV2).trans out2.out)); obtain ⟨cV3, fV3, zV3⟩ := blkC out3.out))
          all_goals
            have HM2 := Lib.hid (made_step HO.out HB.out HS.out HV.out hbel hb2 hgrow hown3)
            clear hown3 hgrow hat hlt3 hF cV3 fV3 zV3 cV2 fV2 zV2 cV fV zV
            go_wp2
            go_roundw
            case rel => exact ⟨i + 1, by omega, by go_num, by rw [KE.out]; exact HM2.out⟩
            case measure => simp [intOf]; omega
        · have hiW : i = W := by omega
          have HM3 : Hid (MadeAt w X Y W H f ((j + 1) * W) wr) := by
            have h := HMi.out
            rw [hiW, ← Nat.succ_mul] at h
            exact h
          have hge : ¬ X + (i : Int) < X + W := by omega
          clear hiW
          go_wp2
          go_roundw
          case rel => exact ⟨j + 1, by omega, by go_num, HM3.out⟩
          case measure => simp [intOf]; omega
    · have hjH : j = H := by omega
      have hn1 : 0 < n := by rw [HN.out]; exact Nat.mul_pos hH1 hW1
      have hn2 : n ≤ 262144 := by rw [HN.out]; exact Nat.le_trans (Nat.mul_le_mul hH2 hW2) (by omega)
      have hm := HM.out
      rw [hjH, ← HN.out] at hm
      obtain ⟨ov, hown, hbox, hres, hout, hbel⟩ := hm
      obtain ⟨gb, cap, rfl, hgb, _⟩ := hown.form hn1
      obtain ⟨hfl, hgl, _⟩ := ownsRow_flAt hown hn1
      obtain ⟨cV, fV, zV⟩ := blkC hout
      obtain ⟨cS, fS, zS⟩ := blkC hres
      have HF := Lib.hid hfl
      have OUT := Lib.hid (refOut_row gb 0 cap n f (by omega) wr hfl HWF.out)
      have HBL := Lib.hid hbel
      clear hjH hown hbox hres hout hfl hbel
      cases hall : allB n (fun i => hgtB (f i)) with
      | true =>
        have HA := Lib.hid hall
        rw [hall] at OUT
        clear hall
        go_wp2_with (go_at_call 146; refine OUT.out.mono ?_; rintro e w' ⟨rfl, rfl⟩)
        refine bodyPost_ret (v := .tuple #[fldV X Y W H (.slice (some ⟨gb, 0, none⟩) n cap), .int .i64 0]) (by simp [results, Try.results92, go_sem, cS]) rfl ?_
        exact .inl ⟨HA.out, gb, cap, rfl, by omega, by rw [set5_size]; exact hgl, flAt_congr HF.out (set5_heap wr (w.heap.size + 1) gb _ _ _ _ _ (by omega)), set5_below HBL.out (w.heap.size + 1) _ _ _ _ _ (by omega)⟩
      | false =>
        have HA := Lib.hid hall
        rw [hall] at OUT
        clear hall
        go_wp2_with (go_at_call 146; refine OUT.out.mono ?_; rintro e w' ⟨rfl, rfl⟩)
        refine bodyPost_ret (v := .tuple #[fldV 0 0 0 0 (.slice none 0 0), .int .i64 3]) (by simp [results, Try.results92, go_sem, cS]) rfl ?_
        exact .inr ⟨HA.out, rfl, set5_below HBL.out (w.heap.size + 1) _ _ _ _ _ (by omega)⟩

end Go.Proofs.Ytkcehbnmcdppkaa
