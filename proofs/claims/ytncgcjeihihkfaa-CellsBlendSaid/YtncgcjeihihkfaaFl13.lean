/- Ease: t * t * (3 - 2 * t), each step rounded, lies from 0 to 1 where t does. -/
import Derived.Test.YtncgcjeihihkfaaFl12
namespace Go.Proofs.Ytncgcjeihihkfaa.Fl
open Ieee

theorem vS_form {x : Nat} {a : Int} (h : vS x = some a) : ∃ (t : Int) (j : Nat), t.natAbs < 16777216 ∧ 925 ≤ j ∧ a = t * ((2 ^ j : Nat) : Int) := by
  obtain ⟨s, m, p, e, rfl⟩ := vS_some h
  have g := read_single e
  have l := g.low
  have sm := g.small
  refine ⟨(if s then -1 else 1) * (m : Int), (p + 1074).toNat, ?_, by omega, ?_⟩
  · rw [Int.natAbs_mul, Int.natAbs_natCast]; cases s <;> simp <;> omega
  · unfold vOf; rw [signed_eq, Int.natCast_mul, Int.mul_assoc]

theorem rdS_self {x : Nat} {a : Int} (h : vS x = some a) : rdS a = a := by
  obtain ⟨t, j, ht, hj, e⟩ := vS_form h
  exact rdS_exact t j ht hj e
theorem rdS_dbl {x : Nat} {a : Int} (h : vS x = some a) : rdS (2 * a) = 2 * a := by
  obtain ⟨t, j, ht, hj, e⟩ := vS_form h
  refine rdS_exact t (j + 1) ht (by omega) ?_
  rw [e, Nat.pow_succ]; generalize (2 : Nat) ^ j = U; grind

theorem mul_unit {x y : Nat} {a b : Int} (ha : vS x = some a) (hb : vS y = some b) : ∃ c, a * b = c * (one : Int) := by
  obtain ⟨t, i, _, hi, rfl⟩ := vS_form ha
  obtain ⟨u, j, _, hj, rfl⟩ := vS_form hb
  obtain ⟨k, hk⟩ : ∃ k : Nat, i + j = k + 1074 := ⟨i + j - 1074, by omega⟩
  obtain ⟨O, hO⟩ : ∃ O : Nat, O = 1074 := ⟨_, rfl⟩
  refine ⟨t * u * ((2 ^ k : Nat) : Int), ?_⟩
  have e : ((2 ^ i : Nat) : Int) * ((2 ^ j : Nat) : Int) = ((2 ^ k : Nat) : Int) * (one : Int) := by
    rw [one_pow hO, ← Int.natCast_mul, ← Int.natCast_mul, ← Nat.pow_add, ← Nat.pow_add]
    exact congrArg (fun n : Nat => ((2 ^ n : Nat) : Int)) (by omega)
  generalize ((2 ^ i : Nat) : Int) = I at *
  generalize ((2 ^ j : Nat) : Int) = J at *
  generalize ((2 ^ k : Nat) : Int) = K at *
  generalize (one : Int) = N at *
  rw [Int.mul_assoc (t * u), ← e]
  grind

theorem rdS_nonneg {c : Int} (h : 0 ≤ c) : 0 ≤ rdS c := by have := rdS_mono h; rwa [rdS_zero] at this

theorem rdS_tie {j : Nat} (hj : 925 ≤ j) : rdS (((16777217 * 2 ^ j : Nat) : Int)) = ((16777216 * 2 ^ j : Nat) : Int) := by
  rw [rdS_nat]
  congr 1
  have e : (16777217 * 2 ^ j).log2 = 24 + j := by
    rw [log2_mul_pow (by omega)]; rw [show Nat.log2 16777217 = 24 by decide]
  have l : lastOf single 925 (16777217 * 2 ^ j) = j + 1 := by
    unfold lastOf; rw [e, fbS]; omega
  unfold rd
  rw [l]
  have pj : 0 < 2 ^ j := Nat.two_pow_pos j
  have q : rnq (16777217 * 2 ^ j) (2 ^ (j + 1)) = 8388608 := by
    refine rnq_eq (Nat.two_pow_pos _) ?_
    rw [Nat.pow_succ]
    generalize 2 ^ j = U at *
    exact ⟨by omega, by omega, by omega, by omega⟩
  rw [q, Nat.pow_succ]; omega

/-- Ease as words. -/
def easeW (t : Nat) : Nat := (Go.floatBits .mul .f32 ((Go.floatBits .mul .f32 t t).getD 0) ((Go.floatBits .sub .f32 1077936128 ((Go.floatBits .mul .f32 1073741824 t).getD 0)).getD 0)).getD 0

theorem bd_two : Bd 2 1073741824 := by
  obtain ⟨J, hJ⟩ : ∃ J : Nat, J = 1074 := ⟨_, rfl⟩
  exact bd_val' (j := 2 + J) vS_two (by omega) (by
    rw [one_pow hJ, Nat.pow_add, Int.natAbs_mul, Int.natAbs_natCast]
    exact Nat.mul_le_mul_right _ (by decide))
theorem bd_three : Bd 2 1077936128 := by
  obtain ⟨J, hJ⟩ : ∃ J : Nat, J = 1074 := ⟨_, rfl⟩
  exact bd_val' (j := 2 + J) vS_three (by omega) (by
    rw [one_pow hJ, Nat.pow_add, Int.natAbs_mul, Int.natAbs_natCast]
    exact Nat.mul_le_mul_right _ (by decide))
theorem bd_unit {t : Nat} {a : Int} (h : vS t = some a) (a0 : -(one : Int) ≤ a) (a1 : a ≤ (one : Int)) : Bd 0 t := by
  obtain ⟨J, hJ⟩ : ∃ J : Nat, J = 1074 := ⟨_, rfl⟩
  exact bd_val' (j := J) h (by omega) (by rw [one_pow hJ] at a1 a0; omega)

structure EaseAt (t p q r v : Nat) : Prop where
  p1 : Go.floatBits .mul .f32 t t = some p
  p2 : Same2 .mul 0 t t
  q1 : Go.floatBits .mul .f32 1073741824 t = some q
  q2 : Same2 .mul 2 1073741824 t
  r1 : Go.floatBits .sub .f32 1077936128 q = some r
  r2 : Same2 .sub 3 1077936128 q
  v1 : Go.floatBits .mul .f32 p r = some v
  v2 : Same2 .mul 3 p r
  w : easeW t = v

theorem ease_parts {t : Nat} (b : Bd 0 t) : ∃ p q r v, EaseAt t p q r v := by
  have p2 := mul_same (a := 0) (b := 0) (by omega) b b
  obtain ⟨_, _, _, p, _, _, _, _, p1, bp⟩ := p2.ex
  have q2 := mul_same (a := 2) (b := 0) (by omega) bd_two b
  obtain ⟨_, _, _, q, _, _, _, _, q1, bq⟩ := q2.ex
  have r2 := sub_same (k := 2) (by omega) bd_three bq
  obtain ⟨_, _, _, r, _, _, _, _, r1, br⟩ := r2.ex
  have v2 := mul_same (a := 0) (b := 3) (by omega) bp br
  obtain ⟨_, _, _, v, _, _, _, _, v1, bv⟩ := v2.ex
  refine ⟨p, q, r, v, p1, p2, q1, q2, r1, r2, v1, v2, ?_⟩
  unfold easeW
  rw [p1, q1]
  show (Go.floatBits .mul .f32 p ((Go.floatBits .sub .f32 1077936128 q).getD 0)).getD 0 = v
  rw [r1]
  show (Go.floatBits .mul .f32 p r).getD 0 = v
  rw [v1]; rfl

theorem one_lt {B : Nat} (h : 1074 < B) : one < 2 ^ B := by
  obtain ⟨J, hJ⟩ : ∃ J : Nat, J = 1074 := ⟨_, rfl⟩
  rw [one_pow hJ]; exact Nat.pow_lt_pow_right (by omega) (by omega)
theorem small_of {c : Int} {n B : Nat} (h0 : 0 ≤ c) (h1 : c ≤ (2 ^ n : Nat) * (one : Int)) (hB : 1074 + n < B) : c.natAbs < 2 ^ B := by
  have : one < 2 ^ (B - n) := one_lt (by omega)
  have e : 2 ^ B = 2 ^ n * 2 ^ (B - n) := by rw [← Nat.pow_add]; exact congrArg (2 ^ ·) (by omega)
  have := Nat.mul_lt_mul_of_pos_left this (Nat.two_pow_pos n)
  rw [e]
  have h2 : c ≤ ((2 ^ n * one : Nat) : Int) := by rw [Int.natCast_mul]; exact h1
  omega

theorem ease_in {t : Nat} {a : Int} (h : vS t = some a) (a0 : 0 ≤ a) (a1 : a ≤ (one : Int)) : ∃ c, vS (easeW t) = some c ∧ 0 ≤ c ∧ c ≤ (one : Int) := by
  obtain ⟨p, q, r, v, E⟩ := ease_parts (bd_unit h (by omega) a1)
  rw [E.w]
  obtain ⟨P, hP⟩ := mul_unit h h
  have hone : (0 : Int) < (one : Int) := Int.natCast_pos.2 one_pos
  have P0 : 0 ≤ P := by
    have := Int.mul_nonneg a0 a0
    rw [hP] at this
    exact Int.le_of_mul_le_mul_right (by rw [Int.zero_mul]; exact this) hone
  have P1 : P ≤ (one : Int) := by
    have := Int.mul_le_mul a1 a1 a0 (Int.le_of_lt hone)
    rw [hP] at this
    exact Int.le_of_mul_le_mul_right this hone
  obtain ⟨B, hB⟩ : ∃ B : Nat, B = 1100 := ⟨_, rfl⟩
  have vp := vS_mul (B := B) E.p1 h h hP (small_of (n := 0) P0 (by rw [Nat.pow_zero]; omega) (by omega)) (by omega)
  have vq := vS_mul (B := B) (c := 2 * a) E.q1 vS_two h (by grind) (small_of (n := 2) (by omega) (by show _ ≤ (4 : Int) * _; omega) (by omega)) (by omega)
  rw [rdS_dbl h] at vq
  have vr := vS_sub (B := B) E.r1 vS_three vq (small_of (n := 2) (by omega) (by show _ ≤ (4 : Int) * _; omega) (by omega)) (by omega)
  have pp0 := rdS_nonneg P0
  have r0 : 0 ≤ rdS (3 * (one : Int) - 2 * a) := rdS_nonneg (by omega)
  obtain ⟨c, hc⟩ := mul_unit vp vr
  have c0 : 0 ≤ c := by
    have := Int.mul_nonneg pp0 r0
    rw [hc] at this
    exact Int.le_of_mul_le_mul_right (by rw [Int.zero_mul]; exact this) hone
  obtain ⟨O, hO⟩ : ∃ O : Nat, O = 1072 := ⟨_, rfl⟩
  -- the bound of the last product
  have key : c ≤ 4 * (one : Int) ∧ rdS c ≤ (one : Int) := by
    rcases Int.le_total (2 * a) (one : Int) with d | d
    · have eV : (one : Int) = 4 * ((2 ^ O : Nat) : Int) := by rw [one_split (a := 2) (j := O) (by omega), Int.natCast_mul]; rfl
      generalize hV : ((2 ^ O : Nat) : Int) = V at *
      have PV : P ≤ V := by
        have h4 : (2 * a) * (2 * a) ≤ (one : Int) * (one : Int) := Int.mul_le_mul d d (by omega) (Int.le_of_lt hone)
        refine Int.le_of_mul_le_mul_right (a := (one : Int)) ?_ hone
        have e1 : (2 * a) * (2 * a) = 4 * (P * (one : Int)) := by rw [← hP]; grind
        have e2 : (one : Int) * (one : Int) = 4 * (V * (one : Int)) := by rw [← Int.mul_assoc, ← eV]
        omega
      have p1 : rdS P ≤ V := by
        have := rdS_mono PV
        rwa [rdS_exact (c := V) 1 O (by decide) (by omega) (by rw [hV, Int.one_mul])] at this
      have r1 : rdS (3 * (one : Int) - 2 * a) ≤ 3 * (one : Int) := by
        have := rdS_mono (show 3 * (one : Int) - 2 * a ≤ 3 * (one : Int) by omega)
        rwa [rdS_self vS_three] at this
      have hm := Int.mul_le_mul p1 r1 r0 (by omega)
      rw [hc] at hm
      have c1 : c ≤ 3 * V := Int.le_of_mul_le_mul_right (by rw [show 3 * V * (one : Int) = V * (3 * (one : Int)) by grind]; exact hm) hone
      refine ⟨by omega, ?_⟩
      have := rdS_mono (show c ≤ (one : Int) by omega)
      rwa [rdS_self vS_one] at this
    · obtain ⟨m, i, hm, hi, ha⟩ := vS_form h
      obtain ⟨j, hj⟩ : ∃ j : Nat, j = 1050 := ⟨_, rfl⟩
      have eU : (one : Int) = 16777216 * ((2 ^ j : Nat) : Int) := by rw [one_split (a := 24) (j := j) (by omega), Int.natCast_mul]; rfl
      have pj : (0 : Int) < ((2 ^ j : Nat) : Int) := Int.natCast_pos.2 (Nat.two_pow_pos _)
      have hij : j ≤ i := by
        rcases Nat.lt_or_ge i j with c' | c'
        · exfalso
          have e : ((2 ^ j : Nat) : Int) = ((2 ^ i : Nat) : Int) * ((2 ^ (j - i) : Nat) : Int) := by rw [← Int.natCast_mul, ← Nat.pow_add]; exact congrArg (fun n : Nat => ((2 ^ n : Nat) : Int)) (by omega)
          have two : (2 : Int) ≤ ((2 ^ (j - i) : Nat) : Int) := by
            have : 2 ^ 1 ≤ 2 ^ (j - i) := Nat.pow_le_pow_right (by omega) (by omega)
            omega
          have pi : (0 : Int) < ((2 ^ i : Nat) : Int) := Int.natCast_pos.2 (Nat.two_pow_pos _)
          have : 2 * ((2 ^ i : Nat) : Int) ≤ ((2 ^ j : Nat) : Int) := by rw [e, Int.mul_comm]; exact Int.mul_le_mul_of_nonneg_left two (Int.le_of_lt pi)
          have ml : m ≤ 16777215 := by omega
          have : m * ((2 ^ i : Nat) : Int) ≤ 16777215 * ((2 ^ i : Nat) : Int) := Int.mul_le_mul_of_nonneg_right ml (Int.le_of_lt pi)
          omega
        · exact c'
      obtain ⟨k, hk⟩ : ∃ k : Int, a = k * ((2 ^ j : Nat) : Int) := ⟨m * ((2 ^ (i - j) : Nat) : Int), by
        rw [ha, Int.mul_assoc, ← Int.natCast_mul, ← Nat.pow_add]; exact congrArg (fun n : Nat => m * ((2 ^ n : Nat) : Int)) (by omega)⟩
      have vtie := rdS_tie (j := j) (by omega)
      rw [Int.natCast_mul, Int.natCast_mul] at vtie
      have verr := fun (hlt : P.natAbs < 2 ^ (j + 24)) => rdS_err (c := P) (e := j) (by omega) hlt
      have hlt : P ≠ (one : Int) → P.natAbs < 2 ^ (j + 24) := by
        intro ne
        have : 2 ^ (j + 24) = one := by rw [one_split (a := 24) (j := j) (by omega), Nat.pow_add, Nat.mul_comm]
        rw [this]; omega
      have hr : rdS (3 * (one : Int) - 2 * a) = (50331648 - 2 * k) * ((2 ^ j : Nat) : Int) := by
        have k1 : 8388608 ≤ k := by
          refine Int.le_of_mul_le_mul_right (a := ((2 ^ j : Nat) : Int)) ?_ pj
          rw [← hk]; omega
        have k2 : k ≤ 16777216 := by
          refine Int.le_of_mul_le_mul_right (a := ((2 ^ j : Nat) : Int)) ?_ pj
          rw [← hk]; omega
        have e : 3 * (one : Int) - 2 * a = (50331648 - 2 * k) * ((2 ^ j : Nat) : Int) := by rw [eU, hk]; grind
        rw [e]
        rcases Int.lt_or_le 8388608 k with c' | c'
        · refine rdS_exact (25165824 - k) (j + 1) (by omega) (by omega) ?_
          rw [Nat.pow_succ, Int.natCast_mul]; grind
        · have : k = 8388608 := by omega
          subst this
          refine rdS_exact 1 (j + 25) (by decide) (by omega) ?_
          rw [Nat.pow_add, Int.natCast_mul, Int.one_mul, Int.mul_comm]; rfl
      rw [hr] at hc
      have k1 : 8388608 ≤ k := by
        refine Int.le_of_mul_le_mul_right (a := ((2 ^ j : Nat) : Int)) ?_ pj
        rw [← hk]; omega
      have k2 : k ≤ 16777216 := by
        refine Int.le_of_mul_le_mul_right (a := ((2 ^ j : Nat) : Int)) ?_ pj
        rw [← hk]; omega
      generalize hU : ((2 ^ j : Nat) : Int) = U at *
      have pb : 2 * rdS P ≤ 2 * P + U := by
        by_cases ne : P = (one : Int)
        · rw [ne, rdS_self vS_one]; omega
        · have := verr (hlt ne); omega
      generalize rdS P = R at *
      have b1 : c ≤ 16777217 * U := by
        have cc : (2 * R) * ((50331648 - 2 * k) * U) ≤ (2 * P + U) * ((50331648 - 2 * k) * U) := Int.mul_le_mul_of_nonneg_right pb (Int.mul_nonneg (by omega) (by omega))
        have e1 : (2 * R) * ((50331648 - 2 * k) * U) = 2 * (c * (16777216 * U)) := by rw [← eU, ← hc]; grind
        -- P in units of U
        have e2 : P * 16777216 = k * k * U := by
          refine Int.eq_of_mul_eq_mul_right (Int.ne_of_gt pj) ?_
          rw [Int.mul_assoc P, ← eU, ← hP, hk]; grind
        have id : k * k * (50331648 - 2 * k) = 16777216 * 16777216 * 16777216 - (16777216 - k) * (16777216 - k) * (16777216 + 2 * k) := by grind
        have nn : 0 ≤ (16777216 - k) * (16777216 - k) * (16777216 + 2 * k) := Int.mul_nonneg (Int.mul_nonneg (by omega) (by omega)) (by omega)
        have f1 : k * k * (50331648 - 2 * k) * U ≤ 16777216 * 16777216 * 16777216 * U := Int.mul_le_mul_of_nonneg_right (by omega) (by omega)
        have f2 : (50331648 - 2 * k) * U ≤ 33554432 * U := Int.mul_le_mul_of_nonneg_right (by omega) (by omega)
        have e3 : (2 * P + U) * ((50331648 - 2 * k) * U) * 16777216 = (2 * (k * k * (50331648 - 2 * k) * U) + 16777216 * ((50331648 - 2 * k) * U)) * U := by
          have : (2 * P + U) * ((50331648 - 2 * k) * U) * 16777216 = (2 * (P * 16777216) + 16777216 * U) * ((50331648 - 2 * k) * U) := by grind
          rw [this, e2]; grind
        have e4 : 2 * (c * (16777216 * U)) * 16777216 = (2 * 16777216 * 16777216 * c) * U := by grind
        have g : (2 * 16777216 * 16777216 * c) * U ≤ (2 * (k * k * (50331648 - 2 * k) * U) + 16777216 * ((50331648 - 2 * k) * U)) * U := by
          rw [← e3, ← e4]
          exact Int.mul_le_mul_of_nonneg_right (by rw [← e1]; exact cc) (by omega)
        have g' := Int.le_of_mul_le_mul_right g pj
        omega
      refine ⟨by omega, ?_⟩
      have := rdS_mono b1
      have e5 : ((16777217 : Nat) : Int) * U = 16777217 * U := rfl
      have e6 : ((16777216 : Nat) : Int) * U = 16777216 * U := rfl
      rw [e5, e6] at vtie
      omega
  have vv := vS_mul (B := B) E.v1 vp vr hc (small_of (n := 2) c0 (by show _ ≤ (4 : Int) * _; exact key.1) (by omega)) (by omega)
  exact ⟨_, vv, rdS_nonneg c0, key.2⟩

end Go.Proofs.Ytncgcjeihihkfaa.Fl
