/- Values of literals; the words of Unit and Signed: what Hash's upper bits come to. -/
import Derived.Test.YtncgcjeihihkfaaFl11
namespace Go.Proofs.Ytncgcjeihihkfaa.Fl
open Ieee

theorem vS_lit {x m t k j : Nat} {s : Bool} {p : Int} (h : single.read x = .number s m p) (hm : m = t * 2 ^ k) (hj : k + (p + 1074).toNat = j) : vS x = some ((if s then -1 else 1) * ((t * 2 ^ j : Nat) : Int)) := by
  rw [vS_num h]; unfold vOf; rw [signed_eq, hm, Nat.mul_assoc, ← Nat.pow_add, hj]

theorem one_split {a j : Nat} (h : a + j = 1074) : one = 2 ^ a * 2 ^ j := by
  rw [one_eq, ← Nat.pow_add]; exact congrArg (2 ^ ·) (by omega)
theorem one_pow {j : Nat} (h : j = 1074) : one = 2 ^ j := by rw [one_eq]; exact congrArg (2 ^ ·) (by omega)

theorem vS_one : vS 1065353216 = some (one : Int) := by
  have h : single.read 1065353216 = .number false 8388608 (-23) := by decide
  obtain ⟨j, hj⟩ : ∃ j : Nat, j = 1074 := ⟨_, rfl⟩
  rw [vS_lit (t := 1) (k := 23) (j := j) h (by decide) (by rw [hj]; decide), one_pow hj]; simp
theorem vS_mone : vS 3212836864 = some (-(one : Int)) := by
  have h : single.read 3212836864 = .number true 8388608 (-23) := by decide
  obtain ⟨j, hj⟩ : ∃ j : Nat, j = 1074 := ⟨_, rfl⟩
  rw [vS_lit (t := 1) (k := 23) (j := j) h (by decide) (by rw [hj]; decide), one_pow hj]; simp
theorem vS_two : vS 1073741824 = some (2 * (one : Int)) := by
  have h : single.read 1073741824 = .number false 8388608 (-22) := by decide
  obtain ⟨j, hj⟩ : ∃ j : Nat, j = 1074 := ⟨_, rfl⟩
  rw [vS_lit (t := 1) (k := 23) (j := j + 1) h (by decide) (by rw [hj]; decide), Nat.pow_succ, one_pow hj]; simp; omega
theorem vS_three : vS 1077936128 = some (3 * (one : Int)) := by
  have h : single.read 1077936128 = .number false 12582912 (-22) := by decide
  obtain ⟨j, hj⟩ : ∃ j : Nat, j = 1074 := ⟨_, rfl⟩
  rw [vS_lit (t := 3) (k := 22) (j := j) h (by decide) (by rw [hj]; decide), one_pow hj]; simp
theorem vS_zero : vS 0 = some 0 := by
  have h : single.read 0 = .number false 0 (-149) := by decide
  obtain ⟨j, hj⟩ : ∃ j : Nat, j = 925 := ⟨_, rfl⟩
  rw [vS_lit (t := 0) (k := 0) (j := j) h (by decide) (by rw [hj]; decide)]; simp
theorem vS_eps {j : Nat} (hj : j = 1050) : vS 864026624 = some ((2 ^ j : Nat) : Int) := by
  have h : single.read 864026624 = .number false 8388608 (-47) := by decide
  rw [vS_lit (t := 1) (k := 23) (j := j) h (by decide) (by rw [hj]; decide)]; simp

theorem bd_val {x k : Nat} {a : Int} (h : vS x = some a) (hb : a.natAbs ≤ 2 ^ (1074 + k)) : Bd k x := by
  obtain ⟨s, m, p, e, rfl⟩ := vS_some h
  refine ⟨s, m, p, e, ?_⟩
  unfold vOf at hb
  rw [signed_eq, Int.natAbs_mul, Int.natAbs_natCast] at hb
  cases s <;> simpa using hb
theorem val_bd {x k : Nat} (h : Bd k x) : ∃ a, vS x = some a ∧ a.natAbs ≤ 2 ^ (1074 + k) := by
  obtain ⟨s, m, p, e, hb⟩ := h
  refine ⟨_, vS_num e, ?_⟩
  unfold vOf
  rw [signed_eq, Int.natAbs_mul, Int.natAbs_natCast]
  cases s <;> simpa using hb

theorem bd_val' {x k j : Nat} {a : Int} (h : vS x = some a) (hj : j = 1074 + k) (hb : a.natAbs ≤ 2 ^ j) : Bd k x := by subst hj; exact bd_val h hb
theorem natAbs_lt_pow {a : Int} {B : Nat} {M : Int} (h1 : -M ≤ a) (h2 : a ≤ M) (h : M < ((2 ^ B : Nat) : Int)) : a.natAbs < 2 ^ B := by omega

/-- Unit of h as a word. -/
def unitW (h : Int) : Nat := (Go.floatBits .mul .f32 (Go.floatOfInt .f32 (h / 256)) 864026624).getD 0
/-- Signed of h as a word. -/
def sgnW (h : Int) : Nat := (Go.floatBits .sub .f32 ((Go.floatBits .mul .f32 (unitW h) 1073741824).getD 0) 1065353216).getD 0

theorem int_val {n : Int} (h : n.natAbs < 16777216) : vS (Go.floatOfInt .f32 n) = some (n * (one : Int)) ∧ Bd 24 (Go.floatOfInt .f32 n) := by
  obtain ⟨j, hj⟩ : ∃ j : Nat, j = 1074 := ⟨_, rfl⟩
  have e : 2 ^ (24 + j) = 16777216 * one := by rw [one_pow hj, Nat.pow_add]
  have hn : (n * (one : Int)).natAbs < 2 ^ (24 + j) := by
    rw [Int.natAbs_mul, Int.natAbs_natCast, e]
    exact Nat.mul_lt_mul_of_pos_right h one_pos
  have v := vS_int hn (by omega)
  rw [rdS_exact n j h (by omega) (by rw [one_pow hj])] at v
  exact ⟨v, bd_val' v (by omega) (Nat.le_of_lt hn)⟩

theorem unit_parts {h : Int} (h0 : 0 ≤ h) (h1 : h < 4294967296) :
    ∃ r, Go.floatBits .mul .f32 (Go.floatOfInt .f32 (h / 256)) 864026624 = some r ∧ Same2 .mul 24 (Go.floatOfInt .f32 (h / 256)) 864026624 ∧ r = unitW h := by
  obtain ⟨_, b⟩ := int_val (n := h / 256) (by omega)
  obtain ⟨j, hj⟩ : ∃ j : Nat, j = 1050 := ⟨_, rfl⟩
  have b2 : Bd 0 864026624 := bd_val' (j := 24 + j) (vS_eps hj) (by omega) (by rw [Int.natAbs_natCast]; exact Nat.pow_le_pow_right (by omega) (by omega))
  have S := mul_same (a := 24) (b := 0) (by omega) b b2
  obtain ⟨X, Y, Z, r, _, _, _, _, e, _⟩ := S.ex
  exact ⟨r, e, S, by unfold unitW; rw [e]; rfl⟩

theorem unit_val {h : Int} {j : Nat} (hj : j = 1050) (h0 : 0 ≤ h) (h1 : h < 4294967296) : vS (unitW h) = some (h / 256 * ((2 ^ j : Nat) : Int)) := by
  obtain ⟨r, e, S, rfl⟩ := unit_parts h0 h1
  obtain ⟨v, _⟩ := int_val (n := h / 256) (by omega)
  have hp : (0 : Int) < ((2 ^ j : Nat) : Int) := Int.natCast_pos.2 (Nat.two_pow_pos _)
  have eo : (2 : Nat) ^ (24 + j) = 16777216 * 2 ^ j := by rw [Nat.pow_add]
  have bd : (h / 256 * ((2 ^ j : Nat) : Int)).natAbs < 2 ^ (24 + j) := by
    rw [Int.natAbs_mul, Int.natAbs_natCast, eo]
    exact Nat.mul_lt_mul_of_pos_right (by omega) (Nat.two_pow_pos _)
  have m := vS_mul (c := h / 256 * ((2 ^ j : Nat) : Int)) e v (vS_eps hj) (by rw [Int.mul_assoc, Int.mul_assoc, Int.mul_comm (one : Int)]) bd (by omega)
  rwa [rdS_exact (h / 256) j (by omega) (by omega) rfl] at m

theorem sgn_parts {h : Int} (h0 : 0 ≤ h) (h1 : h < 4294967296) :
    ∃ p r, Go.floatBits .mul .f32 (unitW h) 1073741824 = some p ∧ Same2 .mul 2 (unitW h) 1073741824 ∧ Go.floatBits .sub .f32 p 1065353216 = some r ∧ Same2 .sub 3 p 1065353216 ∧ r = sgnW h := by
  obtain ⟨j, hj⟩ : ∃ j : Nat, j = 1050 := ⟨_, rfl⟩
  have u := unit_val hj h0 h1
  have b1 : Bd 0 (unitW h) := bd_val' (j := 24 + j) u (by omega) (by
    rw [Int.natAbs_mul, Int.natAbs_natCast, Nat.pow_add]
    exact Nat.mul_le_mul_right _ (by omega))
  obtain ⟨J, hJ⟩ : ∃ J : Nat, J = 1074 := ⟨_, rfl⟩
  have b2 : Bd 2 1073741824 := bd_val' (j := 2 + J) vS_two (by omega) (by
    rw [one_pow hJ, Nat.pow_add, Int.natAbs_mul, Int.natAbs_natCast]
    exact Nat.mul_le_mul_right _ (by decide))
  have b3 : Bd 2 1065353216 := bd_val' (j := 2 + J) vS_one (by omega) (by
    rw [one_pow hJ, Int.natAbs_natCast]; exact Nat.pow_le_pow_right (by omega) (by omega))
  have S := mul_same (a := 0) (b := 2) (by omega) b1 b2
  obtain ⟨X, Y, Z, p, _, _, _, _, e, bp⟩ := S.ex
  have T := sub_same (k := 2) (by omega) bp b3
  obtain ⟨X', Y', Z', r, _, _, _, _, e', _⟩ := T.ex
  exact ⟨p, r, e, S, e', T, by unfold sgnW; rw [e]; show r = (Go.floatBits .sub .f32 p 1065353216).getD 0; rw [e']; rfl⟩

theorem sgn_val {h : Int} {j : Nat} (hj : j = 1050) (h0 : 0 ≤ h) (h1 : h < 4294967296) : vS (sgnW h) = some ((2 * (h / 256) - 16777216) * ((2 ^ j : Nat) : Int)) := by
  obtain ⟨p, r, e, _, e', _, rfl⟩ := sgn_parts h0 h1
  have u := unit_val hj h0 h1
  have eo : one = 16777216 * 2 ^ j := by rw [one_split (a := 24) (j := j) (by omega)]
  obtain ⟨k, hk⟩ : ∃ k : Int, k = h / 256 := ⟨_, rfl⟩
  have k0 : 0 ≤ k := by omega
  have k1 : k < 16777216 := by omega
  rw [← hk] at u ⊢
  have ep : (2 : Nat) ^ (26 + j) = 67108864 * 2 ^ j := by rw [Nat.pow_add]
  have pj : 0 < 2 ^ j := Nat.two_pow_pos j
  have eJ : ((2 ^ (j + 1) : Nat) : Int) = 2 * ((2 ^ j : Nat) : Int) := by rw [Nat.pow_succ]; omega
  generalize hU : (2 ^ j : Nat) = U at *
  have hc : k * (U : Int) * (2 * (one : Int)) = 2 * k * (U : Int) * (one : Int) := by
    have G : ∀ a b c : Int, a * b * (2 * c) = 2 * a * b * c := fun a b c => by
      rw [Int.mul_left_comm, Int.mul_assoc 2 a b, Int.mul_assoc 2]
    exact G _ _ _
  have m := vS_mul (c := 2 * k * (U : Int)) e u vS_two hc (B := 26 + j) (by
      rw [ep, Int.natAbs_mul, Int.natAbs_natCast]
      exact Nat.mul_lt_mul_of_pos_right (by omega) pj) (by omega)
  rw [rdS_exact k (j + 1) (by omega) (by omega) (by rw [eJ, ← Int.mul_assoc, Int.mul_comm k 2])] at m
  have s := vS_sub e' m vS_one (B := 26 + j) (by
      rw [ep, eo]
      have a : (0 : Int) ≤ k * U := Int.mul_nonneg k0 (by omega)
      have b : k * U ≤ 16777216 * (U : Int) := Int.mul_le_mul_of_nonneg_right (by omega) (by omega)
      rw [Int.mul_assoc]
      omega) (by omega)
  have E : 2 * k * (U : Int) - ((one : Nat) : Int) = (2 * k - 16777216) * (U : Int) := by
    rw [eo, Int.sub_mul]; simp
  rw [E] at s
  have R : rdS ((2 * k - 16777216) * (U : Int)) = (2 * k - 16777216) * (U : Int) := by
    rcases Int.lt_or_le k 1 with c | c
    · have : k = 0 := by omega
      subst this
      refine rdS_exact (-1) (24 + j) (by decide) (by omega) ?_
      rw [Nat.pow_add, hU]; omega
    · exact rdS_exact (2 * k - 16777216) j (by omega) (by omega) (by rw [hU])
  rwa [R] at s

theorem unit_in {h : Int} (h0 : 0 ≤ h) (h1 : h < 4294967296) : ∃ a, vS (unitW h) = some a ∧ 0 ≤ a ∧ a < (one : Int) := by
  obtain ⟨j, hj⟩ : ∃ j : Nat, j = 1050 := ⟨_, rfl⟩
  have eo : one = 16777216 * 2 ^ j := by rw [one_split (a := 24) (j := j) (by omega)]
  have pj : 0 < 2 ^ j := Nat.two_pow_pos j
  refine ⟨_, unit_val hj h0 h1, Int.mul_nonneg (by omega) (by omega), ?_⟩
  rw [eo, Int.natCast_mul]
  exact Int.mul_lt_mul_of_pos_right (by omega) (Int.natCast_pos.2 pj)
theorem sgn_in {h : Int} (h0 : 0 ≤ h) (h1 : h < 4294967296) : ∃ a, vS (sgnW h) = some a ∧ -(one : Int) ≤ a ∧ a < (one : Int) := by
  obtain ⟨j, hj⟩ : ∃ j : Nat, j = 1050 := ⟨_, rfl⟩
  have eo : one = 16777216 * 2 ^ j := by rw [one_split (a := 24) (j := j) (by omega)]
  have pj : 0 < 2 ^ j := Nat.two_pow_pos j
  refine ⟨_, sgn_val hj h0 h1, ?_, ?_⟩
  · rw [eo, Int.natCast_mul, ← Int.neg_mul]
    exact Int.mul_le_mul_of_nonneg_right (by omega) (by omega)
  · rw [eo, Int.natCast_mul]
    exact Int.mul_lt_mul_of_pos_right (by omega) (Int.natCast_pos.2 pj)

end Go.Proofs.Ytncgcjeihihkfaa.Fl
