/- A whole single as an integer; magnitudes of singles. -/
import Derived.Test.YtaieokamfhpfbaaFl16
namespace Go.Proofs.Ytaieokamfhpfbaa.Fl
open Ieee

theorem cut_zero (s : Bool) (M k : Nat) : Toward.zero.cut s M k = M / 2 ^ k := by
  unfold Toward.cut
  simp only [Nat.one_shiftLeft]
  rcases Nat.le_total k (M.log2 + 2) with c | c
  · rw [Nat.min_eq_left c]; simp
  · rw [Nat.min_eq_right c]
    have h : M < 2 ^ (M.log2 + 2) := by
      rcases Nat.eq_zero_or_pos M with z | z
      · subst z; exact Nat.two_pow_pos _
      · exact Nat.lt_trans (Nat.lt_log2_self) (Nat.pow_lt_pow_right (by omega) (by omega))
    have h' : M < 2 ^ k := Nat.lt_of_lt_of_le h (Nat.pow_le_pow_right (by omega) c)
    rw [Nat.div_eq_of_lt h, Nat.div_eq_of_lt h']; simp

theorem integral_zero {s : Bool} {M : Nat} {I : Int} {A : Nat} (hI : -1074 ≤ I) (hA : M * 2 ^ (I + 1074).toNat = A) :
    (Datum.number s M I).integral .zero = .number s (A / one) 0 := by
  show Datum.number s (Toward.zero.cut s (M <<< I.toNat) (-I).toNat) 0 = _
  rw [cut_zero, Nat.shiftLeft_eq]
  congr 1
  obtain ⟨j, hj⟩ : ∃ j : Nat, j = 1074 := ⟨_, rfl⟩
  rcases Int.le_total 0 I with c | c
  · have e : (I + 1074).toNat = I.toNat + j := by omega
    rw [e, Nat.pow_add, ← Nat.mul_assoc] at hA
    rw [show (-I).toNat = 0 by omega, Nat.pow_zero, Nat.div_one, ← hA, one_pow hj, Nat.mul_div_cancel _ (Nat.two_pow_pos j)]
  · obtain ⟨k, hk⟩ : ∃ k : Nat, k = (-I).toNat := ⟨_, rfl⟩
    have eo : one = 2 ^ k * 2 ^ (I + 1074).toNat := one_split (by omega)
    have p : 0 < 2 ^ (I + 1074).toNat := Nat.two_pow_pos _
    rw [show I.toNat = 0 by omega, Nat.pow_zero, Nat.mul_one, ← hk, ← hA, eo, Nat.mul_div_mul_right _ _ p]

theorem toInt_whole {x : Nat} {g : Int} (h : vS x = some (g * (one : Int))) (hb : -1073741824 ≤ g) (hb' : g ≤ 1073741824) : Go.floatToIntVal .f32 x .i64 = some g := by
  obtain ⟨s, m, p, e, hv⟩ := vS_some h
  have lo := (read_single e).low
  obtain ⟨A, hA⟩ : ∃ A, m * 2 ^ (p + 1074).toNat = A := ⟨_, rfl⟩
  have hp : (0 : Int) < (one : Int) := Int.natCast_pos.2 one_pos
  have hs : g * (one : Int) = (if s then -1 else 1) * (A : Int) := by rw [← hv]; unfold vOf; rw [signed_eq, hA]
  have hAg : A = g.natAbs * one := by
    have := congrArg Int.natAbs hs
    rw [Int.natAbs_mul, Int.natAbs_mul, Int.natAbs_natCast, Int.natAbs_natCast] at this
    cases s <;> simpa using this.symm
  have hq : A / one = g.natAbs := by rw [hAg, Nat.mul_div_cancel _ one_pos]
  have hg : (if s then -1 else 1) * (g.natAbs : Int) = g := by
    refine Int.eq_of_mul_eq_mul_right (Int.ne_of_gt hp) ?_
    rw [hs, hAg, Int.natCast_mul, Int.mul_assoc]
  unfold Go.floatToIntVal
  have hd : Go.FloatKind.f32.decode x = .number s m p := e
  have ht : (Datum.number s m p).toInt .zero = some g := by
    unfold Datum.toInt
    rw [integral_zero (s := s) (by omega) hA, hq]
    show some (signed s g.natAbs 0) = some g
    rw [signed_eq, Nat.pow_zero, Nat.mul_one, hg]
  rw [hd, ht]
  have e1 : Go.IntKind.i64.min = -9223372036854775808 := by decide
  have e2 : Go.IntKind.i64.max = 9223372036854775807 := by decide
  simp only [e1, e2]
  rw [if_pos ⟨by omega, by omega⟩]

theorem flV_whole (a : Int) : ∃ g : Int, g = a / (one : Int) ∧ flV a = g * (one : Int) := ⟨_, rfl, rfl⟩

theorem abs_val {x : Nat} {a : Int} (h : vS x = some a) : vS (x % 2147483648) = some ((a.natAbs : Nat) : Int) := by
  obtain ⟨s, m, p, e, rfl⟩ := vS_some h
  have hr := read_abs single x
  rw [swS, e] at hr
  rw [vS_num hr]
  unfold vOf
  rw [signed_eq, signed_eq, Int.natAbs_mul, Int.natAbs_natCast]
  cases s <;> simp

end Go.Proofs.Ytaieokamfhpfbaa.Fl
