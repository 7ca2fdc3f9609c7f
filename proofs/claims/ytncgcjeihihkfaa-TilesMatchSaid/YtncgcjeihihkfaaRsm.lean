/- Contracts: Divide of the program, quotient of the reference; the share of a rest. -/
import Derived.Test.YtncgcjeihihkfaaMadeM
import Derived.Test.YtncgcjeihihkfaaDth
import Derived.Test.YtncgcjeihihkfaaGen
namespace Go.Proofs.Ytncgcjeihihkfaa
open Go.RowKit Fl
set_option linter.unusedVariables false

/-- The share of a rest, as a word. -/
def shW (r b : Int) : Nat := (floatBits .quo .f32 (floatOfInt .f32 r) (floatOfInt .f32 b)).getD 0
/-- int_val, up to 2 ^ 24 itself. -/
theorem int_val' {n : Int} (h : n.natAbs ≤ 16777216) : vS (Go.floatOfInt .f32 n) = some (n * (one : Int)) := by
  rcases Nat.lt_or_ge n.natAbs 16777216 with c | c
  · exact (int_val c).1
  · obtain ⟨j, hj⟩ : ∃ j : Nat, j = 1074 := ⟨_, rfl⟩
    have e : 2 ^ (25 + j) = 33554432 * one := by rw [one_pow hj, Nat.pow_add]
    have p := one_pos
    have hn : (n * (one : Int)).natAbs < 2 ^ (25 + j) := by
      rw [Int.natAbs_mul, Int.natAbs_natCast, e]
      exact Nat.mul_lt_mul_of_pos_right (by omega) p
    have v := vS_int hn (by omega)
    obtain ⟨t, ht⟩ : ∃ t, t = n / 2 := ⟨_, rfl⟩
    have ht2 : n = t * 2 := by omega
    rw [rdS_exact t (j + 1) (by omega) (by omega) (by rw [ht2, one_pow hj, Nat.pow_succ, Int.natCast_mul, Int.mul_assoc, Int.mul_comm 2]; rfl)] at v
    exact v
theorem sh_parts {r b : Int} (r0 : 0 ≤ r) (r1 : r < b) (b2 : b ≤ 16777216) : floatBits .quo .f32 (floatOfInt .f32 r) (floatOfInt .f32 b) = some (shW r b) ∧ Same2 .quo 0 (floatOfInt .f32 r) (floatOfInt .f32 b) ∧ Bd 1 (shW r b) := by
  obtain ⟨vr, _⟩ := int_val (n := r) (by omega)
  have vb := int_val' (n := b) (by omega)
  have hp := one_pos
  have hb : (b * (one : Int)) ≠ 0 := by
    have := Int.mul_pos (show 0 < b by omega) (Int.natCast_pos.2 hp); omega
  have S : Same2 .quo 0 (floatOfInt .f32 r) (floatOfInt .f32 b) := div_val vr vb hb (by omega) (by
    rw [Nat.pow_zero, Nat.mul_one, Int.natAbs_mul, Int.natAbs_mul, Int.natAbs_natCast]
    exact Nat.mul_le_mul_right _ (by omega))
  obtain ⟨_, _, _, s, _, _, _, _, e, bs⟩ := S.ex
  have hs : shW r b = s := by unfold shW; rw [e]; rfl
  rw [hs]
  exact ⟨e, S, bd_up bs (by omega)⟩

theorem tparts (a b : Int) (b1 : 1 ≤ b) : a = b * a.tdiv b + a.tmod b ∧ -b < a.tmod b ∧ a.tmod b < b := by
  have h := Int.mul_tdiv_add_tmod a b
  have n : (a.tmod b).natAbs = a.natAbs % b.natAbs := Int.natAbs_tmod a b
  have l := Nat.mod_lt a.natAbs (show 0 < b.natAbs by omega)
  exact ⟨by omega, by omega, by omega⟩

theorem tquo_bd {a b : Int} (b1 : 1 ≤ b) (a1 : -1099511627776 ≤ a) (a2 : a ≤ 1099511627776) : -1099511627776 ≤ a.tdiv b ∧ a.tdiv b ≤ 1099511627776 := by
  have n : (a.tdiv b).natAbs = a.natAbs / b.natAbs := Int.natAbs_tdiv a b
  have l := Nat.div_le_self a.natAbs b.natAbs
  omega

set_option maxHeartbeats 1000000 in
theorem divide_any (a b : Int) (w : World) (b1 : 1 ≤ b) (b2 : b ≤ 16777216) (a1 : -1099511627776 ≤ a) (a2 : a ≤ 1099511627776) :
    Calls Try.prog 54 #[.int .i64 a, .int .i64 b] w fun e w' => e = .returned (.tuple #[.int .i64 (a / b), .float .f32 (shW (a % b) b)]) ∧ Below w.heap.size w w' := by
  obtain ⟨h1, h2, h3⟩ := tparts a b b1
  obtain ⟨q1, q2⟩ := tquo_bd b1 a1 a2
  have hm0 := Int.emod_nonneg a (show b ≠ 0 by omega)
  have hm1 := Int.emod_lt_of_pos a (show 0 < b by omega)
  obtain ⟨e1, _, _⟩ := sh_parts hm0 hm1 b2
  have x1 := fun (W : World) => run_float_arith (P := Try.prog) W .quo 39 .f32 (floatOfInt .f32 (a % b)) (floatOfInt .f32 b) (shW (a % b) b) e1
  have w0 : ¬ (b = 0) := by omega
  obtain ⟨q, hq⟩ : ∃ q, a.tdiv b = q := ⟨_, rfl⟩
  obtain ⟨r, hr⟩ : ∃ r, a.tmod b = r := ⟨_, rfl⟩
  rw [hq, hr] at h1
  rw [hr] at h2 h3
  rw [hq] at q1 q2
  have u3 : IntKind.i64.wrap q = q := IntWalk.i64_in _ (by omega)
  by_cases c : r < 0
  · obtain ⟨d1, d2⟩ := (Int.ediv_emod_unique (a := a) (b := b) (q := q - 1) (r := r + b) (by omega)).2 ⟨by rw [Int.mul_sub]; omega, by omega, by omega⟩
    rw [d1, d2]
    rw [d2] at x1
    clear h1 hm0 hm1 e1 d1 d2
    go_enter Try.func54, Try.ntmps54
    go_wp2
    go_quiet (fail)
    go_wp2
    go_ret2
    exact ⟨rfl, below_drewN _ _⟩
  · obtain ⟨d1, d2⟩ := (Int.ediv_emod_unique (a := a) (b := b) (q := q) (r := r) (by omega)).2 ⟨by omega, by omega, by omega⟩
    rw [d1, d2]
    rw [d2] at x1
    have c' : 0 ≤ r := by omega
    clear h1 hm0 hm1 e1 d1 d2 c
    go_enter Try.func54, Try.ntmps54
    go_wp2
    go_quiet (fail)
    go_wp2
    go_ret2
    exact ⟨rfl, below_drewN _ _⟩

set_option maxHeartbeats 1000000 in
theorem quotient2_any (n num b : Int) (w : World) (b1 : 1 ≤ b) (b2 : b ≤ 16777216) (p1 : -1099511627776 ≤ n * num) (p2 : n * num ≤ 1099511627776) :
    Calls Try.prog 58 #[.int .i64 n, .int .i64 num, .int .i64 b] w fun e w' => e = .returned (.tuple #[.int .i64 (n * num / b), .int .i64 (n * num % b)]) ∧ w = w' := by
  obtain ⟨a, ha⟩ : ∃ a, n * num = a := ⟨_, rfl⟩
  have e1 : wrap64 (n * num) = a := by rw [← ha]; exact IntWalk.wrap64_in _ ⟨by omega, by omega⟩
  rw [ha] at p1 p2 ⊢
  obtain ⟨h1, h2, h3⟩ := tparts a b b1
  obtain ⟨q1, q2⟩ := tquo_bd b1 p1 p2
  have w0 : ¬ (b = 0) := by omega
  obtain ⟨q, hq⟩ : ∃ q, a.tdiv b = q := ⟨_, rfl⟩
  obtain ⟨r, hr⟩ : ∃ r, a.tmod b = r := ⟨_, rfl⟩
  rw [hq, hr] at h1
  rw [hr] at h2 h3
  rw [hq] at q1 q2
  have u4 : wrap64 q = q := IntWalk.wrap64_in _ ⟨by omega, by omega⟩
  clear ha
  by_cases c : r < 0
  · obtain ⟨d1, d2⟩ := (Int.ediv_emod_unique (a := a) (b := b) (q := q - 1) (r := r + b) (by omega)).2 ⟨by rw [Int.mul_sub]; omega, by omega, by omega⟩
    rw [d1, d2]
    have f1 : wrap64 ((q - 1) * b) = a - (r + b) := by
      rw [show (q - 1) * b = a - (r + b) by rw [Int.sub_mul, Int.mul_comm q]; omega]; exact IntWalk.wrap64_in _ ⟨by omega, by omega⟩
    clear h1 d1 d2
    go_enter Try.func58, Try.ntmps58
    go_wp2
    go_ret2
    exact ⟨by rw [show a - (a - (r + b)) = r + b by omega]; rfl, rfl⟩
  · obtain ⟨d1, d2⟩ := (Int.ediv_emod_unique (a := a) (b := b) (q := q) (r := r) (by omega)).2 ⟨by omega, by omega, by omega⟩
    rw [d1, d2]
    have c' : 0 ≤ r := by omega
    have f1 : wrap64 (q * b) = a - r := by
      rw [show q * b = a - r by rw [Int.mul_comm]; omega]; exact IntWalk.wrap64_in _ ⟨by omega, by omega⟩
    clear h1 d1 d2 c
    go_enter Try.func58, Try.ntmps58
    go_wp2
    go_ret2
    exact ⟨by rw [show a - (a - r) = r by omega]; rfl, rfl⟩

theorem quotient_any (n num b : Int) (w : World) (b1 : 1 ≤ b) (b2 : b ≤ 4096) (m1 : 1 ≤ num) (m2 : num ≤ 64) (n1 : -16777216 ≤ n) (n2 : n ≤ 16777216) :
    Calls Try.prog 58 #[.int .i64 n, .int .i64 num, .int .i64 b] w fun e w' => e = .returned (.tuple #[.int .i64 (n * num / b), .int .i64 (n * num % b)]) ∧ w = w' :=
  quotient2_any n num b w b1 (by omega)
    (by have := Int.mul_le_mul_of_nonneg_right n1 (show 0 ≤ num by omega); omega)
    (by have := Int.mul_le_mul_of_nonneg_right n2 (show 0 ≤ num by omega); omega)
end Go.Proofs.Ytncgcjeihihkfaa
