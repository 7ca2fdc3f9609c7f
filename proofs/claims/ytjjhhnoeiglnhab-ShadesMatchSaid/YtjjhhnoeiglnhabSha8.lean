/- The length of a direction; the reference's error of a direction. -/
import Derived.Test.YtjjhhnoeiglnhabSha7
namespace Go.Proofs.Ytjjhhnoeiglnhab
open Go.RowKit Fl
set_option linter.unusedVariables false

def sq3 (a b c : Int) : Int := a * a + b * b + c * c
def lenW (a b c : Int) : Nat := rootW (floatOfInt .f32 (sq3 a b c))
theorem sq_small {d : Int} (h : d.natAbs ≤ 1000) : 0 ≤ d * d ∧ d * d ≤ 1000000 := by
  rw [← Int.natAbs_mul_self' d]
  have l : d.natAbs * d.natAbs ≤ 1000 * 1000 := Nat.mul_le_mul h h
  have e : ((d.natAbs : Int) * (d.natAbs : Int)) = ((d.natAbs * d.natAbs : Nat) : Int) := by simp
  rw [e]; omega
theorem sq_pos {d : Int} (h : d ≠ 0) : 1 ≤ d * d := by
  rw [← Int.natAbs_mul_self' d]
  have : 0 < d.natAbs * d.natAbs := Nat.mul_pos (by omega) (by omega)
  have e : ((d.natAbs : Int) * (d.natAbs : Int)) = ((d.natAbs * d.natAbs : Nat) : Int) := by simp
  rw [e]; omega

theorem dir_ok {a b c : Int} (h : dirE a b c = 0) : a.natAbs ≤ 1000 ∧ b.natAbs ≤ 1000 ∧ c.natAbs ≤ 1000 ∧ 1 ≤ sq3 a b c := by
  unfold dirE at h
  split at h
  · rename_i q
    obtain ⟨q1, q2, q3⟩ := q
    have w1 := withinB_iff.1 q1
    have w2 := withinB_iff.1 q2
    have w3 := withinB_iff.1 q3
    have l1 : a.natAbs ≤ 1000 := by omega
    have l2 : b.natAbs ≤ 1000 := by omega
    have l3 : c.natAbs ≤ 1000 := by omega
    have s1 := sq_small l1
    have s2 := sq_small l2
    have s3 := sq_small l3
    refine ⟨l1, l2, l3, ?_⟩
    unfold sq3
    split at h
    · cases h
    · rename_i nz
      by_cases za : a = 0
      · by_cases zb : b = 0
        · have := sq_pos (show c ≠ 0 from fun z => nz ⟨za, zb, z⟩); omega
        · have := sq_pos zb; omega
      · have := sq_pos za; omega
  · cases h

theorem dir_len {a b c : Int} (l1 : a.natAbs ≤ 1000) (l2 : b.natAbs ≤ 1000) (l3 : c.natAbs ≤ 1000) (p : 1 ≤ sq3 a b c) : (∃ X Z cc, RootAt (floatOfInt .f32 (sq3 a b c)) (sq3 a b c * (one : Int)) X Z cc) ∧ LenOk (lenW a b c) := by
  have s1 := sq_small l1
  have s2 := sq_small l2
  have s3 := sq_small l3
  have hs : sq3 a b c ≤ 3000000 := by unfold sq3; omega
  have hp : (0 : Int) < (one : Int) := Int.natCast_pos.2 one_pos
  obtain ⟨vn, bn⟩ := int_val (n := sq3 a b c) (by omega)
  obtain ⟨X, Z, cc, RT⟩ := root_parts vn (Int.mul_nonneg (by omega) (by omega)) bn (by omega)
  refine ⟨⟨X, Z, cc, RT⟩, cc, RT.val, ?_⟩
  have := RT.lo 1 (by omega) (by
    have := Int.mul_le_mul_of_nonneg_right p (show (0 : Int) ≤ (one : Int) by omega)
    simpa using this)
  simpa using this

set_option maxHeartbeats 2000000 in
theorem length_any (a b c : Int) (k : Nat) (w : World) (h : w.heap[k]? = some (dirObj a b c)) (l1 : a.natAbs ≤ 1000) (l2 : b.natAbs ≤ 1000) (l3 : c.natAbs ≤ 1000) (p : 1 ≤ sq3 a b c) :
    Calls Try.prog 98 #[.slice (some ⟨k, 0, none⟩) 3 3] w fun e w' => e = .returned (.float .f32 (lenW a b c)) ∧ w = w' := by
  obtain ⟨⟨X, Z, cc, RT⟩, _⟩ := dir_len l1 l2 l3 p
  have s1 := sq_small l1
  have s2 := sq_small l2
  have s3 := sq_small l3
  have RO := Lib.hid (fun w => root_any RT w)
  unfold lenW
  generalize rootW (floatOfInt .f32 (sq3 a b c)) = M at *
  obtain ⟨A, hA⟩ : ∃ A, a * a = A := ⟨_, rfl⟩
  obtain ⟨B, hB⟩ : ∃ B, b * b = B := ⟨_, rfl⟩
  obtain ⟨C, hC⟩ : ∃ C, c * c = C := ⟨_, rfl⟩
  have u1 : wrap64 (a * a) = A := by rw [← hA]; exact IntWalk.wrap64_in _ ⟨by omega, by omega⟩
  have u2 : wrap64 (b * b) = B := by rw [← hB]; exact IntWalk.wrap64_in _ ⟨by omega, by omega⟩
  have u3 : wrap64 (c * c) = C := by rw [← hC]; exact IntWalk.wrap64_in _ ⟨by omega, by omega⟩
  have e : sq3 a b c = A + B + C := by unfold sq3; rw [hA, hB, hC]
  rw [e] at RO
  rw [hA] at s1
  rw [hB] at s2
  rw [hC] at s3
  obtain ⟨cB, fB, zB⟩ := blkC h
  clear hA hB hC e p l1 l2 l3 RT h
  go_enter Try.func98, Try.ntmps98
  go_wp2
  go_loop [3, 8] (fun s i => (i = .int .i64 0 ∧ s = .int .i64 0) ∨ (i = .int .i64 1 ∧ s = .int .i64 A) ∨ (i = .int .i64 2 ∧ s = .int .i64 (A + B)) ∨ (i = .int .i64 3 ∧ s = .int .i64 (A + B + C))) (fun s i => 3 - (intOf i).toNat)
  case atStart => exact .inl ⟨rfl, rfl⟩
  case round =>
    rcases hrel with ⟨rfl, rfl⟩ | ⟨rfl, rfl⟩ | ⟨rfl, rfl⟩ | ⟨rfl, rfl⟩
    · go_wp2
      go_round
      case rel => exact .inr (.inl ⟨rfl, by simp⟩)
      case measure => simp [intOf]
    · go_wp2
      go_round
      case rel => exact .inr (.inr (.inl ⟨rfl, rfl⟩))
      case measure => simp [intOf]
    · go_wp2
      go_round
      case rel => exact .inr (.inr (.inr ⟨rfl, rfl⟩))
      case measure => simp [intOf]
    · go_wp2_with (first | (go_at_call 163; refine (RO.out _).mono ?_; rintro e' w' ⟨rfl, rfl⟩))
      go_ret
      exact ⟨rfl, rfl⟩

set_option maxHeartbeats 400000 in
theorem lightIn_any (x : Int) (w : World) :
    Calls Try.prog 175 #[.int .i64 x] w fun e w' => e = .returned (.bool (withinB x (-1000) 1000)) ∧ w = w' := by
  go_enter Try.func175, Try.ntmps175
  go_wp2
  all_goals go_ret
  all_goals exact ⟨ret_bool (by rw [Bool.eq_iff_iff, withinB_iff]; simp; omega), rfl⟩

theorem enters_LightError1 : Enters 175 := by intro args W; simp [callFunc, Try.func175, Try.f175]

set_option maxHeartbeats 1000000 in
theorem lightError_any (a b c : Int) (w : World) :
    Calls Try.prog 101 #[.int .i64 a, .int .i64 b, .int .i64 c] w fun e w' => e = .returned (.int .i64 (dirE a b c)) ∧ w = w' := by
  have IA := Lib.hid (fun w => lightIn_any a w)
  have IB := Lib.hid (fun w => lightIn_any b w)
  have IC := Lib.hid (fun w => lightIn_any c w)
  have hcall := enters_LightError1
  unfold Enters at hcall
  unfold dirE
  generalize withinB a (-1000) 1000 = p at *
  generalize withinB b (-1000) 1000 = q at *
  generalize withinB c (-1000) 1000 = r at *
  cases p with
  | false =>
    rw [if_neg (by simp)]
    go_enter Try.func101, Try.ntmps101
    go_wp2_with (first | (with_reducible refine Calls.mono (IA.out _) ?_; rintro e' w' ⟨rfl, rfl⟩))
    go_ret
    exact ⟨rfl, rfl⟩
  | true =>
    cases q with
    | false =>
      rw [if_neg (by simp)]
      go_enter Try.func101, Try.ntmps101
      go_wp2_with (first | (with_reducible refine Calls.mono (IA.out _) ?_; rintro e' w' ⟨rfl, rfl⟩) | (with_reducible refine Calls.mono (IB.out _) ?_; rintro e' w' ⟨rfl, rfl⟩))
      go_ret
      exact ⟨rfl, rfl⟩
    | true =>
      cases r with
      | false =>
        rw [if_neg (by simp)]
        go_enter Try.func101, Try.ntmps101
        go_wp2_with (first | (with_reducible refine Calls.mono (IA.out _) ?_; rintro e' w' ⟨rfl, rfl⟩) | (with_reducible refine Calls.mono (IB.out _) ?_; rintro e' w' ⟨rfl, rfl⟩) | (with_reducible refine Calls.mono (IC.out _) ?_; rintro e' w' ⟨rfl, rfl⟩))
        go_ret
        exact ⟨rfl, rfl⟩
      | true =>
        rw [if_pos (by simp)]
        go_enter Try.func101, Try.ntmps101
        go_wp2_with (first | (with_reducible refine Calls.mono (IA.out _) ?_; rintro e' w' ⟨rfl, rfl⟩) | (with_reducible refine Calls.mono (IB.out _) ?_; rintro e' w' ⟨rfl, rfl⟩) | (with_reducible refine Calls.mono (IC.out _) ?_; rintro e' w' ⟨rfl, rfl⟩))
        all_goals go_ret
        all_goals exact ⟨ret_int (by first | rfl | omega | (split <;> first | rfl | omega) | simp_all), rfl⟩
end Go.Proofs.Ytjjhhnoeiglnhab
