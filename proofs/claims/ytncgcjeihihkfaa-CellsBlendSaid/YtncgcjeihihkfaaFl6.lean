/- Products and quotients of singles, reckoned as doubles and turned into a single. -/
import Derived.Test.YtncgcjeihihkfaaFl5
namespace Go.Proofs.Ytncgcjeihihkfaa.Fl
open Ieee

theorem wordAt_zero (f : Format) (c : Nat) (sg : Bool) : wordAt f c sg 0 = f.word sg 0 := by unfold wordAt; rw [rungOf_zero, Nat.zero_min]
theorem nearest_zero (f : Format) (sg : Bool) (p : Int) : f.nearest sg 0 p = f.word sg 0 := by unfold Format.nearest; rw [if_pos rfl]
theorem pow_add_toNat {I J K L : Int} (h : I + J = K + L) (hI : 0 ≤ I) (hJ : 0 ≤ J) (hK : 0 ≤ K) (hL : 0 ≤ L) : 2 ^ I.toNat * 2 ^ J.toNat = 2 ^ K.toNat * 2 ^ L.toNat := by
  rw [← Nat.pow_add, ← Nat.pow_add]; congr 1; omega

theorem mul_same {a b x y : Nat} (hab : a + b ≤ 126) (hx : Bd a x) (hy : Bd b y) : Same2 .mul (a + b) x y := by
  obtain ⟨s, m, i, r1, b1⟩ := hx
  obtain ⟨t, n, j, r2, b2⟩ := hy
  obtain ⟨X, M, I, c1, c2, c3, c4, c5⟩ := toD r1
  obtain ⟨Y, N, J, d1, d2, d3, d4, d5⟩ := toD r2
  have g1 := read_single r1
  have g2 := read_single r2
  have l1 := g1.low
  have l2 := g2.low
  have s1 := g1.small
  have s2 := g2.small
  -- the magnitude in units
  obtain ⟨V, hV⟩ : ∃ V, V = (m * n) * 2 ^ (i + j + 1074).toNat := ⟨_, rfl⟩
  have hVD : double.nearest (s ^^ t) (M * N) (I + J) = wordAt double 0 (s ^^ t) V := by
    by_cases z : M = 0 ∨ N = 0
    · have zz : M * N = 0 := by rcases z with z | z <;> rw [z] <;> simp
      have z' : m = 0 ∨ n = 0 := by
        rcases z with z | z
        · left; rw [z, Nat.zero_mul] at c4
          rcases Nat.eq_zero_or_pos m with q | q
          · exact q
          · have := Nat.mul_pos q (Nat.two_pow_pos (i + 1074).toNat); omega
        · right; rw [z, Nat.zero_mul] at d4
          rcases Nat.eq_zero_or_pos n with q | q
          · exact q
          · have := Nat.mul_pos q (Nat.two_pow_pos (j + 1074).toNat); omega
      have v0 : V = 0 := by rw [hV]; rcases z' with z | z <;> rw [z] <;> simp
      rw [zz, v0, nearest_zero, wordAt_zero]
    · have k1 := c5 (fun h => z (.inl h))
      have k2 := d5 (fun h => z (.inr h))
      rw [nearest_val double _ (-1074) 0 leastD (M * N) (p := I + J) (by omega)]
      congr 1
      rw [hV]
      have e : (I + J - -1074).toNat = (I + J + 1074).toNat := by omega
      rw [e]
      -- both sides times 2 ^ 1074
      refine Nat.eq_of_mul_eq_mul_right (Nat.two_pow_pos (1074 : Int).toNat) ?_
      have p1 := pow_add_toNat (I := I + J + 1074) (J := 1074) (K := I + 1074) (L := J + 1074) (by omega) (by omega) (by omega) (by omega) (by omega)
      have p2 := pow_add_toNat (I := i + j + 1074) (J := 1074) (K := i + 1074) (L := j + 1074) (by omega) (by omega) (by omega) (by omega) (by omega)
      rw [Nat.mul_assoc (M * N), Nat.mul_assoc (m * n), p1, p2]
      calc M * N * (2 ^ (I + 1074).toNat * 2 ^ (J + 1074).toNat) = (M * 2 ^ (I + 1074).toNat) * (N * 2 ^ (J + 1074).toNat) := by simp only [Nat.mul_assoc, Nat.mul_left_comm]
        _ = (m * 2 ^ (i + 1074).toNat) * (n * 2 ^ (j + 1074).toNat) := by rw [c4, d4]
        _ = m * n * (2 ^ (i + 1074).toNat * 2 ^ (j + 1074).toNat) := by simp only [Nat.mul_assoc, Nat.mul_left_comm]
  have hVS : single.nearest (s ^^ t) (m * n) (i + j) = wordAt single 925 (s ^^ t) V := by
    rw [nearest_val single _ (-1074) 925 leastS (m * n) (p := i + j) (by omega), hV]
    congr 2
  have hr : sRung (dVal V) = sRung V := by
    rw [hV]
    refine exact_round ?_
    have : m * n ≤ 16777215 * 16777215 := Nat.mul_le_mul (by omega) (by omega)
    have : (2 : Nat) ^ 53 = 9007199254740992 := by decide
    omega
  have hB : V ≤ 2 ^ (1074 + (a + b)) := by
    refine Nat.le_of_mul_le_mul_right ?_ (Nat.two_pow_pos (1074 : Int).toNat)
    have p2 := pow_add_toNat (I := i + j + 1074) (J := 1074) (K := i + 1074) (L := j + 1074) (by omega) (by omega) (by omega) (by omega) (by omega)
    rw [hV, Nat.mul_assoc, p2]
    calc m * n * (2 ^ (i + 1074).toNat * 2 ^ (j + 1074).toNat) = (m * 2 ^ (i + 1074).toNat) * (n * 2 ^ (j + 1074).toNat) := by simp only [Nat.mul_assoc, Nat.mul_left_comm]
      _ ≤ 2 ^ (1074 + a) * 2 ^ (1074 + b) := Nat.mul_le_mul b1 b2
      _ = 2 ^ (1074 + (a + b)) * 2 ^ (1074 : Int).toNat := by rw [← Nat.pow_add, ← Nat.pow_add]; exact congrArg (2 ^ ·) (by omega)
  have hlt : V < 2 ^ (1074 + (a + b) + 1) := Nat.lt_of_le_of_lt hB (Nat.pow_lt_pow_right (by omega) (by omega))
  refine ⟨X, Y, wordAt double 0 (s ^^ t) V, wordAt single 925 (s ^^ t) V, c1, d1, ?_, back hlt (by omega) hr, ?_, bd_word hB (by omega)⟩
  · show ((double.read X).product (double.read Y)).map double.write = _
    rw [c2, d2]
    show some (double.nearest (s ^^ t) (M * N) (I + J)) = _
    rw [hVD]
  · show ((single.read x).product (single.read y)).map single.write = _
    rw [r1, r2]
    show some (single.nearest (s ^^ t) (m * n) (i + j)) = _
    rw [hVS]

end Go.Proofs.Ytncgcjeihihkfaa.Fl
