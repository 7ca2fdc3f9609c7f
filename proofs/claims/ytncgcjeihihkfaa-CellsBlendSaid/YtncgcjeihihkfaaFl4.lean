/- Sums and products of singles, reckoned as doubles and rounded to a single, are those of singles. -/
import Derived.Test.YtncgcjeihihkfaaFl3
namespace Go.Proofs.Ytncgcjeihihkfaa.Fl
open Ieee

theorem near_sum {m n d b N : Nat} (hm : m < 16777216) (hm' : 8388608 ≤ m) (hn : n < 16777216) (hN : N = m * 2 ^ d + n ∨ N + n = m * 2 ^ d) (hbig : 2 ^ 53 ≤ N) (hb : 925 ≤ b) :
    sRung (dVal (N * 2 ^ b)) = sRung (N * 2 ^ b) := by
  have hN0 : 0 < N := Nat.lt_of_lt_of_le (Nat.two_pow_pos 53) hbig
  have pd : 0 < 2 ^ d := Nat.two_pow_pos d
  have u1 : m * 2 ^ d ≤ 16777215 * 2 ^ d := Nat.mul_le_mul_right _ (by omega)
  have u2 : 8388608 * 2 ^ d ≤ m * 2 ^ d := Nat.mul_le_mul_right _ hm'
  have e53 : (2 : Nat) ^ 53 = 9007199254740992 := by decide
  rw [e53] at hbig
  have hd : 29 ≤ d := by
    rcases Nat.lt_or_ge d 29 with x | x
    · have : 2 ^ d ≤ 2 ^ 28 := Nat.pow_le_pow_right (by omega) (by omega)
      rw [show (2 : Nat) ^ 28 = 268435456 by decide] at this
      omega
    · exact x
  have p29 : 536870912 ≤ 2 ^ d := by
    have : 2 ^ 29 ≤ 2 ^ d := Nat.pow_le_pow_right (by omega) hd
    rwa [show (2 : Nat) ^ 29 = 536870912 by decide] at this
  have hlo : N.log2 ≥ d + 22 := by
    refine (Nat.le_log2 (by omega)).2 ?_
    rw [Nat.pow_add, show (2 : Nat) ^ 22 = 4194304 by decide]; omega
  have hhi : N.log2 < d + 24 := by
    refine (Nat.log2_lt (by omega)).2 ?_
    rw [Nat.pow_add, show (2 : Nat) ^ 24 = 16777216 by decide]; omega
  have h53 : 53 ≤ N.log2 := (Nat.le_log2 (by omega)).2 (by rw [e53]; exact hbig)
  obtain ⟨l, hl⟩ : ∃ l, N.log2 = l + 52 := ⟨N.log2 - 52, by omega⟩
  have hs : lastOf single 925 (N * 2 ^ b) = l + 29 + b := by unfold lastOf; rw [log2_mul_pow hN0, fbS]; omega
  have hdd : lastOf double 0 (N * 2 ^ b) = l + b := by unfold lastOf; rw [log2_mul_pow hN0, fbD]; omega
  -- m * 2 ^ d is a whole number c of units 2 ^ (l + 29)
  obtain ⟨c, hc⟩ : ∃ c, m * 2 ^ d = c * 2 ^ (l + 29) := by
    have : d = l + 29 ∨ d = l + 29 + 1 := by omega
    rcases this with e | e
    · exact ⟨m, by rw [e]⟩
    · exact ⟨m * 2, by rw [e, Nat.pow_succ]; simp only [Nat.mul_assoc, Nat.mul_comm 2]⟩
  refine dround _ fun q => ?_
  rw [hs, hdd]
  right
  have pb : 0 < 2 ^ b := Nat.two_pow_pos b
  have eu : 2 ^ (l + 29) = 536870912 * 2 ^ l := by rw [Nat.pow_add, show (2 : Nat) ^ 29 = 536870912 by decide, Nat.mul_comm]
  have hu : 2 ≤ 2 ^ l := by
    have : 2 ^ 1 ≤ 2 ^ l := Nat.pow_le_pow_right (by omega) (by omega)
    simpa using this
  have core : 2 * N + 2 ^ l < (2 * q + 1) * 2 ^ (l + 29) ∨ (2 * q + 1) * 2 ^ (l + 29) + 2 ^ l < 2 * N := by
    rw [eu] at hc ⊢
    generalize 2 ^ l = u at *
    have f1 : (2 * q + 1) * (536870912 * u) = 1073741824 * (q * u) + 536870912 * u := by
      rw [Nat.add_mul, Nat.one_mul, Nat.mul_assoc 2, Nat.mul_left_comm q]; omega
    have f2 : c * (536870912 * u) = 536870912 * (c * u) := Nat.mul_left_comm _ _ _
    rw [f1]
    rw [f2] at hc
    rcases Nat.lt_or_ge q c with x | x
    · have : (q + 1) * u ≤ c * u := Nat.mul_le_mul_right _ x
      rw [Nat.succ_mul] at this
      right; omega
    · have : c * u ≤ q * u := Nat.mul_le_mul_right _ x
      left; omega
  have g1 : 2 * (N * 2 ^ b) = (2 * N) * 2 ^ b := (Nat.mul_assoc _ _ _).symm
  have g2 : 2 ^ (l + b) = 2 ^ l * 2 ^ b := Nat.pow_add _ _ _
  have g3 : (2 * q + 1) * 2 ^ (l + 29 + b) = ((2 * q + 1) * 2 ^ (l + 29)) * 2 ^ b := by rw [Nat.pow_add 2 (l + 29) b, Nat.mul_assoc]
  rw [g1, g2, g3, ← Nat.add_mul, ← Nat.add_mul]
  rcases core with x | x
  · left; exact Nat.mul_lt_mul_of_pos_right x pb
  · right; exact Nat.mul_lt_mul_of_pos_right x pb

theorem exact_round {t j : Nat} (ht : t < 2 ^ 53) : sRung (dVal (t * 2 ^ j)) = sRung (t * 2 ^ j) := by
  show rungOf single 925 (rd double 0 (t * 2 ^ j)) = _
  rw [rd_exact double 0 t j (by rw [fbD]; exact ht) (by omega)]

/-- What a word of a single stands for. -/
structure Sgl (s : Bool) (m : Nat) (p : Int) : Prop where
  small : m < 16777216
  low : -149 ≤ p
  high : p ≤ 104
  norm : p = -149 ∨ 8388608 ≤ m

theorem read_single {x : Nat} {s : Bool} {m : Nat} {p : Int} (h : single.read x = .number s m p) : Sgl s m p := by
  unfold Format.read at h
  have b : single.binade = 8388608 := by decide
  have i : single.infRung = 2139095040 := by decide
  have l : single.leastPlace = -149 := by decide
  rw [b, i, l] at h
  simp only at h
  split at h
  · cases h; exact ⟨by omega, by omega, by omega, .inl rfl⟩
  · split at h
    · rename_i h1 h2
      cases h
      have : x % single.signWeight % 8388608 < 8388608 := Nat.mod_lt _ (by omega)
      have q : x % single.signWeight / 8388608 ≤ 254 := by omega
      exact ⟨by omega, by omega, by omega, .inr (by omega)⟩
    · split at h <;> cases h

/-- The value in units of 2 ^ -1074, with its sign. -/
def vOf (s : Bool) (m : Nat) (p : Int) : Int := signed s m (p + 1074).toNat

theorem signed_eq (s : Bool) (m j : Nat) : signed s m j = (if s then -1 else 1) * ((m * 2 ^ j : Nat) : Int) := by
  unfold signed; rw [Nat.shiftLeft_eq]; cases s <;> simp

theorem signed_scale (s : Bool) (m a b : Nat) : signed s m (a + b) = signed s m a * ((2 ^ b : Nat) : Int) := by
  rw [signed_eq, signed_eq, Nat.pow_add, ← Nat.mul_assoc]
  simp only [Int.natCast_mul, Int.mul_assoc]

/-- Sums, by the values. -/
theorem sum_val {s t : Bool} {m n : Nat} {i j : Int} (hi : -1074 ≤ i) (hj : -1074 ≤ j) :
    ∃ a b, Datum.sum (.number s m i) (.number t n j) = some (.number (if vOf s m i + vOf t n j = 0 then s && t else decide (vOf s m i + vOf t n j < 0)) a b) ∧ -1074 ≤ b ∧ a * 2 ^ (b + 1074).toNat = (vOf s m i + vOf t n j).natAbs := by
  have hV : vOf s m i + vOf t n j = (signed s m (i - min i j).toNat + signed t n (j - min i j).toNat) * ((2 ^ (min i j + 1074).toNat : Nat) : Int) := by
    unfold vOf
    rw [Int.add_mul, ← signed_scale, ← signed_scale]
    congr 2 <;> omega
  generalize hT : signed s m (i - min i j).toNat + signed t n (j - min i j).toNat = T at *
  have hp : (0 : Int) < ((2 ^ (min i j + 1074).toNat : Nat) : Int) := Int.natCast_pos.2 (Nat.two_pow_pos _)
  have z : vOf s m i + vOf t n j = 0 ↔ T = 0 := by
    rw [hV]
    constructor
    · intro h; rcases Int.mul_eq_zero.1 h with x | x
      · exact x
      · omega
    · intro h; rw [h, Int.zero_mul]
  have g : vOf s m i + vOf t n j < 0 ↔ T < 0 := by
    rw [hV]
    constructor
    · intro h
      by_cases x : T < 0
      · exact x
      · have := Int.mul_nonneg (Int.not_lt.1 x) (Int.le_of_lt hp); omega
    · intro h; exact Int.mul_neg_of_neg_of_pos h hp
  refine ⟨T.natAbs, min i j, ?_, by omega, ?_⟩
  · simp only [Datum.sum, hT]
    congr 2
    by_cases h : T = 0
    · rw [if_pos h, if_pos (z.2 h)]
    · rw [if_neg h, if_neg (fun c => h (z.1 c))]
      by_cases h' : T < 0
      · simp [h', g.2 h']
      · have : ¬ (vOf s m i + vOf t n j < 0) := fun c => h' (g.1 c)
        simp [h', this]
  · rw [hV, Int.natAbs_mul, Int.natAbs_natCast]

/-- The magnitude of a sum of singles rounds as a double and then as a single as it does at once. -/
theorem sum_round {s t : Bool} {m n : Nat} {i j : Int} (h1 : Sgl s m i) (h2 : Sgl t n j) : sRung (dVal (vOf s m i + vOf t n j).natAbs) = sRung (vOf s m i + vOf t n j).natAbs := by
  have key : ∀ {s t : Bool} {m n : Nat} {i j : Int}, Sgl s m i → Sgl t n j → j ≤ i → sRung (dVal (vOf s m i + vOf t n j).natAbs) = sRung (vOf s m i + vOf t n j).natAbs := by
    intro s t m n i j h1 h2 hij
    obtain ⟨d, hd⟩ : ∃ d : Nat, i = j + d := ⟨(i - j).toNat, by omega⟩
    have hb : 925 ≤ (j + 1074).toNat := by have := h2.low; omega
    have e : vOf s m i + vOf t n j = (signed s m d + signed t n 0) * ((2 ^ (j + 1074).toNat : Nat) : Int) := by
      unfold vOf
      rw [Int.add_mul, ← signed_scale, ← signed_scale]
      congr 2
      · have := h2.low; omega
      · omega
    rw [e, Int.natAbs_mul, Int.natAbs_natCast]
    generalize (j + 1074).toNat = b at *
    rcases Nat.lt_or_ge (signed s m d + signed t n 0).natAbs (2 ^ 53) with x | x
    · exact exact_round x
    · have hd0 : d ≠ 0 := by
        intro z; subst z
        rw [show (2 : Nat) ^ 53 = 9007199254740992 by decide] at x
        rw [signed_eq, signed_eq] at x
        have := h1.small; have := h2.small
        simp only [Nat.pow_zero, Nat.mul_one] at x
        cases s <;> cases t <;> simp at x <;> omega
      have hm : 8388608 ≤ m := by
        rcases h1.norm with y | y
        · have := h2.low; omega
        · exact y
      have hmd : 8388608 * 2 ≤ m * 2 ^ d := by
        have : 2 ^ 1 ≤ 2 ^ d := Nat.pow_le_pow_right (by omega) (by omega)
        exact Nat.mul_le_mul hm (by simpa using this)
      have hn := h2.small
      refine near_sum (d := d) h1.small hm hn ?_ x hb
      rw [signed_eq, signed_eq, Nat.pow_zero, Nat.mul_one]
      generalize m * 2 ^ d = P at *
      cases s <;> cases t <;> simp only [Bool.false_eq_true, if_false, if_true] <;> omega
  rcases Int.le_total j i with h | h
  · exact key h1 h2 h
  · rw [Int.add_comm]; exact key h2 h1 h

end Go.Proofs.Ytncgcjeihihkfaa.Fl
