/- Plain arithmetic of rounding: no program in sight. 'rnq N M': N / M, rounded to the nearest whole number, between two to the even one; what Ieee.Format.nearest writes, said by it; rounding twice. -/
import Ieee.Arith
namespace Go.Proofs.Ytncgcjeihihkfaa.Fl
open Ieee

/-- N / M rounded to the nearest whole number, between two to the even one. -/
def rnq (N M : Nat) : Nat := N / M + if M < 2 * (N % M) ∨ (2 * (N % M) = M ∧ N / M % 2 = 1) then 1 else 0

structure Near (N M k : Nat) : Prop where
  low : 2 * (k * M) ≤ 2 * N + M
  high : 2 * N ≤ 2 * (k * M) + M
  lowTie : 2 * (k * M) = 2 * N + M → k % 2 = 0
  highTie : 2 * N = 2 * (k * M) + M → k % 2 = 0

theorem rnq_near {N M : Nat} (hM : 0 < M) : Near N M (rnq N M) := by
  have h := Nat.div_add_mod N M
  have hr := Nat.mod_lt N hM
  unfold rnq
  generalize N / M = q at *
  generalize N % M = r at *
  have hq : M * q = q * M := Nat.mul_comm _ _
  have hq1 : (q + 1) * M = q * M + M := Nat.succ_mul _ _
  split
  · rename_i c
    exact ⟨by omega, by omega, by omega, by omega⟩
  · rename_i c
    simp only [Nat.add_zero]
    exact ⟨by omega, by omega, by omega, by omega⟩

theorem near_unique {N M k k' : Nat} (hM : 0 < M) (h : Near N M k) (h' : Near N M k') : k = k' := by
  rcases Nat.lt_trichotomy k k' with c | c | c
  · have e : (k + 1) * M ≤ k' * M := Nat.mul_le_mul_right _ c
    have e1 : (k + 1) * M = k * M + M := Nat.succ_mul _ _
    have a := h.high
    have b := h'.low
    have t1 := h.highTie (by omega)
    have t2 := h'.lowTie (by omega)
    have d : k' < k + 2 := by
      rcases Nat.lt_or_ge k' (k + 2) with x | x
      · exact x
      · have y : (k + 2) * M ≤ k' * M := Nat.mul_le_mul_right _ x
        have y1 : (k + 2) * M = k * M + 2 * M := Nat.add_mul _ _ _
        omega
    omega
  · exact c
  · have e : (k' + 1) * M ≤ k * M := Nat.mul_le_mul_right _ c
    have e1 : (k' + 1) * M = k' * M + M := Nat.succ_mul _ _
    have a := h'.high
    have b := h.low
    have t1 := h'.highTie (by omega)
    have t2 := h.lowTie (by omega)
    have d : k < k' + 2 := by
      rcases Nat.lt_or_ge k (k' + 2) with x | x
      · exact x
      · have y : (k' + 2) * M ≤ k * M := Nat.mul_le_mul_right _ x
        have y1 : (k' + 2) * M = k' * M + 2 * M := Nat.add_mul _ _ _
        omega
    omega

theorem rnq_eq {N M k : Nat} (hM : 0 < M) (h : Near N M k) : rnq N M = k := near_unique hM (rnq_near hM) h

theorem rnq_mul (k M : Nat) (hM : 0 < M) : rnq (k * M) M = k := rnq_eq hM ⟨by omega, by omega, by omega, by omega⟩
theorem rnq_one (k : Nat) : rnq k 1 = k := by have := rnq_mul k 1 (by omega); rwa [Nat.mul_one] at this

theorem rnq_scale (N M c : Nat) (hM : 0 < M) (hc : 0 < c) : rnq (N * c) (M * c) = rnq N M := by
  have h := rnq_near (N := N) hM
  generalize rnq N M = k at *
  refine rnq_eq (Nat.mul_pos hM hc) ⟨?_, ?_, ?_, ?_⟩
  · have := Nat.mul_le_mul_right c h.low
    have e1 : 2 * (k * M) * c = 2 * (k * (M * c)) := by simp only [Nat.mul_assoc]
    have e2 : (2 * N + M) * c = 2 * (N * c) + M * c := by simp only [Nat.add_mul, Nat.mul_assoc]
    omega
  · have := Nat.mul_le_mul_right c h.high
    have e1 : (2 * (k * M) + M) * c = 2 * (k * (M * c)) + M * c := by simp only [Nat.add_mul, Nat.mul_assoc]
    have e2 : 2 * N * c = 2 * (N * c) := by simp only [Nat.mul_assoc]
    omega
  · intro t
    refine h.lowTie (Nat.eq_of_mul_eq_mul_right hc ?_)
    simp only [Nat.add_mul, Nat.mul_assoc] at *
    omega
  · intro t
    refine h.highTie (Nat.eq_of_mul_eq_mul_right hc ?_)
    simp only [Nat.add_mul, Nat.mul_assoc] at *
    omega

/-- ROUNDING TWICE: first to units A, then to units A * C (C even): as at once, where N is no nearer than A / 2 to a midpoint of the second rounding, or on it. -/
theorem rnq_twice {N A C : Nat} (hA : 0 < A) (hC : 0 < C) (he : C % 2 = 0)
    (hm : ∀ q, 2 * N = (2 * q + 1) * (A * C) ∨ 2 * N + A < (2 * q + 1) * (A * C) ∨ (2 * q + 1) * (A * C) + A < 2 * N) :
    rnq (rnq N A) C = rnq N (A * C) := by
  have hB : 0 < A * C := Nat.mul_pos hA hC
  have h := rnq_near (N := N) hB
  have h1 := rnq_near (N := N) hA
  generalize hk : rnq N (A * C) = k at *
  generalize hk1 : rnq N A = k1 at *
  obtain ⟨H, rfl⟩ : ∃ H, C = 2 * H := ⟨C / 2, by omega⟩
  -- the sides in units of A
  have eB : ∀ q, (2 * q + 1) * (A * (2 * H)) = ((2 * q + 1) * (2 * H)) * A := fun q => by rw [Nat.mul_comm A (2 * H), Nat.mul_assoc (2 * q + 1)]
  have up : 2 * k1 ≤ (2 * k + 1) * (2 * H) ∧ (2 * k1 = (2 * k + 1) * (2 * H) → k % 2 = 0) := by
    have a := h.high
    have eK : (2 * k + 1) * (A * (2 * H)) = 2 * (k * (A * (2 * H))) + A * (2 * H) := by simp only [Nat.add_mul, Nat.one_mul, Nat.mul_assoc]
    rcases hm k with m | m | m
    · -- on the midpoint: exact
      have : 2 * N = 2 * (((2 * k + 1) * H) * A) := by rw [m, eB]; simp only [Nat.mul_assoc, Nat.mul_left_comm _ 2]
      have n : N = ((2 * k + 1) * H) * A := by omega
      have k1e : k1 = (2 * k + 1) * H := by rw [← hk1, n]; exact rnq_mul _ _ hA
      refine ⟨?_, fun _ => h.highTie (by omega)⟩
      rw [k1e]; simp only [Nat.mul_left_comm _ 2]; omega
    · have b := h1.low
      rw [eB] at m
      have : 2 * k1 * A < ((2 * k + 1) * (2 * H)) * A := by rw [Nat.mul_assoc]; omega
      have := Nat.lt_of_mul_lt_mul_right this
      exact ⟨by omega, by omega⟩
    · omega
  have dn : 2 * (k * (2 * H)) ≤ 2 * k1 + 2 * H ∧ (2 * (k * (2 * H)) = 2 * k1 + 2 * H → k % 2 = 0) := by
    have a := h.low
    rcases Nat.eq_zero_or_pos k with z | z
    · subst z; simp
    obtain ⟨j, rfl⟩ : ∃ j, k = j + 1 := ⟨k - 1, by omega⟩
    have eK : (2 * j + 1) * (A * (2 * H)) + A * (2 * H) = 2 * ((j + 1) * (A * (2 * H))) := by simp only [Nat.add_mul, Nat.one_mul, Nat.mul_assoc]; omega
    have eH : 2 * ((j + 1) * (2 * H)) = (2 * j + 1) * (2 * H) + 2 * H := by simp only [Nat.add_mul, Nat.one_mul, Nat.mul_assoc]; omega
    rcases hm j with m | m | m
    · have : 2 * N = 2 * (((2 * j + 1) * H) * A) := by rw [m, eB]; simp only [Nat.mul_assoc, Nat.mul_left_comm _ 2]
      have n : N = ((2 * j + 1) * H) * A := by omega
      have k1e : k1 = (2 * j + 1) * H := by rw [← hk1, n]; exact rnq_mul _ _ hA
      refine ⟨?_, fun _ => h.lowTie (by omega)⟩
      rw [eH, k1e]; simp only [Nat.mul_left_comm _ 2]; omega
    · omega
    · have b := h1.high
      rw [eB] at m
      have : ((2 * j + 1) * (2 * H)) * A < 2 * k1 * A := by rw [Nat.mul_assoc (2 : Nat) k1 A]; omega
      have := Nat.lt_of_mul_lt_mul_right this
      exact ⟨by omega, by omega⟩
  refine rnq_eq hC ⟨dn.1, ?_, dn.2, ?_⟩
  · have := up.1; simp only [Nat.add_mul, Nat.one_mul, Nat.mul_assoc] at this ⊢; omega
  · intro t; refine up.2 ?_; simp only [Nat.add_mul, Nat.one_mul, Nat.mul_assoc] at t ⊢; omega

/-- A STICKY DIGIT: the quotient's whole part and one digit more, which tells whether anything is left over, rounds as the quotient does, where at least two digits are dropped. -/
theorem rnq_sticky {A B M : Nat} (hB : 0 < B) (hM : 0 < M) (he : M % 2 = 0) : rnq (2 * (A / B) + (A % B != 0).toNat) (2 * M) = rnq A (B * M) := by
  have hd := Nat.div_add_mod A B
  have hr := Nat.mod_lt A hB
  have h := rnq_near (N := A) (Nat.mul_pos hB hM)
  generalize rnq A (B * M) = k at *
  obtain ⟨H, rfl⟩ : ∃ H, M = 2 * H := ⟨M / 2, by omega⟩
  generalize hq : A / B = q at *
  generalize hrr : A % B = r at *
  have key : ∀ t : Nat, (2 * (t * H) * B ≤ 2 * A → 2 * (t * H) ≤ 2 * q + (r != 0).toNat) ∧ (2 * A ≤ 2 * (t * H) * B → 2 * q + (r != 0).toNat ≤ 2 * (t * H)) ∧
      (2 * q + (r != 0).toNat = 2 * (t * H) → 2 * A = 2 * (t * H) * B) := by
    intro t
    generalize t * H = u
    have e1 : 2 * A = 2 * (q * B) + 2 * r := by rw [← hd, Nat.mul_comm B q]; omega
    have e2 : 2 * u * B = 2 * (u * B) := Nat.mul_assoc _ _ _
    rw [e1, e2]
    refine ⟨fun c => ?_, fun c => ?_, fun c => ?_⟩
    · have : u * B < (q + 1) * B := by rw [Nat.succ_mul]; omega
      have := Nat.lt_of_mul_lt_mul_right this
      rcases Nat.eq_zero_or_pos r with z | z
      · subst z; simp; omega
      · have : (r != 0) = true := by simp; omega
        rw [this]; simp; omega
    · rcases Nat.eq_zero_or_pos r with z | z
      · subst z
        have : q * B ≤ u * B := by omega
        have := Nat.le_of_mul_le_mul_right this hB
        simp; omega
      · have : q * B < u * B := by omega
        have := Nat.lt_of_mul_lt_mul_right this
        have : (r != 0) = true := by simp; omega
        rw [this]; simp; omega
    · rcases Nat.eq_zero_or_pos r with z | z
      · subst z
        have : q = u := by simp at c; omega
        rw [this]; omega
      · have : (r != 0) = true := by simp; omega
        rw [this] at c; simp at c; omega
  have e1 : k * (B * (2 * H)) = 2 * ((k * H) * B) := by simp only [Nat.mul_comm B, Nat.mul_assoc, Nat.mul_left_comm _ 2]
  have e2 : B * (2 * H) = 2 * (H * B) := by simp only [Nat.mul_comm B, Nat.mul_assoc]
  have e3 : k * (2 * (2 * H)) = 4 * (k * H) := by simp only [Nat.mul_left_comm _ 2]; omega
  obtain ⟨a1, a2, a3, a4⟩ := h
  rw [e1, e2] at a1 a2 a3 a4
  obtain ⟨u1, u2, u3⟩ := key (2 * k + 1)
  have f1 : 2 * ((2 * k + 1) * H) = 4 * (k * H) + 2 * H := by simp only [Nat.add_mul, Nat.one_mul, Nat.mul_assoc]; omega
  have f2 : (4 * (k * H) + 2 * H) * B = 4 * ((k * H) * B) + 2 * (H * B) := by simp only [Nat.add_mul, Nat.mul_assoc]
  rw [f1, f2] at u1 u2 u3
  rcases Nat.eq_zero_or_pos k with z | z
  · subst z
    simp only [Nat.zero_mul, Nat.mul_zero, Nat.zero_add] at *
    refine rnq_eq (by omega) ⟨by omega, by simp only [Nat.zero_mul, Nat.mul_zero]; omega, fun _ => rfl, fun _ => rfl⟩
  obtain ⟨j, rfl⟩ : ∃ j, k = j + 1 := ⟨k - 1, by omega⟩
  obtain ⟨v1, v2, v3⟩ := key (2 * j + 1)
  have g1 : 2 * ((2 * j + 1) * H) + 2 * H = 4 * ((j + 1) * H) := by simp only [Nat.add_mul, Nat.one_mul, Nat.mul_assoc]; omega
  have g2 : 2 * ((2 * j + 1) * H) * B + 2 * (H * B) = 4 * (((j + 1) * H) * B) := by simp only [Nat.add_mul, Nat.one_mul, Nat.mul_assoc]; omega
  generalize ((j + 1) * H) * B = P at *
  generalize 2 * ((2 * j + 1) * H) * B = Q at *
  generalize 2 * ((2 * j + 1) * H) = T at *
  refine rnq_eq (by omega) ⟨?_, ?_, ?_, ?_⟩
  · rw [e3]; omega
  · rw [e3]; omega
  · intro t; rw [e3] at t; exact a3 (by omega)
  · intro t; rw [e3] at t; exact a4 (by omega)

end Go.Proofs.Ytncgcjeihihkfaa.Fl
