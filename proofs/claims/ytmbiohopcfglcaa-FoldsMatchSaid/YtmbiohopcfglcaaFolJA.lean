/- Lemmas and contracts for the proof that the last text of this claim holds. -/
import Ieee.Arith
import Derived.Laws.FloatArith

/- Plain arithmetic of rounding: no program in sight. 'rnq N M': N / M, rounded to the nearest whole number, between two to the even one; what Ieee.Format.nearest writes, said by it; rounding twice. -/
namespace Go.Proofs.Ytmbiohopcfglcaa.Fl
open Ieee

/-- N / M rounded to the nearest whole number, between two to the even one. -/
def rnq (N M : Nat) : Nat := N / M + if M < 2 * (N % M) ∨ (2 * (N % M) = M ∧ N / M % 2 = 1) then 1 else 0

structure Near (N M k : Nat) : Prop where
  low : 2 * (k * M) ≤ 2 * N + M
  high : 2 * N ≤ 2 * (k * M) + M
  lowTie : 2 * (k * M) = 2 * N + M → k % 2 = 0
  highTie : 2 * N = 2 * (k * M) + M → k % 2 = 0

theorem rnq_near {N M : Nat} (hM : 0 < M) : Near N M (rnq N M) := by
  have h := Nat.div_add_mod N M
  have hr := Nat.mod_lt N hM
  unfold rnq
  generalize N / M = q at *
  generalize N % M = r at *
  have hq : M * q = q * M := Nat.mul_comm _ _
  have hq1 : (q + 1) * M = q * M + M := Nat.succ_mul _ _
  split
  · rename_i c
    exact ⟨by omega, by omega, by omega, by omega⟩
  · rename_i c
    simp only [Nat.add_zero]
    exact ⟨by omega, by omega, by omega, by omega⟩

theorem near_unique {N M k k' : Nat} (hM : 0 < M) (h : Near N M k) (h' : Near N M k') : k = k' := by
  rcases Nat.lt_trichotomy k k' with c | c | c
  · have e : (k + 1) * M ≤ k' * M := Nat.mul_le_mul_right _ c
    have e1 : (k + 1) * M = k * M + M := Nat.succ_mul _ _
    have a := h.high
    have b := h'.low
    have t1 := h.highTie (by omega)
    have t2 := h'.lowTie (by omega)
    have d : k' < k + 2 := by
      rcases Nat.lt_or_ge k' (k + 2) with x | x
      · exact x
      · have y : (k + 2) * M ≤ k' * M := Nat.mul_le_mul_right _ x
        have y1 : (k + 2) * M = k * M + 2 * M := Nat.add_mul _ _ _
        omega
    omega
  · exact c
  · have e : (k' + 1) * M ≤ k * M := Nat.mul_le_mul_right _ c
    have e1 : (k' + 1) * M = k' * M + M := Nat.succ_mul _ _
    have a := h'.high
    have b := h.low
    have t1 := h'.highTie (by omega)
    have t2 := h.lowTie (by omega)
    have d : k < k' + 2 := by
      rcases Nat.lt_or_ge k (k' + 2) with x | x
      · exact x
      · have y : (k' + 2) * M ≤ k * M := Nat.mul_le_mul_right _ x
        have y1 : (k' + 2) * M = k' * M + 2 * M := Nat.add_mul _ _ _
        omega
    omega

theorem rnq_eq {N M k : Nat} (hM : 0 < M) (h : Near N M k) : rnq N M = k := near_unique hM (rnq_near hM) h

theorem rnq_mul (k M : Nat) (hM : 0 < M) : rnq (k * M) M = k := rnq_eq hM ⟨by omega, by omega, by omega, by omega⟩
theorem rnq_one (k : Nat) : rnq k 1 = k := by have := rnq_mul k 1 (by omega); rwa [Nat.mul_one] at this

theorem rnq_scale (N M c : Nat) (hM : 0 < M) (hc : 0 < c) : rnq (N * c) (M * c) = rnq N M := by
  have h := rnq_near (N := N) hM
  generalize rnq N M = k at *
  refine rnq_eq (Nat.mul_pos hM hc) ⟨?_, ?_, ?_, ?_⟩
  · have := Nat.mul_le_mul_right c h.low
    have e1 : 2 * (k * M) * c = 2 * (k * (M * c)) := by simp only [Nat.mul_assoc]
    have e2 : (2 * N + M) * c = 2 * (N * c) + M * c := by simp only [Nat.add_mul, Nat.mul_assoc]
    omega
  · have := Nat.mul_le_mul_right c h.high
    have e1 : (2 * (k * M) + M) * c = 2 * (k * (M * c)) + M * c := by simp only [Nat.add_mul, Nat.mul_assoc]
    have e2 : 2 * N * c = 2 * (N * c) := by simp only [Nat.mul_assoc]
    omega
  · intro t
    refine h.lowTie (Nat.eq_of_mul_eq_mul_right hc ?_)
    simp only [Nat.add_mul, Nat.mul_assoc] at *
    omega
  · intro t
    refine h.highTie (Nat.eq_of_mul_eq_mul_right hc ?_)
    simp only [Nat.add_mul, Nat.mul_assoc] at *
    omega

/-- ROUNDING TWICE: first to units A, then to units A * C (C even): as at once, where N is no nearer than A / 2 to a midpoint of the second rounding, or on it. -/
theorem rnq_twice {N A C : Nat} (hA : 0 < A) (hC : 0 < C) (he : C % 2 = 0)
    (hm : ∀ q, 2 * N = (2 * q + 1) * (A * C) ∨ 2 * N + A < (2 * q + 1) * (A * C) ∨ (2 * q + 1) * (A * C) + A < 2 * N) :
    rnq (rnq N A) C = rnq N (A * C) := by
  have hB : 0 < A * C := Nat.mul_pos hA hC
  have h := rnq_near (N := N) hB
  have h1 := rnq_near (N := N) hA
  generalize hk : rnq N (A * C) = k at *
  generalize hk1 : rnq N A = k1 at *
  obtain ⟨H, rfl⟩ : ∃ H, C = 2 * H := ⟨C / 2, by omega⟩
  -- the sides in units of A
  have eB : ∀ q, (2 * q + 1) * (A * (2 * H)) = ((2 * q + 1) * (2 * H)) * A := fun q => by rw [Nat.mul_comm A (2 * H), Nat.mul_assoc (2 * q + 1)]
  have up : 2 * k1 ≤ (2 * k + 1) * (2 * H) ∧ (2 * k1 = (2 * k + 1) * (2 * H) → k % 2 = 0) := by
    have a := h.high
    have eK : (2 * k + 1) * (A * (2 * H)) = 2 * (k * (A * (2 * H))) + A * (2 * H) := by simp only [Nat.add_mul, Nat.one_mul, Nat.mul_assoc]
    rcases hm k with m | m | m
    · -- on the midpoint: exact
      have : 2 * N = 2 * (((2 * k + 1) * H) * A) := by rw [m, eB]; simp only [Nat.mul_assoc, Nat.mul_left_comm _ 2]
      have n : N = ((2 * k + 1) * H) * A := by omega
      have k1e : k1 = (2 * k + 1) * H := by rw [← hk1, n]; exact rnq_mul _ _ hA
      refine ⟨?_, fun _ => h.highTie (by omega)⟩
      rw [k1e]; simp only [Nat.mul_left_comm _ 2]; omega
    · have b := h1.low
      rw [eB] at m
      have : 2 * k1 * A < ((2 * k + 1) * (2 * H)) * A := by rw [Nat.mul_assoc]; omega
      have := Nat.lt_of_mul_lt_mul_right this
      exact ⟨by omega, by omega⟩
    · omega
  have dn : 2 * (k * (2 * H)) ≤ 2 * k1 + 2 * H ∧ (2 * (k * (2 * H)) = 2 * k1 + 2 * H → k % 2 = 0) := by
    have a := h.low
    rcases Nat.eq_zero_or_pos k with z | z
    · subst z; simp
    obtain ⟨j, rfl⟩ : ∃ j, k = j + 1 := ⟨k - 1, by omega⟩
    have eK : (2 * j + 1) * (A * (2 * H)) + A * (2 * H) = 2 * ((j + 1) * (A * (2 * H))) := by simp only [Nat.add_mul, Nat.one_mul, Nat.mul_assoc]; omega
    have eH : 2 * ((j + 1) * (2 * H)) = (2 * j + 1) * (2 * H) + 2 * H := by simp only [Nat.add_mul, Nat.one_mul, Nat.mul_assoc]; omega
    rcases hm j with m | m | m
    · have : 2 * N = 2 * (((2 * j + 1) * H) * A) := by rw [m, eB]; simp only [Nat.mul_assoc, Nat.mul_left_comm _ 2]
      have n : N = ((2 * j + 1) * H) * A := by omega
      have k1e : k1 = (2 * j + 1) * H := by rw [← hk1, n]; exact rnq_mul _ _ hA
      refine ⟨?_, fun _ => h.lowTie (by omega)⟩
      rw [eH, k1e]; simp only [Nat.mul_left_comm _ 2]; omega
    · omega
    · have b := h1.high
      rw [eB] at m
      have : ((2 * j + 1) * (2 * H)) * A < 2 * k1 * A := by rw [Nat.mul_assoc (2 : Nat) k1 A]; omega
      have := Nat.lt_of_mul_lt_mul_right this
      exact ⟨by omega, by omega⟩
  refine rnq_eq hC ⟨dn.1, ?_, dn.2, ?_⟩
  · have := up.1; simp only [Nat.add_mul, Nat.one_mul, Nat.mul_assoc] at this ⊢; omega
  · intro t; refine up.2 ?_; simp only [Nat.add_mul, Nat.one_mul, Nat.mul_assoc] at t ⊢; omega

/-- A STICKY DIGIT: the quotient's whole part and one digit more, which tells whether anything is left over, rounds as the quotient does, where at least two digits are dropped. -/
theorem rnq_sticky {A B M : Nat} (hB : 0 < B) (hM : 0 < M) (he : M % 2 = 0) : rnq (2 * (A / B) + (A % B != 0).toNat) (2 * M) = rnq A (B * M) := by
  have hd := Nat.div_add_mod A B
  have hr := Nat.mod_lt A hB
  have h := rnq_near (N := A) (Nat.mul_pos hB hM)
  generalize rnq A (B * M) = k at *
  obtain ⟨H, rfl⟩ : ∃ H, M = 2 * H := ⟨M / 2, by omega⟩
  generalize hq : A / B = q at *
  generalize hrr : A % B = r at *
  have key : ∀ t : Nat, (2 * (t * H) * B ≤ 2 * A → 2 * (t * H) ≤ 2 * q + (r != 0).toNat) ∧ (2 * A ≤ 2 * (t * H) * B → 2 * q + (r != 0).toNat ≤ 2 * (t * H)) ∧
      (2 * q + (r != 0).toNat = 2 * (t * H) → 2 * A = 2 * (t * H) * B) := by
    intro t
    generalize t * H = u
    have e1 : 2 * A = 2 * (q * B) + 2 * r := by rw [← hd, Nat.mul_comm B q]; omega
    have e2 : 2 * u * B = 2 * (u * B) := Nat.mul_assoc _ _ _
    rw [e1, e2]
    refine ⟨fun c => ?_, fun c => ?_, fun c => ?_⟩
    · have : u * B < (q + 1) * B := by rw [Nat.succ_mul]; omega
      have := Nat.lt_of_mul_lt_mul_right this
      rcases Nat.eq_zero_or_pos r with z | z
      · subst z; simp; omega
      · have : (r != 0) = true := by simp; omega
        rw [this]; simp; omega
    · rcases Nat.eq_zero_or_pos r with z | z
      · subst z
        have : q * B ≤ u * B := by omega
        have := Nat.le_of_mul_le_mul_right this hB
        simp; omega
      · have : q * B < u * B := by omega
        have := Nat.lt_of_mul_lt_mul_right this
        have : (r != 0) = true := by simp; omega
        rw [this]; simp; omega
    · rcases Nat.eq_zero_or_pos r with z | z
      · subst z
        have : q = u := by simp at c; omega
        rw [this]; omega
      · have : (r != 0) = true := by simp; omega
        rw [this] at c; simp at c; omega
  have e1 : k * (B * (2 * H)) = 2 * ((k * H) * B) := by simp only [Nat.mul_comm B, Nat.mul_assoc, Nat.mul_left_comm _ 2]
  have e2 : B * (2 * H) = 2 * (H * B) := by simp only [Nat.mul_comm B, Nat.mul_assoc]
  have e3 : k * (2 * (2 * H)) = 4 * (k * H) := by simp only [Nat.mul_left_comm _ 2]; omega
  obtain ⟨a1, a2, a3, a4⟩ := h
  rw [e1, e2] at a1 a2 a3 a4
  obtain ⟨u1, u2, u3⟩ := key (2 * k + 1)
  have f1 : 2 * ((2 * k + 1) * H) = 4 * (k * H) + 2 * H := by simp only [Nat.add_mul, Nat.one_mul, Nat.mul_assoc]; omega
  have f2 : (4 * (k * H) + 2 * H) * B = 4 * ((k * H) * B) + 2 * (H * B) := by simp only [Nat.add_mul, Nat.mul_assoc]
  rw [f1, f2] at u1 u2 u3
  rcases Nat.eq_zero_or_pos k with z | z
  · subst z
    simp only [Nat.zero_mul, Nat.mul_zero, Nat.zero_add] at *
    refine rnq_eq (by omega) ⟨by omega, by simp only [Nat.zero_mul, Nat.mul_zero]; omega, fun _ => rfl, fun _ => rfl⟩
  obtain ⟨j, rfl⟩ : ∃ j, k = j + 1 := ⟨k - 1, by omega⟩
  obtain ⟨v1, v2, v3⟩ := key (2 * j + 1)
  have g1 : 2 * ((2 * j + 1) * H) + 2 * H = 4 * ((j + 1) * H) := by simp only [Nat.add_mul, Nat.one_mul, Nat.mul_assoc]; omega
  have g2 : 2 * ((2 * j + 1) * H) * B + 2 * (H * B) = 4 * (((j + 1) * H) * B) := by simp only [Nat.add_mul, Nat.one_mul, Nat.mul_assoc]; omega
  generalize ((j + 1) * H) * B = P at *
  generalize 2 * ((2 * j + 1) * H) * B = Q at *
  generalize 2 * ((2 * j + 1) * H) = T at *
  refine rnq_eq (by omega) ⟨?_, ?_, ?_, ?_⟩
  · rw [e3]; omega
  · rw [e3]; omega
  · intro t; rw [e3] at t; exact a3 (by omega)
  · intro t; rw [e3] at t; exact a4 (by omega)

end Go.Proofs.Ytmbiohopcfglcaa.Fl

/- What Ieee.Format.nearest writes, said by 'rnq' in units of 2 ^ K; what is read of it; that it hangs on the value alone. -/
namespace Go.Proofs.Ytmbiohopcfglcaa.Fl
open Ieee

theorem cut_even (neg : Bool) (n drop : Nat) : Toward.even.cut neg n drop = rnq n (2 ^ drop) := by
  unfold Toward.cut rnq
  simp only [Nat.shiftLeft_eq, Nat.one_mul]
  rcases Nat.le_total drop (n.log2 + 2) with h | h
  · rw [Nat.min_eq_left h]
    congr 1
    by_cases c : 2 ^ drop < 2 * (n % 2 ^ drop) ∨ (2 * (n % 2 ^ drop) = 2 ^ drop ∧ n / 2 ^ drop % 2 = 1)
    · rw [if_pos c]
      have : (decide (2 ^ drop < 2 * (n % 2 ^ drop)) || (2 ^ drop == 2 * (n % 2 ^ drop) && n / 2 ^ drop % 2 == 1)) = true := by
        rcases c with c | ⟨c, d⟩
        · simp [c]
        · simp [c, d]
      rw [this]; rfl
    · rw [if_neg c]
      have : (decide (2 ^ drop < 2 * (n % 2 ^ drop)) || (2 ^ drop == 2 * (n % 2 ^ drop) && n / 2 ^ drop % 2 == 1)) = false := by
        rw [Bool.or_eq_false_iff]
        refine ⟨by simp; omega, ?_⟩
        rw [Bool.and_eq_false_iff]
        rcases Nat.decEq (2 ^ drop) (2 * (n % 2 ^ drop)) with e | e
        · left; simpa using e
        · right; simp only [beq_eq_false_iff_ne]; intro d; exact c (.inr ⟨e.symm, d⟩)
      rw [this]; rfl
  · rw [Nat.min_eq_right h]
    have l1 : n < 2 ^ (n.log2 + 1) := Nat.lt_log2_self
    have l2 : 2 ^ (n.log2 + 2) = 2 * 2 ^ (n.log2 + 1) := by rw [Nat.pow_succ 2 (n.log2 + 1)]; omega
    have l3 : 2 ^ (n.log2 + 2) ≤ 2 ^ drop := Nat.pow_le_pow_right (by omega) h
    rw [Nat.div_eq_of_lt (by omega), Nat.mod_eq_of_lt (by omega : n < 2 ^ (n.log2 + 2)), Nat.div_eq_of_lt (by omega), Nat.mod_eq_of_lt (by omega : n < 2 ^ drop)]
    rw [if_neg (by omega)]
    have : (decide (2 ^ (n.log2 + 2) < 2 * n) || (2 ^ (n.log2 + 2) == 2 * n && 0 % 2 == 1)) = false := by
      rw [Bool.or_eq_false_iff]
      exact ⟨by simp; omega, by simp⟩
    rw [this]; rfl

theorem log2_mul_pow {m : Nat} (hm : 0 < m) (j : Nat) : (m * 2 ^ j).log2 = m.log2 + j := by
  have h1 : 2 ^ m.log2 ≤ m := Nat.log2_self_le (by omega)
  have h2 : m < 2 ^ (m.log2 + 1) := Nat.lt_log2_self
  have hp : 0 < 2 ^ j := Nat.two_pow_pos j
  rw [Nat.log2_eq_iff (Nat.ne_of_gt (Nat.mul_pos hm hp))]
  refine ⟨?_, ?_⟩
  · rw [Nat.pow_add]; exact Nat.mul_le_mul_right _ h1
  · rw [Nat.add_right_comm, Nat.pow_add]; exact Nat.mul_lt_mul_of_pos_right h2 hp

/-- The place of the last digit that is kept of n, over the least place, in units of 2 ^ K ('c' is the least place over K). -/
def lastOf (f : Format) (c n : Nat) : Nat := max (n.log2 - f.fractionBits) c
/-- The rung of n * 2 ^ K. -/
def rungOf (f : Format) (c n : Nat) : Nat := (lastOf f c n - c) * f.binade + rnq n (2 ^ lastOf f c n)

theorem nearest_base (f : Format) (neg : Bool) (K : Int) (c : Nat) (hc : f.leastPlace = K + c) {m : Nat} (hm : 0 < m) (j : Nat) :
    f.nearest neg m (K + j) = f.word neg (min (rungOf f c (m * 2 ^ j)) f.infRung) := by
  have hp : 0 < 2 ^ j := Nat.two_pow_pos j
  unfold Format.nearest rungOf
  rw [if_neg (by omega)]
  have hl : max (K + (j : Int) + m.log2 - f.fractionBits) f.leastPlace = K + (lastOf f c (m * 2 ^ j) : Nat) := by
    unfold lastOf
    rw [log2_mul_pow hm, hc]
    omega
  simp only [hl]
  generalize lastOf f c (m * 2 ^ j) = l
  have e1 : (K + (l : Int) - f.leastPlace).toNat = l - c := by omega
  have e2 : (K + (j : Int) - (K + (l : Int))).toNat = j - l := by omega
  have e3 : (K + (l : Int) - (K + (j : Int))).toNat = l - j := by omega
  rw [e1, e2, e3, cut_even, Nat.shiftLeft_eq]
  congr 3
  rcases Nat.le_total l j with h | h
  · have : l - j = 0 := by omega
    rw [this, Nat.pow_zero, rnq_one]
    have : m * 2 ^ j = (m * 2 ^ (j - l)) * 2 ^ l := by rw [Nat.mul_assoc, ← Nat.pow_add]; congr 2; omega
    rw [this, rnq_mul _ _ (Nat.two_pow_pos l)]
  · have : j - l = 0 := by omega
    rw [this, Nat.pow_zero, Nat.mul_one]
    have : 2 ^ l = 2 ^ (l - j) * 2 ^ j := by rw [← Nat.pow_add]; congr 1; omega
    rw [this, rnq_scale _ _ _ (Nat.two_pow_pos _) hp]

/-- The word hangs on the value alone. -/
theorem nearest_congr (f : Format) (neg : Bool) (K : Int) (c : Nat) (hc : f.leastPlace = K + c) {m m' : Nat} {p p' : Int} (hm : 0 < m) (hp : K ≤ p) (hp' : K ≤ p')
    (h : m * 2 ^ (p - K).toNat = m' * 2 ^ (p' - K).toNat) : f.nearest neg m p = f.nearest neg m' p' := by
  have hm' : 0 < m' := by
    rcases Nat.eq_zero_or_pos m' with z | z
    · subst z; rw [Nat.zero_mul] at h; have := Nat.mul_pos hm (Nat.two_pow_pos (p - K).toNat); omega
    · exact z
  have e : p = K + ((p - K).toNat : Int) := by omega
  have e' : p' = K + ((p' - K).toNat : Int) := by omega
  rw [e, e', nearest_base f neg K c hc hm, nearest_base f neg K c hc hm', h]

theorem rnq_mono {N N' M : Nat} (hM : 0 < M) (h : N ≤ N') : rnq N M ≤ rnq N' M := by
  have a := rnq_near (N := N) hM
  have b := rnq_near (N := N') hM
  generalize rnq N M = k at *
  generalize rnq N' M = k' at *
  rcases Nat.lt_or_ge k' k with c | c
  · have e : (k' + 1) * M ≤ k * M := Nat.mul_le_mul_right _ c
    have e1 : (k' + 1) * M = k' * M + M := Nat.succ_mul _ _
    have a1 := a.low
    have b1 := b.high
    -- equality all along: both are ties, and k = k' + 1
    have t1 := a.lowTie (by omega)
    have t2 := b.highTie (by omega)
    have d : k < k' + 2 := by
      rcases Nat.lt_or_ge k (k' + 2) with x | x
      · exact x
      · have y : (k' + 2) * M ≤ k * M := Nat.mul_le_mul_right _ x
        have y1 : (k' + 2) * M = k' * M + 2 * M := Nat.add_mul _ _ _
        omega
    omega
  · exact c

/-- Any last place that fits gives the same rung. -/
theorem rungOf_eq (f : Format) (c n l : Nat) (hn : 0 < n) (hl : c ≤ l) (hhi : n ≤ 2 ^ (l + f.fractionBits + 1)) (hlo : l = c ∨ 2 ^ (l + f.fractionBits) ≤ n) :
    rungOf f c n = (l - c) * f.binade + rnq n (2 ^ l) := by
  have h1 : 2 ^ n.log2 ≤ n := Nat.log2_self_le (by omega)
  have h2 : n < 2 ^ (n.log2 + 1) := Nat.lt_log2_self
  unfold rungOf
  have hcase : lastOf f c n = l ∨ (n = 2 ^ (l + f.fractionBits + 1) ∧ lastOf f c n = l + 1) := by
    unfold lastOf
    rcases Nat.lt_or_ge n (2 ^ (l + f.fractionBits + 1)) with x | x
    · left
      have : n.log2 < l + f.fractionBits + 1 := (Nat.log2_lt (by omega)).2 x
      rcases hlo with e | e
      · subst e; omega
      · have : l + f.fractionBits ≤ n.log2 := (Nat.le_log2 (by omega)).2 e
        omega
    · right
      have e : n = 2 ^ (l + f.fractionBits + 1) := by omega
      refine ⟨e, ?_⟩
      rw [e, Nat.log2_two_pow]; omega
  rcases hcase with e | ⟨e, e'⟩
  · rw [e]
  · rw [e']
    have a : n = 2 ^ f.fractionBits * 2 ^ (l + 1) := by rw [e, ← Nat.pow_add]; congr 1; omega
    have b : n = 2 ^ (f.fractionBits + 1) * 2 ^ l := by rw [e, ← Nat.pow_add]; congr 1; omega
    have ra : rnq n (2 ^ (l + 1)) = 2 ^ f.fractionBits := by rw [a]; exact rnq_mul _ _ (Nat.two_pow_pos _)
    have rb : rnq n (2 ^ l) = 2 ^ (f.fractionBits + 1) := by rw [b]; exact rnq_mul _ _ (Nat.two_pow_pos _)
    rw [ra, rb, Nat.pow_succ]
    have : l + 1 - c = (l - c) + 1 := by omega
    rw [this, Nat.succ_mul]
    unfold Format.binade
    omega

theorem last_le (f : Format) (c n : Nat) (hn : 0 < n) : c ≤ lastOf f c n ∧ n < 2 ^ (lastOf f c n + f.fractionBits + 1) ∧ (lastOf f c n = c ∨ 2 ^ (lastOf f c n + f.fractionBits) ≤ n) := by
  have h1 : 2 ^ n.log2 ≤ n := Nat.log2_self_le (by omega)
  have h2 : n < 2 ^ (n.log2 + 1) := Nat.lt_log2_self
  refine ⟨by unfold lastOf; omega, ?_, ?_⟩
  · exact Nat.lt_of_lt_of_le h2 (Nat.pow_le_pow_right (by omega) (by unfold lastOf; omega))
  · by_cases h : c < n.log2 - f.fractionBits
    · right
      have : lastOf f c n + f.fractionBits = n.log2 := by unfold lastOf; omega
      rw [this]; exact h1
    · left; unfold lastOf; omega

/-- WHAT IS READ of the word of a number that is not too great: its value is the rounded one. -/
theorem read_nearest (f : Format) (neg : Bool) (K : Int) (c : Nat) (hc : f.leastPlace = K + c) {m : Nat} (hm : 0 < m) (j : Nat) (hinf : rungOf f c (m * 2 ^ j) < f.infRung) :
    ∃ m' e', f.read (f.nearest neg m (K + j)) = .number neg m' e' ∧ f.leastPlace ≤ e' ∧ m' * 2 ^ (e' - K).toNat = rnq (m * 2 ^ j) (2 ^ lastOf f c (m * 2 ^ j)) * 2 ^ lastOf f c (m * 2 ^ j) := by
  have hn : 0 < m * 2 ^ j := Nat.mul_pos hm (Nat.two_pow_pos j)
  rw [nearest_base f neg K c hc hm, Nat.min_eq_left (by omega)]
  generalize m * 2 ^ j = n at *
  obtain ⟨hl, hhi, hlo⟩ := last_le f c n hn
  generalize hL : lastOf f c n = l at *
  have hk : rnq n (2 ^ l) ≤ 2 * f.binade := by
    have : rnq n (2 ^ l) ≤ rnq (2 ^ (f.fractionBits + 1) * 2 ^ l) (2 ^ l) := by
      refine rnq_mono (Nat.two_pow_pos _) ?_
      rw [← Nat.pow_add]
      refine Nat.le_of_lt (Nat.lt_of_lt_of_le hhi (Nat.pow_le_pow_right (by omega) (by omega)))
    rw [rnq_mul _ _ (Nat.two_pow_pos _), Nat.pow_succ] at this
    unfold Format.binade; omega
  have hk2 : l = c ∨ f.binade ≤ rnq n (2 ^ l) := by
    rcases hlo with e | e
    · exact .inl e
    · right
      have : rnq (2 ^ f.fractionBits * 2 ^ l) (2 ^ l) ≤ rnq n (2 ^ l) := by
        refine rnq_mono (Nat.two_pow_pos _) ?_
        rw [← Nat.pow_add, Nat.add_comm]; exact e
      rw [rnq_mul _ _ (Nat.two_pow_pos _)] at this
      exact this
  have hR : rungOf f c n = (l - c) * f.binade + rnq n (2 ^ l) := by unfold rungOf; rw [hL]
  generalize rnq n (2 ^ l) = k at *
  have hb : 0 < f.binade := Nat.two_pow_pos _
  have hinfS : f.infRung < f.signWeight := by
    unfold Format.infRung Format.signWeight Format.binade
    rw [Nat.pow_add]
    exact Nat.mul_lt_mul_of_pos_right (by have := Nat.two_pow_pos f.exponentBits; omega) (Nat.two_pow_pos _)
  -- the word's sign and rung
  have hw1 : f.word neg (rungOf f c n) / f.signWeight % 2 = neg.toNat := by
    unfold Format.word
    cases neg with
    | false => simp only [Bool.false_eq_true, if_false]; rw [Nat.div_eq_of_lt (by omega)]; rfl
    | true =>
      simp only [if_true]
      rw [Nat.add_comm, Nat.add_div_right _ (by omega), Nat.div_eq_of_lt (by omega)]; rfl
  have hw2 : f.word neg (rungOf f c n) % f.signWeight = rungOf f c n := by
    unfold Format.word
    cases neg with
    | false => simp only [Bool.false_eq_true, if_false]; exact Nat.mod_eq_of_lt (by omega)
    | true => simp only [if_true]; rw [Nat.add_mod_left]; exact Nat.mod_eq_of_lt (by omega)
  unfold Format.read
  simp only [hw1, hw2]
  have hneg : (neg.toNat == 1) = neg := by cases neg <;> rfl
  rw [hneg]
  by_cases h0 : rungOf f c n < f.binade
  · rw [if_pos h0]
    have e : l = c := by
      rcases hk2 with e | e
      · exact e
      · omega
    subst e
    have : rungOf f l n = k := by rw [hR]; simp
    rw [this]
    refine ⟨k, f.leastPlace, rfl, by omega, ?_⟩
    congr 2; omega
  · rw [if_neg h0, if_pos hinf]
    refine ⟨_, _, rfl, by omega, ?_⟩
    have hdm := Nat.div_add_mod (rungOf f c n) f.binade
    have hmod := Nat.mod_lt (rungOf f c n) hb
    by_cases h1 : k < 2 * f.binade
    · have hkb : f.binade ≤ k := by
        rcases hk2 with e | e
        · subst e
          have : rungOf f l n = k := by rw [hR]; simp
          omega
        · exact e
      have d : rungOf f c n / f.binade = l - c + 1 := by
        rw [hR, Nat.add_comm, Nat.add_mul_div_right _ _ hb]
        rw [show k / f.binade = 1 by rw [Nat.div_eq_iff hb]; omega]; omega
      have r : rungOf f c n % f.binade = k - f.binade := by
        rw [hR, Nat.add_comm, Nat.add_mul_mod_self_right, Nat.mod_eq_sub_mod hkb, Nat.mod_eq_of_lt (by omega)]
      rw [d, r]
      congr 1
      · omega
      · congr 1; omega
    · have hk3 : k = 2 * f.binade := by omega
      have d : rungOf f c n / f.binade = l - c + 2 := by
        rw [hR, hk3, ← Nat.add_mul, Nat.mul_div_cancel _ hb]
      have r : rungOf f c n % f.binade = 0 := by
        rw [hR, hk3, ← Nat.add_mul, Nat.mul_mod_left]
      rw [d, r, hk3]
      have : (f.leastPlace + ((l - c + 2 - 1 : Nat) : Int) - K).toNat = l + 1 := by omega
      rw [this, Nat.pow_succ]
      simp only [Nat.add_zero, Nat.mul_assoc, Nat.mul_comm 2]

end Go.Proofs.Ytmbiohopcfglcaa.Fl

/- Rounding to a double and then to a single is rounding to a single: of the values of sums, products and quotients of singles. Units: 2 ^ -1074; a single's least place is 925 above it. -/
namespace Go.Proofs.Ytmbiohopcfglcaa.Fl
open Ieee

theorem rungOf_zero (f : Format) (c : Nat) : rungOf f c 0 = 0 := by
  have : lastOf f c 0 = c := by unfold lastOf; rw [show Nat.log2 0 = 0 from rfl]; omega
  unfold rungOf
  rw [this, show rnq 0 (2 ^ c) = 0 by
    have := rnq_mul 0 (2 ^ c) (Nat.two_pow_pos _); rwa [Nat.zero_mul] at this]
  simp

/-- The word of a sign and a magnitude in units of 2 ^ K. -/
def wordAt (f : Format) (c : Nat) (neg : Bool) (V : Nat) : Nat := f.word neg (min (rungOf f c V) f.infRung)

theorem nearest_val (f : Format) (neg : Bool) (K : Int) (c : Nat) (hc : f.leastPlace = K + c) (m : Nat) {p : Int} (hp : K ≤ p) :
    f.nearest neg m p = wordAt f c neg (m * 2 ^ (p - K).toNat) := by
  rcases Nat.eq_zero_or_pos m with z | z
  · subst z
    unfold wordAt Format.nearest
    rw [if_pos rfl, Nat.zero_mul, rungOf_zero, Nat.zero_min]
  · have := nearest_base f neg K c hc z (p - K).toNat
    rw [show K + ((p - K).toNat : Int) = p by omega] at this
    exact this

/-- The rounded value. -/
def rd (f : Format) (c V : Nat) : Nat := rnq V (2 ^ lastOf f c V) * 2 ^ lastOf f c V

theorem read_val (f : Format) (neg : Bool) (K : Int) (c : Nat) (hc : f.leastPlace = K + c) (V : Nat) (hinf : rungOf f c V < f.infRung) :
    ∃ m e, f.read (wordAt f c neg V) = .number neg m e ∧ f.leastPlace ≤ e ∧ m * 2 ^ (e - K).toNat = rd f c V := by
  rcases Nat.eq_zero_or_pos V with z | z
  · subst z
    refine ⟨0, f.leastPlace, ?_, by omega, ?_⟩
    · unfold wordAt
      rw [rungOf_zero, Nat.zero_min]
      have hb : 0 < f.binade := Nat.two_pow_pos _
      have hs : 0 < f.signWeight := Nat.two_pow_pos _
      unfold Format.read Format.word
      cases neg with
      | false => simp [hb]
      | true => simp [hb, Nat.div_self hs]
    · unfold rd
      have : rnq 0 (2 ^ lastOf f c 0) = 0 := by
        have := rnq_mul 0 (2 ^ lastOf f c 0) (Nat.two_pow_pos _); rwa [Nat.zero_mul] at this
      rw [this]; simp
  · have := read_nearest f neg K c hc z 0 (by rwa [Nat.pow_zero, Nat.mul_one])
    obtain ⟨m, e, h1, h2, h3⟩ := this
    rw [Nat.pow_zero, Nat.mul_one] at h3
    refine ⟨m, e, ?_, h2, h3⟩
    rw [← h1, nearest_val f neg K c hc V (by omega)]
    simp

/-- A value with few enough digits is not rounded. -/
theorem rd_exact (f : Format) (c t j : Nat) (ht : t < 2 ^ (f.fractionBits + 1)) (hj : c ≤ j) : rd f c (t * 2 ^ j) = t * 2 ^ j := by
  rcases Nat.eq_zero_or_pos t with z | z
  · subst z
    unfold rd
    rw [Nat.zero_mul]
    have := rnq_mul 0 (2 ^ lastOf f c 0) (Nat.two_pow_pos _)
    rw [Nat.zero_mul] at this
    rw [this, Nat.zero_mul]
  · have hl : lastOf f c (t * 2 ^ j) ≤ j := by
      unfold lastOf
      rw [log2_mul_pow z]
      have : t.log2 < f.fractionBits + 1 := (Nat.log2_lt (by omega)).2 ht
      omega
    unfold rd
    generalize lastOf f c (t * 2 ^ j) = l at *
    have e : t * 2 ^ j = (t * 2 ^ (j - l)) * 2 ^ l := by rw [Nat.mul_assoc, ← Nat.pow_add]; congr 2; omega
    rw [e, rnq_mul _ _ (Nat.two_pow_pos _)]

theorem fbS : single.fractionBits = 23 := rfl
theorem fbD : double.fractionBits = 52 := rfl
theorem leastS : single.leastPlace = (-1074 : Int) + (925 : Nat) := by decide
theorem leastD : double.leastPlace = (-1074 : Int) + (0 : Nat) := by decide
abbrev sRung (V : Nat) : Nat := rungOf single 925 V
abbrev dVal (V : Nat) : Nat := rd double 0 V

theorem pow_split {a b : Nat} (h : b ≤ a) : 2 ^ a = 2 ^ (a - b) * 2 ^ b := by rw [← Nat.pow_add, Nat.sub_add_cancel h]

/-- Rounding twice, where the value is not too near a midpoint of two singles. -/
theorem dround (V : Nat) (hm : ∀ q, 2 * V = (2 * q + 1) * 2 ^ lastOf single 925 V ∨ 2 * V + 2 ^ lastOf double 0 V < (2 * q + 1) * 2 ^ lastOf single 925 V ∨ (2 * q + 1) * 2 ^ lastOf single 925 V + 2 ^ lastOf double 0 V < 2 * V) :
    sRung (dVal V) = sRung V := by
  rcases Nat.eq_zero_or_pos V with z | z
  · subst z
    have := rd_exact double 0 0 0 (Nat.two_pow_pos _) (by omega)
    rw [Nat.zero_mul] at this
    show rungOf single 925 (rd double 0 0) = _
    rw [this]
  obtain ⟨s1, s2, s3⟩ := last_le single 925 V z
  obtain ⟨_, d2, d3⟩ := last_le double 0 V z
  have hls : lastOf double 0 V + 29 ≤ lastOf single 925 V := by unfold lastOf; rw [fbS, fbD]; omega
  show rungOf single 925 (rd double 0 V) = rungOf single 925 V
  have hR : rungOf single 925 V = (lastOf single 925 V - 925) * single.binade + rnq V (2 ^ lastOf single 925 V) := rfl
  rw [hR]
  unfold rd
  generalize lastOf single 925 V = ls at *
  generalize lastOf double 0 V = ld at *
  rw [fbS] at s2 s3
  rw [fbD] at d2 d3
  have pd : 0 < 2 ^ ld := Nat.two_pow_pos _
  have eAC : 2 ^ ls = 2 ^ ld * 2 ^ (ls - ld) := by rw [Nat.mul_comm]; exact pow_split (by omega)
  have hpos : 0 < rnq V (2 ^ ld) * 2 ^ ld := by
    refine Nat.mul_pos ?_ pd
    rcases d3 with e | e
    · subst e; rw [Nat.pow_zero, rnq_one]; exact z
    · have : rnq (2 ^ 52 * 2 ^ ld) (2 ^ ld) ≤ rnq V (2 ^ ld) := rnq_mono pd (by rw [← Nat.pow_add, Nat.add_comm]; exact e)
      rw [rnq_mul _ _ pd] at this
      exact Nat.lt_of_lt_of_le (Nat.two_pow_pos 52) this
  rw [rungOf_eq single 925 _ ls hpos s1 ?_ ?_]
  · refine congrArg ((ls - 925) * single.binade + ·) ?_
    rw [eAC, Nat.mul_comm (2 ^ ld) (2 ^ (ls - ld)), rnq_scale _ _ _ (Nat.two_pow_pos _) pd, Nat.mul_comm (2 ^ (ls - ld))]
    refine rnq_twice pd (Nat.two_pow_pos _) ?_ (fun q => by rw [← eAC]; exact hm q)
    obtain ⟨x, hx⟩ : ∃ x, ls - ld = x + 1 := ⟨ls - ld - 1, by omega⟩
    rw [hx, Nat.pow_succ]; omega
  · rw [fbS]
    have e : 2 ^ (ls + 23 + 1) = 2 ^ (ls + 23 + 1 - ld) * 2 ^ ld := pow_split (by omega)
    rw [e]
    refine Nat.mul_le_mul_right _ ?_
    have : rnq V (2 ^ ld) ≤ rnq (2 ^ (ls + 23 + 1 - ld) * 2 ^ ld) (2 ^ ld) := rnq_mono pd (by rw [← e]; exact Nat.le_of_lt s2)
    rwa [rnq_mul _ _ pd] at this
  · rw [fbS]
    rcases s3 with e | e
    · exact .inl e
    · right
      have e2 : 2 ^ (ls + 23) = 2 ^ (ls + 23 - ld) * 2 ^ ld := pow_split (by omega)
      rw [e2]
      refine Nat.mul_le_mul_right _ ?_
      have : rnq (2 ^ (ls + 23 - ld) * 2 ^ ld) (2 ^ ld) ≤ rnq V (2 ^ ld) := rnq_mono pd (by rw [← e2]; exact e)
      rwa [rnq_mul _ _ pd] at this

end Go.Proofs.Ytmbiohopcfglcaa.Fl

/- Sums and products of singles, reckoned as doubles and rounded to a single, are those of singles. -/
namespace Go.Proofs.Ytmbiohopcfglcaa.Fl
open Ieee

theorem near_sum {m n d b N : Nat} (hm : m < 16777216) (hm' : 8388608 ≤ m) (hn : n < 16777216) (hN : N = m * 2 ^ d + n ∨ N + n = m * 2 ^ d) (hbig : 2 ^ 53 ≤ N) (hb : 925 ≤ b) :
    sRung (dVal (N * 2 ^ b)) = sRung (N * 2 ^ b) := by
  have hN0 : 0 < N := Nat.lt_of_lt_of_le (Nat.two_pow_pos 53) hbig
  have pd : 0 < 2 ^ d := Nat.two_pow_pos d
  have u1 : m * 2 ^ d ≤ 16777215 * 2 ^ d := Nat.mul_le_mul_right _ (by omega)
  have u2 : 8388608 * 2 ^ d ≤ m * 2 ^ d := Nat.mul_le_mul_right _ hm'
  have e53 : (2 : Nat) ^ 53 = 9007199254740992 := by decide
  rw [e53] at hbig
  have hd : 29 ≤ d := by
    rcases Nat.lt_or_ge d 29 with x | x
    · have : 2 ^ d ≤ 2 ^ 28 := Nat.pow_le_pow_right (by omega) (by omega)
      rw [show (2 : Nat) ^ 28 = 268435456 by decide] at this
      omega
    · exact x
  have p29 : 536870912 ≤ 2 ^ d := by
    have : 2 ^ 29 ≤ 2 ^ d := Nat.pow_le_pow_right (by omega) hd
    rwa [show (2 : Nat) ^ 29 = 536870912 by decide] at this
  have hlo : N.log2 ≥ d + 22 := by
    refine (Nat.le_log2 (by omega)).2 ?_
    rw [Nat.pow_add, show (2 : Nat) ^ 22 = 4194304 by decide]; omega
  have hhi : N.log2 < d + 24 := by
    refine (Nat.log2_lt (by omega)).2 ?_
    rw [Nat.pow_add, show (2 : Nat) ^ 24 = 16777216 by decide]; omega
  have h53 : 53 ≤ N.log2 := (Nat.le_log2 (by omega)).2 (by rw [e53]; exact hbig)
  obtain ⟨l, hl⟩ : ∃ l, N.log2 = l + 52 := ⟨N.log2 - 52, by omega⟩
  have hs : lastOf single 925 (N * 2 ^ b) = l + 29 + b := by unfold lastOf; rw [log2_mul_pow hN0, fbS]; omega
  have hdd : lastOf double 0 (N * 2 ^ b) = l + b := by unfold lastOf; rw [log2_mul_pow hN0, fbD]; omega
  -- m * 2 ^ d is a whole number c of units 2 ^ (l + 29)
  obtain ⟨c, hc⟩ : ∃ c, m * 2 ^ d = c * 2 ^ (l + 29) := by
    have : d = l + 29 ∨ d = l + 29 + 1 := by omega
    rcases this with e | e
    · exact ⟨m, by rw [e]⟩
    · exact ⟨m * 2, by rw [e, Nat.pow_succ]; simp only [Nat.mul_assoc, Nat.mul_comm 2]⟩
  refine dround _ fun q => ?_
  rw [hs, hdd]
  right
  have pb : 0 < 2 ^ b := Nat.two_pow_pos b
  have eu : 2 ^ (l + 29) = 536870912 * 2 ^ l := by rw [Nat.pow_add, show (2 : Nat) ^ 29 = 536870912 by decide, Nat.mul_comm]
  have hu : 2 ≤ 2 ^ l := by
    have : 2 ^ 1 ≤ 2 ^ l := Nat.pow_le_pow_right (by omega) (by omega)
    simpa using this
  have core : 2 * N + 2 ^ l < (2 * q + 1) * 2 ^ (l + 29) ∨ (2 * q + 1) * 2 ^ (l + 29) + 2 ^ l < 2 * N := by
    rw [eu] at hc ⊢
    generalize 2 ^ l = u at *
    have f1 : (2 * q + 1) * (536870912 * u) = 1073741824 * (q * u) + 536870912 * u := by
      rw [Nat.add_mul, Nat.one_mul, Nat.mul_assoc 2, Nat.mul_left_comm q]; omega
    have f2 : c * (536870912 * u) = 536870912 * (c * u) := Nat.mul_left_comm _ _ _
    rw [f1]
    rw [f2] at hc
    rcases Nat.lt_or_ge q c with x | x
    · have : (q + 1) * u ≤ c * u := Nat.mul_le_mul_right _ x
      rw [Nat.succ_mul] at this
      right; omega
    · have : c * u ≤ q * u := Nat.mul_le_mul_right _ x
      left; omega
  have g1 : 2 * (N * 2 ^ b) = (2 * N) * 2 ^ b := (Nat.mul_assoc _ _ _).symm
  have g2 : 2 ^ (l + b) = 2 ^ l * 2 ^ b := Nat.pow_add _ _ _
  have g3 : (2 * q + 1) * 2 ^ (l + 29 + b) = ((2 * q + 1) * 2 ^ (l + 29)) * 2 ^ b := by rw [Nat.pow_add 2 (l + 29) b, Nat.mul_assoc]
  rw [g1, g2, g3, ← Nat.add_mul, ← Nat.add_mul]
  rcases core with x | x
  · left; exact Nat.mul_lt_mul_of_pos_right x pb
  · right; exact Nat.mul_lt_mul_of_pos_right x pb

theorem exact_round {t j : Nat} (ht : t < 2 ^ 53) : sRung (dVal (t * 2 ^ j)) = sRung (t * 2 ^ j) := by
  show rungOf single 925 (rd double 0 (t * 2 ^ j)) = _
  rw [rd_exact double 0 t j (by rw [fbD]; exact ht) (by omega)]

/-- What a word of a single stands for. -/
structure Sgl (s : Bool) (m : Nat) (p : Int) : Prop where
  small : m < 16777216
  low : -149 ≤ p
  high : p ≤ 104
  norm : p = -149 ∨ 8388608 ≤ m

theorem read_single {x : Nat} {s : Bool} {m : Nat} {p : Int} (h : single.read x = .number s m p) : Sgl s m p := by
  unfold Format.read at h
  have b : single.binade = 8388608 := by decide
  have i : single.infRung = 2139095040 := by decide
  have l : single.leastPlace = -149 := by decide
  rw [b, i, l] at h
  simp only at h
  split at h
  · cases h; exact ⟨by omega, by omega, by omega, .inl rfl⟩
  · split at h
    · rename_i h1 h2
      cases h
      have : x % single.signWeight % 8388608 < 8388608 := Nat.mod_lt _ (by omega)
      have q : x % single.signWeight / 8388608 ≤ 254 := by omega
      exact ⟨by omega, by omega, by omega, .inr (by omega)⟩
    · split at h <;> cases h

/-- The value in units of 2 ^ -1074, with its sign. -/
def vOf (s : Bool) (m : Nat) (p : Int) : Int := signed s m (p + 1074).toNat

theorem signed_eq (s : Bool) (m j : Nat) : signed s m j = (if s then -1 else 1) * ((m * 2 ^ j : Nat) : Int) := by
  unfold signed; rw [Nat.shiftLeft_eq]; cases s <;> simp

theorem signed_scale (s : Bool) (m a b : Nat) : signed s m (a + b) = signed s m a * ((2 ^ b : Nat) : Int) := by
  rw [signed_eq, signed_eq, Nat.pow_add, ← Nat.mul_assoc]
  simp only [Int.natCast_mul, Int.mul_assoc]

/-- Sums, by the values. -/
theorem sum_val {s t : Bool} {m n : Nat} {i j : Int} (hi : -1074 ≤ i) (hj : -1074 ≤ j) :
    ∃ a b, Datum.sum (.number s m i) (.number t n j) = some (.number (if vOf s m i + vOf t n j = 0 then s && t else decide (vOf s m i + vOf t n j < 0)) a b) ∧ -1074 ≤ b ∧ a * 2 ^ (b + 1074).toNat = (vOf s m i + vOf t n j).natAbs := by
  have hV : vOf s m i + vOf t n j = (signed s m (i - min i j).toNat + signed t n (j - min i j).toNat) * ((2 ^ (min i j + 1074).toNat : Nat) : Int) := by
    unfold vOf
    rw [Int.add_mul, ← signed_scale, ← signed_scale]
    congr 2 <;> omega
  generalize hT : signed s m (i - min i j).toNat + signed t n (j - min i j).toNat = T at *
  have hp : (0 : Int) < ((2 ^ (min i j + 1074).toNat : Nat) : Int) := Int.natCast_pos.2 (Nat.two_pow_pos _)
  have z : vOf s m i + vOf t n j = 0 ↔ T = 0 := by
    rw [hV]
    constructor
    · intro h; rcases Int.mul_eq_zero.1 h with x | x
      · exact x
      · omega
    · intro h; rw [h, Int.zero_mul]
  have g : vOf s m i + vOf t n j < 0 ↔ T < 0 := by
    rw [hV]
    constructor
    · intro h
      by_cases x : T < 0
      · exact x
      · have := Int.mul_nonneg (Int.not_lt.1 x) (Int.le_of_lt hp); omega
    · intro h; exact Int.mul_neg_of_neg_of_pos h hp
  refine ⟨T.natAbs, min i j, ?_, by omega, ?_⟩
  · simp only [Datum.sum, hT]
    congr 2
    by_cases h : T = 0
    · rw [if_pos h, if_pos (z.2 h)]
    · rw [if_neg h, if_neg (fun c => h (z.1 c))]
      by_cases h' : T < 0
      · simp [h', g.2 h']
      · have : ¬ (vOf s m i + vOf t n j < 0) := fun c => h' (g.1 c)
        simp [h', this]
  · rw [hV, Int.natAbs_mul, Int.natAbs_natCast]

/-- The magnitude of a sum of singles rounds as a double and then as a single as it does at once. -/
theorem sum_round {s t : Bool} {m n : Nat} {i j : Int} (h1 : Sgl s m i) (h2 : Sgl t n j) : sRung (dVal (vOf s m i + vOf t n j).natAbs) = sRung (vOf s m i + vOf t n j).natAbs := by
  have key : ∀ {s t : Bool} {m n : Nat} {i j : Int}, Sgl s m i → Sgl t n j → j ≤ i → sRung (dVal (vOf s m i + vOf t n j).natAbs) = sRung (vOf s m i + vOf t n j).natAbs := by
    intro s t m n i j h1 h2 hij
    obtain ⟨d, hd⟩ : ∃ d : Nat, i = j + d := ⟨(i - j).toNat, by omega⟩
    have hb : 925 ≤ (j + 1074).toNat := by have := h2.low; omega
    have e : vOf s m i + vOf t n j = (signed s m d + signed t n 0) * ((2 ^ (j + 1074).toNat : Nat) : Int) := by
      unfold vOf
      rw [Int.add_mul, ← signed_scale, ← signed_scale]
      congr 2
      · have := h2.low; omega
      · omega
    rw [e, Int.natAbs_mul, Int.natAbs_natCast]
    generalize (j + 1074).toNat = b at *
    rcases Nat.lt_or_ge (signed s m d + signed t n 0).natAbs (2 ^ 53) with x | x
    · exact exact_round x
    · have hd0 : d ≠ 0 := by
        intro z; subst z
        rw [show (2 : Nat) ^ 53 = 9007199254740992 by decide] at x
        rw [signed_eq, signed_eq] at x
        have := h1.small; have := h2.small
        simp only [Nat.pow_zero, Nat.mul_one] at x
        cases s <;> cases t <;> simp at x <;> omega
      have hm : 8388608 ≤ m := by
        rcases h1.norm with y | y
        · have := h2.low; omega
        · exact y
      have hmd : 8388608 * 2 ≤ m * 2 ^ d := by
        have : 2 ^ 1 ≤ 2 ^ d := Nat.pow_le_pow_right (by omega) (by omega)
        exact Nat.mul_le_mul hm (by simpa using this)
      have hn := h2.small
      refine near_sum (d := d) h1.small hm hn ?_ x hb
      rw [signed_eq, signed_eq, Nat.pow_zero, Nat.mul_one]
      generalize m * 2 ^ d = P at *
      cases s <;> cases t <;> simp only [Bool.false_eq_true, if_false, if_true] <;> omega
  rcases Int.le_total j i with h | h
  · exact key h1 h2 h
  · rw [Int.add_comm]; exact key h2 h1 h

end Go.Proofs.Ytmbiohopcfglcaa.Fl

/- The words: a sum, a difference, a product of two singles, reckoned as doubles and turned into a single, has the very bits of the single's own operation. 'Bd k x': x is a finite single of magnitude at most 2 ^ k. -/
namespace Go.Proofs.Ytmbiohopcfglcaa.Fl
open Ieee

theorem rung_le (f : Format) (c V : Nat) : rungOf f c V ≤ (lastOf f c V - c) * f.binade + 2 * f.binade := by
  rcases Nat.eq_zero_or_pos V with z | z
  · subst z; rw [rungOf_zero]; omega
  · obtain ⟨_, h2, _⟩ := last_le f c V z
    unfold rungOf
    refine Nat.add_le_add_left ?_ _
    generalize lastOf f c V = l at *
    have : rnq V (2 ^ l) ≤ rnq (2 ^ (f.fractionBits + 1) * 2 ^ l) (2 ^ l) := by
      refine rnq_mono (Nat.two_pow_pos _) ?_
      rw [← Nat.pow_add]
      exact Nat.le_of_lt (Nat.lt_of_lt_of_le h2 (Nat.pow_le_pow_right (by omega) (by omega)))
    rw [rnq_mul _ _ (Nat.two_pow_pos _), Nat.pow_succ] at this
    unfold Format.binade; omega

theorem log_lt {V B : Nat} (h : V < 2 ^ B) (hB : 0 < B) : V.log2 < B := by
  rcases Nat.eq_zero_or_pos V with z | z
  · subst z; exact hB
  · exact (Nat.log2_lt (by omega)).2 h

theorem log_lt' {V B C : Nat} (h : V < 2 ^ B) (hB : B ≤ C) (hC : 0 < C) : V.log2 < C :=
  log_lt (Nat.lt_of_lt_of_le h (Nat.pow_le_pow_right (by omega) hB)) hC
theorem two_le {a b : Nat} (h : a ≤ b) : 2 ^ a ≤ 2 ^ b := Nat.pow_le_pow_right (by omega) h

theorem rungS_lt {V B : Nat} (h : V < 2 ^ B) (hB : B < 1202) : sRung V < single.infRung := by
  have h1 := rung_le single 925 V
  have h2 : V.log2 < 1201 := log_lt' h (by omega) (by omega)
  have h3 : lastOf single 925 V - 925 ≤ 252 := by unfold lastOf; rw [fbS]; omega
  have hb : single.binade = 8388608 := by decide
  have hi : single.infRung = 2139095040 := by decide
  rw [hb] at h1
  rw [hi]
  show rungOf single 925 V < _
  have := Nat.mul_le_mul_right 8388608 h3
  omega

theorem rungD_lt {V B : Nat} (h : V < 2 ^ B) (hB : B < 2098) : rungOf double 0 V < double.infRung := by
  have h1 := rung_le double 0 V
  have h2 : V.log2 < 2097 := log_lt' h (by omega) (by omega)
  have h3 : lastOf double 0 V - 0 ≤ 2044 := by unfold lastOf; rw [fbD]; omega
  have hb : double.binade = 4503599627370496 := by decide
  have hi : double.infRung = 9218868437227405312 := by decide
  rw [hb] at h1
  rw [hi]
  have := Nat.mul_le_mul_right 4503599627370496 h3
  omega

/-- x is a finite single of magnitude at most 2 ^ k. -/
def Bd (k x : Nat) : Prop := ∃ s m p, single.read x = .number s m p ∧ m * 2 ^ (p + 1074).toNat ≤ 2 ^ (1074 + k)

theorem toD {x : Nat} {s : Bool} {m : Nat} {p : Int} (hx : single.read x = .number s m p) :
    ∃ X M I, floatToFloatBits .f32 x .f64 = some X ∧ double.read X = .number s M I ∧ -1074 ≤ I ∧ M * 2 ^ (I + 1074).toNat = m * 2 ^ (p + 1074).toNat ∧ (M ≠ 0 → -300 ≤ I) := by
  obtain ⟨h1, h2, h3, h4⟩ := read_single hx
  have hn := nearest_val double s (-1074) 0 leastD m (p := p) (by omega)
  obtain ⟨E, hE⟩ : ∃ E : Nat, E = 1202 := ⟨_, rfl⟩
  have hV : m * 2 ^ (p + 1074).toNat < 2 ^ E := by
    have a : 2 ^ (p + 1074).toNat ≤ 2 ^ (E - 24) := two_le (by omega)
    have b : (16777216 : Nat) = 2 ^ 24 := by decide
    calc m * 2 ^ (p + 1074).toNat ≤ m * 2 ^ (E - 24) := Nat.mul_le_mul_left _ a
      _ < 2 ^ 24 * 2 ^ (E - 24) := Nat.mul_lt_mul_of_pos_right (by rw [← b]; exact h1) (Nat.two_pow_pos _)
      _ = 2 ^ E := by rw [← Nat.pow_add]; congr 1; omega
  obtain ⟨M, I, r1, r2, r3⟩ := read_val double s (-1074) 0 leastD (m * 2 ^ (p + 1074).toNat) (rungD_lt hV (by omega))
  have hex : rd double 0 (m * 2 ^ (p + 1074).toNat) = m * 2 ^ (p + 1074).toNat := rd_exact double 0 m _ (by rw [fbD]; exact Nat.lt_of_lt_of_le h1 (by decide)) (by omega)
  have e : (I - (-1074)).toNat = (I + 1074).toNat := by omega
  have eD : (p - (-1074)).toNat = (p + 1074).toNat := by omega
  rw [hex, e] at r3
  rw [eD] at hn
  have hl : double.leastPlace = -1074 := by decide
  rw [hl] at r2
  refine ⟨double.nearest s m p, M, I, ?_, by rw [hn]; exact r1, r2, r3, ?_⟩
  · unfold floatToFloatBits
    rw [if_neg (by decide)]
    have : FloatKind.f32.decode x = .number s m p := hx
    simp only [this]
    have w : FloatKind.f64.encode (.number s m p) = double.nearest s m p := rfl
    rw [w]
    have d : FloatKind.f64.decode (double.nearest s m p) = .number s M I := by rw [hn]; exact r1
    rw [d]; rfl
  · intro hM
    have hb : M < 2 ^ 53 := by
      unfold Format.read at r1
      have b : double.binade = 4503599627370496 := by decide
      rw [b] at r1
      simp only at r1
      split at r1
      · simp only [Datum.number.injEq] at r1
        have : (2 : Nat) ^ 53 = 9007199254740992 := by decide
        omega
      · split at r1
        · simp only [Datum.number.injEq] at r1
          have := Nat.mod_lt (wordAt double 0 s (m * 2 ^ (p + 1074).toNat) % double.signWeight) (show 0 < 4503599627370496 by omega)
          have : (2 : Nat) ^ 53 = 9007199254740992 := by decide
          omega
        · split at r1 <;> cases r1
    -- a value that is not nought is at least 2 ^ 925 units
    rcases Int.lt_or_le I (-300) with x | x
    · exfalso
      have m0 : 0 < m := by
        rcases Nat.eq_zero_or_pos m with z | z
        · subst z; rw [Nat.zero_mul] at r3; have := Nat.mul_pos (Nat.pos_of_ne_zero hM) (Nat.two_pow_pos (I + 1074).toNat); omega
        · exact z
      obtain ⟨E, hE⟩ : ∃ E : Nat, E = 925 := ⟨_, rfl⟩
      have a : 2 ^ E ≤ m * 2 ^ (p + 1074).toNat := by
        calc 2 ^ E ≤ 2 ^ (p + 1074).toNat := two_le (by omega)
          _ ≤ m * 2 ^ (p + 1074).toNat := Nat.le_mul_of_pos_left _ m0
      have c : M * 2 ^ (I + 1074).toNat < 2 ^ 53 * 2 ^ (E - 53) := by
        calc M * 2 ^ (I + 1074).toNat ≤ M * 2 ^ (E - 53) := Nat.mul_le_mul_left _ (two_le (by omega))
          _ < 2 ^ 53 * 2 ^ (E - 53) := Nat.mul_lt_mul_of_pos_right hb (Nat.two_pow_pos _)
      rw [← Nat.pow_add] at c
      have : 2 ^ (53 + (E - 53)) ≤ 2 ^ E := two_le (by omega)
      omega
    · exact x

/-- Back from a double: the double nearest to a value that rounds twice as once. -/
theorem back {sg : Bool} {V B : Nat} (hB : V < 2 ^ B) (hB' : B < 1202) (hr : sRung (dVal V) = sRung V) :
    floatToFloatBits .f64 (wordAt double 0 sg V) .f32 = some (wordAt single 925 sg V) := by
  obtain ⟨M, I, r1, r2, r3⟩ := read_val double sg (-1074) 0 leastD V (rungD_lt hB (by omega))
  have hl : double.leastPlace = -1074 := by decide
  rw [hl] at r2
  have hn := nearest_val single sg (-1074) 925 leastS M (p := I) (by omega)
  rw [r3] at hn
  have hw : wordAt single 925 sg (rd double 0 V) = wordAt single 925 sg V := by
    unfold wordAt
    have : rungOf single 925 (rd double 0 V) = rungOf single 925 V := hr
    rw [this]
  rw [hw] at hn
  obtain ⟨M', I', q1, _, _⟩ := read_val single sg (-1074) 925 leastS V (rungS_lt hB hB')
  unfold floatToFloatBits
  rw [if_neg (by decide)]
  have d : FloatKind.f64.decode (wordAt double 0 sg V) = .number sg M I := r1
  simp only [d]
  have w : FloatKind.f32.encode (.number sg M I) = wordAt single 925 sg V := hn
  rw [w]
  have d2 : FloatKind.f32.decode (wordAt single 925 sg V) = .number sg M' I' := q1
  rw [d2]; rfl

theorem rd_zero (f : Format) (c : Nat) : rd f c 0 = 0 := by
  have := rd_exact f c 0 c (Nat.two_pow_pos _) (by omega)
  rwa [Nat.zero_mul] at this

theorem bd_word {sg : Bool} {V k : Nat} (hV : V ≤ 2 ^ (1074 + k)) (hk : k ≤ 126) : Bd k (wordAt single 925 sg V) := by
  have hlt : V < 2 ^ (1074 + k + 1) := Nat.lt_of_le_of_lt hV (Nat.pow_lt_pow_right (by omega) (by omega))
  obtain ⟨M, I, q1, _, q3⟩ := read_val single sg (-1074) 925 leastS V (rungS_lt hlt (by omega))
  refine ⟨sg, M, I, q1, ?_⟩
  have e : (I - (-1074)).toNat = (I + 1074).toNat := by omega
  rw [e] at q3
  rw [q3]
  -- rounding is monotone, and a power of two is not rounded
  rcases Nat.eq_zero_or_pos V with z | z
  · subst z
    rw [rd_zero]; exact Nat.zero_le _
  obtain ⟨l1, l2, l3⟩ := last_le single 925 V z
  unfold rd
  generalize lastOf single 925 V = l at *
  rw [fbS] at l2 l3
  have hl : l ≤ 1074 + k := by
    rcases l3 with e | e
    · omega
    · have : 2 ^ (l + 23) ≤ 2 ^ (1074 + k) := Nat.le_trans e hV
      have := (Nat.pow_le_pow_iff_right (by omega : 1 < 2)).1 this
      omega
  have pl : 0 < 2 ^ l := Nat.two_pow_pos l
  rw [pow_split hl]
  refine Nat.mul_le_mul_right _ ?_
  have : rnq V (2 ^ l) ≤ rnq (2 ^ (1074 + k - l) * 2 ^ l) (2 ^ l) := rnq_mono pl (by rw [← pow_split hl]; exact hV)
  rwa [rnq_mul _ _ pl] at this

/-- What the operation, the detour over doubles and the bound come to. -/
structure Same2 (op : BinOp) (k x y : Nat) : Prop where
  ex : ∃ X Y Z r, floatToFloatBits .f32 x .f64 = some X ∧ floatToFloatBits .f32 y .f64 = some Y ∧ floatBits op .f64 X Y = some Z ∧ floatToFloatBits .f64 Z .f32 = some r ∧ floatBits op .f32 x y = some r ∧ Bd k r

theorem sum_core {k : Nat} {s t : Bool} {m n : Nat} {i j : Int} (h1 : Sgl s m i) (h2 : Sgl t n j) (b1 : m * 2 ^ (i + 1074).toNat ≤ 2 ^ (1074 + k)) (b2 : n * 2 ^ (j + 1074).toNat ≤ 2 ^ (1074 + k)) (hk : k ≤ 120)
    {M N : Nat} {I J : Int} (hI : -1074 ≤ I) (hJ : -1074 ≤ J) (e1 : M * 2 ^ (I + 1074).toNat = m * 2 ^ (i + 1074).toNat) (e2 : N * 2 ^ (J + 1074).toNat = n * 2 ^ (j + 1074).toNat) :
    ∃ Z r, ((Datum.number s M I).sum (.number t N J)).map double.write = some Z ∧ floatToFloatBits .f64 Z .f32 = some r ∧ ((Datum.number s m i).sum (.number t n j)).map single.write = some r ∧ Bd (k + 1) r := by
  obtain ⟨a, b, q1, q2, q3⟩ := sum_val (s := s) (t := t) (m := m) (n := n) (i := i) (j := j) (by have := h1.low; omega) (by have := h2.low; omega)
  obtain ⟨A, B, w1, w2, w3⟩ := sum_val (s := s) (t := t) (m := M) (n := N) (i := I) (j := J) hI hJ
  have v1 : vOf s M I = vOf s m i := by unfold vOf; rw [signed_eq, signed_eq, e1]
  have v2 : vOf t N J = vOf t n j := by unfold vOf; rw [signed_eq, signed_eq, e2]
  rw [v1, v2] at w1 w3
  have hr := sum_round h1 h2
  have hV : (vOf s m i + vOf t n j).natAbs ≤ 2 ^ (1074 + (k + 1)) := by
    have p : 2 ^ (1074 + (k + 1)) = 2 ^ (1074 + k) + 2 ^ (1074 + k) := by rw [← Nat.add_assoc, Nat.pow_succ, Nat.mul_two]
    have n1 : (vOf s m i).natAbs = m * 2 ^ (i + 1074).toNat := by unfold vOf; rw [signed_eq, Int.natAbs_mul, Int.natAbs_natCast]; cases s <;> simp
    have n2 : (vOf t n j).natAbs = n * 2 ^ (j + 1074).toNat := by unfold vOf; rw [signed_eq, Int.natAbs_mul, Int.natAbs_natCast]; cases t <;> simp
    have := Int.natAbs_add_le (vOf s m i) (vOf t n j)
    omega
  generalize (vOf s m i + vOf t n j).natAbs = V at *
  have hlt : V < 2 ^ (1074 + (k + 1) + 1) := Nat.lt_of_le_of_lt hV (Nat.pow_lt_pow_right (by omega) (by omega))
  generalize (if vOf s m i + vOf t n j = 0 then s && t else decide (vOf s m i + vOf t n j < 0)) = sg at *
  refine ⟨wordAt double 0 sg V, wordAt single 925 sg V, ?_, back hlt (by omega) hr, ?_, bd_word hV (by omega)⟩
  · rw [w1]
    show some (double.nearest sg A B) = _
    rw [nearest_val double sg (-1074) 0 leastD A (p := B) w2, show (B - (-1074)).toNat = (B + 1074).toNat by omega, w3]
  · rw [q1]
    show some (single.nearest sg a b) = _
    rw [nearest_val single sg (-1074) 925 leastS a (p := b) q2, show (b - (-1074)).toNat = (b + 1074).toNat by omega, q3]

theorem add_same {k x y : Nat} (hk : k ≤ 120) (hx : Bd k x) (hy : Bd k y) : Same2 .add (k + 1) x y := by
  obtain ⟨s, m, i, r1, b1⟩ := hx
  obtain ⟨t, n, j, r2, b2⟩ := hy
  obtain ⟨X, M, I, c1, c2, c3, c4, _⟩ := toD r1
  obtain ⟨Y, N, J, d1, d2, d3, d4, _⟩ := toD r2
  obtain ⟨Z, r, z1, z2, z3, z4⟩ := sum_core (read_single r1) (read_single r2) b1 b2 hk c3 d3 c4 d4
  refine ⟨X, Y, Z, r, c1, d1, ?_, z2, ?_, z4⟩
  · show ((double.read X).sum (double.read Y)).map double.write = _
    rw [c2, d2]; exact z1
  · show ((single.read x).sum (single.read y)).map single.write = _
    rw [r1, r2]; exact z3

theorem sub_same {k x y : Nat} (hk : k ≤ 120) (hx : Bd k x) (hy : Bd k y) : Same2 .sub (k + 1) x y := by
  obtain ⟨s, m, i, r1, b1⟩ := hx
  obtain ⟨t, n, j, r2, b2⟩ := hy
  obtain ⟨X, M, I, c1, c2, c3, c4, _⟩ := toD r1
  obtain ⟨Y, N, J, d1, d2, d3, d4, _⟩ := toD r2
  have g := read_single r2
  obtain ⟨Z, r, z1, z2, z3, z4⟩ := sum_core (t := !t) (read_single r1) ⟨g.small, g.low, g.high, g.norm⟩ b1 b2 hk c3 d3 c4 d4
  refine ⟨X, Y, Z, r, c1, d1, ?_, z2, ?_, z4⟩
  · show ((double.read X).sum (double.read Y).opposite).map double.write = _
    rw [c2, d2]; exact z1
  · show ((single.read x).sum (single.read y).opposite).map single.write = _
    rw [r1, r2]; exact z3

end Go.Proofs.Ytmbiohopcfglcaa.Fl

/- Products and quotients of singles, reckoned as doubles and turned into a single. -/
namespace Go.Proofs.Ytmbiohopcfglcaa.Fl
open Ieee

theorem wordAt_zero (f : Format) (c : Nat) (sg : Bool) : wordAt f c sg 0 = f.word sg 0 := by unfold wordAt; rw [rungOf_zero, Nat.zero_min]
theorem nearest_zero (f : Format) (sg : Bool) (p : Int) : f.nearest sg 0 p = f.word sg 0 := by unfold Format.nearest; rw [if_pos rfl]
theorem pow_add_toNat {I J K L : Int} (h : I + J = K + L) (hI : 0 ≤ I) (hJ : 0 ≤ J) (hK : 0 ≤ K) (hL : 0 ≤ L) : 2 ^ I.toNat * 2 ^ J.toNat = 2 ^ K.toNat * 2 ^ L.toNat := by
  rw [← Nat.pow_add, ← Nat.pow_add]; congr 1; omega

theorem mul_same {a b x y : Nat} (hab : a + b ≤ 126) (hx : Bd a x) (hy : Bd b y) : Same2 .mul (a + b) x y := by
  obtain ⟨s, m, i, r1, b1⟩ := hx
  obtain ⟨t, n, j, r2, b2⟩ := hy
  obtain ⟨X, M, I, c1, c2, c3, c4, c5⟩ := toD r1
  obtain ⟨Y, N, J, d1, d2, d3, d4, d5⟩ := toD r2
  have g1 := read_single r1
  have g2 := read_single r2
  have l1 := g1.low
  have l2 := g2.low
  have s1 := g1.small
  have s2 := g2.small
  -- the magnitude in units
  obtain ⟨V, hV⟩ : ∃ V, V = (m * n) * 2 ^ (i + j + 1074).toNat := ⟨_, rfl⟩
  have hVD : double.nearest (s ^^ t) (M * N) (I + J) = wordAt double 0 (s ^^ t) V := by
    by_cases z : M = 0 ∨ N = 0
    · have zz : M * N = 0 := by rcases z with z | z <;> rw [z] <;> simp
      have z' : m = 0 ∨ n = 0 := by
        rcases z with z | z
        · left; rw [z, Nat.zero_mul] at c4
          rcases Nat.eq_zero_or_pos m with q | q
          · exact q
          · have := Nat.mul_pos q (Nat.two_pow_pos (i + 1074).toNat); omega
        · right; rw [z, Nat.zero_mul] at d4
          rcases Nat.eq_zero_or_pos n with q | q
          · exact q
          · have := Nat.mul_pos q (Nat.two_pow_pos (j + 1074).toNat); omega
      have v0 : V = 0 := by rw [hV]; rcases z' with z | z <;> rw [z] <;> simp
      rw [zz, v0, nearest_zero, wordAt_zero]
    · have k1 := c5 (fun h => z (.inl h))
      have k2 := d5 (fun h => z (.inr h))
      rw [nearest_val double _ (-1074) 0 leastD (M * N) (p := I + J) (by omega)]
      congr 1
      rw [hV]
      have e : (I + J - -1074).toNat = (I + J + 1074).toNat := by omega
      rw [e]
      -- both sides times 2 ^ 1074
      refine Nat.eq_of_mul_eq_mul_right (Nat.two_pow_pos (1074 : Int).toNat) ?_
      have p1 := pow_add_toNat (I := I + J + 1074) (J := 1074) (K := I + 1074) (L := J + 1074) (by omega) (by omega) (by omega) (by omega) (by omega)
      have p2 := pow_add_toNat (I := i + j + 1074) (J := 1074) (K := i + 1074) (L := j + 1074) (by omega) (by omega) (by omega) (by omega) (by omega)
      rw [Nat.mul_assoc (M * N), Nat.mul_assoc (m * n), p1, p2]
      calc M * N * (2 ^ (I + 1074).toNat * 2 ^ (J + 1074).toNat) = (M * 2 ^ (I + 1074).toNat) * (N * 2 ^ (J + 1074).toNat) := by simp only [Nat.mul_assoc, Nat.mul_left_comm]
        _ = (m * 2 ^ (i + 1074).toNat) * (n * 2 ^ (j + 1074).toNat) := by rw [c4, d4]
        _ = m * n * (2 ^ (i + 1074).toNat * 2 ^ (j + 1074).toNat) := by simp only [Nat.mul_assoc, Nat.mul_left_comm]
  have hVS : single.nearest (s ^^ t) (m * n) (i + j) = wordAt single 925 (s ^^ t) V := by
    rw [nearest_val single _ (-1074) 925 leastS (m * n) (p := i + j) (by omega), hV]
    congr 2
  have hr : sRung (dVal V) = sRung V := by
    rw [hV]
    refine exact_round ?_
    have : m * n ≤ 16777215 * 16777215 := Nat.mul_le_mul (by omega) (by omega)
    have : (2 : Nat) ^ 53 = 9007199254740992 := by decide
    omega
  have hB : V ≤ 2 ^ (1074 + (a + b)) := by
    refine Nat.le_of_mul_le_mul_right ?_ (Nat.two_pow_pos (1074 : Int).toNat)
    have p2 := pow_add_toNat (I := i + j + 1074) (J := 1074) (K := i + 1074) (L := j + 1074) (by omega) (by omega) (by omega) (by omega) (by omega)
    rw [hV, Nat.mul_assoc, p2]
    calc m * n * (2 ^ (i + 1074).toNat * 2 ^ (j + 1074).toNat) = (m * 2 ^ (i + 1074).toNat) * (n * 2 ^ (j + 1074).toNat) := by simp only [Nat.mul_assoc, Nat.mul_left_comm]
      _ ≤ 2 ^ (1074 + a) * 2 ^ (1074 + b) := Nat.mul_le_mul b1 b2
      _ = 2 ^ (1074 + (a + b)) * 2 ^ (1074 : Int).toNat := by rw [← Nat.pow_add, ← Nat.pow_add]; exact congrArg (2 ^ ·) (by omega)
  have hlt : V < 2 ^ (1074 + (a + b) + 1) := Nat.lt_of_le_of_lt hB (Nat.pow_lt_pow_right (by omega) (by omega))
  refine ⟨X, Y, wordAt double 0 (s ^^ t) V, wordAt single 925 (s ^^ t) V, c1, d1, ?_, back hlt (by omega) hr, ?_, bd_word hB (by omega)⟩
  · show ((double.read X).product (double.read Y)).map double.write = _
    rw [c2, d2]
    show some (double.nearest (s ^^ t) (M * N) (I + J)) = _
    rw [hVD]
  · show ((single.read x).product (single.read y)).map single.write = _
    rw [r1, r2]
    show some (single.nearest (s ^^ t) (m * n) (i + j)) = _
    rw [hVS]

end Go.Proofs.Ytmbiohopcfglcaa.Fl

/- Quotients of singles. -/
namespace Go.Proofs.Ytmbiohopcfglcaa.Fl
open Ieee

/-- What a rounded quotient P / Q of units is: k digits over the last place l. -/
structure Quo (f : Format) (c P Q l k : Nat) : Prop where
  low : c ≤ l
  hi : P < Q * 2 ^ (l + f.fractionBits + 1)
  lo : l = c ∨ Q * 2 ^ (l + f.fractionBits) ≤ P
  val : k = rnq P (Q * 2 ^ l)

theorem Quo.bounds {f : Format} {c P Q l k : Nat} (h : Quo f c P Q l k) (hQ : 0 < Q) : k ≤ 2 ^ (f.fractionBits + 1) ∧ (l = c ∨ 2 ^ f.fractionBits ≤ k) := by
  have hM : 0 < Q * 2 ^ l := Nat.mul_pos hQ (Nat.two_pow_pos _)
  refine ⟨?_, ?_⟩
  · have : rnq P (Q * 2 ^ l) ≤ rnq (2 ^ (f.fractionBits + 1) * (Q * 2 ^ l)) (Q * 2 ^ l) := by
      refine rnq_mono hM (Nat.le_of_lt ?_)
      rw [Nat.mul_left_comm, ← Nat.pow_add, show f.fractionBits + 1 + l = l + f.fractionBits + 1 by omega]
      exact h.hi
    rwa [rnq_mul _ _ hM, ← h.val] at this
  · rcases h.lo with e | e
    · exact .inl e
    · right
      have : rnq (2 ^ f.fractionBits * (Q * 2 ^ l)) (Q * 2 ^ l) ≤ rnq P (Q * 2 ^ l) := by
        refine rnq_mono hM ?_
        rw [Nat.mul_left_comm, ← Nat.pow_add, show f.fractionBits + l = l + f.fractionBits by omega]
        exact e
      rwa [rnq_mul _ _ hM, ← h.val] at this

theorem Quo.rung {f : Format} {c P Q l k : Nat} (h : Quo f c P Q l k) (hQ : 0 < Q) : rungOf f c (k * 2 ^ l) = (l - c) * f.binade + k := by
  obtain ⟨b1, b2⟩ := h.bounds hQ
  rcases Nat.eq_zero_or_pos k with z | z
  · subst z
    rw [Nat.zero_mul, rungOf_zero]
    rcases b2 with e | e
    · subst e; simp
    · have := Nat.two_pow_pos f.fractionBits; omega
  rw [rungOf_eq f c _ l (Nat.mul_pos z (Nat.two_pow_pos _)) h.low ?_ ?_, rnq_mul _ _ (Nat.two_pow_pos _)]
  · rw [show l + f.fractionBits + 1 = f.fractionBits + 1 + l by omega, Nat.pow_add]
    exact Nat.mul_le_mul_right _ b1
  · rcases b2 with e | e
    · exact .inl e
    · right
      rw [Nat.add_comm l, Nat.pow_add]; exact Nat.mul_le_mul_right _ e

/-- What Datum.quotient writes, by the values of both sides in units of 2 ^ -1074. -/
theorem quot_word (f : Format) (c : Nat) (hc : f.leastPlace = (-1074 : Int) + c) {s t : Bool} {m n : Nat} {i j : Int} (hm : 0 < m) (hn : 0 < n) (hi : -1074 ≤ i) (hj : -1074 ≤ j)
    (hplace : -1074 ≤ i - j - ((f.fractionBits + 2 + n.log2 - m.log2 : Nat) : Int) - 1) {T : Nat} (hT : T = 1074) :
    ∃ l k, Quo f c (m * 2 ^ (i + 1074).toNat * 2 ^ T) (n * 2 ^ (j + 1074).toNat) l k ∧
      ((Datum.number s m i).quotient (f.fractionBits + 2) (.number t n j)).map f.write = some (wordAt f c (s ^^ t) (k * 2 ^ l)) := by
  generalize hmo : f.fractionBits + 2 + n.log2 - m.log2 = mo at *
  obtain ⟨A, hA⟩ : ∃ A, A = m * 2 ^ mo := ⟨_, rfl⟩
  obtain ⟨q, hq⟩ : ∃ q, q = A / n := ⟨_, rfl⟩
  obtain ⟨st, hst⟩ : ∃ st, st = 2 * q + (A % n != 0).toNat := ⟨_, rfl⟩
  obtain ⟨E, hE⟩ : ∃ E, E = (i - j - (mo : Int) - 1 + 1074).toNat := ⟨_, rfl⟩
  have hqlo : 2 ^ (f.fractionBits + 1) ≤ q := by
    rw [hq, Nat.le_div_iff_mul_le hn, hA]
    have a1 : 2 ^ m.log2 ≤ m := Nat.log2_self_le (by omega)
    have a2 : n < 2 ^ (n.log2 + 1) := Nat.lt_log2_self
    calc 2 ^ (f.fractionBits + 1) * n ≤ 2 ^ (f.fractionBits + 1) * 2 ^ (n.log2 + 1) := Nat.mul_le_mul_left _ (Nat.le_of_lt a2)
      _ = 2 ^ (f.fractionBits + 1 + (n.log2 + 1)) := (Nat.pow_add _ _ _).symm
      _ ≤ 2 ^ (m.log2 + mo) := two_le (by omega)
      _ = 2 ^ m.log2 * 2 ^ mo := Nat.pow_add _ _ _
      _ ≤ m * 2 ^ mo := Nat.mul_le_mul_right _ a1
  have hs1 : (A % n != 0).toNat ≤ 1 := by cases (A % n != 0) <;> simp
  have hst0 : 0 < st := by have := Nat.two_pow_pos (f.fractionBits + 1); omega
  have hlog : f.fractionBits + 2 ≤ st.log2 := by
    refine (Nat.le_log2 (by omega)).2 ?_
    rw [show f.fractionBits + 2 = f.fractionBits + 1 + 1 by omega, Nat.pow_succ]; omega
  -- the sticky word in units
  have hnear : f.nearest (s ^^ t) st (i - j - (mo : Int) - 1) = wordAt f c (s ^^ t) (st * 2 ^ E) := by
    rw [nearest_val f _ (-1074) c hc st (p := i - j - (mo : Int) - 1) (by omega), hE]
    congr 3
  have hN0 : 0 < st * 2 ^ E := Nat.mul_pos hst0 (Nat.two_pow_pos _)
  obtain ⟨l1, l2, l3⟩ := last_le f c (st * 2 ^ E) hN0
  have hR : rungOf f c (st * 2 ^ E) = (lastOf f c (st * 2 ^ E) - c) * f.binade + rnq (st * 2 ^ E) (2 ^ lastOf f c (st * 2 ^ E)) := rfl
  have hlE : E + 2 ≤ lastOf f c (st * 2 ^ E) := by
    unfold lastOf; rw [log2_mul_pow hst0]; omega
  generalize lastOf f c (st * 2 ^ E) = l at *
  -- 2 ^ l = 2 ^ E * (2 * M), M even
  obtain ⟨u, hu⟩ : ∃ u, l = E + (u + 2) := ⟨l - E - 2, by omega⟩
  have e2l : 2 ^ l = (2 * (2 * 2 ^ u)) * 2 ^ E := by rw [hu, Nat.pow_add, Nat.pow_add 2 u 2, Nat.mul_comm (2 ^ E)]; congr 1; omega
  have hst2 : rnq (st * 2 ^ E) (2 ^ l) = rnq A (n * (2 * 2 ^ u)) := by
    rw [e2l, rnq_scale _ _ _ (by have := Nat.two_pow_pos u; omega) (Nat.two_pow_pos E), hst, hq]
    exact rnq_sticky hn (by have := Nat.two_pow_pos u; omega) (by omega)
  -- P and Q
  have hx : (i + 1074).toNat + T = mo + (i + 2148 - mo).toNat := by omega
  have hP : m * 2 ^ (i + 1074).toNat * 2 ^ T = A * 2 ^ (i + 2148 - mo).toNat := by
    rw [Nat.mul_assoc, ← Nat.pow_add, hx, Nat.pow_add, ← Nat.mul_assoc, ← hA]
  have hQl : ∀ a, n * 2 ^ (j + 1074).toNat * 2 ^ (E + 1 + a) = (n * 2 ^ a) * 2 ^ (i + 2148 - mo).toNat := by
    intro a
    rw [Nat.mul_assoc, Nat.mul_assoc, ← Nat.pow_add, ← Nat.pow_add]
    exact congrArg (fun z => n * 2 ^ z) (by omega)
  have hQl0 : n * 2 ^ (j + 1074).toNat * 2 ^ l = (n * (2 * 2 ^ u)) * 2 ^ (i + 2148 - mo).toNat := by
    have := hQl (u + 1)
    rw [show E + 1 + (u + 1) = l by omega, Nat.pow_succ 2 u, Nat.mul_comm (2 ^ u) 2] at this
    exact this
  have pS : 0 < 2 ^ (i + 2148 - mo).toNat := Nat.two_pow_pos _
  have hdm := Nat.div_add_mod A n
  have hmod := Nat.mod_lt A hn
  rw [← hq] at hdm
  have hquo : Quo f c (m * 2 ^ (i + 1074).toNat * 2 ^ T) (n * 2 ^ (j + 1074).toNat) l (rnq A (n * (2 * 2 ^ u))) := by
    refine ⟨l1, ?_, ?_, ?_⟩
    · -- P < Q * 2 ^ (l + fb + 1)
      rw [hP]
      have g := hQl (l + f.fractionBits - E)
      rw [show E + 1 + (l + f.fractionBits - E) = l + f.fractionBits + 1 by omega] at g
      rw [g]
      refine Nat.mul_lt_mul_of_pos_right ?_ pS
      have : st < 2 ^ (l + f.fractionBits + 1 - E) := by
        have h := l2
        rw [pow_split (show E ≤ l + f.fractionBits + 1 by omega)] at h
        exact Nat.lt_of_mul_lt_mul_right h
      rw [show l + f.fractionBits + 1 - E = (l + f.fractionBits - E) + 1 by omega, Nat.pow_succ] at this
      generalize 2 ^ (l + f.fractionBits - E) = w at *
      have hqw : q + 1 ≤ w := by omega
      have := Nat.mul_le_mul_left n hqw
      rw [Nat.mul_succ] at this
      omega
    · rcases l3 with e | e
      · exact .inl e
      · right
        rw [hP]
        have g := hQl (l + f.fractionBits - E - 1)
        rw [show E + 1 + (l + f.fractionBits - E - 1) = l + f.fractionBits by omega] at g
        rw [g]
        refine Nat.mul_le_mul_right _ ?_
        have : 2 ^ (l + f.fractionBits - E) ≤ st := by
          have h := e
          rw [pow_split (show E ≤ l + f.fractionBits by omega)] at h
          exact Nat.le_of_mul_le_mul_right h (Nat.two_pow_pos _)
        rw [show l + f.fractionBits - E = (l + f.fractionBits - E - 1) + 1 by omega, Nat.pow_succ] at this
        generalize 2 ^ (l + f.fractionBits - E - 1) = w at *
        have hqw : w ≤ q := by omega
        have := Nat.mul_le_mul_left n hqw
        omega
    · rw [hP, hQl0, rnq_scale _ _ _ (Nat.mul_pos hn (by have := Nat.two_pow_pos u; omega)) pS]
  refine ⟨l, _, hquo, ?_⟩
  show ((Datum.number s m i).quotient (f.fractionBits + 2) (.number t n j)).map f.write = _
  unfold Datum.quotient
  simp only
  rw [if_neg (by omega)]
  simp only [Option.map_some]
  rw [hmo, Nat.shiftLeft_eq, ← hA, ← hq, ← hst]
  show some (f.nearest (s ^^ t) st (i - j - (mo : Int) - 1)) = _
  rw [hnear]
  congr 1
  unfold wordAt
  rw [hquo.rung (Nat.mul_pos hn (Nat.two_pow_pos _)), hR, hst2]

end Go.Proofs.Ytmbiohopcfglcaa.Fl

/- Quotients of singles, reckoned as doubles and turned into a single. -/
namespace Go.Proofs.Ytmbiohopcfglcaa.Fl
open Ieee

theorem Quo.same {P Q ls ks ld kd : Nat} (hS : Quo single 925 P Q ls ks) (hD : Quo double 0 P Q ld kd) (hQ : 0 < Q) (hbig : Q * 2 ^ (ld + 52) ≤ P) (hls : ld + 29 ≤ ls)
    (hm : ∀ q, 2 * P = (2 * q + 1) * (Q * 2 ^ ls) ∨ 2 * P + Q * 2 ^ ld < (2 * q + 1) * (Q * 2 ^ ls) ∨ (2 * q + 1) * (Q * 2 ^ ls) + Q * 2 ^ ld < 2 * P) :
    rungOf single 925 (kd * 2 ^ ld) = rungOf single 925 (ks * 2 ^ ls) := by
  rw [hS.rung hQ]
  have pd : 0 < 2 ^ ld := Nat.two_pow_pos ld
  have hA : 0 < Q * 2 ^ ld := Nat.mul_pos hQ pd
  have eAC : Q * 2 ^ ls = (Q * 2 ^ ld) * 2 ^ (ls - ld) := by rw [Nat.mul_assoc, ← Nat.pow_add]; exact congrArg (fun z => Q * 2 ^ z) (by omega)
  have hkd : ∀ a b, a * (Q * 2 ^ ld) ≤ P → P ≤ b * (Q * 2 ^ ld) → a ≤ kd ∧ kd ≤ b := by
    intro a b h1 h2
    have x1 := rnq_mono hA h1
    have x2 := rnq_mono hA h2
    rw [rnq_mul _ _ hA, ← hD.val] at x1
    rw [rnq_mul _ _ hA, ← hD.val] at x2
    exact ⟨x1, x2⟩
  have e52 : 2 ^ 52 * (Q * 2 ^ ld) ≤ P := by
    rw [Nat.mul_left_comm, ← Nat.pow_add, Nat.add_comm 52]; exact hbig
  have s1 := hS.hi
  rw [fbS] at s1
  have ehi : P ≤ 2 ^ (ls + 24 - ld) * (Q * 2 ^ ld) := by
    rw [Nat.mul_left_comm, ← Nat.pow_add, show ls + 24 - ld + ld = ls + 23 + 1 by omega]; exact Nat.le_of_lt s1
  obtain ⟨klo, khi⟩ := hkd _ _ e52 ehi
  have hk : 0 < kd * 2 ^ ld := Nat.mul_pos (Nat.lt_of_lt_of_le (Nat.two_pow_pos 52) klo) pd
  rw [rungOf_eq single 925 _ ls hk hS.low ?_ ?_]
  · refine congrArg ((ls - 925) * single.binade + ·) ?_
    have e2 : 2 ^ ls = 2 ^ (ls - ld) * 2 ^ ld := pow_split (by omega)
    rw [e2, rnq_scale _ _ _ (Nat.two_pow_pos _) pd, hS.val, hD.val, eAC]
    refine rnq_twice hA (Nat.two_pow_pos _) ?_ (fun q => by rw [← eAC]; exact hm q)
    obtain ⟨x, hx⟩ : ∃ x, ls - ld = x + 1 := ⟨ls - ld - 1, by omega⟩
    rw [hx, Nat.pow_succ]; omega
  · rw [fbS, show ls + 23 + 1 = (ls + 24 - ld) + ld by omega, Nat.pow_add]
    exact Nat.mul_le_mul_right _ khi
  · rw [fbS]
    rcases hS.lo with e | e
    · exact .inl e
    · right
      rw [fbS] at e
      have elo : 2 ^ (ls + 23 - ld) * (Q * 2 ^ ld) ≤ P := by
        rw [Nat.mul_left_comm, ← Nat.pow_add, show ls + 23 - ld + ld = ls + 23 by omega]; exact e
      obtain ⟨k2, _⟩ := hkd _ _ elo ehi
      rw [show ls + 23 = (ls + 23 - ld) + ld by omega, Nat.pow_add]
      exact Nat.mul_le_mul_right _ k2

/-- A quotient of singles is not near a midpoint of two singles, unless it is one. -/
theorem quo_far {m n a b ls ld : Nat} (hn' : n < 16777216) (hm' : m < 16777216) (hls : ld + 29 ≤ ls) (hbig : n * 2 ^ b * 2 ^ (ld + 52) ≤ m * 2 ^ a) (q : Nat) :
    2 * (m * 2 ^ a) = (2 * q + 1) * (n * 2 ^ b * 2 ^ ls) ∨ 2 * (m * 2 ^ a) + n * 2 ^ b * 2 ^ ld < (2 * q + 1) * (n * 2 ^ b * 2 ^ ls) ∨ (2 * q + 1) * (n * 2 ^ b * 2 ^ ls) + n * 2 ^ b * 2 ^ ld < 2 * (m * 2 ^ a) := by
  have e24 : (16777216 : Nat) = 2 ^ 24 := by decide
  -- the gap: both sides are whole multiples of 2 ^ g, and n * 2 ^ b * 2 ^ ld < 2 ^ g
  have key : ∀ g u v, 2 * (m * 2 ^ a) = u * 2 ^ g → (2 * q + 1) * (n * 2 ^ b * 2 ^ ls) = v * 2 ^ g → n * 2 ^ b * 2 ^ ld < 2 ^ g →
      2 * (m * 2 ^ a) = (2 * q + 1) * (n * 2 ^ b * 2 ^ ls) ∨ 2 * (m * 2 ^ a) + n * 2 ^ b * 2 ^ ld < (2 * q + 1) * (n * 2 ^ b * 2 ^ ls) ∨ (2 * q + 1) * (n * 2 ^ b * 2 ^ ls) + n * 2 ^ b * 2 ^ ld < 2 * (m * 2 ^ a) := by
    intro g u v h1 h2 h3
    rw [h1, h2]
    rcases Nat.lt_trichotomy u v with c | c | c
    · right; left
      have := Nat.mul_le_mul_right (2 ^ g) c
      rw [Nat.succ_mul] at this; omega
    · left; rw [c]
    · right; right
      have := Nat.mul_le_mul_right (2 ^ g) c
      rw [Nat.succ_mul] at this; omega
  rcases Nat.le_total (b + ls) (a + 1) with h | h
  · refine key (b + ls) (m * 2 ^ (a + 1 - (b + ls))) ((2 * q + 1) * n) ?_ ?_ ?_
    · rw [Nat.mul_assoc m, ← pow_split h, Nat.pow_succ]; simp only [Nat.mul_comm 2, Nat.mul_assoc]
    · rw [Nat.mul_assoc n, ← Nat.pow_add, Nat.mul_assoc]
    · rw [Nat.mul_assoc, ← Nat.pow_add]
      calc n * 2 ^ (b + ld) < 2 ^ 24 * 2 ^ (b + ld) := Nat.mul_lt_mul_of_pos_right (by rw [← e24]; exact hn') (Nat.two_pow_pos _)
        _ = 2 ^ (24 + (b + ld)) := (Nat.pow_add _ _ _).symm
        _ ≤ 2 ^ (b + ls) := two_le (by omega)
  · refine key (a + 1) m ((2 * q + 1) * (n * 2 ^ (b + ls - (a + 1)))) ?_ ?_ ?_
    · rw [Nat.pow_succ]; simp only [Nat.mul_comm 2, Nat.mul_assoc]
    · rw [Nat.mul_assoc n, ← Nat.pow_add, Nat.mul_assoc (2 * q + 1), Nat.mul_assoc n, ← pow_split h]
    · -- n * 2 ^ b * 2 ^ ld * 2 ^ 52 ≤ m * 2 ^ a < 2 ^ (24 + a)
      have h1 : n * 2 ^ b * 2 ^ ld * 2 ^ 52 < 2 ^ (a + 1) * 2 ^ 52 := by
        calc n * 2 ^ b * 2 ^ ld * 2 ^ 52 = n * 2 ^ b * 2 ^ (ld + 52) := by rw [Nat.mul_assoc _ (2 ^ ld), ← Nat.pow_add]
          _ ≤ m * 2 ^ a := hbig
          _ < 2 ^ 24 * 2 ^ a := Nat.mul_lt_mul_of_pos_right (by rw [← e24]; exact hm') (Nat.two_pow_pos _)
          _ = 2 ^ (24 + a) := (Nat.pow_add _ _ _).symm
          _ ≤ 2 ^ (a + 1 + 52) := two_le (by omega)
          _ = 2 ^ (a + 1) * 2 ^ 52 := Nat.pow_add _ _ _
      exact Nat.lt_of_mul_lt_mul_right h1

theorem log_units {m B : Nat} {e : Nat} (hm : 0 < m) (h : m * 2 ^ e < 2 ^ B) : m.log2 + e < B := by
  have := log_lt h (by
    rcases Nat.eq_zero_or_pos B with z | z
    · subst z; have := Nat.mul_pos hm (Nat.two_pow_pos e); simp at h; omega
    · exact z)
  rwa [log2_mul_pow hm] at this

theorem sgl_units {s : Bool} {m : Nat} {p : Int} (h : Sgl s m p) (hm : 0 < m) {E L : Nat} (hE : E = 1202) (hL : L = 925) : m * 2 ^ (p + 1074).toNat < 2 ^ E ∧ 2 ^ L ≤ m * 2 ^ (p + 1074).toNat := by
  have h1 := h.small; have h2 := h.low; have h3 := h.high
  refine ⟨?_, ?_⟩
  · have a : 2 ^ (p + 1074).toNat ≤ 2 ^ (E - 24) := two_le (by omega)
    have b : (16777216 : Nat) = 2 ^ 24 := by decide
    calc m * 2 ^ (p + 1074).toNat ≤ m * 2 ^ (E - 24) := Nat.mul_le_mul_left _ a
      _ < 2 ^ 24 * 2 ^ (E - 24) := Nat.mul_lt_mul_of_pos_right (by rw [← b]; exact h1) (Nat.two_pow_pos _)
      _ = 2 ^ E := by rw [← Nat.pow_add]; exact congrArg (2 ^ ·) (by omega)
  · calc 2 ^ L ≤ 2 ^ (p + 1074).toNat := two_le (by omega)
      _ ≤ m * 2 ^ (p + 1074).toNat := Nat.le_mul_of_pos_left _ hm

theorem div_same {k x y : Nat} {s t : Bool} {m n : Nat} {i j : Int} (hk : k ≤ 120) (r1 : single.read x = .number s m i) (r2 : single.read y = .number t n j) (hn : 0 < n)
    (hb : m * 2 ^ (i + 1074).toNat ≤ n * 2 ^ (j + 1074).toNat * 2 ^ k) : Same2 .quo k x y := by
  obtain ⟨X, M, I, c1, c2, c3, c4, c5⟩ := toD r1
  obtain ⟨Y, N, J, d1, d2, d3, d4, d5⟩ := toD r2
  have g1 := read_single r1
  have g2 := read_single r2
  have l1 := g1.low
  have l2 := g2.low
  have q1 := g1.high
  have q2 := g2.high
  have s1 := g1.small
  have s2 := g2.small
  have hN : 0 < N := by
    rcases Nat.eq_zero_or_pos N with z | z
    · subst z; rw [Nat.zero_mul] at d4; have := Nat.mul_pos hn (Nat.two_pow_pos (j + 1074).toNat); omega
    · exact z
  rcases Nat.eq_zero_or_pos m with z | hm
  · -- nought
    subst z
    have zM : M = 0 := by
      rw [Nat.zero_mul] at c4
      rcases Nat.eq_zero_or_pos M with q | q
      · exact q
      · have := Nat.mul_pos q (Nat.two_pow_pos (I + 1074).toNat); omega
    subst zM
    have hz : sRung (dVal 0) = sRung 0 := by show rungOf single 925 (rd double 0 0) = _; rw [rd_zero]
    refine ⟨X, Y, wordAt double 0 (s ^^ t) 0, wordAt single 925 (s ^^ t) 0, c1, d1, ?_, back (B := 1) (by omega) (by omega) hz, ?_, bd_word (Nat.zero_le _) (by omega)⟩
    · show ((double.read X).quotient _ (double.read Y)).map double.write = _
      rw [c2, d2]
      unfold Datum.quotient
      simp only
      rw [if_neg (by omega)]
      simp only [Nat.zero_shiftLeft, Nat.zero_div, Nat.zero_mod, bne_self_eq_false, Bool.toNat_false, Nat.mul_zero, Nat.add_zero, Option.map_some]
      show some (double.nearest (s ^^ t) 0 _) = _
      rw [nearest_zero, wordAt_zero]
    · show ((single.read x).quotient _ (single.read y)).map single.write = _
      rw [r1, r2]
      unfold Datum.quotient
      simp only
      rw [if_neg (by omega)]
      simp only [Nat.zero_shiftLeft, Nat.zero_div, Nat.zero_mod, bne_self_eq_false, Bool.toNat_false, Nat.mul_zero, Nat.add_zero, Option.map_some]
      show some (single.nearest (s ^^ t) 0 _) = _
      rw [nearest_zero, wordAt_zero]
  obtain ⟨T, hT⟩ : ∃ T : Nat, T = 1074 := ⟨_, rfl⟩
  obtain ⟨E, hE⟩ : ∃ E : Nat, E = 1202 := ⟨_, rfl⟩
  obtain ⟨L, hL⟩ : ∃ L : Nat, L = 925 := ⟨_, rfl⟩
  have hM : 0 < M := by
    rcases Nat.eq_zero_or_pos M with z | z
    · subst z; rw [Nat.zero_mul] at c4; have := Nat.mul_pos hm (Nat.two_pow_pos (i + 1074).toNat); omega
    · exact z
  obtain ⟨u1, u2⟩ := sgl_units g1 hm hE hL
  obtain ⟨v1, v2⟩ := sgl_units g2 hn hE hL
  have lN : N.log2 + (J + 1074).toNat < E := log_units hN (by rw [d4]; exact v1)
  have hI := c5 (by omega)
  have ln24 : n.log2 < 24 := log_lt (by rw [show (2 : Nat) ^ 24 = 16777216 by decide]; exact s2) (by omega)
  obtain ⟨ls, ks, hS, wS⟩ := quot_word single 925 leastS (s := s) (t := t) (m := m) (n := n) (i := i) (j := j) hm hn (by omega) (by omega) (by rw [fbS]; omega) hT
  obtain ⟨ld, kd, hD, wD⟩ := quot_word double 0 leastD (s := s) (t := t) (m := M) (n := N) (i := I) (j := J) hM hN c3 d3 (by rw [fbD]; omega) hT
  rw [c4, d4] at hD
  have hQ : 0 < n * 2 ^ (j + 1074).toNat := Nat.mul_pos hn (Nat.two_pow_pos _)
  have hbig0 : n * 2 ^ (j + 1074).toNat * 2 ^ 52 ≤ m * 2 ^ (i + 1074).toNat * 2 ^ T := by
    calc n * 2 ^ (j + 1074).toNat * 2 ^ 52 ≤ 2 ^ E * 2 ^ 52 := Nat.mul_le_mul_right _ (Nat.le_of_lt v1)
      _ = 2 ^ (E + 52) := (Nat.pow_add _ _ _).symm
      _ ≤ 2 ^ (L + T) := two_le (by omega)
      _ = 2 ^ L * 2 ^ T := Nat.pow_add _ _ _
      _ ≤ m * 2 ^ (i + 1074).toNat * 2 ^ T := Nat.mul_le_mul_right _ u2
  have hbig : n * 2 ^ (j + 1074).toNat * 2 ^ (ld + 52) ≤ m * 2 ^ (i + 1074).toNat * 2 ^ T := by
    rcases hD.lo with e | e
    · rw [e, Nat.zero_add]; exact hbig0
    · rw [fbD] at e; exact e
  have hls : ld + 29 ≤ ls := by
    have s1 := hS.hi
    rw [fbS] at s1
    have := Nat.lt_of_mul_lt_mul_left (Nat.lt_of_le_of_lt hbig s1)
    have := (Nat.pow_lt_pow_iff_right (by omega : 1 < 2)).1 this
    omega
  have eP : m * 2 ^ (i + 1074).toNat * 2 ^ T = m * 2 ^ ((i + 1074).toNat + T) := by rw [Nat.mul_assoc, ← Nat.pow_add]
  have hrung := hS.same hD hQ hbig hls (fun q => by
    rw [eP] at hbig ⊢
    exact quo_far s2 s1 hls hbig q)
  -- the doubles' value is not rounded again
  have hkd := (hD.bounds hQ).1
  rw [fbD] at hkd
  have hdv : rd double 0 (kd * 2 ^ ld) = kd * 2 ^ ld := by
    rcases Nat.lt_or_ge kd (2 ^ 53) with x | x
    · exact rd_exact double 0 kd ld (by rw [fbD]; exact x) (by omega)
    · have : kd = 2 ^ 52 * 2 := by have : (2 : Nat) ^ (52 + 1) = 2 ^ 53 := rfl; have : (2 : Nat) ^ 53 = 2 ^ 52 * 2 := Nat.pow_succ 2 52; omega
      rw [this, Nat.mul_assoc, show 2 * 2 ^ ld = 2 ^ (ld + 1) by rw [Nat.pow_succ]; omega]
      exact rd_exact double 0 (2 ^ 52) (ld + 1) (by rw [fbD]; exact Nat.pow_lt_pow_right (by omega) (by omega)) (by omega)
  have hr : sRung (dVal (kd * 2 ^ ld)) = sRung (kd * 2 ^ ld) := by
    show rungOf single 925 (rd double 0 (kd * 2 ^ ld)) = _
    rw [hdv]
  have hw : wordAt single 925 (s ^^ t) (kd * 2 ^ ld) = wordAt single 925 (s ^^ t) (ks * 2 ^ ls) := by unfold wordAt; rw [hrung]
  -- bounds
  have hPk : m * 2 ^ (i + 1074).toNat * 2 ^ T ≤ 2 ^ (k + T) * (n * 2 ^ (j + 1074).toNat) := by
    calc m * 2 ^ (i + 1074).toNat * 2 ^ T ≤ n * 2 ^ (j + 1074).toNat * 2 ^ k * 2 ^ T := Nat.mul_le_mul_right _ hb
      _ = 2 ^ (k + T) * (n * 2 ^ (j + 1074).toNat) := by rw [Nat.pow_add, Nat.mul_comm (2 ^ k * 2 ^ T), Nat.mul_assoc]
  have bnd : ∀ l kk, kk = rnq (m * 2 ^ (i + 1074).toNat * 2 ^ T) (n * 2 ^ (j + 1074).toNat * 2 ^ l) → l ≤ k + T → kk * 2 ^ l ≤ 2 ^ (k + T) := by
    intro l kk h1 h2
    have hM : 0 < n * 2 ^ (j + 1074).toNat * 2 ^ l := Nat.mul_pos hQ (Nat.two_pow_pos _)
    have : rnq (m * 2 ^ (i + 1074).toNat * 2 ^ T) (n * 2 ^ (j + 1074).toNat * 2 ^ l) ≤ rnq (2 ^ (k + T - l) * (n * 2 ^ (j + 1074).toNat * 2 ^ l)) (n * 2 ^ (j + 1074).toNat * 2 ^ l) := by
      refine rnq_mono hM ?_
      rw [Nat.mul_left_comm, ← Nat.pow_add, Nat.sub_add_cancel h2, Nat.mul_comm (n * 2 ^ (j + 1074).toNat)]; exact hPk
    rw [rnq_mul _ _ hM, ← h1] at this
    rw [pow_split h2]
    exact Nat.mul_le_mul_right _ this
  have lsk : ∀ l fb, (n * 2 ^ (j + 1074).toNat * 2 ^ (l + fb) ≤ m * 2 ^ (i + 1074).toNat * 2 ^ T) → l ≤ k + T := by
    intro l fb h
    have h' := Nat.le_trans h hPk
    rw [Nat.mul_comm (2 ^ (k + T))] at h'
    have := Nat.le_of_mul_le_mul_left h' hQ
    have := (Nat.pow_le_pow_iff_right (by omega : 1 < 2)).1 this
    omega
  have bS : ks * 2 ^ ls ≤ 2 ^ (k + T) := by
    refine bnd ls ks hS.val ?_
    rcases hS.lo with e | e
    · omega
    · exact lsk _ _ e
  have bD : kd * 2 ^ ld ≤ 2 ^ (k + T) := bnd ld kd hD.val (lsk ld 52 hbig)
  have hlt : kd * 2 ^ ld < 2 ^ (k + T + 1) := Nat.lt_of_le_of_lt bD (Nat.pow_lt_pow_right (by omega) (by omega))
  refine ⟨X, Y, wordAt double 0 (s ^^ t) (kd * 2 ^ ld), wordAt single 925 (s ^^ t) (kd * 2 ^ ld), c1, d1, ?_, back hlt (by omega) hr, ?_, ?_⟩
  · show ((double.read X).quotient _ (double.read Y)).map double.write = _
    rw [c2, d2]; exact wD
  · show ((single.read x).quotient _ (single.read y)).map single.write = _
    rw [r1, r2, hw]; exact wS
  · rw [hw]
    refine bd_word ?_ (by omega)
    rw [show 1074 + k = k + T by omega]; exact bS

end Go.Proofs.Ytmbiohopcfglcaa.Fl

/- Comparisons of singles, by their values; which words are finite, which are heights. -/
namespace Go.Proofs.Ytmbiohopcfglcaa.Fl
open Ieee

/-- The value of a finite single in units of 2 ^ -1074; none: an infinity or a NaN. -/
def vS (x : Nat) : Option Int := match single.read x with | .number s m p => some (vOf s m p) | _ => none

theorem vS_num {x : Nat} {s : Bool} {m : Nat} {p : Int} (h : single.read x = .number s m p) : vS x = some (vOf s m p) := by unfold vS; rw [h]

theorem order_num {s t : Bool} {m n : Nat} {i j : Int} (hi : -1074 ≤ i) (hj : -1074 ≤ j) :
    Datum.order (.number s m i) (.number t n j) = some (compare (vOf s m i) (vOf t n j)) := by
  have e1 : vOf s m i = signed s m (i - min i j).toNat * ((2 ^ (min i j + 1074).toNat : Nat) : Int) := by
    unfold vOf; rw [← signed_scale]; congr 1; omega
  have e2 : vOf t n j = signed t n (j - min i j).toNat * ((2 ^ (min i j + 1074).toNat : Nat) : Int) := by
    unfold vOf; rw [← signed_scale]; congr 1; omega
  have hp : (0 : Int) < ((2 ^ (min i j + 1074).toNat : Nat) : Int) := Int.natCast_pos.2 (Nat.two_pow_pos _)
  simp only [Datum.order]
  congr 1
  generalize signed s m (i - min i j).toNat = a at *
  generalize signed t n (j - min i j).toNat = b at *
  rw [e1, e2]
  generalize ((2 ^ (min i j + 1074).toNat : Nat) : Int) = u at *
  have l : a * u < b * u ↔ a < b := ⟨fun h => Int.lt_of_mul_lt_mul_right h (Int.le_of_lt hp), fun h => Int.mul_lt_mul_of_pos_right h hp⟩
  have e : a * u = b * u ↔ a = b := ⟨fun h => Int.eq_of_mul_eq_mul_right (by omega) h, fun h => by rw [h]⟩
  show compareOfLessAndEq a b = compareOfLessAndEq (a * u) (b * u)
  unfold compareOfLessAndEq
  simp only [l, e]

theorem order_val {x y : Nat} {a b : Int} (hx : vS x = some a) (hy : vS y = some b) : single.order x y = some (compare a b) := by
  unfold vS at hx hy
  unfold Format.order
  split at hx
  · rename_i s m p h1
    split at hy
    · rename_i t n q h2
      cases hx; cases hy
      rw [h1, h2]
      have := (read_single h1).low
      have := (read_single h2).low
      exact order_num (by omega) (by omega)
    · cases hy
  · cases hx

theorem order_none {x y : Nat} (h : (single.read x).isNaN = true ∨ (single.read y).isNaN = true) : single.order x y = none := by
  unfold Format.order
  rcases h with h | h
  · cases hx : single.read x <;> simp_all [Datum.isNaN, Datum.order]
  · cases hx : single.read x <;> cases hy : single.read y <;> simp_all [Datum.isNaN, Datum.order]

theorem cmp_lt {a b : Int} : (compare a b == Ordering.lt) = decide (a < b) := by
  show (compareOfLessAndEq a b == Ordering.lt) = _
  unfold compareOfLessAndEq
  by_cases h : a < b
  · simp [h]
  · by_cases h' : a = b <;> simp [h, h']
theorem cmp_eq {a b : Int} : (compare a b == Ordering.eq) = decide (a = b) := by
  show (compareOfLessAndEq a b == Ordering.eq) = _
  unfold compareOfLessAndEq
  by_cases h : a < b
  · have : a ≠ b := by omega
    simp [h, this]
  · by_cases h' : a = b <;> simp [h, h']
theorem cmp_gt {a b : Int} : (compare a b == Ordering.gt) = decide (b < a) := by
  show (compareOfLessAndEq a b == Ordering.gt) = _
  unfold compareOfLessAndEq
  by_cases h : a < b
  · have : ¬ b < a := by omega
    simp [h, this]
  · by_cases h' : a = b
    · simp [h']
    · have : b < a := by omega
      simp [h, h', this]

theorem some_beq (a b : Ordering) : (some a == some b) = (a == b) := rfl

/-- '<=' on singles, by the values. -/
theorem leq_val {x y : Nat} {a b : Int} (hx : vS x = some a) (hy : vS y = some b) : (single.order x y == some .lt || single.order x y == some .eq) = decide (a ≤ b) := by
  rw [order_val hx hy, some_beq, some_beq, cmp_lt, cmp_eq, ← Bool.decide_or]
  exact decide_eq_decide.2 (by omega)
theorem lss_val {x y : Nat} {a b : Int} (hx : vS x = some a) (hy : vS y = some b) : (single.order x y == some .lt) = decide (a < b) := by
  rw [order_val hx hy, some_beq, cmp_lt]
theorem gtr_val {x y : Nat} {a b : Int} (hx : vS x = some a) (hy : vS y = some b) : (single.order x y == some .gt) = decide (b < a) := by
  rw [order_val hx hy, some_beq, cmp_gt]
theorem geq_val {x y : Nat} {a b : Int} (hx : vS x = some a) (hy : vS y = some b) : (single.order x y == some .gt || single.order x y == some .eq) = decide (b ≤ a) := by
  rw [order_val hx hy, some_beq, some_beq, cmp_gt, cmp_eq, ← Bool.decide_or]
  exact decide_eq_decide.2 (by omega)
theorem eql_val {x y : Nat} {a b : Int} (hx : vS x = some a) (hy : vS y = some b) : (single.order x y == some .eq) = decide (a = b) := by
  rw [order_val hx hy, some_beq, cmp_eq]

/-- The greatest single, and 2 ^ 20, in units. -/
def vMax : Int := ((16777215 * 2 ^ (104 + 1074 : Int).toNat : Nat) : Int)
def vTop : Int := ((1 * 2 ^ (20 + 1074 : Int).toNat : Nat) : Int)
theorem readMax : single.read 2139095039 = .number false 16777215 104 := by decide
theorem readMin : single.read 4286578687 = .number true 16777215 104 := by decide
theorem readTop : single.read 1233125376 = .number false 8388608 (-3) := by decide
theorem readBot : single.read 3380609024 = .number true 8388608 (-3) := by decide
theorem vS_max : vS 2139095039 = some vMax := by rw [vS_num readMax]; unfold vOf vMax; rw [signed_eq]; simp only [Bool.false_eq_true, if_false, Int.one_mul]
theorem vS_min : vS 4286578687 = some (-vMax) := by rw [vS_num readMin]; unfold vOf vMax; rw [signed_eq]; simp only [if_true, Int.neg_mul, Int.one_mul]
theorem top_eq : 8388608 * 2 ^ (-3 + 1074 : Int).toNat = 1 * 2 ^ (20 + 1074 : Int).toNat := by
  rw [show (8388608 : Nat) = 2 ^ 23 by decide, ← Nat.pow_add, Nat.one_mul]; exact congrArg (2 ^ ·) (by omega)
theorem vS_top : vS 1233125376 = some vTop := by rw [vS_num readTop]; unfold vOf vTop; rw [signed_eq, top_eq]; simp only [Bool.false_eq_true, if_false, Int.one_mul]
theorem vS_bot : vS 3380609024 = some (-vTop) := by rw [vS_num readBot]; unfold vOf vTop; rw [signed_eq, top_eq]; simp only [if_true, Int.neg_mul, Int.one_mul]

theorem vS_le {x : Nat} {a : Int} (h : vS x = some a) : -vMax ≤ a ∧ a ≤ vMax := by
  unfold vS at h
  split at h
  · rename_i s m p hx
    cases h
    obtain ⟨h1, h2, h3, _⟩ := read_single hx
    have : m * 2 ^ (p + 1074).toNat ≤ 16777215 * 2 ^ (104 + 1074 : Int).toNat := Nat.mul_le_mul (by omega) (two_le (by omega))
    unfold vOf vMax
    rw [signed_eq]
    generalize m * 2 ^ (p + 1074).toNat = A at *
    generalize 16777215 * 2 ^ (104 + 1074 : Int).toNat = B at *
    cases s <;> simp <;> omega
  · cases h

/-- Is x finite? Is x a height? -/
def finB (x : Nat) : Bool := (vS x).isSome
def hgtB (x : Nat) : Bool := match vS x with | some a => decide (-vTop ≤ a) && decide (a ≤ vTop) | none => false

theorem vS_none {x : Nat} (h : vS x = none) : (∃ s, single.read x = .infinity s) ∨ (single.read x).isNaN = true := by
  unfold vS at h
  cases hx : single.read x with
  | number s m p => rw [hx] at h; cases h
  | infinity s => exact .inl ⟨s, rfl⟩
  | nan s t => right; rfl

theorem between_none {x c d : Nat} {a b : Int} (h : vS x = none) (hc : vS c = some a) (hd : vS d = some b) :
    ((single.order c x == some .lt || single.order c x == some .eq) && (single.order x d == some .lt || single.order x d == some .eq)) = false := by
  have numOf : ∀ {y : Nat} {v : Int}, vS y = some v → ∃ s m p, single.read y = .number s m p := by
    intro y v hy
    unfold vS at hy
    split at hy
    · exact ⟨_, _, _, by assumption⟩
    · cases hy
  obtain ⟨s1, m1, p1, r1⟩ := numOf hc
  obtain ⟨s2, m2, p2, r2⟩ := numOf hd
  rcases vS_none h with ⟨s, hs⟩ | hn
  · unfold Format.order
    rw [hs, r1, r2]
    cases s <;> simp [Datum.order]
  · rw [order_none (.inr hn), order_none (.inl hn)]; rfl

theorem isFinite_eq (x : Nat) : ((single.order 4286578687 x == some .lt || single.order 4286578687 x == some .eq) && (single.order x 2139095039 == some .lt || single.order x 2139095039 == some .eq)) = finB x := by
  cases h : vS x with
  | none => rw [between_none h vS_min vS_max]; unfold finB; rw [h]; rfl
  | some a =>
    obtain ⟨h1, h2⟩ := vS_le h
    rw [leq_val vS_min h, leq_val h vS_max]
    unfold finB; rw [h]; simp [h1, h2]

theorem isHeight_eq (x : Nat) : ((single.order 3380609024 x == some .lt || single.order 3380609024 x == some .eq) && (single.order x 1233125376 == some .lt || single.order x 1233125376 == some .eq)) = hgtB x := by
  cases h : vS x with
  | none => rw [between_none h vS_bot vS_top]; unfold hgtB; rw [h]
  | some a => rw [leq_val vS_bot h, leq_val h vS_top]; unfold hgtB; rw [h]

theorem hgt_fin {x : Nat} (h : hgtB x = true) : finB x = true := by
  unfold hgtB at h; unfold finB
  cases hx : vS x with
  | none => rw [hx] at h; cases h
  | some a => rfl

theorem hgt_bd {x : Nat} (h : hgtB x = true) : Bd 20 x := by
  unfold hgtB at h
  cases hx : vS x with
  | none => rw [hx] at h; cases h
  | some a =>
    rw [hx] at h
    simp only [Bool.and_eq_true, decide_eq_true_eq] at h
    unfold vS at hx
    split at hx
    · rename_i s m p hr
      cases hx
      refine ⟨s, m, p, hr, ?_⟩
      unfold vOf vTop at h
      rw [signed_eq, Nat.one_mul] at h
      rw [show 1074 + 20 = (20 + 1074 : Int).toNat by omega]
      generalize m * 2 ^ (p + 1074).toNat = A at *
      generalize 2 ^ (20 + 1074 : Int).toNat = B at *
      cases s <;> simp at h <;> omega
    · cases hx

theorem bd_hgt {x : Nat} (h : Bd 20 x) : hgtB x = true := by
  obtain ⟨s, m, p, hr, hb⟩ := h
  unfold hgtB
  rw [vS_num hr]
  simp only [Bool.and_eq_true, decide_eq_true_eq]
  unfold vOf vTop
  rw [signed_eq, Nat.one_mul]
  rw [show 1074 + 20 = (20 + 1074 : Int).toNat by omega] at hb
  generalize m * 2 ^ (p + 1074).toNat = A at *
  generalize 2 ^ (20 + 1074 : Int).toNat = B at *
  cases s <;> simp <;> omega

theorem bd_up {j k x : Nat} (h : Bd j x) (hk : j ≤ k) : Bd k x := by
  obtain ⟨s, m, p, h1, h2⟩ := h
  exact ⟨s, m, p, h1, Nat.le_trans h2 (Nat.pow_le_pow_right (by omega) (by omega))⟩
end Go.Proofs.Ytmbiohopcfglcaa.Fl

/- The sign struck off a word; what the reference's Height asks of a single turned into a double. -/
namespace Go.Proofs.Ytmbiohopcfglcaa.Fl
open Ieee

theorem read_abs (f : Format) (x : Nat) : f.read (x % f.signWeight) = match f.read x with | .number _ m p => .number false m p | .infinity _ => .infinity false | .nan _ t => .nan false t := by
  have hs : 0 < f.signWeight := Nat.two_pow_pos _
  have h1 : x % f.signWeight / f.signWeight = 0 := Nat.div_eq_of_lt (Nat.mod_lt _ hs)
  have h2 : x % f.signWeight % f.signWeight = x % f.signWeight := Nat.mod_mod _ _
  unfold Format.read
  simp only [h1, h2]
  generalize x % f.signWeight = r
  split
  · rfl
  · split
    · rfl
    · split <;> rfl

theorem swS : single.signWeight = 2147483648 := by decide
theorem swD : double.signWeight = 9223372036854775808 := by decide
theorem readMaxD : double.read 9218868437227405311 = .number false 9007199254740991 971 := by decide

/-- The double of a finite single is not beyond the greatest double. -/
theorem isInf_no {x X : Nat} (h : vS x ≠ none) (hX : floatToFloatBits .f32 x .f64 = some X) : (double.order (X % 9223372036854775808) 9218868437227405311 == some .gt) = false := by
  unfold vS at h
  split at h
  · rename_i s m p hr
    obtain ⟨X', M, I, c1, c2, c3, c4, _⟩ := toD hr
    rw [hX] at c1
    cases c1
    have ha := read_abs double X
    rw [c2, swD] at ha
    simp only at ha
    unfold Format.order
    rw [ha, readMaxD, order_num c3 (by omega), some_beq, cmp_gt, decide_eq_false_iff_not]
    obtain ⟨E, hE⟩ : ∃ E : Nat, E = 1202 := ⟨_, rfl⟩
    have hlt : m * 2 ^ (p + 1074).toNat < 2 ^ E := by
      have g := read_single hr
      rcases Nat.eq_zero_or_pos m with z | z
      · subst z; rw [Nat.zero_mul]; exact Nat.two_pow_pos _
      · exact (sgl_units g z hE rfl).1
    have : 2 ^ E ≤ 9007199254740991 * 2 ^ (971 + 1074 : Int).toNat := Nat.le_trans (two_le (by omega : E ≤ (971 + 1074 : Int).toNat)) (Nat.le_mul_of_pos_left _ (by omega))
    unfold vOf
    rw [signed_eq, signed_eq, c4]
    generalize m * 2 ^ (p + 1074).toNat = A at *
    generalize 9007199254740991 * 2 ^ (971 + 1074 : Int).toNat = B at *
    simp only [Bool.false_eq_true, if_false]
    omega
  · exact absurd rfl h

theorem conv_inf {x : Nat} {s : Bool} (h : single.read x = .infinity s) : floatToFloatBits .f32 x .f64 = some (double.write (.infinity s)) := by
  unfold floatToFloatBits
  rw [if_neg (by decide)]
  have : FloatKind.f32.decode x = .infinity s := h
  simp only [this]; rfl
theorem isInf_yes (s : Bool) : (double.order (double.write (.infinity s) % 9223372036854775808) 9218868437227405311 == some .gt) = true := by cases s <;> decide

/-- 'v != v', of a single. -/
theorem self_eq {x : Nat} (h : (single.read x).isNaN = false) : (single.order x x == some .eq) = true := by
  unfold Format.order
  cases hx : single.read x with
  | number s m p =>
    have := (read_single hx).low
    rw [order_num (by omega) (by omega), some_beq, cmp_eq]; simp
  | infinity s => cases s <;> rfl
  | nan s t => rw [hx] at h; cases h
theorem self_ne {x : Nat} (h : (single.read x).isNaN = true) : (single.order x x == some .eq) = false := by rw [order_none (.inl h)]; rfl

/-- A finite single is a height where its magnitude is at most 2 ^ 20: as the reference asks. -/
theorem top_abs {x : Nat} (h : finB x = true) : (single.order (x % 2147483648) 1233125376 == some .gt) = !hgtB x := by
  unfold finB at h
  unfold hgtB
  cases hv : vS x with
  | none => rw [hv] at h; cases h
  | some a =>
    have hv0 := hv
    unfold vS at hv
    split at hv
    · rename_i s m p hr
      cases hv
      have ha := read_abs single x
      rw [hr, swS] at ha
      simp only at ha
      rw [gtr_val (vS_num ha) vS_top]
      unfold vOf vTop
      rw [signed_eq, signed_eq]
      generalize m * 2 ^ (p + 1074).toNat = A at *
      generalize 1 * 2 ^ (20 + 1074 : Int).toNat = B at *
      rw [Bool.eq_iff_iff]
      cases s <;> simp <;> omega
    · cases hv

end Go.Proofs.Ytmbiohopcfglcaa.Fl

/- Values of rounded results, in units of 2 ^ -1074: sums, differences, products, whole numbers; rounding is monotone, exact on few digits, and errs by half a unit of the last place. -/
namespace Go.Proofs.Ytmbiohopcfglcaa.Fl
open Ieee

theorem vS_some {x : Nat} {a : Int} (h : vS x = some a) : ∃ s m p, single.read x = .number s m p ∧ vOf s m p = a := by
  unfold vS at h
  split at h
  · rename_i s m p e
    exact ⟨s, m, p, e, Option.some.inj h⟩
  · cases h

/-- The value of the single nearest to a value. -/
def rdS (c : Int) : Int := if c < 0 then -((rd single 925 c.natAbs : Nat) : Int) else ((rd single 925 c.natAbs : Nat) : Int)

theorem rdS_zero : rdS 0 = 0 := by
  unfold rdS
  rw [if_neg (by omega), show (0 : Int).natAbs = 0 from rfl, rd_zero]; rfl

theorem rdS_sign {c : Int} {sg : Bool} (h : c = 0 ∨ sg = decide (c < 0)) : (if sg then -1 else 1) * ((rd single 925 c.natAbs : Nat) : Int) = rdS c := by
  rcases h with rfl | rfl
  · rw [rdS_zero, show (0 : Int).natAbs = 0 from rfl, rd_zero]; simp
  · unfold rdS
    by_cases h : c < 0
    · rw [if_pos h]; simp [h]
    · rw [if_neg h]; simp [h]

theorem vS_word {sg : Bool} {V B : Nat} (hB : V < 2 ^ B) (hB' : B < 1202) : vS (wordAt single 925 sg V) = some ((if sg then -1 else 1) * ((rd single 925 V : Nat) : Int)) := by
  obtain ⟨M, I, q1, _, q3⟩ := read_val single sg (-1074) 925 leastS V (rungS_lt hB hB')
  rw [vS_num q1]; unfold vOf; rw [signed_eq]
  have e : (I - (-1074)).toNat = (I + 1074).toNat := by omega
  rw [e] at q3; rw [q3]

theorem vS_sum {s t : Bool} {m n : Nat} {i j : Int} {r B : Nat} (hi : -1074 ≤ i) (hj : -1074 ≤ j) (h : ((Datum.number s m i).sum (.number t n j)).map single.write = some r)
    (hB : (vOf s m i + vOf t n j).natAbs < 2 ^ B) (hB' : B < 1202) : vS r = some (rdS (vOf s m i + vOf t n j)) := by
  obtain ⟨p, q, q1, q2, q3⟩ := sum_val (s := s) (t := t) (m := m) (n := n) hi hj
  rw [q1] at h
  have h' := Option.some.inj h
  rw [← h']
  show vS (single.nearest _ p q) = _
  rw [nearest_val single _ (-1074) 925 leastS p (p := q) q2, show (q - (-1074)).toNat = (q + 1074).toNat by omega, q3, vS_word hB hB', rdS_sign]
  by_cases z : vOf s m i + vOf t n j = 0
  · exact .inl z
  · right; rw [if_neg z]

theorem vS_add {x y r B : Nat} {a b : Int} (h : Go.floatBits .add .f32 x y = some r) (ha : vS x = some a) (hb : vS y = some b) (hB : (a + b).natAbs < 2 ^ B) (hB' : B < 1202) : vS r = some (rdS (a + b)) := by
  obtain ⟨s, m, i, h1, rfl⟩ := vS_some ha
  obtain ⟨t, n, j, h2, rfl⟩ := vS_some hb
  have g1 := (read_single h1).low
  have g2 := (read_single h2).low
  have h' : ((single.read x).sum (single.read y)).map single.write = some r := h
  rw [h1, h2] at h'
  exact vS_sum (by omega) (by omega) h' hB hB'

theorem vOf_opp (t : Bool) (n : Nat) (j : Int) : vOf (!t) n j = - vOf t n j := by
  unfold vOf; rw [signed_eq, signed_eq]; cases t <;> simp

theorem vS_sub {x y r B : Nat} {a b : Int} (h : Go.floatBits .sub .f32 x y = some r) (ha : vS x = some a) (hb : vS y = some b) (hB : (a - b).natAbs < 2 ^ B) (hB' : B < 1202) : vS r = some (rdS (a - b)) := by
  obtain ⟨s, m, i, h1, rfl⟩ := vS_some ha
  obtain ⟨t, n, j, h2, rfl⟩ := vS_some hb
  have g1 := (read_single h1).low
  have g2 := (read_single h2).low
  have h' : ((single.read x).sum (single.read y).opposite).map single.write = some r := h
  rw [h1, h2] at h'
  have e : vOf s m i - vOf t n j = vOf s m i + vOf (!t) n j := by rw [vOf_opp]; omega
  rw [e] at hB ⊢
  exact vS_sum (t := !t) (by omega) (by omega) h' hB hB'

/-- One, in units. -/
def one : Nat := 2 ^ (1074 : Int).toNat
theorem one_eq : one = 2 ^ (1074 : Int).toNat := rfl
theorem one_pos : 0 < one := Nat.two_pow_pos _

theorem vS_mul {x y r B : Nat} {a b c : Int} (h : Go.floatBits .mul .f32 x y = some r) (ha : vS x = some a) (hb : vS y = some b) (hc : a * b = c * (one : Int)) (hB : c.natAbs < 2 ^ B) (hB' : B < 1202) : vS r = some (rdS c) := by
  obtain ⟨s, m, i, h1, rfl⟩ := vS_some ha
  obtain ⟨t, n, j, h2, rfl⟩ := vS_some hb
  have g1 := (read_single h1).low
  have g2 := (read_single h2).low
  have h' : ((single.read x).product (single.read y)).map single.write = some r := h
  rw [h1, h2] at h'
  have h'' := Option.some.inj h'
  rw [← h'']
  show vS (single.nearest (s ^^ t) (m * n) (i + j)) = _
  rw [nearest_val single _ (-1074) 925 leastS (m * n) (p := i + j) (by omega), show (i + j - (-1074)).toNat = (i + j + 1074).toNat by omega]
  have hv : c = (if (s ^^ t) then -1 else 1) * ((m * n * 2 ^ (i + j + 1074).toNat : Nat) : Int) := by
    have hp : (0 : Int) < (one : Int) := Int.natCast_pos.2 one_pos
    refine Int.eq_of_mul_eq_mul_right (Int.ne_of_gt hp) ?_
    rw [← hc]
    unfold vOf
    rw [signed_eq, signed_eq, one_eq]
    have p2 := pow_add_toNat (I := i + j + 1074) (J := 1074) (K := i + 1074) (L := j + 1074) (by omega) (by omega) (by omega) (by omega) (by omega)
    have e : m * n * 2 ^ (i + j + 1074).toNat * 2 ^ (1074 : Int).toNat = (m * 2 ^ (i + 1074).toNat) * (n * 2 ^ (j + 1074).toNat) := by
      rw [Nat.mul_assoc (m * n), p2]; simp only [Nat.mul_assoc, Nat.mul_left_comm]
    have e' : ((m * n * 2 ^ (i + j + 1074).toNat : Nat) : Int) * ((2 ^ (1074 : Int).toNat : Nat) : Int) = ((m * 2 ^ (i + 1074).toNat : Nat) : Int) * ((n * 2 ^ (j + 1074).toNat : Nat) : Int) := by
      rw [← Int.natCast_mul, e, Int.natCast_mul]
    refine Eq.trans ?_ (Int.mul_assoc _ _ _).symm
    rw [e']
    generalize ((m * 2 ^ (i + 1074).toNat : Nat) : Int) = u
    generalize ((n * 2 ^ (j + 1074).toNat : Nat) : Int) = v
    cases s <;> cases t <;> simp [Int.neg_mul, Int.mul_neg]
  have hn : c.natAbs = m * n * 2 ^ (i + j + 1074).toNat := by
    rw [hv, Int.natAbs_mul, Int.natAbs_natCast]; cases (s ^^ t) <;> simp
  rw [← hn, vS_word hB hB', rdS_sign]
  by_cases z : c = 0
  · exact .inl z
  · right
    have : 0 < m * n * 2 ^ (i + j + 1074).toNat := by omega
    generalize m * n * 2 ^ (i + j + 1074).toNat = V at *
    rw [hv]
    cases (s ^^ t)
    · simp
    · simp; omega

/-- A whole number as a single. -/
theorem vS_int {n : Int} {B : Nat} (hB : (n * (one : Int)).natAbs < 2 ^ B) (hB' : B < 1202) : vS (Go.floatOfInt .f32 n) = some (rdS (n * (one : Int))) := by
  show vS (single.nearest (n < 0) n.natAbs 0) = _
  rw [nearest_val single _ (-1074) 925 leastS n.natAbs (p := 0) (by omega), show ((0 : Int) - (-1074)).toNat = (1074 : Int).toNat by rfl]
  have e : (n * (one : Int)).natAbs = n.natAbs * 2 ^ (1074 : Int).toNat := by rw [Int.natAbs_mul, Int.natAbs_natCast, one_eq]
  rw [← e, vS_word hB hB', rdS_sign]
  by_cases z : n = 0
  · left; rw [z, Int.zero_mul]
  · right
    have hp : (0 : Int) < (one : Int) := Int.natCast_pos.2 one_pos
    by_cases h : n < 0
    · have := Int.mul_neg_of_neg_of_pos h hp
      simp [h, this]
    · have := Int.mul_nonneg (Int.not_lt.1 h) (Int.le_of_lt hp)
      simp [h]; omega

theorem rdS_neg (c : Int) : rdS (-c) = - rdS c := by
  rcases Int.lt_trichotomy c 0 with h | h | h
  · unfold rdS; rw [if_neg (by omega), if_pos h, Int.natAbs_neg]; omega
  · subst h; rw [show -(0 : Int) = 0 from rfl, rdS_zero]; rfl
  · unfold rdS; rw [if_pos (by omega), if_neg (by omega), Int.natAbs_neg]

theorem rdS_nat (V : Nat) : rdS (V : Int) = (rd single 925 V : Nat) := by
  unfold rdS; rw [if_neg (by omega), Int.natAbs_natCast]

theorem rd_mono {V W : Nat} (h : V ≤ W) : rd single 925 V ≤ rd single 925 W := by
  rcases Nat.eq_zero_or_pos V with z | z
  · subst z; rw [rd_zero]; exact Nat.zero_le _
  have z' : 0 < W := by omega
  obtain ⟨l1, l2, l3⟩ := last_le single 925 V z
  obtain ⟨k1, k2, k3⟩ := last_le single 925 W z'
  unfold rd
  generalize lastOf single 925 V = l at *
  generalize lastOf single 925 W = k at *
  rw [fbS] at l2 l3 k2 k3
  have pl : 0 < 2 ^ l := Nat.two_pow_pos l
  have pk : 0 < 2 ^ k := Nat.two_pow_pos k
  rcases Nat.lt_trichotomy l k with c | c | c
  · -- W reaches a higher binade
    have a : rnq V (2 ^ l) ≤ 2 ^ 24 := by
      have := rnq_mono (M := 2 ^ l) pl (N := V) (N' := 2 ^ 24 * 2 ^ l) (by rw [← Nat.pow_add]; exact Nat.le_of_lt (by rwa [show 24 + l = l + 23 + 1 by omega]))
      rwa [rnq_mul _ _ pl] at this
    have b : 2 ^ 23 ≤ rnq W (2 ^ k) := by
      have e : 2 ^ (k + 23) ≤ W := by rcases k3 with x | x; omega; exact x
      have := rnq_mono (M := 2 ^ k) pk (N := 2 ^ 23 * 2 ^ k) (N' := W) (by rw [← Nat.pow_add, show 23 + k = k + 23 by omega]; exact e)
      rwa [rnq_mul _ _ pk] at this
    calc rnq V (2 ^ l) * 2 ^ l ≤ 2 ^ 24 * 2 ^ l := Nat.mul_le_mul_right _ a
      _ = 2 ^ (24 + l) := by rw [Nat.pow_add]
      _ ≤ 2 ^ (23 + k) := Nat.pow_le_pow_right (by omega) (by omega)
      _ = 2 ^ 23 * 2 ^ k := by rw [Nat.pow_add]
      _ ≤ rnq W (2 ^ k) * 2 ^ k := Nat.mul_le_mul_right _ b
  · subst c
    exact Nat.mul_le_mul_right _ (rnq_mono pl h)
  · exfalso
    rcases l3 with x | x
    · omega
    · have : 2 ^ (l + 23) < 2 ^ (k + 23 + 1) := Nat.lt_of_le_of_lt (Nat.le_trans x h) k2
      have := (Nat.pow_lt_pow_iff_right (by omega : 1 < 2)).1 this
      omega

theorem rdS_mono {a b : Int} (h : a ≤ b) : rdS a ≤ rdS b := by
  have p : ∀ {a b : Int}, 0 ≤ a → a ≤ b → rdS a ≤ rdS b := by
    intro a b h0 h
    obtain ⟨m, rfl⟩ := Int.eq_ofNat_of_zero_le h0
    obtain ⟨n, rfl⟩ := Int.eq_ofNat_of_zero_le (Int.le_trans h0 h)
    rw [rdS_nat, rdS_nat]
    exact Int.ofNat_le.2 (rd_mono (Int.ofNat_le.1 h))
  rcases Int.lt_or_le a 0 with c | c
  · rcases Int.lt_or_le b 0 with d | d
    · have := p (a := -b) (b := -a) (by omega) (by omega)
      rw [rdS_neg, rdS_neg] at this; omega
    · have u := p (a := 0) (b := b) (by omega) d
      have v := p (a := 0) (b := -a) (by omega) (by omega)
      rw [rdS_neg] at v
      rw [rdS_zero] at u v
      omega
  · exact p c h

theorem rdS_exact {c : Int} (t : Int) (j : Nat) (ht : t.natAbs < 16777216) (hj : 925 ≤ j) (h : c = t * ((2 ^ j : Nat) : Int)) : rdS c = c := by
  have key : ∀ t : Nat, t < 16777216 → rdS ((t : Int) * ((2 ^ j : Nat) : Int)) = (t : Int) * ((2 ^ j : Nat) : Int) := by
    intro t ht
    rw [← Int.natCast_mul, rdS_nat, rd_exact single 925 t j (by rw [fbS]; exact ht) hj]
  subst h
  rcases Int.lt_or_le t 0 with c | c
  · obtain ⟨n, hn⟩ := Int.eq_ofNat_of_zero_le (show 0 ≤ -t by omega)
    have e : t * ((2 ^ j : Nat) : Int) = -((n : Int) * ((2 ^ j : Nat) : Int)) := by rw [← hn, Int.neg_mul, Int.neg_neg]
    rw [e, rdS_neg, key n (by omega)]
  · obtain ⟨n, rfl⟩ := Int.eq_ofNat_of_zero_le c
    exact key n (by omega)

/-- The error: at most half of 2 ^ e, below 2 ^ (e + 24). -/
theorem rdS_err {c : Int} {e : Nat} (he : 925 ≤ e) (hc : c.natAbs < 2 ^ (e + 24)) : 2 * (rdS c - c).natAbs ≤ 2 ^ e := by
  have key : ∀ V : Nat, V < 2 ^ (e + 24) → 2 * (rdS (V : Int) - (V : Int)).natAbs ≤ 2 ^ e := by
    intro V hV
    rcases Nat.eq_zero_or_pos V with z | z
    · subst z; rw [show ((0 : Nat) : Int) = 0 from rfl, rdS_zero]; simp
    obtain ⟨l1, l2, l3⟩ := last_le single 925 V z
    rw [rdS_nat]
    unfold rd
    generalize lastOf single 925 V = l at *
    rw [fbS] at l2 l3
    have hl : l ≤ e := by
      rcases l3 with x | x
      · omega
      · have : 2 ^ (l + 23) < 2 ^ (e + 24) := Nat.lt_of_le_of_lt x hV
        have := (Nat.pow_lt_pow_iff_right (by omega : 1 < 2)).1 this
        omega
    have hn := rnq_near (N := V) (M := 2 ^ l) (Nat.two_pow_pos l)
    have a := hn.low
    have b := hn.high
    have m : 2 ^ l ≤ 2 ^ e := Nat.pow_le_pow_right (by omega) hl
    generalize rnq V (2 ^ l) * 2 ^ l = R at *
    omega
  rcases Int.lt_or_le c 0 with d | d
  · obtain ⟨n, hn⟩ := Int.eq_ofNat_of_zero_le (show 0 ≤ -c by omega)
    have := key n (by omega)
    rw [← hn, rdS_neg] at this
    omega
  · obtain ⟨n, rfl⟩ := Int.eq_ofNat_of_zero_le d
    exact key n (by omega)

end Go.Proofs.Ytmbiohopcfglcaa.Fl

/- Values of literals; the words of Unit and Signed: what Hash's upper bits come to. -/
namespace Go.Proofs.Ytmbiohopcfglcaa.Fl
open Ieee

theorem vS_lit {x m t k j : Nat} {s : Bool} {p : Int} (h : single.read x = .number s m p) (hm : m = t * 2 ^ k) (hj : k + (p + 1074).toNat = j) : vS x = some ((if s then -1 else 1) * ((t * 2 ^ j : Nat) : Int)) := by
  rw [vS_num h]; unfold vOf; rw [signed_eq, hm, Nat.mul_assoc, ← Nat.pow_add, hj]

theorem one_split {a j : Nat} (h : a + j = 1074) : one = 2 ^ a * 2 ^ j := by
  rw [one_eq, ← Nat.pow_add]; exact congrArg (2 ^ ·) (by omega)
theorem one_pow {j : Nat} (h : j = 1074) : one = 2 ^ j := by rw [one_eq]; exact congrArg (2 ^ ·) (by omega)

theorem vS_one : vS 1065353216 = some (one : Int) := by
  have h : single.read 1065353216 = .number false 8388608 (-23) := by decide
  obtain ⟨j, hj⟩ : ∃ j : Nat, j = 1074 := ⟨_, rfl⟩
  rw [vS_lit (t := 1) (k := 23) (j := j) h (by decide) (by rw [hj]; decide), one_pow hj]; simp
theorem vS_mone : vS 3212836864 = some (-(one : Int)) := by
  have h : single.read 3212836864 = .number true 8388608 (-23) := by decide
  obtain ⟨j, hj⟩ : ∃ j : Nat, j = 1074 := ⟨_, rfl⟩
  rw [vS_lit (t := 1) (k := 23) (j := j) h (by decide) (by rw [hj]; decide), one_pow hj]; simp
theorem vS_two : vS 1073741824 = some (2 * (one : Int)) := by
  have h : single.read 1073741824 = .number false 8388608 (-22) := by decide
  obtain ⟨j, hj⟩ : ∃ j : Nat, j = 1074 := ⟨_, rfl⟩
  rw [vS_lit (t := 1) (k := 23) (j := j + 1) h (by decide) (by rw [hj]; decide), Nat.pow_succ, one_pow hj]; simp; omega
theorem vS_three : vS 1077936128 = some (3 * (one : Int)) := by
  have h : single.read 1077936128 = .number false 12582912 (-22) := by decide
  obtain ⟨j, hj⟩ : ∃ j : Nat, j = 1074 := ⟨_, rfl⟩
  rw [vS_lit (t := 3) (k := 22) (j := j) h (by decide) (by rw [hj]; decide), one_pow hj]; simp
theorem vS_zero : vS 0 = some 0 := by
  have h : single.read 0 = .number false 0 (-149) := by decide
  obtain ⟨j, hj⟩ : ∃ j : Nat, j = 925 := ⟨_, rfl⟩
  rw [vS_lit (t := 0) (k := 0) (j := j) h (by decide) (by rw [hj]; decide)]; simp
theorem vS_eps {j : Nat} (hj : j = 1050) : vS 864026624 = some ((2 ^ j : Nat) : Int) := by
  have h : single.read 864026624 = .number false 8388608 (-47) := by decide
  rw [vS_lit (t := 1) (k := 23) (j := j) h (by decide) (by rw [hj]; decide)]; simp

theorem bd_val {x k : Nat} {a : Int} (h : vS x = some a) (hb : a.natAbs ≤ 2 ^ (1074 + k)) : Bd k x := by
  obtain ⟨s, m, p, e, rfl⟩ := vS_some h
  refine ⟨s, m, p, e, ?_⟩
  unfold vOf at hb
  rw [signed_eq, Int.natAbs_mul, Int.natAbs_natCast] at hb
  cases s <;> simpa using hb
theorem val_bd {x k : Nat} (h : Bd k x) : ∃ a, vS x = some a ∧ a.natAbs ≤ 2 ^ (1074 + k) := by
  obtain ⟨s, m, p, e, hb⟩ := h
  refine ⟨_, vS_num e, ?_⟩
  unfold vOf
  rw [signed_eq, Int.natAbs_mul, Int.natAbs_natCast]
  cases s <;> simpa using hb

theorem bd_val' {x k j : Nat} {a : Int} (h : vS x = some a) (hj : j = 1074 + k) (hb : a.natAbs ≤ 2 ^ j) : Bd k x := by subst hj; exact bd_val h hb
theorem natAbs_lt_pow {a : Int} {B : Nat} {M : Int} (h1 : -M ≤ a) (h2 : a ≤ M) (h : M < ((2 ^ B : Nat) : Int)) : a.natAbs < 2 ^ B := by omega

/-- Unit of h as a word. -/
def unitW (h : Int) : Nat := (Go.floatBits .mul .f32 (Go.floatOfInt .f32 (h / 256)) 864026624).getD 0
/-- Signed of h as a word. -/
def sgnW (h : Int) : Nat := (Go.floatBits .sub .f32 ((Go.floatBits .mul .f32 (unitW h) 1073741824).getD 0) 1065353216).getD 0

theorem int_val {n : Int} (h : n.natAbs < 16777216) : vS (Go.floatOfInt .f32 n) = some (n * (one : Int)) ∧ Bd 24 (Go.floatOfInt .f32 n) := by
  obtain ⟨j, hj⟩ : ∃ j : Nat, j = 1074 := ⟨_, rfl⟩
  have e : 2 ^ (24 + j) = 16777216 * one := by rw [one_pow hj, Nat.pow_add]
  have hn : (n * (one : Int)).natAbs < 2 ^ (24 + j) := by
    rw [Int.natAbs_mul, Int.natAbs_natCast, e]
    exact Nat.mul_lt_mul_of_pos_right h one_pos
  have v := vS_int hn (by omega)
  rw [rdS_exact n j h (by omega) (by rw [one_pow hj])] at v
  exact ⟨v, bd_val' v (by omega) (Nat.le_of_lt hn)⟩

theorem unit_parts {h : Int} (h0 : 0 ≤ h) (h1 : h < 4294967296) :
    ∃ r, Go.floatBits .mul .f32 (Go.floatOfInt .f32 (h / 256)) 864026624 = some r ∧ Same2 .mul 24 (Go.floatOfInt .f32 (h / 256)) 864026624 ∧ r = unitW h := by
  obtain ⟨_, b⟩ := int_val (n := h / 256) (by omega)
  obtain ⟨j, hj⟩ : ∃ j : Nat, j = 1050 := ⟨_, rfl⟩
  have b2 : Bd 0 864026624 := bd_val' (j := 24 + j) (vS_eps hj) (by omega) (by rw [Int.natAbs_natCast]; exact Nat.pow_le_pow_right (by omega) (by omega))
  have S := mul_same (a := 24) (b := 0) (by omega) b b2
  obtain ⟨X, Y, Z, r, _, _, _, _, e, _⟩ := S.ex
  exact ⟨r, e, S, by unfold unitW; rw [e]; rfl⟩

theorem unit_val {h : Int} {j : Nat} (hj : j = 1050) (h0 : 0 ≤ h) (h1 : h < 4294967296) : vS (unitW h) = some (h / 256 * ((2 ^ j : Nat) : Int)) := by
  obtain ⟨r, e, S, rfl⟩ := unit_parts h0 h1
  obtain ⟨v, _⟩ := int_val (n := h / 256) (by omega)
  have hp : (0 : Int) < ((2 ^ j : Nat) : Int) := Int.natCast_pos.2 (Nat.two_pow_pos _)
  have eo : (2 : Nat) ^ (24 + j) = 16777216 * 2 ^ j := by rw [Nat.pow_add]
  have bd : (h / 256 * ((2 ^ j : Nat) : Int)).natAbs < 2 ^ (24 + j) := by
    rw [Int.natAbs_mul, Int.natAbs_natCast, eo]
    exact Nat.mul_lt_mul_of_pos_right (by omega) (Nat.two_pow_pos _)
  have m := vS_mul (c := h / 256 * ((2 ^ j : Nat) : Int)) e v (vS_eps hj) (by rw [Int.mul_assoc, Int.mul_assoc, Int.mul_comm (one : Int)]) bd (by omega)
  rwa [rdS_exact (h / 256) j (by omega) (by omega) rfl] at m

theorem sgn_parts {h : Int} (h0 : 0 ≤ h) (h1 : h < 4294967296) :
    ∃ p r, Go.floatBits .mul .f32 (unitW h) 1073741824 = some p ∧ Same2 .mul 2 (unitW h) 1073741824 ∧ Go.floatBits .sub .f32 p 1065353216 = some r ∧ Same2 .sub 3 p 1065353216 ∧ r = sgnW h := by
  obtain ⟨j, hj⟩ : ∃ j : Nat, j = 1050 := ⟨_, rfl⟩
  have u := unit_val hj h0 h1
  have b1 : Bd 0 (unitW h) := bd_val' (j := 24 + j) u (by omega) (by
    rw [Int.natAbs_mul, Int.natAbs_natCast, Nat.pow_add]
    exact Nat.mul_le_mul_right _ (by omega))
  obtain ⟨J, hJ⟩ : ∃ J : Nat, J = 1074 := ⟨_, rfl⟩
  have b2 : Bd 2 1073741824 := bd_val' (j := 2 + J) vS_two (by omega) (by
    rw [one_pow hJ, Nat.pow_add, Int.natAbs_mul, Int.natAbs_natCast]
    exact Nat.mul_le_mul_right _ (by decide))
  have b3 : Bd 2 1065353216 := bd_val' (j := 2 + J) vS_one (by omega) (by
    rw [one_pow hJ, Int.natAbs_natCast]; exact Nat.pow_le_pow_right (by omega) (by omega))
  have S := mul_same (a := 0) (b := 2) (by omega) b1 b2
  obtain ⟨X, Y, Z, p, _, _, _, _, e, bp⟩ := S.ex
  have T := sub_same (k := 2) (by omega) bp b3
  obtain ⟨X', Y', Z', r, _, _, _, _, e', _⟩ := T.ex
  exact ⟨p, r, e, S, e', T, by unfold sgnW; rw [e]; show r = (Go.floatBits .sub .f32 p 1065353216).getD 0; rw [e']; rfl⟩

theorem sgn_val {h : Int} {j : Nat} (hj : j = 1050) (h0 : 0 ≤ h) (h1 : h < 4294967296) : vS (sgnW h) = some ((2 * (h / 256) - 16777216) * ((2 ^ j : Nat) : Int)) := by
  obtain ⟨p, r, e, _, e', _, rfl⟩ := sgn_parts h0 h1
  have u := unit_val hj h0 h1
  have eo : one = 16777216 * 2 ^ j := by rw [one_split (a := 24) (j := j) (by omega)]
  obtain ⟨k, hk⟩ : ∃ k : Int, k = h / 256 := ⟨_, rfl⟩
  have k0 : 0 ≤ k := by omega
  have k1 : k < 16777216 := by omega
  rw [← hk] at u ⊢
  have ep : (2 : Nat) ^ (26 + j) = 67108864 * 2 ^ j := by rw [Nat.pow_add]
  have pj : 0 < 2 ^ j := Nat.two_pow_pos j
  have eJ : ((2 ^ (j + 1) : Nat) : Int) = 2 * ((2 ^ j : Nat) : Int) := by rw [Nat.pow_succ]; omega
  generalize hU : (2 ^ j : Nat) = U at *
  have hc : k * (U : Int) * (2 * (one : Int)) = 2 * k * (U : Int) * (one : Int) := by
    have G : ∀ a b c : Int, a * b * (2 * c) = 2 * a * b * c := fun a b c => by
      rw [Int.mul_left_comm, Int.mul_assoc 2 a b, Int.mul_assoc 2]
    exact G _ _ _
  have m := vS_mul (c := 2 * k * (U : Int)) e u vS_two hc (B := 26 + j) (by
      rw [ep, Int.natAbs_mul, Int.natAbs_natCast]
      exact Nat.mul_lt_mul_of_pos_right (by omega) pj) (by omega)
  rw [rdS_exact k (j + 1) (by omega) (by omega) (by rw [eJ, ← Int.mul_assoc, Int.mul_comm k 2])] at m
  have s := vS_sub e' m vS_one (B := 26 + j) (by
      rw [ep, eo]
      have a : (0 : Int) ≤ k * U := Int.mul_nonneg k0 (by omega)
      have b : k * U ≤ 16777216 * (U : Int) := Int.mul_le_mul_of_nonneg_right (by omega) (by omega)
      rw [Int.mul_assoc]
      omega) (by omega)
  have E : 2 * k * (U : Int) - ((one : Nat) : Int) = (2 * k - 16777216) * (U : Int) := by
    rw [eo, Int.sub_mul]; simp
  rw [E] at s
  have R : rdS ((2 * k - 16777216) * (U : Int)) = (2 * k - 16777216) * (U : Int) := by
    rcases Int.lt_or_le k 1 with c | c
    · have : k = 0 := by omega
      subst this
      refine rdS_exact (-1) (24 + j) (by decide) (by omega) ?_
      rw [Nat.pow_add, hU]; omega
    · exact rdS_exact (2 * k - 16777216) j (by omega) (by omega) (by rw [hU])
  rwa [R] at s

theorem unit_in {h : Int} (h0 : 0 ≤ h) (h1 : h < 4294967296) : ∃ a, vS (unitW h) = some a ∧ 0 ≤ a ∧ a < (one : Int) := by
  obtain ⟨j, hj⟩ : ∃ j : Nat, j = 1050 := ⟨_, rfl⟩
  have eo : one = 16777216 * 2 ^ j := by rw [one_split (a := 24) (j := j) (by omega)]
  have pj : 0 < 2 ^ j := Nat.two_pow_pos j
  refine ⟨_, unit_val hj h0 h1, Int.mul_nonneg (by omega) (by omega), ?_⟩
  rw [eo, Int.natCast_mul]
  exact Int.mul_lt_mul_of_pos_right (by omega) (Int.natCast_pos.2 pj)
theorem sgn_in {h : Int} (h0 : 0 ≤ h) (h1 : h < 4294967296) : ∃ a, vS (sgnW h) = some a ∧ -(one : Int) ≤ a ∧ a < (one : Int) := by
  obtain ⟨j, hj⟩ : ∃ j : Nat, j = 1050 := ⟨_, rfl⟩
  have eo : one = 16777216 * 2 ^ j := by rw [one_split (a := 24) (j := j) (by omega)]
  have pj : 0 < 2 ^ j := Nat.two_pow_pos j
  refine ⟨_, sgn_val hj h0 h1, ?_, ?_⟩
  · rw [eo, Int.natCast_mul, ← Int.neg_mul]
    exact Int.mul_le_mul_of_nonneg_right (by omega) (by omega)
  · rw [eo, Int.natCast_mul]
    exact Int.mul_lt_mul_of_pos_right (by omega) (Int.natCast_pos.2 pj)

end Go.Proofs.Ytmbiohopcfglcaa.Fl

/- Ease: t * t * (3 - 2 * t), each step rounded, lies from 0 to 1 where t does. -/
namespace Go.Proofs.Ytmbiohopcfglcaa.Fl
open Ieee

theorem vS_form {x : Nat} {a : Int} (h : vS x = some a) : ∃ (t : Int) (j : Nat), t.natAbs < 16777216 ∧ 925 ≤ j ∧ a = t * ((2 ^ j : Nat) : Int) := by
  obtain ⟨s, m, p, e, rfl⟩ := vS_some h
  have g := read_single e
  have l := g.low
  have sm := g.small
  refine ⟨(if s then -1 else 1) * (m : Int), (p + 1074).toNat, ?_, by omega, ?_⟩
  · rw [Int.natAbs_mul, Int.natAbs_natCast]; cases s <;> simp <;> omega
  · unfold vOf; rw [signed_eq, Int.natCast_mul, Int.mul_assoc]

theorem rdS_self {x : Nat} {a : Int} (h : vS x = some a) : rdS a = a := by
  obtain ⟨t, j, ht, hj, e⟩ := vS_form h
  exact rdS_exact t j ht hj e
theorem rdS_dbl {x : Nat} {a : Int} (h : vS x = some a) : rdS (2 * a) = 2 * a := by
  obtain ⟨t, j, ht, hj, e⟩ := vS_form h
  refine rdS_exact t (j + 1) ht (by omega) ?_
  rw [e, Nat.pow_succ]; generalize (2 : Nat) ^ j = U; grind

theorem mul_unit {x y : Nat} {a b : Int} (ha : vS x = some a) (hb : vS y = some b) : ∃ c, a * b = c * (one : Int) := by
  obtain ⟨t, i, _, hi, rfl⟩ := vS_form ha
  obtain ⟨u, j, _, hj, rfl⟩ := vS_form hb
  obtain ⟨k, hk⟩ : ∃ k : Nat, i + j = k + 1074 := ⟨i + j - 1074, by omega⟩
  obtain ⟨O, hO⟩ : ∃ O : Nat, O = 1074 := ⟨_, rfl⟩
  refine ⟨t * u * ((2 ^ k : Nat) : Int), ?_⟩
  have e : ((2 ^ i : Nat) : Int) * ((2 ^ j : Nat) : Int) = ((2 ^ k : Nat) : Int) * (one : Int) := by
    rw [one_pow hO, ← Int.natCast_mul, ← Int.natCast_mul, ← Nat.pow_add, ← Nat.pow_add]
    exact congrArg (fun n : Nat => ((2 ^ n : Nat) : Int)) (by omega)
  generalize ((2 ^ i : Nat) : Int) = I at *
  generalize ((2 ^ j : Nat) : Int) = J at *
  generalize ((2 ^ k : Nat) : Int) = K at *
  generalize (one : Int) = N at *
  rw [Int.mul_assoc (t * u), ← e]
  grind

theorem rdS_nonneg {c : Int} (h : 0 ≤ c) : 0 ≤ rdS c := by have := rdS_mono h; rwa [rdS_zero] at this

theorem rdS_tie {j : Nat} (hj : 925 ≤ j) : rdS (((16777217 * 2 ^ j : Nat) : Int)) = ((16777216 * 2 ^ j : Nat) : Int) := by
  rw [rdS_nat]
  congr 1
  have e : (16777217 * 2 ^ j).log2 = 24 + j := by
    rw [log2_mul_pow (by omega)]; rw [show Nat.log2 16777217 = 24 by decide]
  have l : lastOf single 925 (16777217 * 2 ^ j) = j + 1 := by
    unfold lastOf; rw [e, fbS]; omega
  unfold rd
  rw [l]
  have pj : 0 < 2 ^ j := Nat.two_pow_pos j
  have q : rnq (16777217 * 2 ^ j) (2 ^ (j + 1)) = 8388608 := by
    refine rnq_eq (Nat.two_pow_pos _) ?_
    rw [Nat.pow_succ]
    generalize 2 ^ j = U at *
    exact ⟨by omega, by omega, by omega, by omega⟩
  rw [q, Nat.pow_succ]; omega

/-- Ease as words. -/
def easeW (t : Nat) : Nat := (Go.floatBits .mul .f32 ((Go.floatBits .mul .f32 t t).getD 0) ((Go.floatBits .sub .f32 1077936128 ((Go.floatBits .mul .f32 1073741824 t).getD 0)).getD 0)).getD 0

theorem bd_two : Bd 2 1073741824 := by
  obtain ⟨J, hJ⟩ : ∃ J : Nat, J = 1074 := ⟨_, rfl⟩
  exact bd_val' (j := 2 + J) vS_two (by omega) (by
    rw [one_pow hJ, Nat.pow_add, Int.natAbs_mul, Int.natAbs_natCast]
    exact Nat.mul_le_mul_right _ (by decide))
theorem bd_three : Bd 2 1077936128 := by
  obtain ⟨J, hJ⟩ : ∃ J : Nat, J = 1074 := ⟨_, rfl⟩
  exact bd_val' (j := 2 + J) vS_three (by omega) (by
    rw [one_pow hJ, Nat.pow_add, Int.natAbs_mul, Int.natAbs_natCast]
    exact Nat.mul_le_mul_right _ (by decide))
theorem bd_unit {t : Nat} {a : Int} (h : vS t = some a) (a0 : -(one : Int) ≤ a) (a1 : a ≤ (one : Int)) : Bd 0 t := by
  obtain ⟨J, hJ⟩ : ∃ J : Nat, J = 1074 := ⟨_, rfl⟩
  exact bd_val' (j := J) h (by omega) (by rw [one_pow hJ] at a1 a0; omega)

structure EaseAt (t p q r v : Nat) : Prop where
  p1 : Go.floatBits .mul .f32 t t = some p
  p2 : Same2 .mul 0 t t
  q1 : Go.floatBits .mul .f32 1073741824 t = some q
  q2 : Same2 .mul 2 1073741824 t
  r1 : Go.floatBits .sub .f32 1077936128 q = some r
  r2 : Same2 .sub 3 1077936128 q
  v1 : Go.floatBits .mul .f32 p r = some v
  v2 : Same2 .mul 3 p r
  w : easeW t = v

theorem ease_parts {t : Nat} (b : Bd 0 t) : ∃ p q r v, EaseAt t p q r v := by
  have p2 := mul_same (a := 0) (b := 0) (by omega) b b
  obtain ⟨_, _, _, p, _, _, _, _, p1, bp⟩ := p2.ex
  have q2 := mul_same (a := 2) (b := 0) (by omega) bd_two b
  obtain ⟨_, _, _, q, _, _, _, _, q1, bq⟩ := q2.ex
  have r2 := sub_same (k := 2) (by omega) bd_three bq
  obtain ⟨_, _, _, r, _, _, _, _, r1, br⟩ := r2.ex
  have v2 := mul_same (a := 0) (b := 3) (by omega) bp br
  obtain ⟨_, _, _, v, _, _, _, _, v1, bv⟩ := v2.ex
  refine ⟨p, q, r, v, p1, p2, q1, q2, r1, r2, v1, v2, ?_⟩
  unfold easeW
  rw [p1, q1]
  show (Go.floatBits .mul .f32 p ((Go.floatBits .sub .f32 1077936128 q).getD 0)).getD 0 = v
  rw [r1]
  show (Go.floatBits .mul .f32 p r).getD 0 = v
  rw [v1]; rfl

theorem one_lt {B : Nat} (h : 1074 < B) : one < 2 ^ B := by
  obtain ⟨J, hJ⟩ : ∃ J : Nat, J = 1074 := ⟨_, rfl⟩
  rw [one_pow hJ]; exact Nat.pow_lt_pow_right (by omega) (by omega)
theorem small_of {c : Int} {n B : Nat} (h0 : 0 ≤ c) (h1 : c ≤ (2 ^ n : Nat) * (one : Int)) (hB : 1074 + n < B) : c.natAbs < 2 ^ B := by
  have : one < 2 ^ (B - n) := one_lt (by omega)
  have e : 2 ^ B = 2 ^ n * 2 ^ (B - n) := by rw [← Nat.pow_add]; exact congrArg (2 ^ ·) (by omega)
  have := Nat.mul_lt_mul_of_pos_left this (Nat.two_pow_pos n)
  rw [e]
  have h2 : c ≤ ((2 ^ n * one : Nat) : Int) := by rw [Int.natCast_mul]; exact h1
  omega

theorem ease_in {t : Nat} {a : Int} (h : vS t = some a) (a0 : 0 ≤ a) (a1 : a ≤ (one : Int)) : ∃ c, vS (easeW t) = some c ∧ 0 ≤ c ∧ c ≤ (one : Int) := by
  obtain ⟨p, q, r, v, E⟩ := ease_parts (bd_unit h (by omega) a1)
  rw [E.w]
  obtain ⟨P, hP⟩ := mul_unit h h
  have hone : (0 : Int) < (one : Int) := Int.natCast_pos.2 one_pos
  have P0 : 0 ≤ P := by
    have := Int.mul_nonneg a0 a0
    rw [hP] at this
    exact Int.le_of_mul_le_mul_right (by rw [Int.zero_mul]; exact this) hone
  have P1 : P ≤ (one : Int) := by
    have := Int.mul_le_mul a1 a1 a0 (Int.le_of_lt hone)
    rw [hP] at this
    exact Int.le_of_mul_le_mul_right this hone
  obtain ⟨B, hB⟩ : ∃ B : Nat, B = 1100 := ⟨_, rfl⟩
  have vp := vS_mul (B := B) E.p1 h h hP (small_of (n := 0) P0 (by rw [Nat.pow_zero]; omega) (by omega)) (by omega)
  have vq := vS_mul (B := B) (c := 2 * a) E.q1 vS_two h (by grind) (small_of (n := 2) (by omega) (by show _ ≤ (4 : Int) * _; omega) (by omega)) (by omega)
  rw [rdS_dbl h] at vq
  have vr := vS_sub (B := B) E.r1 vS_three vq (small_of (n := 2) (by omega) (by show _ ≤ (4 : Int) * _; omega) (by omega)) (by omega)
  have pp0 := rdS_nonneg P0
  have r0 : 0 ≤ rdS (3 * (one : Int) - 2 * a) := rdS_nonneg (by omega)
  obtain ⟨c, hc⟩ := mul_unit vp vr
  have c0 : 0 ≤ c := by
    have := Int.mul_nonneg pp0 r0
    rw [hc] at this
    exact Int.le_of_mul_le_mul_right (by rw [Int.zero_mul]; exact this) hone
  obtain ⟨O, hO⟩ : ∃ O : Nat, O = 1072 := ⟨_, rfl⟩
  -- the bound of the last product
  have key : c ≤ 4 * (one : Int) ∧ rdS c ≤ (one : Int) := by
    rcases Int.le_total (2 * a) (one : Int) with d | d
    · have eV : (one : Int) = 4 * ((2 ^ O : Nat) : Int) := by rw [one_split (a := 2) (j := O) (by omega), Int.natCast_mul]; rfl
      generalize hV : ((2 ^ O : Nat) : Int) = V at *
      have PV : P ≤ V := by
        have h4 : (2 * a) * (2 * a) ≤ (one : Int) * (one : Int) := Int.mul_le_mul d d (by omega) (Int.le_of_lt hone)
        refine Int.le_of_mul_le_mul_right (a := (one : Int)) ?_ hone
        have e1 : (2 * a) * (2 * a) = 4 * (P * (one : Int)) := by rw [← hP]; grind
        have e2 : (one : Int) * (one : Int) = 4 * (V * (one : Int)) := by rw [← Int.mul_assoc, ← eV]
        omega
      have p1 : rdS P ≤ V := by
        have := rdS_mono PV
        rwa [rdS_exact (c := V) 1 O (by decide) (by omega) (by rw [hV, Int.one_mul])] at this
      have r1 : rdS (3 * (one : Int) - 2 * a) ≤ 3 * (one : Int) := by
        have := rdS_mono (show 3 * (one : Int) - 2 * a ≤ 3 * (one : Int) by omega)
        rwa [rdS_self vS_three] at this
      have hm := Int.mul_le_mul p1 r1 r0 (by omega)
      rw [hc] at hm
      have c1 : c ≤ 3 * V := Int.le_of_mul_le_mul_right (by rw [show 3 * V * (one : Int) = V * (3 * (one : Int)) by grind]; exact hm) hone
      refine ⟨by omega, ?_⟩
      have := rdS_mono (show c ≤ (one : Int) by omega)
      rwa [rdS_self vS_one] at this
    · obtain ⟨m, i, hm, hi, ha⟩ := vS_form h
      obtain ⟨j, hj⟩ : ∃ j : Nat, j = 1050 := ⟨_, rfl⟩
      have eU : (one : Int) = 16777216 * ((2 ^ j : Nat) : Int) := by rw [one_split (a := 24) (j := j) (by omega), Int.natCast_mul]; rfl
      have pj : (0 : Int) < ((2 ^ j : Nat) : Int) := Int.natCast_pos.2 (Nat.two_pow_pos _)
      have hij : j ≤ i := by
        rcases Nat.lt_or_ge i j with c' | c'
        · exfalso
          have e : ((2 ^ j : Nat) : Int) = ((2 ^ i : Nat) : Int) * ((2 ^ (j - i) : Nat) : Int) := by rw [← Int.natCast_mul, ← Nat.pow_add]; exact congrArg (fun n : Nat => ((2 ^ n : Nat) : Int)) (by omega)
          have two : (2 : Int) ≤ ((2 ^ (j - i) : Nat) : Int) := by
            have : 2 ^ 1 ≤ 2 ^ (j - i) := Nat.pow_le_pow_right (by omega) (by omega)
            omega
          have pi : (0 : Int) < ((2 ^ i : Nat) : Int) := Int.natCast_pos.2 (Nat.two_pow_pos _)
          have : 2 * ((2 ^ i : Nat) : Int) ≤ ((2 ^ j : Nat) : Int) := by rw [e, Int.mul_comm]; exact Int.mul_le_mul_of_nonneg_left two (Int.le_of_lt pi)
          have ml : m ≤ 16777215 := by omega
          have : m * ((2 ^ i : Nat) : Int) ≤ 16777215 * ((2 ^ i : Nat) : Int) := Int.mul_le_mul_of_nonneg_right ml (Int.le_of_lt pi)
          omega
        · exact c'
      obtain ⟨k, hk⟩ : ∃ k : Int, a = k * ((2 ^ j : Nat) : Int) := ⟨m * ((2 ^ (i - j) : Nat) : Int), by
        rw [ha, Int.mul_assoc, ← Int.natCast_mul, ← Nat.pow_add]; exact congrArg (fun n : Nat => m * ((2 ^ n : Nat) : Int)) (by omega)⟩
      have vtie := rdS_tie (j := j) (by omega)
      rw [Int.natCast_mul, Int.natCast_mul] at vtie
      have verr := fun (hlt : P.natAbs < 2 ^ (j + 24)) => rdS_err (c := P) (e := j) (by omega) hlt
      have hlt : P ≠ (one : Int) → P.natAbs < 2 ^ (j + 24) := by
        intro ne
        have : 2 ^ (j + 24) = one := by rw [one_split (a := 24) (j := j) (by omega), Nat.pow_add, Nat.mul_comm]
        rw [this]; omega
      have hr : rdS (3 * (one : Int) - 2 * a) = (50331648 - 2 * k) * ((2 ^ j : Nat) : Int) := by
        have k1 : 8388608 ≤ k := by
          refine Int.le_of_mul_le_mul_right (a := ((2 ^ j : Nat) : Int)) ?_ pj
          rw [← hk]; omega
        have k2 : k ≤ 16777216 := by
          refine Int.le_of_mul_le_mul_right (a := ((2 ^ j : Nat) : Int)) ?_ pj
          rw [← hk]; omega
        have e : 3 * (one : Int) - 2 * a = (50331648 - 2 * k) * ((2 ^ j : Nat) : Int) := by rw [eU, hk]; grind
        rw [e]
        rcases Int.lt_or_le 8388608 k with c' | c'
        · refine rdS_exact (25165824 - k) (j + 1) (by omega) (by omega) ?_
          rw [Nat.pow_succ, Int.natCast_mul]; grind
        · have : k = 8388608 := by omega
          subst this
          refine rdS_exact 1 (j + 25) (by decide) (by omega) ?_
          rw [Nat.pow_add, Int.natCast_mul, Int.one_mul, Int.mul_comm]; rfl
      rw [hr] at hc
      have k1 : 8388608 ≤ k := by
        refine Int.le_of_mul_le_mul_right (a := ((2 ^ j : Nat) : Int)) ?_ pj
        rw [← hk]; omega
      have k2 : k ≤ 16777216 := by
        refine Int.le_of_mul_le_mul_right (a := ((2 ^ j : Nat) : Int)) ?_ pj
        rw [← hk]; omega
      generalize hU : ((2 ^ j : Nat) : Int) = U at *
      have pb : 2 * rdS P ≤ 2 * P + U := by
        by_cases ne : P = (one : Int)
        · rw [ne, rdS_self vS_one]; omega
        · have := verr (hlt ne); omega
      generalize rdS P = R at *
      have b1 : c ≤ 16777217 * U := by
        have cc : (2 * R) * ((50331648 - 2 * k) * U) ≤ (2 * P + U) * ((50331648 - 2 * k) * U) := Int.mul_le_mul_of_nonneg_right pb (Int.mul_nonneg (by omega) (by omega))
        have e1 : (2 * R) * ((50331648 - 2 * k) * U) = 2 * (c * (16777216 * U)) := by rw [← eU, ← hc]; grind
        -- P in units of U
        have e2 : P * 16777216 = k * k * U := by
          refine Int.eq_of_mul_eq_mul_right (Int.ne_of_gt pj) ?_
          rw [Int.mul_assoc P, ← eU, ← hP, hk]; grind
        have id : k * k * (50331648 - 2 * k) = 16777216 * 16777216 * 16777216 - (16777216 - k) * (16777216 - k) * (16777216 + 2 * k) := by grind
        have nn : 0 ≤ (16777216 - k) * (16777216 - k) * (16777216 + 2 * k) := Int.mul_nonneg (Int.mul_nonneg (by omega) (by omega)) (by omega)
        have f1 : k * k * (50331648 - 2 * k) * U ≤ 16777216 * 16777216 * 16777216 * U := Int.mul_le_mul_of_nonneg_right (by omega) (by omega)
        have f2 : (50331648 - 2 * k) * U ≤ 33554432 * U := Int.mul_le_mul_of_nonneg_right (by omega) (by omega)
        have e3 : (2 * P + U) * ((50331648 - 2 * k) * U) * 16777216 = (2 * (k * k * (50331648 - 2 * k) * U) + 16777216 * ((50331648 - 2 * k) * U)) * U := by
          have : (2 * P + U) * ((50331648 - 2 * k) * U) * 16777216 = (2 * (P * 16777216) + 16777216 * U) * ((50331648 - 2 * k) * U) := by grind
          rw [this, e2]; grind
        have e4 : 2 * (c * (16777216 * U)) * 16777216 = (2 * 16777216 * 16777216 * c) * U := by grind
        have g : (2 * 16777216 * 16777216 * c) * U ≤ (2 * (k * k * (50331648 - 2 * k) * U) + 16777216 * ((50331648 - 2 * k) * U)) * U := by
          rw [← e3, ← e4]
          exact Int.mul_le_mul_of_nonneg_right (by rw [← e1]; exact cc) (by omega)
        have g' := Int.le_of_mul_le_mul_right g pj
        omega
      refine ⟨by omega, ?_⟩
      have := rdS_mono b1
      have e5 : ((16777217 : Nat) : Int) * U = 16777217 * U := rfl
      have e6 : ((16777216 : Nat) : Int) * U = 16777216 * U := rfl
      rw [e5, e6] at vtie
      omega
  have vv := vS_mul (B := B) E.v1 vp vr hc (small_of (n := 2) c0 (by show _ ≤ (4 : Int) * _; exact key.1) (by omega)) (by omega)
  exact ⟨_, vv, rdS_nonneg c0, key.2⟩

end Go.Proofs.Ytmbiohopcfglcaa.Fl

/- The sign of a quotient of singles; the root of a single, by the model's own root of a double: what it lies between. -/
namespace Go.Proofs.Ytmbiohopcfglcaa.Fl
open Ieee

theorem word_sign {sg : Bool} {V : Nat} {c : Int} (h : vS (wordAt single 925 sg V) = some c) : ∃ n : Nat, c = (if sg then -1 else 1) * (n : Int) := by
  by_cases hr : rungOf single 925 V < single.infRung
  · obtain ⟨M, I, q1, _, q3⟩ := read_val single sg (-1074) 925 leastS V hr
    rw [vS_num q1] at h
    have h' := Option.some.inj h
    rw [← h']; unfold vOf; rw [signed_eq]; exact ⟨_, rfl⟩
  · have e : wordAt single 925 sg V = single.word sg single.infRung := by unfold wordAt; rw [Nat.min_eq_right (by omega)]
    rw [e] at h
    have r : single.read (single.word sg single.infRung) = .infinity sg := by cases sg <;> decide
    unfold vS at h; rw [r] at h; cases h

theorem vOf_mag (s : Bool) (m : Nat) (p : Int) : vOf s m p = (if s then -1 else 1) * ((m * 2 ^ (p + 1074).toNat : Nat) : Int) := by unfold vOf; rw [signed_eq]

/-- A quotient of what is not below 0 by what is above 0 is not below 0. -/
theorem quo_sign {x y q : Nat} {a b c : Int} (h : Go.floatBits .quo .f32 x y = some q) (hx : vS x = some a) (hy : vS y = some b) (hc : vS q = some c) (a0 : 0 ≤ a) (b0 : 0 < b) : 0 ≤ c := by
  obtain ⟨s, m, i, e1, rfl⟩ := vS_some hx
  obtain ⟨t, n, j, e2, rfl⟩ := vS_some hy
  have g1 := read_single e1
  have g2 := read_single e2
  have l1 := g1.low
  have l2 := g2.low
  have q1 := g1.high
  have q2 := g2.high
  have s1 := g1.small
  have s2 := g2.small
  rw [vOf_mag] at a0 b0
  have p2 := Nat.two_pow_pos (j + 1074).toNat
  have ht : t = false := by
    cases t with
    | false => rfl
    | true =>
      rw [if_pos rfl] at b0
      have : (0 : Int) ≤ ((n * 2 ^ (j + 1074).toNat : Nat) : Int) := Int.natCast_nonneg _
      omega
  subst ht
  have hn : 0 < n := by
    rcases Nat.eq_zero_or_pos n with z | z
    · subst z; simp at b0
    · exact z
  have h' : ((single.read x).quotient (single.fractionBits + 2) (single.read y)).map single.write = some q := h
  rw [e1, e2] at h'
  rcases Nat.eq_zero_or_pos m with z | hm
  · subst z
    unfold Datum.quotient at h'
    simp only at h'
    rw [if_neg (by omega)] at h'
    simp only [Nat.zero_shiftLeft, Nat.zero_div, Nat.zero_mod, bne_self_eq_false, Bool.toNat_false, Nat.mul_zero, Nat.add_zero, Option.map_some] at h'
    have h2 : single.nearest (s ^^ false) 0 _ = q := Option.some.inj h'
    rw [nearest_zero, ← wordAt_zero single 925] at h2
    rw [← h2] at hc
    have := vS_word (sg := s ^^ false) (V := 0) (B := 1) (by omega) (by omega)
    rw [this, rd_zero] at hc
    have := Option.some.inj hc
    rw [← this]; simp
  · have hs : s = false := by
      cases s
      · rfl
      · have := Nat.mul_pos hm (Nat.two_pow_pos (i + 1074).toNat)
        simp only [if_true] at a0
        omega
    subst hs
    obtain ⟨T, hT⟩ : ∃ T : Nat, T = 1074 := ⟨_, rfl⟩
    have ln24 : n.log2 < 24 := log_lt (by rw [show (2 : Nat) ^ 24 = 16777216 by decide]; exact s2) (by omega)
    obtain ⟨ls, ks, hS, wS⟩ := quot_word single 925 leastS (s := false) (t := false) (m := m) (n := n) (i := i) (j := j) hm hn (by omega) (by omega) (by rw [fbS]; omega) hT
    rw [wS] at h'
    have h2 := Option.some.inj h'
    rw [← h2] at hc
    obtain ⟨u, hu⟩ := word_sign hc
    rw [hu]; simp

/-- The root's digits. -/
theorem rootFrom_spec (n : Nat) : ∀ (todo root : Nat), root * root ≤ n → n < (root + 2 ^ todo) * (root + 2 ^ todo) →
    (Datum.rootFrom n todo root) * (Datum.rootFrom n todo root) ≤ n ∧ n < (Datum.rootFrom n todo root + 1) * (Datum.rootFrom n todo root + 1)
  | 0, root, h1, h2 => by
    unfold Datum.rootFrom
    rw [Nat.pow_zero] at h2
    exact ⟨h1, h2⟩
  | todo + 1, root, h1, h2 => by
    unfold Datum.rootFrom
    simp only
    rw [Nat.one_shiftLeft]
    split
    · rename_i c
      refine rootFrom_spec n todo _ c ?_
      rw [Nat.pow_succ] at h2
      rw [show root + 2 ^ todo + 2 ^ todo = root + 2 ^ todo * 2 by omega]; exact h2
    · rename_i c
      exact rootFrom_spec n todo _ h1 (by omega)

theorem root_digits (n : Nat) : (Datum.rootFrom n (n.log2 / 2 + 1) 0) * (Datum.rootFrom n (n.log2 / 2 + 1) 0) ≤ n ∧ n < (Datum.rootFrom n (n.log2 / 2 + 1) 0 + 1) * (Datum.rootFrom n (n.log2 / 2 + 1) 0 + 1) := by
  refine rootFrom_spec n _ 0 (by simp) ?_
  rw [Nat.zero_add, ← Nat.pow_add]
  have : n < 2 ^ (n.log2 + 1) := Nat.lt_log2_self
  exact Nat.lt_of_lt_of_le this (two_le (by omega))

/-- The root of a single, as a word: the root of the double, turned into a single. -/
def rootW (x : Nat) : Nat := (((Go.floatToFloatBits .f32 x .f64).bind fun X => double.sqrt X).bind fun Z => Go.floatToFloatBits .f64 Z .f32).getD 0

/-- What the root of the single x with the value a comes to. -/
structure RootAt (x : Nat) (a : Int) (X Z : Nat) (c : Int) : Prop where
  up : Go.floatToFloatBits .f32 x .f64 = some X
  sq : double.sqrt X = some Z
  dn : Go.floatToFloatBits .f64 Z .f32 = some (rootW x)
  val : vS (rootW x) = some c
  nn : 0 ≤ c
  hi : ∀ g : Nat, g < 16777216 → a ≤ ((g * g : Nat) : Int) * (one : Int) → c ≤ (g : Int) * (one : Int)
  lo : ∀ g : Nat, g < 16777216 → ((g * g : Nat) : Int) * (one : Int) ≤ a → (g : Int) * (one : Int) ≤ c

theorem rdD_mono {V W : Nat} (h : V ≤ W) : rd double 0 V ≤ rd double 0 W := by
  rcases Nat.eq_zero_or_pos V with z | z
  · subst z; rw [rd_zero]; exact Nat.zero_le _
  have z' : 0 < W := by omega
  obtain ⟨l1, l2, l3⟩ := last_le double 0 V z
  obtain ⟨k1, k2, k3⟩ := last_le double 0 W z'
  unfold rd
  generalize lastOf double 0 V = l at *
  generalize lastOf double 0 W = k at *
  rw [fbD] at l2 l3 k2 k3
  have pl : 0 < 2 ^ l := Nat.two_pow_pos l
  have pk : 0 < 2 ^ k := Nat.two_pow_pos k
  rcases Nat.lt_trichotomy l k with c | c | c
  · -- W reaches a higher binade
    have a : rnq V (2 ^ l) ≤ 2 ^ 53 := by
      have := rnq_mono (M := 2 ^ l) pl (N := V) (N' := 2 ^ 53 * 2 ^ l) (by rw [← Nat.pow_add]; exact Nat.le_of_lt (by rwa [show 53 + l = l + 52 + 1 by omega]))
      rwa [rnq_mul _ _ pl] at this
    have b : 2 ^ 52 ≤ rnq W (2 ^ k) := by
      have e : 2 ^ (k + 52) ≤ W := by rcases k3 with x | x; omega; exact x
      have := rnq_mono (M := 2 ^ k) pk (N := 2 ^ 52 * 2 ^ k) (N' := W) (by rw [← Nat.pow_add, show 52 + k = k + 52 by omega]; exact e)
      rwa [rnq_mul _ _ pk] at this
    calc rnq V (2 ^ l) * 2 ^ l ≤ 2 ^ 53 * 2 ^ l := Nat.mul_le_mul_right _ a
      _ = 2 ^ (53 + l) := by rw [Nat.pow_add]
      _ ≤ 2 ^ (52 + k) := Nat.pow_le_pow_right (by omega) (by omega)
      _ = 2 ^ 52 * 2 ^ k := by rw [Nat.pow_add]
      _ ≤ rnq W (2 ^ k) * 2 ^ k := Nat.mul_le_mul_right _ b
  · subst c
    exact Nat.mul_le_mul_right _ (rnq_mono pl h)
  · exfalso
    rcases l3 with x | x
    · omega
    · have : 2 ^ (l + 52) < 2 ^ (k + 52 + 1) := Nat.lt_of_le_of_lt (Nat.le_trans x h) k2
      have := (Nat.pow_lt_pow_iff_right (by omega : 1 < 2)).1 this
      omega

theorem down_word {V B : Nat} (hB : V < 2 ^ B) (hB' : B < 1200) :
    Go.floatToFloatBits .f64 (wordAt double 0 false V) .f32 = some (wordAt single 925 false (rd double 0 V)) ∧ vS (wordAt single 925 false (rd double 0 V)) = some ((rd single 925 (rd double 0 V) : Nat) : Int) := by
  obtain ⟨M, I, r1, r2, r3⟩ := read_val double false (-1074) 0 leastD V (rungD_lt hB (by omega))
  have hl : double.leastPlace = -1074 := by decide
  rw [hl] at r2
  have hn := nearest_val single false (-1074) 925 leastS M (p := I) (by omega)
  rw [r3] at hn
  have hd : rd double 0 V ≤ 2 ^ B := by
    have e : rd double 0 (1 * 2 ^ B) = 1 * 2 ^ B := rd_exact double 0 1 B (by rw [fbD]; decide) (by omega)
    have m : rd double 0 V ≤ rd double 0 (1 * 2 ^ B) := rdD_mono (by omega)
    rw [e] at m; omega
  have hd' : rd double 0 V < 2 ^ (B + 1) := Nat.lt_of_le_of_lt hd (Nat.pow_lt_pow_right (by omega) (by omega))
  have hv := vS_word (sg := false) hd' (by omega)
  simp only [Bool.false_eq_true, if_false, Int.one_mul] at hv
  refine ⟨?_, hv⟩
  obtain ⟨M', I', q1, _, _⟩ := read_val single false (-1074) 925 leastS (rd double 0 V) (rungS_lt hd' (by omega))
  unfold Go.floatToFloatBits
  rw [if_neg (by decide)]
  have d : Go.FloatKind.f64.decode (wordAt double 0 false V) = .number false M I := r1
  simp only [d]
  have w : Go.FloatKind.f32.encode (.number false M I) = wordAt single 925 false (rd double 0 V) := hn
  rw [w]
  have d2 : Go.FloatKind.f32.decode (wordAt single 925 false (rd double 0 V)) = .number false M' I' := q1
  rw [d2]; rfl
end Go.Proofs.Ytmbiohopcfglcaa.Fl

/- Two words of one value that is not nought are one word. -/
namespace Go.Proofs.Ytmbiohopcfglcaa.Fl
open Ieee

theorem binS : single.binade = 8388608 := by decide
theorem infS : single.infRung = 2139095040 := by decide
theorem lpS : single.leastPlace = -149 := by decide

/-- The digits and the place of a rung. -/
def rgM (r : Nat) : Nat := if r < 8388608 then r else 8388608 + r % 8388608
def rgE (r : Nat) : Nat := if r < 8388608 then 925 else 924 + r / 8388608
theorem rgM_lt (r : Nat) : rgM r < 16777216 := by unfold rgM; split <;> omega
theorem rgE_le (r : Nat) : 925 ≤ rgE r := by unfold rgE; split <;> omega
theorem rgM_ge {r : Nat} (h : 925 < rgE r) : 8388608 ≤ rgM r := by
  unfold rgE at h
  unfold rgM
  split at h
  · omega
  · rename_i q; rw [if_neg q]; omega
theorem rg_inj {r t : Nat} (h : rgM r * 2 ^ rgE r = rgM t * 2 ^ rgE t) : r = t := by
  have key : ∀ r t, rgE r < rgE t → rgM r * 2 ^ rgE r = rgM t * 2 ^ rgE t → False := by
    intro r t hlt h
    have e : 2 ^ rgE t = 2 ^ (rgE t - rgE r - 1) * 2 * 2 ^ rgE r := by rw [← Nat.pow_succ, ← Nat.pow_add]; congr 1; omega
    have p := Nat.two_pow_pos (rgE r)
    have p2 := Nat.two_pow_pos (rgE t - rgE r - 1)
    rw [e, ← Nat.mul_assoc] at h
    have h2 := Nat.eq_of_mul_eq_mul_right p h
    have mt := rgM_ge (show 925 < rgE t by have := rgE_le r; omega)
    have mr := rgM_lt r
    have : 8388608 * 2 ≤ rgM t * (2 ^ (rgE t - rgE r - 1) * 2) := Nat.mul_le_mul mt (by omega)
    omega
  rcases Nat.lt_trichotomy (rgE r) (rgE t) with c | c | c
  · exact (key r t c h).elim
  · rw [c] at h
    have h2 := Nat.eq_of_mul_eq_mul_right (Nat.two_pow_pos _) h
    unfold rgM at h2
    unfold rgE at c
    split at h2 <;> split at h2 <;> simp_all <;> omega
  · exact (key t r c h.symm).elim

theorem read_rung {x : Nat} {a : Int} (hx : x < 4294967296) (h : vS x = some a) : ∃ (s : Bool) (r : Nat), x = s.toNat * 2147483648 + r ∧ a = (if s then -1 else 1) * ((rgM r * 2 ^ rgE r : Nat) : Int) := by
  obtain ⟨s, m, p, e, rfl⟩ := vS_some h
  refine ⟨x / 2147483648 % 2 == 1, x % 2147483648, ?_, ?_⟩
  · have : x / 2147483648 < 2 := by omega
    have q : x / 2147483648 = 0 ∨ x / 2147483648 = 1 := by omega
    rcases q with q | q <;> rw [q] <;> simp <;> omega
  · unfold Format.read at e
    simp only [swS, binS, infS, lpS] at e
    rw [vOf_mag]
    split at e
    · rename_i c
      cases e
      have h1 : rgM (x % 2147483648) = x % 2147483648 := by unfold rgM; rw [if_pos c]
      have h2 : rgE (x % 2147483648) = (-149 + 1074 : Int).toNat := by unfold rgE; rw [if_pos c]; decide
      rw [h1, h2]
    · rename_i c
      split at e
      · cases e
        unfold rgM rgE
        rw [if_neg c, if_neg c]
        congr 4
        omega
      · split at e <;> cases e

/-- One value that is not 0, one word. -/
theorem word_inj {x y : Nat} {a : Int} (hx : x < 4294967296) (hy : y < 4294967296) (vx : vS x = some a) (vy : vS y = some a) (ha : a ≠ 0) : x = y := by
  obtain ⟨s, r, rfl, e1⟩ := read_rung hx vx
  obtain ⟨t, q, rfl, e2⟩ := read_rung hy vy
  rw [e1] at e2
  generalize hR : rgM r * 2 ^ rgE r = R at *
  generalize hQ : rgM q * 2 ^ rgE q = Q at *
  have hst : s = t ∧ R = Q := by
    cases s <;> cases t <;> simp at e1 e2 ⊢ <;> omega
  obtain ⟨rfl, h⟩ := hst
  rw [rg_inj (hR.trans (h.trans hQ.symm))]
end Go.Proofs.Ytmbiohopcfglcaa.Fl

/- Quotients by values: twice the number, twice the quotient. -/
namespace Go.Proofs.Ytmbiohopcfglcaa.Fl
open Ieee

/-- The word of a quotient of two values above 0. -/
theorem quo_val {x y q A B T : Nat} (hT : T = 1074) (h : Go.floatBits .quo .f32 x y = some q) (hx : vS x = some (A : Int)) (hy : vS y = some (B : Int)) (a0 : 0 < A) (b0 : 0 < B) :
    ∃ l k, Quo single 925 (A * 2 ^ T) B l k ∧ q = wordAt single 925 false (k * 2 ^ l) := by
  obtain ⟨s, m, i, e1, ha⟩ := vS_some hx
  obtain ⟨t, n, j, e2, hb⟩ := vS_some hy
  have g1 := read_single e1
  have g2 := read_single e2
  have l1 := g1.low
  have l2 := g2.low
  have q1 := g1.high
  have q2 := g2.high
  have s1 := g1.small
  have s2 := g2.small
  rw [vOf_mag] at ha hb
  have hs : s = false := by
    cases s with
    | false => rfl
    | true => rw [if_pos rfl] at ha; have : (0 : Int) ≤ ((m * 2 ^ (i + 1074).toNat : Nat) : Int) := Int.natCast_nonneg _; omega
  have ht : t = false := by
    cases t with
    | false => rfl
    | true => rw [if_pos rfl] at hb; have : (0 : Int) ≤ ((n * 2 ^ (j + 1074).toNat : Nat) : Int) := Int.natCast_nonneg _; omega
  subst hs ht
  have ha' : m * 2 ^ (i + 1074).toNat = A := by
    have : (((m * 2 ^ (i + 1074).toNat : Nat)) : Int) = (A : Int) := by simpa using ha
    exact Int.ofNat.inj this
  have hb' : n * 2 ^ (j + 1074).toNat = B := by
    have : (((n * 2 ^ (j + 1074).toNat : Nat)) : Int) = (B : Int) := by simpa using hb
    exact Int.ofNat.inj this
  have hm : 0 < m := by
    rcases Nat.eq_zero_or_pos m with z | z
    · subst z; simp at ha'; omega
    · exact z
  have hn : 0 < n := by
    rcases Nat.eq_zero_or_pos n with z | z
    · subst z; simp at hb'; omega
    · exact z
  have h' : ((single.read x).quotient (single.fractionBits + 2) (single.read y)).map single.write = some q := h
  rw [e1, e2] at h'
  have ln24 : n.log2 < 24 := log_lt (by rw [show (2 : Nat) ^ 24 = 16777216 by decide]; exact s2) (by omega)
  obtain ⟨ls, ks, hS, wS⟩ := quot_word single 925 leastS (s := false) (t := false) (m := m) (n := n) (i := i) (j := j) hm hn (by omega) (by omega) (by rw [fbS]; omega) hT
  rw [wS] at h'
  rw [ha', hb'] at hS
  exact ⟨ls, ks, hS, (Option.some.inj h').symm⟩

/-- A quotient's value, where it is neither too small nor too great. -/
theorem quo_vS {x y q A B T : Nat} (hT : T = 1074) (h : Go.floatBits .quo .f32 x y = some q) (hx : vS x = some (A : Int)) (hy : vS y = some (B : Int)) (a0 : 0 < A) (b0 : 0 < B) (hab : A ≤ B * 2 ^ 40) (hba : B ≤ A * 2 ^ 40) :
    ∃ l k, 1000 < l ∧ 8388608 ≤ k ∧ B * 2 ^ (l + 23) ≤ A * 2 ^ T ∧ A * 2 ^ T < B * 2 ^ (l + 24) ∧ k = rnq (A * 2 ^ T) (B * 2 ^ l) ∧ vS q = some ((k * 2 ^ l : Nat) : Int) ∧ k * 2 ^ l < 2 ^ (T + 50) := by
  obtain ⟨l, k, hQ, rfl⟩ := quo_val hT h hx hy a0 b0
  obtain ⟨k1, k2⟩ := hQ.bounds b0
  have hlow := hQ.hi
  rw [fbS] at k1 k2 hlow
  have hl : 1000 < l := by
    have c : A * 2 ^ T < A * 2 ^ (40 + (l + 23 + 1)) := by
      calc A * 2 ^ T < B * 2 ^ (l + 23 + 1) := hlow
        _ ≤ A * 2 ^ 40 * 2 ^ (l + 23 + 1) := Nat.mul_le_mul_right _ hba
        _ = A * 2 ^ (40 + (l + 23 + 1)) := by rw [Nat.mul_assoc, ← Nat.pow_add]
    have := Nat.lt_of_mul_lt_mul_left c
    have := (Nat.pow_lt_pow_iff_right (by omega : 1 < 2)).1 this
    omega
  have hk : 8388608 ≤ k := by
    rcases k2 with e | e
    · omega
    · exact e
  have hlo := hQ.lo
  rw [fbS] at hlo
  have hlo' : B * 2 ^ (l + 23) ≤ A * 2 ^ T := by
    rcases hlo with e | e
    · omega
    · exact e
  have hl2 : l + 23 ≤ T + 40 := by
    have c : B * 2 ^ (l + 23) ≤ B * 2 ^ (40 + T) := by
      calc B * 2 ^ (l + 23) ≤ A * 2 ^ T := hlo'
        _ ≤ B * 2 ^ 40 * 2 ^ T := Nat.mul_le_mul_right _ hab
        _ = B * 2 ^ (40 + T) := by rw [Nat.mul_assoc, ← Nat.pow_add]
    have := Nat.le_of_mul_le_mul_left c b0
    have := (Nat.pow_le_pow_iff_right (by omega : 1 < 2)).1 this
    omega
  have hV : k * 2 ^ l < 2 ^ (T + 50) := by
    calc k * 2 ^ l ≤ 2 ^ 24 * 2 ^ l := Nat.mul_le_mul_right _ k1
      _ = 2 ^ (24 + l) := by rw [← Nat.pow_add]
      _ < 2 ^ (T + 50) := Nat.pow_lt_pow_right (by omega) (by omega)
  refine ⟨l, k, hl, hk, hlo', hlow, hQ.val, ?_, hV⟩
  have hv := vS_word (sg := false) (V := k * 2 ^ l) (B := T + 50) hV (by omega)
  rw [hv]
  have hr : rd single 925 (k * 2 ^ l) = k * 2 ^ l := by
    rcases Nat.lt_or_ge k 16777216 with c | c
    · exact rd_exact single 925 k l (by rw [fbS]; exact c) (by omega)
    · have : k = 8388608 * 2 := by omega
      subst this
      rw [Nat.mul_assoc, ← Nat.pow_succ']
      exact rd_exact single 925 8388608 (l + 1) (by rw [fbS]; decide) (by omega)
  rw [hr]; simp

/-- Twice the number, twice the quotient. -/
theorem quo_dbl {x x2 y q t r A B : Nat} (hx : vS x = some (A : Int)) (hx2 : vS x2 = some ((2 * A : Nat) : Int)) (hy : vS y = some (B : Int)) (a0 : 0 < A) (b0 : 0 < B) (hab : A ≤ B) (hba : B ≤ A * 2 ^ 30)
    (q1 : Go.floatBits .quo .f32 x y = some q) (t1 : Go.floatBits .mul .f32 q 1073741824 = some t) (r1 : Go.floatBits .quo .f32 x2 y = some r) (ht : t < 4294967296) (hr : r < 4294967296) : t = r := by
  obtain ⟨T, hT⟩ : ∃ T : Nat, T = 1074 := ⟨_, rfl⟩
  obtain ⟨l, k, hl, hk, lo, hi, ek, vq, sq⟩ := quo_vS hT q1 hx hy a0 b0 (Nat.le_trans hab (Nat.le_mul_of_pos_right _ (Nat.two_pow_pos _))) (Nat.le_trans hba (Nat.mul_le_mul_left _ (Nat.pow_le_pow_right (by decide) (by decide))))
  have h2a : 2 * A ≤ B * 2 ^ 40 := by
    calc 2 * A ≤ 2 ^ 40 * B := Nat.mul_le_mul (by decide) hab
      _ = B * 2 ^ 40 := Nat.mul_comm _ _
  have h2b : B ≤ 2 * A * 2 ^ 40 := by
    calc B ≤ A * 2 ^ 30 := hba
      _ ≤ 2 * A * 2 ^ 40 := Nat.mul_le_mul (Nat.le_mul_of_pos_left _ (by decide)) (Nat.pow_le_pow_right (by decide) (by decide))
  obtain ⟨l', k', hl', hk', lo', hi', ek', vr, sr⟩ := quo_vS hT r1 hx2 hy (Nat.mul_pos (by decide) a0) b0 h2a h2b
  have p : ∀ i, 0 < 2 ^ i := Nat.two_pow_pos
  have e1 : ¬ l' ≤ l := by
    intro c
    have c1 : B * 2 ^ (l' + 24) ≤ B * 2 ^ (l + 24) := Nat.mul_le_mul_left _ (Nat.pow_le_pow_right (by omega) (by omega))
    have c2 : B * 2 ^ (l + 24) = 2 * (B * 2 ^ (l + 23)) := by rw [show l + 24 = l + 23 + 1 by omega, Nat.pow_succ]; rw [← Nat.mul_assoc, Nat.mul_comm]
    rw [Nat.mul_assoc] at hi'
    omega
  have e2 : ¬ l + 2 ≤ l' := by
    intro c
    have c1 : B * 2 ^ (l + 25) ≤ B * 2 ^ (l' + 23) := Nat.mul_le_mul_left _ (Nat.pow_le_pow_right (by omega) (by omega))
    have c2 : B * 2 ^ (l + 25) = 2 * (B * 2 ^ (l + 24)) := by rw [show l + 25 = l + 24 + 1 by omega, Nat.pow_succ]; rw [← Nat.mul_assoc, Nat.mul_comm]
    rw [Nat.mul_assoc] at lo'
    omega
  have e3 : l' = l + 1 := by omega
  subst e3
  have e4 : k' = k := by
    rw [ek, ek', show 2 * A * 2 ^ T = A * 2 ^ T * 2 by rw [Nat.mul_assoc, Nat.mul_comm], Nat.pow_succ, ← Nat.mul_assoc]
    exact rnq_scale _ _ 2 (Nat.mul_pos b0 (p _)) (by omega)
  subst e4
  have e5 : k' * 2 ^ (l + 1) = 2 * (k' * 2 ^ l) := by rw [Nat.pow_succ, ← Nat.mul_assoc, Nat.mul_comm]
  have vt : vS t = some (rdS (2 * ((k' * 2 ^ l : Nat) : Int))) := by
    refine vS_mul (B := T + 52) t1 vq vS_two (by rw [← Int.mul_assoc, Int.mul_comm _ 2]) ?_ (by omega)
    have : (2 * ((k' * 2 ^ l : Nat) : Int)).natAbs = 2 * (k' * 2 ^ l) := by omega
    rw [this]
    rw [Nat.pow_succ] at sr
    have c : 2 ^ (T + 52) = 4 * 2 ^ (T + 50) := by rw [show T + 52 = 2 + (T + 50) by omega, Nat.pow_add]
    omega
  rw [rdS_dbl vq] at vt
  rw [e5] at vr
  refine word_inj ht hr vt (by rw [vr]; simp) ?_
  have := Nat.mul_pos (show 0 < k' by omega) (p l)
  omega
end Go.Proofs.Ytmbiohopcfglcaa.Fl
