/- What Ieee.Format.nearest writes, said by 'rnq' in units of 2 ^ K; what is read of it; that it hangs on the value alone. -/
import Derived.Test.YtncgcjeihihkfaaFl
namespace Go.Proofs.Ytncgcjeihihkfaa.Fl
open Ieee

theorem cut_even (neg : Bool) (n drop : Nat) : Toward.even.cut neg n drop = rnq n (2 ^ drop) := by
  unfold Toward.cut rnq
  simp only [Nat.shiftLeft_eq, Nat.one_mul]
  rcases Nat.le_total drop (n.log2 + 2) with h | h
  · rw [Nat.min_eq_left h]
    congr 1
    by_cases c : 2 ^ drop < 2 * (n % 2 ^ drop) ∨ (2 * (n % 2 ^ drop) = 2 ^ drop ∧ n / 2 ^ drop % 2 = 1)
    · rw [if_pos c]
      have : (decide (2 ^ drop < 2 * (n % 2 ^ drop)) || (2 ^ drop == 2 * (n % 2 ^ drop) && n / 2 ^ drop % 2 == 1)) = true := by
        rcases c with c | ⟨c, d⟩
        · simp [c]
        · simp [c, d]
      rw [this]; rfl
    · rw [if_neg c]
      have : (decide (2 ^ drop < 2 * (n % 2 ^ drop)) || (2 ^ drop == 2 * (n % 2 ^ drop) && n / 2 ^ drop % 2 == 1)) = false := by
        rw [Bool.or_eq_false_iff]
        refine ⟨by simp; omega, ?_⟩
        rw [Bool.and_eq_false_iff]
        rcases Nat.decEq (2 ^ drop) (2 * (n % 2 ^ drop)) with e | e
        · left; simpa using e
        · right; simp only [beq_eq_false_iff_ne]; intro d; exact c (.inr ⟨e.symm, d⟩)
      rw [this]; rfl
  · rw [Nat.min_eq_right h]
    have l1 : n < 2 ^ (n.log2 + 1) := Nat.lt_log2_self
    have l2 : 2 ^ (n.log2 + 2) = 2 * 2 ^ (n.log2 + 1) := by rw [Nat.pow_succ 2 (n.log2 + 1)]; omega
    have l3 : 2 ^ (n.log2 + 2) ≤ 2 ^ drop := Nat.pow_le_pow_right (by omega) h
    rw [Nat.div_eq_of_lt (by omega), Nat.mod_eq_of_lt (by omega : n < 2 ^ (n.log2 + 2)), Nat.div_eq_of_lt (by omega), Nat.mod_eq_of_lt (by omega : n < 2 ^ drop)]
    rw [if_neg (by omega)]
    have : (decide (2 ^ (n.log2 + 2) < 2 * n) || (2 ^ (n.log2 + 2) == 2 * n && 0 % 2 == 1)) = false := by
      rw [Bool.or_eq_false_iff]
      exact ⟨by simp; omega, by simp⟩
    rw [this]; rfl

theorem log2_mul_pow {m : Nat} (hm : 0 < m) (j : Nat) : (m * 2 ^ j).log2 = m.log2 + j := by
  have h1 : 2 ^ m.log2 ≤ m := Nat.log2_self_le (by omega)
  have h2 : m < 2 ^ (m.log2 + 1) := Nat.lt_log2_self
  have hp : 0 < 2 ^ j := Nat.two_pow_pos j
  rw [Nat.log2_eq_iff (Nat.ne_of_gt (Nat.mul_pos hm hp))]
  refine ⟨?_, ?_⟩
  · rw [Nat.pow_add]; exact Nat.mul_le_mul_right _ h1
  · rw [Nat.add_right_comm, Nat.pow_add]; exact Nat.mul_lt_mul_of_pos_right h2 hp

/-- The place of the last digit that is kept of n, over the least place, in units of 2 ^ K ('c' is the least place over K). -/
def lastOf (f : Format) (c n : Nat) : Nat := max (n.log2 - f.fractionBits) c
/-- The rung of n * 2 ^ K. -/
def rungOf (f : Format) (c n : Nat) : Nat := (lastOf f c n - c) * f.binade + rnq n (2 ^ lastOf f c n)

theorem nearest_base (f : Format) (neg : Bool) (K : Int) (c : Nat) (hc : f.leastPlace = K + c) {m : Nat} (hm : 0 < m) (j : Nat) :
    f.nearest neg m (K + j) = f.word neg (min (rungOf f c (m * 2 ^ j)) f.infRung) := by
  have hp : 0 < 2 ^ j := Nat.two_pow_pos j
  unfold Format.nearest rungOf
  rw [if_neg (by omega)]
  have hl : max (K + (j : Int) + m.log2 - f.fractionBits) f.leastPlace = K + (lastOf f c (m * 2 ^ j) : Nat) := by
    unfold lastOf
    rw [log2_mul_pow hm, hc]
    omega
  simp only [hl]
  generalize lastOf f c (m * 2 ^ j) = l
  have e1 : (K + (l : Int) - f.leastPlace).toNat = l - c := by omega
  have e2 : (K + (j : Int) - (K + (l : Int))).toNat = j - l := by omega
  have e3 : (K + (l : Int) - (K + (j : Int))).toNat = l - j := by omega
  rw [e1, e2, e3, cut_even, Nat.shiftLeft_eq]
  congr 3
  rcases Nat.le_total l j with h | h
  · have : l - j = 0 := by omega
    rw [this, Nat.pow_zero, rnq_one]
    have : m * 2 ^ j = (m * 2 ^ (j - l)) * 2 ^ l := by rw [Nat.mul_assoc, ← Nat.pow_add]; congr 2; omega
    rw [this, rnq_mul _ _ (Nat.two_pow_pos l)]
  · have : j - l = 0 := by omega
    rw [this, Nat.pow_zero, Nat.mul_one]
    have : 2 ^ l = 2 ^ (l - j) * 2 ^ j := by rw [← Nat.pow_add]; congr 1; omega
    rw [this, rnq_scale _ _ _ (Nat.two_pow_pos _) hp]

/-- The word hangs on the value alone. -/
theorem nearest_congr (f : Format) (neg : Bool) (K : Int) (c : Nat) (hc : f.leastPlace = K + c) {m m' : Nat} {p p' : Int} (hm : 0 < m) (hp : K ≤ p) (hp' : K ≤ p')
    (h : m * 2 ^ (p - K).toNat = m' * 2 ^ (p' - K).toNat) : f.nearest neg m p = f.nearest neg m' p' := by
  have hm' : 0 < m' := by
    rcases Nat.eq_zero_or_pos m' with z | z
    · subst z; rw [Nat.zero_mul] at h; have := Nat.mul_pos hm (Nat.two_pow_pos (p - K).toNat); omega
    · exact z
  have e : p = K + ((p - K).toNat : Int) := by omega
  have e' : p' = K + ((p' - K).toNat : Int) := by omega
  rw [e, e', nearest_base f neg K c hc hm, nearest_base f neg K c hc hm', h]

theorem rnq_mono {N N' M : Nat} (hM : 0 < M) (h : N ≤ N') : rnq N M ≤ rnq N' M := by
  have a := rnq_near (N := N) hM
  have b := rnq_near (N := N') hM
  generalize rnq N M = k at *
  generalize rnq N' M = k' at *
  rcases Nat.lt_or_ge k' k with c | c
  · have e : (k' + 1) * M ≤ k * M := Nat.mul_le_mul_right _ c
    have e1 : (k' + 1) * M = k' * M + M := Nat.succ_mul _ _
    have a1 := a.low
    have b1 := b.high
    -- equality all along: both are ties, and k = k' + 1
    have t1 := a.lowTie (by omega)
    have t2 := b.highTie (by omega)
    have d : k < k' + 2 := by
      rcases Nat.lt_or_ge k (k' + 2) with x | x
      · exact x
      · have y : (k' + 2) * M ≤ k * M := Nat.mul_le_mul_right _ x
        have y1 : (k' + 2) * M = k' * M + 2 * M := Nat.add_mul _ _ _
        omega
    omega
  · exact c

/-- Any last place that fits gives the same rung. -/
theorem rungOf_eq (f : Format) (c n l : Nat) (hn : 0 < n) (hl : c ≤ l) (hhi : n ≤ 2 ^ (l + f.fractionBits + 1)) (hlo : l = c ∨ 2 ^ (l + f.fractionBits) ≤ n) :
    rungOf f c n = (l - c) * f.binade + rnq n (2 ^ l) := by
  have h1 : 2 ^ n.log2 ≤ n := Nat.log2_self_le (by omega)
  have h2 : n < 2 ^ (n.log2 + 1) := Nat.lt_log2_self
  unfold rungOf
  have hcase : lastOf f c n = l ∨ (n = 2 ^ (l + f.fractionBits + 1) ∧ lastOf f c n = l + 1) := by
    unfold lastOf
    rcases Nat.lt_or_ge n (2 ^ (l + f.fractionBits + 1)) with x | x
    · left
      have : n.log2 < l + f.fractionBits + 1 := (Nat.log2_lt (by omega)).2 x
      rcases hlo with e | e
      · subst e; omega
      · have : l + f.fractionBits ≤ n.log2 := (Nat.le_log2 (by omega)).2 e
        omega
    · right
      have e : n = 2 ^ (l + f.fractionBits + 1) := by omega
      refine ⟨e, ?_⟩
      rw [e, Nat.log2_two_pow]; omega
  rcases hcase with e | ⟨e, e'⟩
  · rw [e]
  · rw [e']
    have a : n = 2 ^ f.fractionBits * 2 ^ (l + 1) := by rw [e, ← Nat.pow_add]; congr 1; omega
    have b : n = 2 ^ (f.fractionBits + 1) * 2 ^ l := by rw [e, ← Nat.pow_add]; congr 1; omega
    have ra : rnq n (2 ^ (l + 1)) = 2 ^ f.fractionBits := by rw [a]; exact rnq_mul _ _ (Nat.two_pow_pos _)
    have rb : rnq n (2 ^ l) = 2 ^ (f.fractionBits + 1) := by rw [b]; exact rnq_mul _ _ (Nat.two_pow_pos _)
    rw [ra, rb, Nat.pow_succ]
    have : l + 1 - c = (l - c) + 1 := by omega
    rw [this, Nat.succ_mul]
    unfold Format.binade
    omega

theorem last_le (f : Format) (c n : Nat) (hn : 0 < n) : c ≤ lastOf f c n ∧ n < 2 ^ (lastOf f c n + f.fractionBits + 1) ∧ (lastOf f c n = c ∨ 2 ^ (lastOf f c n + f.fractionBits) ≤ n) := by
  have h1 : 2 ^ n.log2 ≤ n := Nat.log2_self_le (by omega)
  have h2 : n < 2 ^ (n.log2 + 1) := Nat.lt_log2_self
  refine ⟨by unfold lastOf; omega, ?_, ?_⟩
  · exact Nat.lt_of_lt_of_le h2 (Nat.pow_le_pow_right (by omega) (by unfold lastOf; omega))
  · by_cases h : c < n.log2 - f.fractionBits
    · right
      have : lastOf f c n + f.fractionBits = n.log2 := by unfold lastOf; omega
      rw [this]; exact h1
    · left; unfold lastOf; omega

/-- WHAT IS READ of the word of a number that is not too great: its value is the rounded one. -/
theorem read_nearest (f : Format) (neg : Bool) (K : Int) (c : Nat) (hc : f.leastPlace = K + c) {m : Nat} (hm : 0 < m) (j : Nat) (hinf : rungOf f c (m * 2 ^ j) < f.infRung) :
    ∃ m' e', f.read (f.nearest neg m (K + j)) = .number neg m' e' ∧ f.leastPlace ≤ e' ∧ m' * 2 ^ (e' - K).toNat = rnq (m * 2 ^ j) (2 ^ lastOf f c (m * 2 ^ j)) * 2 ^ lastOf f c (m * 2 ^ j) := by
  have hn : 0 < m * 2 ^ j := Nat.mul_pos hm (Nat.two_pow_pos j)
  rw [nearest_base f neg K c hc hm, Nat.min_eq_left (by omega)]
  generalize m * 2 ^ j = n at *
  obtain ⟨hl, hhi, hlo⟩ := last_le f c n hn
  generalize hL : lastOf f c n = l at *
  have hk : rnq n (2 ^ l) ≤ 2 * f.binade := by
    have : rnq n (2 ^ l) ≤ rnq (2 ^ (f.fractionBits + 1) * 2 ^ l) (2 ^ l) := by
      refine rnq_mono (Nat.two_pow_pos _) ?_
      rw [← Nat.pow_add]
      refine Nat.le_of_lt (Nat.lt_of_lt_of_le hhi (Nat.pow_le_pow_right (by omega) (by omega)))
    rw [rnq_mul _ _ (Nat.two_pow_pos _), Nat.pow_succ] at this
    unfold Format.binade; omega
  have hk2 : l = c ∨ f.binade ≤ rnq n (2 ^ l) := by
    rcases hlo with e | e
    · exact .inl e
    · right
      have : rnq (2 ^ f.fractionBits * 2 ^ l) (2 ^ l) ≤ rnq n (2 ^ l) := by
        refine rnq_mono (Nat.two_pow_pos _) ?_
        rw [← Nat.pow_add, Nat.add_comm]; exact e
      rw [rnq_mul _ _ (Nat.two_pow_pos _)] at this
      exact this
  have hR : rungOf f c n = (l - c) * f.binade + rnq n (2 ^ l) := by unfold rungOf; rw [hL]
  generalize rnq n (2 ^ l) = k at *
  have hb : 0 < f.binade := Nat.two_pow_pos _
  have hinfS : f.infRung < f.signWeight := by
    unfold Format.infRung Format.signWeight Format.binade
    rw [Nat.pow_add]
    exact Nat.mul_lt_mul_of_pos_right (by have := Nat.two_pow_pos f.exponentBits; omega) (Nat.two_pow_pos _)
  -- the word's sign and rung
  have hw1 : f.word neg (rungOf f c n) / f.signWeight % 2 = neg.toNat := by
    unfold Format.word
    cases neg with
    | false => simp only [Bool.false_eq_true, if_false]; rw [Nat.div_eq_of_lt (by omega)]; rfl
    | true =>
      simp only [if_true]
      rw [Nat.add_comm, Nat.add_div_right _ (by omega), Nat.div_eq_of_lt (by omega)]; rfl
  have hw2 : f.word neg (rungOf f c n) % f.signWeight = rungOf f c n := by
    unfold Format.word
    cases neg with
    | false => simp only [Bool.false_eq_true, if_false]; exact Nat.mod_eq_of_lt (by omega)
    | true => simp only [if_true]; rw [Nat.add_mod_left]; exact Nat.mod_eq_of_lt (by omega)
  unfold Format.read
  simp only [hw1, hw2]
  have hneg : (neg.toNat == 1) = neg := by cases neg <;> rfl
  rw [hneg]
  by_cases h0 : rungOf f c n < f.binade
  · rw [if_pos h0]
    have e : l = c := by
      rcases hk2 with e | e
      · exact e
      · omega
    subst e
    have : rungOf f l n = k := by rw [hR]; simp
    rw [this]
    refine ⟨k, f.leastPlace, rfl, by omega, ?_⟩
    congr 2; omega
  · rw [if_neg h0, if_pos hinf]
    refine ⟨_, _, rfl, by omega, ?_⟩
    have hdm := Nat.div_add_mod (rungOf f c n) f.binade
    have hmod := Nat.mod_lt (rungOf f c n) hb
    by_cases h1 : k < 2 * f.binade
    · have hkb : f.binade ≤ k := by
        rcases hk2 with e | e
        · subst e
          have : rungOf f l n = k := by rw [hR]; simp
          omega
        · exact e
      have d : rungOf f c n / f.binade = l - c + 1 := by
        rw [hR, Nat.add_comm, Nat.add_mul_div_right _ _ hb]
        rw [show k / f.binade = 1 by rw [Nat.div_eq_iff hb]; omega]; omega
      have r : rungOf f c n % f.binade = k - f.binade := by
        rw [hR, Nat.add_comm, Nat.add_mul_mod_self_right, Nat.mod_eq_sub_mod hkb, Nat.mod_eq_of_lt (by omega)]
      rw [d, r]
      congr 1
      · omega
      · congr 1; omega
    · have hk3 : k = 2 * f.binade := by omega
      have d : rungOf f c n / f.binade = l - c + 2 := by
        rw [hR, hk3, ← Nat.add_mul, Nat.mul_div_cancel _ hb]
      have r : rungOf f c n % f.binade = 0 := by
        rw [hR, hk3, ← Nat.add_mul, Nat.mul_mod_left]
      rw [d, r, hk3]
      have : (f.leastPlace + ((l - c + 2 - 1 : Nat) : Int) - K).toNat = l + 1 := by omega
      rw [this, Nat.pow_succ]
      simp only [Nat.add_zero, Nat.mul_assoc, Nat.mul_comm 2]

end Go.Proofs.Ytncgcjeihihkfaa.Fl
