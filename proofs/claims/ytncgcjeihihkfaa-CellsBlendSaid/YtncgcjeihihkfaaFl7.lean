/- Quotients of singles. -/
import Derived.Test.YtncgcjeihihkfaaFl6
namespace Go.Proofs.Ytncgcjeihihkfaa.Fl
open Ieee

/-- What a rounded quotient P / Q of units is: k digits over the last place l. -/
structure Quo (f : Format) (c P Q l k : Nat) : Prop where
  low : c ≤ l
  hi : P < Q * 2 ^ (l + f.fractionBits + 1)
  lo : l = c ∨ Q * 2 ^ (l + f.fractionBits) ≤ P
  val : k = rnq P (Q * 2 ^ l)

theorem Quo.bounds {f : Format} {c P Q l k : Nat} (h : Quo f c P Q l k) (hQ : 0 < Q) : k ≤ 2 ^ (f.fractionBits + 1) ∧ (l = c ∨ 2 ^ f.fractionBits ≤ k) := by
  have hM : 0 < Q * 2 ^ l := Nat.mul_pos hQ (Nat.two_pow_pos _)
  refine ⟨?_, ?_⟩
  · have : rnq P (Q * 2 ^ l) ≤ rnq (2 ^ (f.fractionBits + 1) * (Q * 2 ^ l)) (Q * 2 ^ l) := by
      refine rnq_mono hM (Nat.le_of_lt ?_)
      rw [Nat.mul_left_comm, ← Nat.pow_add, show f.fractionBits + 1 + l = l + f.fractionBits + 1 by omega]
      exact h.hi
    rwa [rnq_mul _ _ hM, ← h.val] at this
  · rcases h.lo with e | e
    · exact .inl e
    · right
      have : rnq (2 ^ f.fractionBits * (Q * 2 ^ l)) (Q * 2 ^ l) ≤ rnq P (Q * 2 ^ l) := by
        refine rnq_mono hM ?_
        rw [Nat.mul_left_comm, ← Nat.pow_add, show f.fractionBits + l = l + f.fractionBits by omega]
        exact e
      rwa [rnq_mul _ _ hM, ← h.val] at this

theorem Quo.rung {f : Format} {c P Q l k : Nat} (h : Quo f c P Q l k) (hQ : 0 < Q) : rungOf f c (k * 2 ^ l) = (l - c) * f.binade + k := by
  obtain ⟨b1, b2⟩ := h.bounds hQ
  rcases Nat.eq_zero_or_pos k with z | z
  · subst z
    rw [Nat.zero_mul, rungOf_zero]
    rcases b2 with e | e
    · subst e; simp
    · have := Nat.two_pow_pos f.fractionBits; omega
  rw [rungOf_eq f c _ l (Nat.mul_pos z (Nat.two_pow_pos _)) h.low ?_ ?_, rnq_mul _ _ (Nat.two_pow_pos _)]
  · rw [show l + f.fractionBits + 1 = f.fractionBits + 1 + l by omega, Nat.pow_add]
    exact Nat.mul_le_mul_right _ b1
  · rcases b2 with e | e
    · exact .inl e
    · right
      rw [Nat.add_comm l, Nat.pow_add]; exact Nat.mul_le_mul_right _ e

/-- What Datum.quotient writes, by the values of both sides in units of 2 ^ -1074. -/
theorem quot_word (f : Format) (c : Nat) (hc : f.leastPlace = (-1074 : Int) + c) {s t : Bool} {m n : Nat} {i j : Int} (hm : 0 < m) (hn : 0 < n) (hi : -1074 ≤ i) (hj : -1074 ≤ j)
    (hplace : -1074 ≤ i - j - ((f.fractionBits + 2 + n.log2 - m.log2 : Nat) : Int) - 1) {T : Nat} (hT : T = 1074) :
    ∃ l k, Quo f c (m * 2 ^ (i + 1074).toNat * 2 ^ T) (n * 2 ^ (j + 1074).toNat) l k ∧
      ((Datum.number s m i).quotient (f.fractionBits + 2) (.number t n j)).map f.write = some (wordAt f c (s ^^ t) (k * 2 ^ l)) := by
  generalize hmo : f.fractionBits + 2 + n.log2 - m.log2 = mo at *
  obtain ⟨A, hA⟩ : ∃ A, A = m * 2 ^ mo := ⟨_, rfl⟩
  obtain ⟨q, hq⟩ : ∃ q, q = A / n := ⟨_, rfl⟩
  obtain ⟨st, hst⟩ : ∃ st, st = 2 * q + (A % n != 0).toNat := ⟨_, rfl⟩
  obtain ⟨E, hE⟩ : ∃ E, E = (i - j - (mo : Int) - 1 + 1074).toNat := ⟨_, rfl⟩
  have hqlo : 2 ^ (f.fractionBits + 1) ≤ q := by
    rw [hq, Nat.le_div_iff_mul_le hn, hA]
    have a1 : 2 ^ m.log2 ≤ m := Nat.log2_self_le (by omega)
    have a2 : n < 2 ^ (n.log2 + 1) := Nat.lt_log2_self
    calc 2 ^ (f.fractionBits + 1) * n ≤ 2 ^ (f.fractionBits + 1) * 2 ^ (n.log2 + 1) := Nat.mul_le_mul_left _ (Nat.le_of_lt a2)
      _ = 2 ^ (f.fractionBits + 1 + (n.log2 + 1)) := (Nat.pow_add _ _ _).symm
      _ ≤ 2 ^ (m.log2 + mo) := two_le (by omega)
      _ = 2 ^ m.log2 * 2 ^ mo := Nat.pow_add _ _ _
      _ ≤ m * 2 ^ mo := Nat.mul_le_mul_right _ a1
  have hs1 : (A % n != 0).toNat ≤ 1 := by cases (A % n != 0) <;> simp
  have hst0 : 0 < st := by have := Nat.two_pow_pos (f.fractionBits + 1); omega
  have hlog : f.fractionBits + 2 ≤ st.log2 := by
    refine (Nat.le_log2 (by omega)).2 ?_
    rw [show f.fractionBits + 2 = f.fractionBits + 1 + 1 by omega, Nat.pow_succ]; omega
  -- the sticky word in units
  have hnear : f.nearest (s ^^ t) st (i - j - (mo : Int) - 1) = wordAt f c (s ^^ t) (st * 2 ^ E) := by
    rw [nearest_val f _ (-1074) c hc st (p := i - j - (mo : Int) - 1) (by omega), hE]
    congr 3
  have hN0 : 0 < st * 2 ^ E := Nat.mul_pos hst0 (Nat.two_pow_pos _)
  obtain ⟨l1, l2, l3⟩ := last_le f c (st * 2 ^ E) hN0
  have hR : rungOf f c (st * 2 ^ E) = (lastOf f c (st * 2 ^ E) - c) * f.binade + rnq (st * 2 ^ E) (2 ^ lastOf f c (st * 2 ^ E)) := rfl
  have hlE : E + 2 ≤ lastOf f c (st * 2 ^ E) := by
    unfold lastOf; rw [log2_mul_pow hst0]; omega
  generalize lastOf f c (st * 2 ^ E) = l at *
  -- 2 ^ l = 2 ^ E * (2 * M), M even
  obtain ⟨u, hu⟩ : ∃ u, l = E + (u + 2) := ⟨l - E - 2, by omega⟩
  have e2l : 2 ^ l = (2 * (2 * 2 ^ u)) * 2 ^ E := by rw [hu, Nat.pow_add, Nat.pow_add 2 u 2, Nat.mul_comm (2 ^ E)]; congr 1; omega
  have hst2 : rnq (st * 2 ^ E) (2 ^ l) = rnq A (n * (2 * 2 ^ u)) := by
    rw [e2l, rnq_scale _ _ _ (by have := Nat.two_pow_pos u; omega) (Nat.two_pow_pos E), hst, hq]
    exact rnq_sticky hn (by have := Nat.two_pow_pos u; omega) (by omega)
  -- P and Q
  have hx : (i + 1074).toNat + T = mo + (i + 2148 - mo).toNat := by omega
  have hP : m * 2 ^ (i + 1074).toNat * 2 ^ T = A * 2 ^ (i + 2148 - mo).toNat := by
    rw [Nat.mul_assoc, ← Nat.pow_add, hx, Nat.pow_add, ← Nat.mul_assoc, ← hA]
  have hQl : ∀ a, n * 2 ^ (j + 1074).toNat * 2 ^ (E + 1 + a) = (n * 2 ^ a) * 2 ^ (i + 2148 - mo).toNat := by
    intro a
    rw [Nat.mul_assoc, Nat.mul_assoc, ← Nat.pow_add, ← Nat.pow_add]
    exact congrArg (fun z => n * 2 ^ z) (by omega)
  have hQl0 : n * 2 ^ (j + 1074).toNat * 2 ^ l = (n * (2 * 2 ^ u)) * 2 ^ (i + 2148 - mo).toNat := by
    have := hQl (u + 1)
    rw [show E + 1 + (u + 1) = l by omega, Nat.pow_succ 2 u, Nat.mul_comm (2 ^ u) 2] at this
    exact this
  have pS : 0 < 2 ^ (i + 2148 - mo).toNat := Nat.two_pow_pos _
  have hdm := Nat.div_add_mod A n
  have hmod := Nat.mod_lt A hn
  rw [← hq] at hdm
  have hquo : Quo f c (m * 2 ^ (i + 1074).toNat * 2 ^ T) (n * 2 ^ (j + 1074).toNat) l (rnq A (n * (2 * 2 ^ u))) := by
    refine ⟨l1, ?_, ?_, ?_⟩
    · -- P < Q * 2 ^ (l + fb + 1)
      rw [hP]
      have g := hQl (l + f.fractionBits - E)
      rw [show E + 1 + (l + f.fractionBits - E) = l + f.fractionBits + 1 by omega] at g
      rw [g]
      refine Nat.mul_lt_mul_of_pos_right ?_ pS
      have : st < 2 ^ (l + f.fractionBits + 1 - E) := by
        have h := l2
        rw [pow_split (show E ≤ l + f.fractionBits + 1 by omega)] at h
        exact Nat.lt_of_mul_lt_mul_right h
      rw [show l + f.fractionBits + 1 - E = (l + f.fractionBits - E) + 1 by omega, Nat.pow_succ] at this
      generalize 2 ^ (l + f.fractionBits - E) = w at *
      have hqw : q + 1 ≤ w := by omega
      have := Nat.mul_le_mul_left n hqw
      rw [Nat.mul_succ] at this
      omega
    · rcases l3 with e | e
      · exact .inl e
      · right
        rw [hP]
        have g := hQl (l + f.fractionBits - E - 1)
        rw [show E + 1 + (l + f.fractionBits - E - 1) = l + f.fractionBits by omega] at g
        rw [g]
        refine Nat.mul_le_mul_right _ ?_
        have : 2 ^ (l + f.fractionBits - E) ≤ st := by
          have h := e
          rw [pow_split (show E ≤ l + f.fractionBits by omega)] at h
          exact Nat.le_of_mul_le_mul_right h (Nat.two_pow_pos _)
        rw [show l + f.fractionBits - E = (l + f.fractionBits - E - 1) + 1 by omega, Nat.pow_succ] at this
        generalize 2 ^ (l + f.fractionBits - E - 1) = w at *
        have hqw : w ≤ q := by omega
        have := Nat.mul_le_mul_left n hqw
        omega
    · rw [hP, hQl0, rnq_scale _ _ _ (Nat.mul_pos hn (by have := Nat.two_pow_pos u; omega)) pS]
  refine ⟨l, _, hquo, ?_⟩
  show ((Datum.number s m i).quotient (f.fractionBits + 2) (.number t n j)).map f.write = _
  unfold Datum.quotient
  simp only
  rw [if_neg (by omega)]
  simp only [Option.map_some]
  rw [hmo, Nat.shiftLeft_eq, ← hA, ← hq, ← hst]
  show some (f.nearest (s ^^ t) st (i - j - (mo : Int) - 1)) = _
  rw [hnear]
  congr 1
  unfold wordAt
  rw [hquo.rung (Nat.mul_pos hn (Nat.two_pow_pos _)), hR, hst2]

end Go.Proofs.Ytncgcjeihihkfaa.Fl
