/- Values of rounded results, in units of 2 ^ -1074: sums, differences, products, whole numbers; rounding is monotone, exact on few digits, and errs by half a unit of the last place. -/
import Derived.Test.YtncgcjeihihkfaaFl10
namespace Go.Proofs.Ytncgcjeihihkfaa.Fl
open Ieee

theorem vS_some {x : Nat} {a : Int} (h : vS x = some a) : ∃ s m p, single.read x = .number s m p ∧ vOf s m p = a := by
  unfold vS at h
  split at h
  · rename_i s m p e
    exact ⟨s, m, p, e, Option.some.inj h⟩
  · cases h

/-- The value of the single nearest to a value. -/
def rdS (c : Int) : Int := if c < 0 then -((rd single 925 c.natAbs : Nat) : Int) else ((rd single 925 c.natAbs : Nat) : Int)

theorem rdS_zero : rdS 0 = 0 := by
  unfold rdS
  rw [if_neg (by omega), show (0 : Int).natAbs = 0 from rfl, rd_zero]; rfl

theorem rdS_sign {c : Int} {sg : Bool} (h : c = 0 ∨ sg = decide (c < 0)) : (if sg then -1 else 1) * ((rd single 925 c.natAbs : Nat) : Int) = rdS c := by
  rcases h with rfl | rfl
  · rw [rdS_zero, show (0 : Int).natAbs = 0 from rfl, rd_zero]; simp
  · unfold rdS
    by_cases h : c < 0
    · rw [if_pos h]; simp [h]
    · rw [if_neg h]; simp [h]

theorem vS_word {sg : Bool} {V B : Nat} (hB : V < 2 ^ B) (hB' : B < 1202) : vS (wordAt single 925 sg V) = some ((if sg then -1 else 1) * ((rd single 925 V : Nat) : Int)) := by
  obtain ⟨M, I, q1, _, q3⟩ := read_val single sg (-1074) 925 leastS V (rungS_lt hB hB')
  rw [vS_num q1]; unfold vOf; rw [signed_eq]
  have e : (I - (-1074)).toNat = (I + 1074).toNat := by omega
  rw [e] at q3; rw [q3]

theorem vS_sum {s t : Bool} {m n : Nat} {i j : Int} {r B : Nat} (hi : -1074 ≤ i) (hj : -1074 ≤ j) (h : ((Datum.number s m i).sum (.number t n j)).map single.write = some r)
    (hB : (vOf s m i + vOf t n j).natAbs < 2 ^ B) (hB' : B < 1202) : vS r = some (rdS (vOf s m i + vOf t n j)) := by
  obtain ⟨p, q, q1, q2, q3⟩ := sum_val (s := s) (t := t) (m := m) (n := n) hi hj
  rw [q1] at h
  have h' := Option.some.inj h
  rw [← h']
  show vS (single.nearest _ p q) = _
  rw [nearest_val single _ (-1074) 925 leastS p (p := q) q2, show (q - (-1074)).toNat = (q + 1074).toNat by omega, q3, vS_word hB hB', rdS_sign]
  by_cases z : vOf s m i + vOf t n j = 0
  · exact .inl z
  · right; rw [if_neg z]

theorem vS_add {x y r B : Nat} {a b : Int} (h : Go.floatBits .add .f32 x y = some r) (ha : vS x = some a) (hb : vS y = some b) (hB : (a + b).natAbs < 2 ^ B) (hB' : B < 1202) : vS r = some (rdS (a + b)) := by
  obtain ⟨s, m, i, h1, rfl⟩ := vS_some ha
  obtain ⟨t, n, j, h2, rfl⟩ := vS_some hb
  have g1 := (read_single h1).low
  have g2 := (read_single h2).low
  have h' : ((single.read x).sum (single.read y)).map single.write = some r := h
  rw [h1, h2] at h'
  exact vS_sum (by omega) (by omega) h' hB hB'

theorem vOf_opp (t : Bool) (n : Nat) (j : Int) : vOf (!t) n j = - vOf t n j := by
  unfold vOf; rw [signed_eq, signed_eq]; cases t <;> simp

theorem vS_sub {x y r B : Nat} {a b : Int} (h : Go.floatBits .sub .f32 x y = some r) (ha : vS x = some a) (hb : vS y = some b) (hB : (a - b).natAbs < 2 ^ B) (hB' : B < 1202) : vS r = some (rdS (a - b)) := by
  obtain ⟨s, m, i, h1, rfl⟩ := vS_some ha
  obtain ⟨t, n, j, h2, rfl⟩ := vS_some hb
  have g1 := (read_single h1).low
  have g2 := (read_single h2).low
  have h' : ((single.read x).sum (single.read y).opposite).map single.write = some r := h
  rw [h1, h2] at h'
  have e : vOf s m i - vOf t n j = vOf s m i + vOf (!t) n j := by rw [vOf_opp]; omega
  rw [e] at hB ⊢
  exact vS_sum (t := !t) (by omega) (by omega) h' hB hB'

/-- One, in units. -/
def one : Nat := 2 ^ (1074 : Int).toNat
theorem one_eq : one = 2 ^ (1074 : Int).toNat := rfl
theorem one_pos : 0 < one := Nat.two_pow_pos _

theorem vS_mul {x y r B : Nat} {a b c : Int} (h : Go.floatBits .mul .f32 x y = some r) (ha : vS x = some a) (hb : vS y = some b) (hc : a * b = c * (one : Int)) (hB : c.natAbs < 2 ^ B) (hB' : B < 1202) : vS r = some (rdS c) := by
  obtain ⟨s, m, i, h1, rfl⟩ := vS_some ha
  obtain ⟨t, n, j, h2, rfl⟩ := vS_some hb
  have g1 := (read_single h1).low
  have g2 := (read_single h2).low
  have h' : ((single.read x).product (single.read y)).map single.write = some r := h
  rw [h1, h2] at h'
  have h'' := Option.some.inj h'
  rw [← h'']
  show vS (single.nearest (s ^^ t) (m * n) (i + j)) = _
  rw [nearest_val single _ (-1074) 925 leastS (m * n) (p := i + j) (by omega), show (i + j - (-1074)).toNat = (i + j + 1074).toNat by omega]
  have hv : c = (if (s ^^ t) then -1 else 1) * ((m * n * 2 ^ (i + j + 1074).toNat : Nat) : Int) := by
    have hp : (0 : Int) < (one : Int) := Int.natCast_pos.2 one_pos
    refine Int.eq_of_mul_eq_mul_right (Int.ne_of_gt hp) ?_
    rw [← hc]
    unfold vOf
    rw [signed_eq, signed_eq, one_eq]
    have p2 := pow_add_toNat (I := i + j + 1074) (J := 1074) (K := i + 1074) (L := j + 1074) (by omega) (by omega) (by omega) (by omega) (by omega)
    have e : m * n * 2 ^ (i + j + 1074).toNat * 2 ^ (1074 : Int).toNat = (m * 2 ^ (i + 1074).toNat) * (n * 2 ^ (j + 1074).toNat) := by
      rw [Nat.mul_assoc (m * n), p2]; simp only [Nat.mul_assoc, Nat.mul_left_comm]
    have e' : ((m * n * 2 ^ (i + j + 1074).toNat : Nat) : Int) * ((2 ^ (1074 : Int).toNat : Nat) : Int) = ((m * 2 ^ (i + 1074).toNat : Nat) : Int) * ((n * 2 ^ (j + 1074).toNat : Nat) : Int) := by
      rw [← Int.natCast_mul, e, Int.natCast_mul]
    refine Eq.trans ?_ (Int.mul_assoc _ _ _).symm
    rw [e']
    generalize ((m * 2 ^ (i + 1074).toNat : Nat) : Int) = u
    generalize ((n * 2 ^ (j + 1074).toNat : Nat) : Int) = v
    cases s <;> cases t <;> simp [Int.neg_mul, Int.mul_neg]
  have hn : c.natAbs = m * n * 2 ^ (i + j + 1074).toNat := by
    rw [hv, Int.natAbs_mul, Int.natAbs_natCast]; cases (s ^^ t) <;> simp
  rw [← hn, vS_word hB hB', rdS_sign]
  by_cases z : c = 0
  · exact .inl z
  · right
    have : 0 < m * n * 2 ^ (i + j + 1074).toNat := by omega
    generalize m * n * 2 ^ (i + j + 1074).toNat = V at *
    rw [hv]
    cases (s ^^ t)
    · simp
    · simp; omega

/-- A whole number as a single. -/
theorem vS_int {n : Int} {B : Nat} (hB : (n * (one : Int)).natAbs < 2 ^ B) (hB' : B < 1202) : vS (Go.floatOfInt .f32 n) = some (rdS (n * (one : Int))) := by
  show vS (single.nearest (n < 0) n.natAbs 0) = _
  rw [nearest_val single _ (-1074) 925 leastS n.natAbs (p := 0) (by omega), show ((0 : Int) - (-1074)).toNat = (1074 : Int).toNat by rfl]
  have e : (n * (one : Int)).natAbs = n.natAbs * 2 ^ (1074 : Int).toNat := by rw [Int.natAbs_mul, Int.natAbs_natCast, one_eq]
  rw [← e, vS_word hB hB', rdS_sign]
  by_cases z : n = 0
  · left; rw [z, Int.zero_mul]
  · right
    have hp : (0 : Int) < (one : Int) := Int.natCast_pos.2 one_pos
    by_cases h : n < 0
    · have := Int.mul_neg_of_neg_of_pos h hp
      simp [h, this]
    · have := Int.mul_nonneg (Int.not_lt.1 h) (Int.le_of_lt hp)
      simp [h]; omega

theorem rdS_neg (c : Int) : rdS (-c) = - rdS c := by
  rcases Int.lt_trichotomy c 0 with h | h | h
  · unfold rdS; rw [if_neg (by omega), if_pos h, Int.natAbs_neg]; omega
  · subst h; rw [show -(0 : Int) = 0 from rfl, rdS_zero]; rfl
  · unfold rdS; rw [if_pos (by omega), if_neg (by omega), Int.natAbs_neg]

theorem rdS_nat (V : Nat) : rdS (V : Int) = (rd single 925 V : Nat) := by
  unfold rdS; rw [if_neg (by omega), Int.natAbs_natCast]

theorem rd_mono {V W : Nat} (h : V ≤ W) : rd single 925 V ≤ rd single 925 W := by
  rcases Nat.eq_zero_or_pos V with z | z
  · subst z; rw [rd_zero]; exact Nat.zero_le _
  have z' : 0 < W := by omega
  obtain ⟨l1, l2, l3⟩ := last_le single 925 V z
  obtain ⟨k1, k2, k3⟩ := last_le single 925 W z'
  unfold rd
  generalize lastOf single 925 V = l at *
  generalize lastOf single 925 W = k at *
  rw [fbS] at l2 l3 k2 k3
  have pl : 0 < 2 ^ l := Nat.two_pow_pos l
  have pk : 0 < 2 ^ k := Nat.two_pow_pos k
  rcases Nat.lt_trichotomy l k with c | c | c
  · -- W reaches a higher binade
    have a : rnq V (2 ^ l) ≤ 2 ^ 24 := by
      have := rnq_mono (M := 2 ^ l) pl (N := V) (N' := 2 ^ 24 * 2 ^ l) (by rw [← Nat.pow_add]; exact Nat.le_of_lt (by rwa [show 24 + l = l + 23 + 1 by omega]))
      rwa [rnq_mul _ _ pl] at this
    have b : 2 ^ 23 ≤ rnq W (2 ^ k) := by
      have e : 2 ^ (k + 23) ≤ W := by rcases k3 with x | x; omega; exact x
      have := rnq_mono (M := 2 ^ k) pk (N := 2 ^ 23 * 2 ^ k) (N' := W) (by rw [← Nat.pow_add, show 23 + k = k + 23 by omega]; exact e)
      rwa [rnq_mul _ _ pk] at this
    calc rnq V (2 ^ l) * 2 ^ l ≤ 2 ^ 24 * 2 ^ l := Nat.mul_le_mul_right _ a
      _ = 2 ^ (24 + l) := by rw [Nat.pow_add]
      _ ≤ 2 ^ (23 + k) := Nat.pow_le_pow_right (by omega) (by omega)
      _ = 2 ^ 23 * 2 ^ k := by rw [Nat.pow_add]
      _ ≤ rnq W (2 ^ k) * 2 ^ k := Nat.mul_le_mul_right _ b
  · subst c
    exact Nat.mul_le_mul_right _ (rnq_mono pl h)
  · exfalso
    rcases l3 with x | x
    · omega
    · have : 2 ^ (l + 23) < 2 ^ (k + 23 + 1) := Nat.lt_of_le_of_lt (Nat.le_trans x h) k2
      have := (Nat.pow_lt_pow_iff_right (by omega : 1 < 2)).1 this
      omega

theorem rdS_mono {a b : Int} (h : a ≤ b) : rdS a ≤ rdS b := by
  have p : ∀ {a b : Int}, 0 ≤ a → a ≤ b → rdS a ≤ rdS b := by
    intro a b h0 h
    obtain ⟨m, rfl⟩ := Int.eq_ofNat_of_zero_le h0
    obtain ⟨n, rfl⟩ := Int.eq_ofNat_of_zero_le (Int.le_trans h0 h)
    rw [rdS_nat, rdS_nat]
    exact Int.ofNat_le.2 (rd_mono (Int.ofNat_le.1 h))
  rcases Int.lt_or_le a 0 with c | c
  · rcases Int.lt_or_le b 0 with d | d
    · have := p (a := -b) (b := -a) (by omega) (by omega)
      rw [rdS_neg, rdS_neg] at this; omega
    · have u := p (a := 0) (b := b) (by omega) d
      have v := p (a := 0) (b := -a) (by omega) (by omega)
      rw [rdS_neg] at v
      rw [rdS_zero] at u v
      omega
  · exact p c h

theorem rdS_exact {c : Int} (t : Int) (j : Nat) (ht : t.natAbs < 16777216) (hj : 925 ≤ j) (h : c = t * ((2 ^ j : Nat) : Int)) : rdS c = c := by
  have key : ∀ t : Nat, t < 16777216 → rdS ((t : Int) * ((2 ^ j : Nat) : Int)) = (t : Int) * ((2 ^ j : Nat) : Int) := by
    intro t ht
    rw [← Int.natCast_mul, rdS_nat, rd_exact single 925 t j (by rw [fbS]; exact ht) hj]
  subst h
  rcases Int.lt_or_le t 0 with c | c
  · obtain ⟨n, hn⟩ := Int.eq_ofNat_of_zero_le (show 0 ≤ -t by omega)
    have e : t * ((2 ^ j : Nat) : Int) = -((n : Int) * ((2 ^ j : Nat) : Int)) := by rw [← hn, Int.neg_mul, Int.neg_neg]
    rw [e, rdS_neg, key n (by omega)]
  · obtain ⟨n, rfl⟩ := Int.eq_ofNat_of_zero_le c
    exact key n (by omega)

/-- The error: at most half of 2 ^ e, below 2 ^ (e + 24). -/
theorem rdS_err {c : Int} {e : Nat} (he : 925 ≤ e) (hc : c.natAbs < 2 ^ (e + 24)) : 2 * (rdS c - c).natAbs ≤ 2 ^ e := by
  have key : ∀ V : Nat, V < 2 ^ (e + 24) → 2 * (rdS (V : Int) - (V : Int)).natAbs ≤ 2 ^ e := by
    intro V hV
    rcases Nat.eq_zero_or_pos V with z | z
    · subst z; rw [show ((0 : Nat) : Int) = 0 from rfl, rdS_zero]; simp
    obtain ⟨l1, l2, l3⟩ := last_le single 925 V z
    rw [rdS_nat]
    unfold rd
    generalize lastOf single 925 V = l at *
    rw [fbS] at l2 l3
    have hl : l ≤ e := by
      rcases l3 with x | x
      · omega
      · have : 2 ^ (l + 23) < 2 ^ (e + 24) := Nat.lt_of_le_of_lt x hV
        have := (Nat.pow_lt_pow_iff_right (by omega : 1 < 2)).1 this
        omega
    have hn := rnq_near (N := V) (M := 2 ^ l) (Nat.two_pow_pos l)
    have a := hn.low
    have b := hn.high
    have m : 2 ^ l ≤ 2 ^ e := Nat.pow_le_pow_right (by omega) hl
    generalize rnq V (2 ^ l) * 2 ^ l = R at *
    omega
  rcases Int.lt_or_le c 0 with d | d
  · obtain ⟨n, hn⟩ := Int.eq_ofNat_of_zero_le (show 0 ≤ -c by omega)
    have := key n (by omega)
    rw [← hn, rdS_neg] at this
    omega
  · obtain ⟨n, rfl⟩ := Int.eq_ofNat_of_zero_le d
    exact key n (by omega)

end Go.Proofs.Ytncgcjeihihkfaa.Fl
