/- The words: a sum, a difference, a product of two singles, reckoned as doubles and turned into a single, has the very bits of the single's own operation. 'Bd k x': x is a finite single of magnitude at most 2 ^ k. -/
import Derived.Test.YtncgcjeihihkfaaFl4
import Derived.Laws.FloatArith
namespace Go.Proofs.Ytncgcjeihihkfaa.Fl
open Ieee

theorem rung_le (f : Format) (c V : Nat) : rungOf f c V ≤ (lastOf f c V - c) * f.binade + 2 * f.binade := by
  rcases Nat.eq_zero_or_pos V with z | z
  · subst z; rw [rungOf_zero]; omega
  · obtain ⟨_, h2, _⟩ := last_le f c V z
    unfold rungOf
    refine Nat.add_le_add_left ?_ _
    generalize lastOf f c V = l at *
    have : rnq V (2 ^ l) ≤ rnq (2 ^ (f.fractionBits + 1) * 2 ^ l) (2 ^ l) := by
      refine rnq_mono (Nat.two_pow_pos _) ?_
      rw [← Nat.pow_add]
      exact Nat.le_of_lt (Nat.lt_of_lt_of_le h2 (Nat.pow_le_pow_right (by omega) (by omega)))
    rw [rnq_mul _ _ (Nat.two_pow_pos _), Nat.pow_succ] at this
    unfold Format.binade; omega

theorem log_lt {V B : Nat} (h : V < 2 ^ B) (hB : 0 < B) : V.log2 < B := by
  rcases Nat.eq_zero_or_pos V with z | z
  · subst z; exact hB
  · exact (Nat.log2_lt (by omega)).2 h

theorem log_lt' {V B C : Nat} (h : V < 2 ^ B) (hB : B ≤ C) (hC : 0 < C) : V.log2 < C :=
  log_lt (Nat.lt_of_lt_of_le h (Nat.pow_le_pow_right (by omega) hB)) hC
theorem two_le {a b : Nat} (h : a ≤ b) : 2 ^ a ≤ 2 ^ b := Nat.pow_le_pow_right (by omega) h

theorem rungS_lt {V B : Nat} (h : V < 2 ^ B) (hB : B < 1202) : sRung V < single.infRung := by
  have h1 := rung_le single 925 V
  have h2 : V.log2 < 1201 := log_lt' h (by omega) (by omega)
  have h3 : lastOf single 925 V - 925 ≤ 252 := by unfold lastOf; rw [fbS]; omega
  have hb : single.binade = 8388608 := by decide
  have hi : single.infRung = 2139095040 := by decide
  rw [hb] at h1
  rw [hi]
  show rungOf single 925 V < _
  have := Nat.mul_le_mul_right 8388608 h3
  omega

theorem rungD_lt {V B : Nat} (h : V < 2 ^ B) (hB : B < 2098) : rungOf double 0 V < double.infRung := by
  have h1 := rung_le double 0 V
  have h2 : V.log2 < 2097 := log_lt' h (by omega) (by omega)
  have h3 : lastOf double 0 V - 0 ≤ 2044 := by unfold lastOf; rw [fbD]; omega
  have hb : double.binade = 4503599627370496 := by decide
  have hi : double.infRung = 9218868437227405312 := by decide
  rw [hb] at h1
  rw [hi]
  have := Nat.mul_le_mul_right 4503599627370496 h3
  omega

/-- x is a finite single of magnitude at most 2 ^ k. -/
def Bd (k x : Nat) : Prop := ∃ s m p, single.read x = .number s m p ∧ m * 2 ^ (p + 1074).toNat ≤ 2 ^ (1074 + k)

theorem toD {x : Nat} {s : Bool} {m : Nat} {p : Int} (hx : single.read x = .number s m p) :
    ∃ X M I, floatToFloatBits .f32 x .f64 = some X ∧ double.read X = .number s M I ∧ -1074 ≤ I ∧ M * 2 ^ (I + 1074).toNat = m * 2 ^ (p + 1074).toNat ∧ (M ≠ 0 → -300 ≤ I) := by
  obtain ⟨h1, h2, h3, h4⟩ := read_single hx
  have hn := nearest_val double s (-1074) 0 leastD m (p := p) (by omega)
  obtain ⟨E, hE⟩ : ∃ E : Nat, E = 1202 := ⟨_, rfl⟩
  have hV : m * 2 ^ (p + 1074).toNat < 2 ^ E := by
    have a : 2 ^ (p + 1074).toNat ≤ 2 ^ (E - 24) := two_le (by omega)
    have b : (16777216 : Nat) = 2 ^ 24 := by decide
    calc m * 2 ^ (p + 1074).toNat ≤ m * 2 ^ (E - 24) := Nat.mul_le_mul_left _ a
      _ < 2 ^ 24 * 2 ^ (E - 24) := Nat.mul_lt_mul_of_pos_right (by rw [← b]; exact h1) (Nat.two_pow_pos _)
      _ = 2 ^ E := by rw [← Nat.pow_add]; congr 1; omega
  obtain ⟨M, I, r1, r2, r3⟩ := read_val double s (-1074) 0 leastD (m * 2 ^ (p + 1074).toNat) (rungD_lt hV (by omega))
  have hex : rd double 0 (m * 2 ^ (p + 1074).toNat) = m * 2 ^ (p + 1074).toNat := rd_exact double 0 m _ (by rw [fbD]; exact Nat.lt_of_lt_of_le h1 (by decide)) (by omega)
  have e : (I - (-1074)).toNat = (I + 1074).toNat := by omega
  have eD : (p - (-1074)).toNat = (p + 1074).toNat := by omega
  rw [hex, e] at r3
  rw [eD] at hn
  have hl : double.leastPlace = -1074 := by decide
  rw [hl] at r2
  refine ⟨double.nearest s m p, M, I, ?_, by rw [hn]; exact r1, r2, r3, ?_⟩
  · unfold floatToFloatBits
    rw [if_neg (by decide)]
    have : FloatKind.f32.decode x = .number s m p := hx
    simp only [this]
    have w : FloatKind.f64.encode (.number s m p) = double.nearest s m p := rfl
    rw [w]
    have d : FloatKind.f64.decode (double.nearest s m p) = .number s M I := by rw [hn]; exact r1
    rw [d]; rfl
  · intro hM
    have hb : M < 2 ^ 53 := by
      unfold Format.read at r1
      have b : double.binade = 4503599627370496 := by decide
      rw [b] at r1
      simp only at r1
      split at r1
      · simp only [Datum.number.injEq] at r1
        have : (2 : Nat) ^ 53 = 9007199254740992 := by decide
        omega
      · split at r1
        · simp only [Datum.number.injEq] at r1
          have := Nat.mod_lt (wordAt double 0 s (m * 2 ^ (p + 1074).toNat) % double.signWeight) (show 0 < 4503599627370496 by omega)
          have : (2 : Nat) ^ 53 = 9007199254740992 := by decide
          omega
        · split at r1 <;> cases r1
    -- a value that is not nought is at least 2 ^ 925 units
    rcases Int.lt_or_le I (-300) with x | x
    · exfalso
      have m0 : 0 < m := by
        rcases Nat.eq_zero_or_pos m with z | z
        · subst z; rw [Nat.zero_mul] at r3; have := Nat.mul_pos (Nat.pos_of_ne_zero hM) (Nat.two_pow_pos (I + 1074).toNat); omega
        · exact z
      obtain ⟨E, hE⟩ : ∃ E : Nat, E = 925 := ⟨_, rfl⟩
      have a : 2 ^ E ≤ m * 2 ^ (p + 1074).toNat := by
        calc 2 ^ E ≤ 2 ^ (p + 1074).toNat := two_le (by omega)
          _ ≤ m * 2 ^ (p + 1074).toNat := Nat.le_mul_of_pos_left _ m0
      have c : M * 2 ^ (I + 1074).toNat < 2 ^ 53 * 2 ^ (E - 53) := by
        calc M * 2 ^ (I + 1074).toNat ≤ M * 2 ^ (E - 53) := Nat.mul_le_mul_left _ (two_le (by omega))
          _ < 2 ^ 53 * 2 ^ (E - 53) := Nat.mul_lt_mul_of_pos_right hb (Nat.two_pow_pos _)
      rw [← Nat.pow_add] at c
      have : 2 ^ (53 + (E - 53)) ≤ 2 ^ E := two_le (by omega)
      omega
    · exact x

/-- Back from a double: the double nearest to a value that rounds twice as once. -/
theorem back {sg : Bool} {V B : Nat} (hB : V < 2 ^ B) (hB' : B < 1202) (hr : sRung (dVal V) = sRung V) :
    floatToFloatBits .f64 (wordAt double 0 sg V) .f32 = some (wordAt single 925 sg V) := by
  obtain ⟨M, I, r1, r2, r3⟩ := read_val double sg (-1074) 0 leastD V (rungD_lt hB (by omega))
  have hl : double.leastPlace = -1074 := by decide
  rw [hl] at r2
  have hn := nearest_val single sg (-1074) 925 leastS M (p := I) (by omega)
  rw [r3] at hn
  have hw : wordAt single 925 sg (rd double 0 V) = wordAt single 925 sg V := by
    unfold wordAt
    have : rungOf single 925 (rd double 0 V) = rungOf single 925 V := hr
    rw [this]
  rw [hw] at hn
  obtain ⟨M', I', q1, _, _⟩ := read_val single sg (-1074) 925 leastS V (rungS_lt hB hB')
  unfold floatToFloatBits
  rw [if_neg (by decide)]
  have d : FloatKind.f64.decode (wordAt double 0 sg V) = .number sg M I := r1
  simp only [d]
  have w : FloatKind.f32.encode (.number sg M I) = wordAt single 925 sg V := hn
  rw [w]
  have d2 : FloatKind.f32.decode (wordAt single 925 sg V) = .number sg M' I' := q1
  rw [d2]; rfl

theorem rd_zero (f : Format) (c : Nat) : rd f c 0 = 0 := by
  have := rd_exact f c 0 c (Nat.two_pow_pos _) (by omega)
  rwa [Nat.zero_mul] at this

theorem bd_word {sg : Bool} {V k : Nat} (hV : V ≤ 2 ^ (1074 + k)) (hk : k ≤ 126) : Bd k (wordAt single 925 sg V) := by
  have hlt : V < 2 ^ (1074 + k + 1) := Nat.lt_of_le_of_lt hV (Nat.pow_lt_pow_right (by omega) (by omega))
  obtain ⟨M, I, q1, _, q3⟩ := read_val single sg (-1074) 925 leastS V (rungS_lt hlt (by omega))
  refine ⟨sg, M, I, q1, ?_⟩
  have e : (I - (-1074)).toNat = (I + 1074).toNat := by omega
  rw [e] at q3
  rw [q3]
  -- rounding is monotone, and a power of two is not rounded
  rcases Nat.eq_zero_or_pos V with z | z
  · subst z
    rw [rd_zero]; exact Nat.zero_le _
  obtain ⟨l1, l2, l3⟩ := last_le single 925 V z
  unfold rd
  generalize lastOf single 925 V = l at *
  rw [fbS] at l2 l3
  have hl : l ≤ 1074 + k := by
    rcases l3 with e | e
    · omega
    · have : 2 ^ (l + 23) ≤ 2 ^ (1074 + k) := Nat.le_trans e hV
      have := (Nat.pow_le_pow_iff_right (by omega : 1 < 2)).1 this
      omega
  have pl : 0 < 2 ^ l := Nat.two_pow_pos l
  rw [pow_split hl]
  refine Nat.mul_le_mul_right _ ?_
  have : rnq V (2 ^ l) ≤ rnq (2 ^ (1074 + k - l) * 2 ^ l) (2 ^ l) := rnq_mono pl (by rw [← pow_split hl]; exact hV)
  rwa [rnq_mul _ _ pl] at this

/-- What the operation, the detour over doubles and the bound come to. -/
structure Same2 (op : BinOp) (k x y : Nat) : Prop where
  ex : ∃ X Y Z r, floatToFloatBits .f32 x .f64 = some X ∧ floatToFloatBits .f32 y .f64 = some Y ∧ floatBits op .f64 X Y = some Z ∧ floatToFloatBits .f64 Z .f32 = some r ∧ floatBits op .f32 x y = some r ∧ Bd k r

theorem sum_core {k : Nat} {s t : Bool} {m n : Nat} {i j : Int} (h1 : Sgl s m i) (h2 : Sgl t n j) (b1 : m * 2 ^ (i + 1074).toNat ≤ 2 ^ (1074 + k)) (b2 : n * 2 ^ (j + 1074).toNat ≤ 2 ^ (1074 + k)) (hk : k ≤ 120)
    {M N : Nat} {I J : Int} (hI : -1074 ≤ I) (hJ : -1074 ≤ J) (e1 : M * 2 ^ (I + 1074).toNat = m * 2 ^ (i + 1074).toNat) (e2 : N * 2 ^ (J + 1074).toNat = n * 2 ^ (j + 1074).toNat) :
    ∃ Z r, ((Datum.number s M I).sum (.number t N J)).map double.write = some Z ∧ floatToFloatBits .f64 Z .f32 = some r ∧ ((Datum.number s m i).sum (.number t n j)).map single.write = some r ∧ Bd (k + 1) r := by
  obtain ⟨a, b, q1, q2, q3⟩ := sum_val (s := s) (t := t) (m := m) (n := n) (i := i) (j := j) (by have := h1.low; omega) (by have := h2.low; omega)
  obtain ⟨A, B, w1, w2, w3⟩ := sum_val (s := s) (t := t) (m := M) (n := N) (i := I) (j := J) hI hJ
  have v1 : vOf s M I = vOf s m i := by unfold vOf; rw [signed_eq, signed_eq, e1]
  have v2 : vOf t N J = vOf t n j := by unfold vOf; rw [signed_eq, signed_eq, e2]
  rw [v1, v2] at w1 w3
  have hr := sum_round h1 h2
  have hV : (vOf s m i + vOf t n j).natAbs ≤ 2 ^ (1074 + (k + 1)) := by
    have p : 2 ^ (1074 + (k + 1)) = 2 ^ (1074 + k) + 2 ^ (1074 + k) := by rw [← Nat.add_assoc, Nat.pow_succ, Nat.mul_two]
    have n1 : (vOf s m i).natAbs = m * 2 ^ (i + 1074).toNat := by unfold vOf; rw [signed_eq, Int.natAbs_mul, Int.natAbs_natCast]; cases s <;> simp
    have n2 : (vOf t n j).natAbs = n * 2 ^ (j + 1074).toNat := by unfold vOf; rw [signed_eq, Int.natAbs_mul, Int.natAbs_natCast]; cases t <;> simp
    have := Int.natAbs_add_le (vOf s m i) (vOf t n j)
    omega
  generalize (vOf s m i + vOf t n j).natAbs = V at *
  have hlt : V < 2 ^ (1074 + (k + 1) + 1) := Nat.lt_of_le_of_lt hV (Nat.pow_lt_pow_right (by omega) (by omega))
  generalize (if vOf s m i + vOf t n j = 0 then s && t else decide (vOf s m i + vOf t n j < 0)) = sg at *
  refine ⟨wordAt double 0 sg V, wordAt single 925 sg V, ?_, back hlt (by omega) hr, ?_, bd_word hV (by omega)⟩
  · rw [w1]
    show some (double.nearest sg A B) = _
    rw [nearest_val double sg (-1074) 0 leastD A (p := B) w2, show (B - (-1074)).toNat = (B + 1074).toNat by omega, w3]
  · rw [q1]
    show some (single.nearest sg a b) = _
    rw [nearest_val single sg (-1074) 925 leastS a (p := b) q2, show (b - (-1074)).toNat = (b + 1074).toNat by omega, q3]

theorem add_same {k x y : Nat} (hk : k ≤ 120) (hx : Bd k x) (hy : Bd k y) : Same2 .add (k + 1) x y := by
  obtain ⟨s, m, i, r1, b1⟩ := hx
  obtain ⟨t, n, j, r2, b2⟩ := hy
  obtain ⟨X, M, I, c1, c2, c3, c4, _⟩ := toD r1
  obtain ⟨Y, N, J, d1, d2, d3, d4, _⟩ := toD r2
  obtain ⟨Z, r, z1, z2, z3, z4⟩ := sum_core (read_single r1) (read_single r2) b1 b2 hk c3 d3 c4 d4
  refine ⟨X, Y, Z, r, c1, d1, ?_, z2, ?_, z4⟩
  · show ((double.read X).sum (double.read Y)).map double.write = _
    rw [c2, d2]; exact z1
  · show ((single.read x).sum (single.read y)).map single.write = _
    rw [r1, r2]; exact z3

theorem sub_same {k x y : Nat} (hk : k ≤ 120) (hx : Bd k x) (hy : Bd k y) : Same2 .sub (k + 1) x y := by
  obtain ⟨s, m, i, r1, b1⟩ := hx
  obtain ⟨t, n, j, r2, b2⟩ := hy
  obtain ⟨X, M, I, c1, c2, c3, c4, _⟩ := toD r1
  obtain ⟨Y, N, J, d1, d2, d3, d4, _⟩ := toD r2
  have g := read_single r2
  obtain ⟨Z, r, z1, z2, z3, z4⟩ := sum_core (t := !t) (read_single r1) ⟨g.small, g.low, g.high, g.norm⟩ b1 b2 hk c3 d3 c4 d4
  refine ⟨X, Y, Z, r, c1, d1, ?_, z2, ?_, z4⟩
  · show ((double.read X).sum (double.read Y).opposite).map double.write = _
    rw [c2, d2]; exact z1
  · show ((single.read x).sum (single.read y).opposite).map single.write = _
    rw [r1, r2]; exact z3

end Go.Proofs.Ytncgcjeihihkfaa.Fl
