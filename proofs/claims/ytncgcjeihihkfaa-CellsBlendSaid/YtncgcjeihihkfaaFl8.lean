/- Quotients of singles, reckoned as doubles and turned into a single. -/
import Derived.Test.YtncgcjeihihkfaaFl7
namespace Go.Proofs.Ytncgcjeihihkfaa.Fl
open Ieee

theorem Quo.same {P Q ls ks ld kd : Nat} (hS : Quo single 925 P Q ls ks) (hD : Quo double 0 P Q ld kd) (hQ : 0 < Q) (hbig : Q * 2 ^ (ld + 52) ≤ P) (hls : ld + 29 ≤ ls)
    (hm : ∀ q, 2 * P = (2 * q + 1) * (Q * 2 ^ ls) ∨ 2 * P + Q * 2 ^ ld < (2 * q + 1) * (Q * 2 ^ ls) ∨ (2 * q + 1) * (Q * 2 ^ ls) + Q * 2 ^ ld < 2 * P) :
    rungOf single 925 (kd * 2 ^ ld) = rungOf single 925 (ks * 2 ^ ls) := by
  rw [hS.rung hQ]
  have pd : 0 < 2 ^ ld := Nat.two_pow_pos ld
  have hA : 0 < Q * 2 ^ ld := Nat.mul_pos hQ pd
  have eAC : Q * 2 ^ ls = (Q * 2 ^ ld) * 2 ^ (ls - ld) := by rw [Nat.mul_assoc, ← Nat.pow_add]; exact congrArg (fun z => Q * 2 ^ z) (by omega)
  have hkd : ∀ a b, a * (Q * 2 ^ ld) ≤ P → P ≤ b * (Q * 2 ^ ld) → a ≤ kd ∧ kd ≤ b := by
    intro a b h1 h2
    have x1 := rnq_mono hA h1
    have x2 := rnq_mono hA h2
    rw [rnq_mul _ _ hA, ← hD.val] at x1
    rw [rnq_mul _ _ hA, ← hD.val] at x2
    exact ⟨x1, x2⟩
  have e52 : 2 ^ 52 * (Q * 2 ^ ld) ≤ P := by
    rw [Nat.mul_left_comm, ← Nat.pow_add, Nat.add_comm 52]; exact hbig
  have s1 := hS.hi
  rw [fbS] at s1
  have ehi : P ≤ 2 ^ (ls + 24 - ld) * (Q * 2 ^ ld) := by
    rw [Nat.mul_left_comm, ← Nat.pow_add, show ls + 24 - ld + ld = ls + 23 + 1 by omega]; exact Nat.le_of_lt s1
  obtain ⟨klo, khi⟩ := hkd _ _ e52 ehi
  have hk : 0 < kd * 2 ^ ld := Nat.mul_pos (Nat.lt_of_lt_of_le (Nat.two_pow_pos 52) klo) pd
  rw [rungOf_eq single 925 _ ls hk hS.low ?_ ?_]
  · refine congrArg ((ls - 925) * single.binade + ·) ?_
    have e2 : 2 ^ ls = 2 ^ (ls - ld) * 2 ^ ld := pow_split (by omega)
    rw [e2, rnq_scale _ _ _ (Nat.two_pow_pos _) pd, hS.val, hD.val, eAC]
    refine rnq_twice hA (Nat.two_pow_pos _) ?_ (fun q => by rw [← eAC]; exact hm q)
    obtain ⟨x, hx⟩ : ∃ x, ls - ld = x + 1 := ⟨ls - ld - 1, by omega⟩
    rw [hx, Nat.pow_succ]; omega
  · rw [fbS, show ls + 23 + 1 = (ls + 24 - ld) + ld by omega, Nat.pow_add]
    exact Nat.mul_le_mul_right _ khi
  · rw [fbS]
    rcases hS.lo with e | e
    · exact .inl e
    · right
      rw [fbS] at e
      have elo : 2 ^ (ls + 23 - ld) * (Q * 2 ^ ld) ≤ P := by
        rw [Nat.mul_left_comm, ← Nat.pow_add, show ls + 23 - ld + ld = ls + 23 by omega]; exact e
      obtain ⟨k2, _⟩ := hkd _ _ elo ehi
      rw [show ls + 23 = (ls + 23 - ld) + ld by omega, Nat.pow_add]
      exact Nat.mul_le_mul_right _ k2

/-- A quotient of singles is not near a midpoint of two singles, unless it is one. -/
theorem quo_far {m n a b ls ld : Nat} (hn' : n < 16777216) (hm' : m < 16777216) (hls : ld + 29 ≤ ls) (hbig : n * 2 ^ b * 2 ^ (ld + 52) ≤ m * 2 ^ a) (q : Nat) :
    2 * (m * 2 ^ a) = (2 * q + 1) * (n * 2 ^ b * 2 ^ ls) ∨ 2 * (m * 2 ^ a) + n * 2 ^ b * 2 ^ ld < (2 * q + 1) * (n * 2 ^ b * 2 ^ ls) ∨ (2 * q + 1) * (n * 2 ^ b * 2 ^ ls) + n * 2 ^ b * 2 ^ ld < 2 * (m * 2 ^ a) := by
  have e24 : (16777216 : Nat) = 2 ^ 24 := by decide
  -- the gap: both sides are whole multiples of 2 ^ g, and n * 2 ^ b * 2 ^ ld < 2 ^ g
  have key : ∀ g u v, 2 * (m * 2 ^ a) = u * 2 ^ g → (2 * q + 1) * (n * 2 ^ b * 2 ^ ls) = v * 2 ^ g → n * 2 ^ b * 2 ^ ld < 2 ^ g →
      2 * (m * 2 ^ a) = (2 * q + 1) * (n * 2 ^ b * 2 ^ ls) ∨ 2 * (m * 2 ^ a) + n * 2 ^ b * 2 ^ ld < (2 * q + 1) * (n * 2 ^ b * 2 ^ ls) ∨ (2 * q + 1) * (n * 2 ^ b * 2 ^ ls) + n * 2 ^ b * 2 ^ ld < 2 * (m * 2 ^ a) := by
    intro g u v h1 h2 h3
    rw [h1, h2]
    rcases Nat.lt_trichotomy u v with c | c | c
    · right; left
      have := Nat.mul_le_mul_right (2 ^ g) c
      rw [Nat.succ_mul] at this; omega
    · left; rw [c]
    · right; right
      have := Nat.mul_le_mul_right (2 ^ g) c
      rw [Nat.succ_mul] at this; omega
  rcases Nat.le_total (b + ls) (a + 1) with h | h
  · refine key (b + ls) (m * 2 ^ (a + 1 - (b + ls))) ((2 * q + 1) * n) ?_ ?_ ?_
    · rw [Nat.mul_assoc m, ← pow_split h, Nat.pow_succ]; simp only [Nat.mul_comm 2, Nat.mul_assoc]
    · rw [Nat.mul_assoc n, ← Nat.pow_add, Nat.mul_assoc]
    · rw [Nat.mul_assoc, ← Nat.pow_add]
      calc n * 2 ^ (b + ld) < 2 ^ 24 * 2 ^ (b + ld) := Nat.mul_lt_mul_of_pos_right (by rw [← e24]; exact hn') (Nat.two_pow_pos _)
        _ = 2 ^ (24 + (b + ld)) := (Nat.pow_add _ _ _).symm
        _ ≤ 2 ^ (b + ls) := two_le (by omega)
  · refine key (a + 1) m ((2 * q + 1) * (n * 2 ^ (b + ls - (a + 1)))) ?_ ?_ ?_
    · rw [Nat.pow_succ]; simp only [Nat.mul_comm 2, Nat.mul_assoc]
    · rw [Nat.mul_assoc n, ← Nat.pow_add, Nat.mul_assoc (2 * q + 1), Nat.mul_assoc n, ← pow_split h]
    · -- n * 2 ^ b * 2 ^ ld * 2 ^ 52 ≤ m * 2 ^ a < 2 ^ (24 + a)
      have h1 : n * 2 ^ b * 2 ^ ld * 2 ^ 52 < 2 ^ (a + 1) * 2 ^ 52 := by
        calc n * 2 ^ b * 2 ^ ld * 2 ^ 52 = n * 2 ^ b * 2 ^ (ld + 52) := by rw [Nat.mul_assoc _ (2 ^ ld), ← Nat.pow_add]
          _ ≤ m * 2 ^ a := hbig
          _ < 2 ^ 24 * 2 ^ a := Nat.mul_lt_mul_of_pos_right (by rw [← e24]; exact hm') (Nat.two_pow_pos _)
          _ = 2 ^ (24 + a) := (Nat.pow_add _ _ _).symm
          _ ≤ 2 ^ (a + 1 + 52) := two_le (by omega)
          _ = 2 ^ (a + 1) * 2 ^ 52 := Nat.pow_add _ _ _
      exact Nat.lt_of_mul_lt_mul_right h1

theorem log_units {m B : Nat} {e : Nat} (hm : 0 < m) (h : m * 2 ^ e < 2 ^ B) : m.log2 + e < B := by
  have := log_lt h (by
    rcases Nat.eq_zero_or_pos B with z | z
    · subst z; have := Nat.mul_pos hm (Nat.two_pow_pos e); simp at h; omega
    · exact z)
  rwa [log2_mul_pow hm] at this

theorem sgl_units {s : Bool} {m : Nat} {p : Int} (h : Sgl s m p) (hm : 0 < m) {E L : Nat} (hE : E = 1202) (hL : L = 925) : m * 2 ^ (p + 1074).toNat < 2 ^ E ∧ 2 ^ L ≤ m * 2 ^ (p + 1074).toNat := by
  have h1 := h.small; have h2 := h.low; have h3 := h.high
  refine ⟨?_, ?_⟩
  · have a : 2 ^ (p + 1074).toNat ≤ 2 ^ (E - 24) := two_le (by omega)
    have b : (16777216 : Nat) = 2 ^ 24 := by decide
    calc m * 2 ^ (p + 1074).toNat ≤ m * 2 ^ (E - 24) := Nat.mul_le_mul_left _ a
      _ < 2 ^ 24 * 2 ^ (E - 24) := Nat.mul_lt_mul_of_pos_right (by rw [← b]; exact h1) (Nat.two_pow_pos _)
      _ = 2 ^ E := by rw [← Nat.pow_add]; exact congrArg (2 ^ ·) (by omega)
  · calc 2 ^ L ≤ 2 ^ (p + 1074).toNat := two_le (by omega)
      _ ≤ m * 2 ^ (p + 1074).toNat := Nat.le_mul_of_pos_left _ hm

theorem div_same {k x y : Nat} {s t : Bool} {m n : Nat} {i j : Int} (hk : k ≤ 120) (r1 : single.read x = .number s m i) (r2 : single.read y = .number t n j) (hn : 0 < n)
    (hb : m * 2 ^ (i + 1074).toNat ≤ n * 2 ^ (j + 1074).toNat * 2 ^ k) : Same2 .quo k x y := by
  obtain ⟨X, M, I, c1, c2, c3, c4, c5⟩ := toD r1
  obtain ⟨Y, N, J, d1, d2, d3, d4, d5⟩ := toD r2
  have g1 := read_single r1
  have g2 := read_single r2
  have l1 := g1.low
  have l2 := g2.low
  have q1 := g1.high
  have q2 := g2.high
  have s1 := g1.small
  have s2 := g2.small
  have hN : 0 < N := by
    rcases Nat.eq_zero_or_pos N with z | z
    · subst z; rw [Nat.zero_mul] at d4; have := Nat.mul_pos hn (Nat.two_pow_pos (j + 1074).toNat); omega
    · exact z
  rcases Nat.eq_zero_or_pos m with z | hm
  · -- nought
    subst z
    have zM : M = 0 := by
      rw [Nat.zero_mul] at c4
      rcases Nat.eq_zero_or_pos M with q | q
      · exact q
      · have := Nat.mul_pos q (Nat.two_pow_pos (I + 1074).toNat); omega
    subst zM
    have hz : sRung (dVal 0) = sRung 0 := by show rungOf single 925 (rd double 0 0) = _; rw [rd_zero]
    refine ⟨X, Y, wordAt double 0 (s ^^ t) 0, wordAt single 925 (s ^^ t) 0, c1, d1, ?_, back (B := 1) (by omega) (by omega) hz, ?_, bd_word (Nat.zero_le _) (by omega)⟩
    · show ((double.read X).quotient _ (double.read Y)).map double.write = _
      rw [c2, d2]
      unfold Datum.quotient
      simp only
      rw [if_neg (by omega)]
      simp only [Nat.zero_shiftLeft, Nat.zero_div, Nat.zero_mod, bne_self_eq_false, Bool.toNat_false, Nat.mul_zero, Nat.add_zero, Option.map_some]
      show some (double.nearest (s ^^ t) 0 _) = _
      rw [nearest_zero, wordAt_zero]
    · show ((single.read x).quotient _ (single.read y)).map single.write = _
      rw [r1, r2]
      unfold Datum.quotient
      simp only
      rw [if_neg (by omega)]
      simp only [Nat.zero_shiftLeft, Nat.zero_div, Nat.zero_mod, bne_self_eq_false, Bool.toNat_false, Nat.mul_zero, Nat.add_zero, Option.map_some]
      show some (single.nearest (s ^^ t) 0 _) = _
      rw [nearest_zero, wordAt_zero]
  obtain ⟨T, hT⟩ : ∃ T : Nat, T = 1074 := ⟨_, rfl⟩
  obtain ⟨E, hE⟩ : ∃ E : Nat, E = 1202 := ⟨_, rfl⟩
  obtain ⟨L, hL⟩ : ∃ L : Nat, L = 925 := ⟨_, rfl⟩
  have hM : 0 < M := by
    rcases Nat.eq_zero_or_pos M with z | z
    · subst z; rw [Nat.zero_mul] at c4; have := Nat.mul_pos hm (Nat.two_pow_pos (i + 1074).toNat); omega
    · exact z
  obtain ⟨u1, u2⟩ := sgl_units g1 hm hE hL
  obtain ⟨v1, v2⟩ := sgl_units g2 hn hE hL
  have lN : N.log2 + (J + 1074).toNat < E := log_units hN (by rw [d4]; exact v1)
  have hI := c5 (by omega)
  have ln24 : n.log2 < 24 := log_lt (by rw [show (2 : Nat) ^ 24 = 16777216 by decide]; exact s2) (by omega)
  obtain ⟨ls, ks, hS, wS⟩ := quot_word single 925 leastS (s := s) (t := t) (m := m) (n := n) (i := i) (j := j) hm hn (by omega) (by omega) (by rw [fbS]; omega) hT
  obtain ⟨ld, kd, hD, wD⟩ := quot_word double 0 leastD (s := s) (t := t) (m := M) (n := N) (i := I) (j := J) hM hN c3 d3 (by rw [fbD]; omega) hT
  rw [c4, d4] at hD
  have hQ : 0 < n * 2 ^ (j + 1074).toNat := Nat.mul_pos hn (Nat.two_pow_pos _)
  have hbig0 : n * 2 ^ (j + 1074).toNat * 2 ^ 52 ≤ m * 2 ^ (i + 1074).toNat * 2 ^ T := by
    calc n * 2 ^ (j + 1074).toNat * 2 ^ 52 ≤ 2 ^ E * 2 ^ 52 := Nat.mul_le_mul_right _ (Nat.le_of_lt v1)
      _ = 2 ^ (E + 52) := (Nat.pow_add _ _ _).symm
      _ ≤ 2 ^ (L + T) := two_le (by omega)
      _ = 2 ^ L * 2 ^ T := Nat.pow_add _ _ _
      _ ≤ m * 2 ^ (i + 1074).toNat * 2 ^ T := Nat.mul_le_mul_right _ u2
  have hbig : n * 2 ^ (j + 1074).toNat * 2 ^ (ld + 52) ≤ m * 2 ^ (i + 1074).toNat * 2 ^ T := by
    rcases hD.lo with e | e
    · rw [e, Nat.zero_add]; exact hbig0
    · rw [fbD] at e; exact e
  have hls : ld + 29 ≤ ls := by
    have s1 := hS.hi
    rw [fbS] at s1
    have := Nat.lt_of_mul_lt_mul_left (Nat.lt_of_le_of_lt hbig s1)
    have := (Nat.pow_lt_pow_iff_right (by omega : 1 < 2)).1 this
    omega
  have eP : m * 2 ^ (i + 1074).toNat * 2 ^ T = m * 2 ^ ((i + 1074).toNat + T) := by rw [Nat.mul_assoc, ← Nat.pow_add]
  have hrung := hS.same hD hQ hbig hls (fun q => by
    rw [eP] at hbig ⊢
    exact quo_far s2 s1 hls hbig q)
  -- the doubles' value is not rounded again
  have hkd := (hD.bounds hQ).1
  rw [fbD] at hkd
  have hdv : rd double 0 (kd * 2 ^ ld) = kd * 2 ^ ld := by
    rcases Nat.lt_or_ge kd (2 ^ 53) with x | x
    · exact rd_exact double 0 kd ld (by rw [fbD]; exact x) (by omega)
    · have : kd = 2 ^ 52 * 2 := by have : (2 : Nat) ^ (52 + 1) = 2 ^ 53 := rfl; have : (2 : Nat) ^ 53 = 2 ^ 52 * 2 := Nat.pow_succ 2 52; omega
      rw [this, Nat.mul_assoc, show 2 * 2 ^ ld = 2 ^ (ld + 1) by rw [Nat.pow_succ]; omega]
      exact rd_exact double 0 (2 ^ 52) (ld + 1) (by rw [fbD]; exact Nat.pow_lt_pow_right (by omega) (by omega)) (by omega)
  have hr : sRung (dVal (kd * 2 ^ ld)) = sRung (kd * 2 ^ ld) := by
    show rungOf single 925 (rd double 0 (kd * 2 ^ ld)) = _
    rw [hdv]
  have hw : wordAt single 925 (s ^^ t) (kd * 2 ^ ld) = wordAt single 925 (s ^^ t) (ks * 2 ^ ls) := by unfold wordAt; rw [hrung]
  -- bounds
  have hPk : m * 2 ^ (i + 1074).toNat * 2 ^ T ≤ 2 ^ (k + T) * (n * 2 ^ (j + 1074).toNat) := by
    calc m * 2 ^ (i + 1074).toNat * 2 ^ T ≤ n * 2 ^ (j + 1074).toNat * 2 ^ k * 2 ^ T := Nat.mul_le_mul_right _ hb
      _ = 2 ^ (k + T) * (n * 2 ^ (j + 1074).toNat) := by rw [Nat.pow_add, Nat.mul_comm (2 ^ k * 2 ^ T), Nat.mul_assoc]
  have bnd : ∀ l kk, kk = rnq (m * 2 ^ (i + 1074).toNat * 2 ^ T) (n * 2 ^ (j + 1074).toNat * 2 ^ l) → l ≤ k + T → kk * 2 ^ l ≤ 2 ^ (k + T) := by
    intro l kk h1 h2
    have hM : 0 < n * 2 ^ (j + 1074).toNat * 2 ^ l := Nat.mul_pos hQ (Nat.two_pow_pos _)
    have : rnq (m * 2 ^ (i + 1074).toNat * 2 ^ T) (n * 2 ^ (j + 1074).toNat * 2 ^ l) ≤ rnq (2 ^ (k + T - l) * (n * 2 ^ (j + 1074).toNat * 2 ^ l)) (n * 2 ^ (j + 1074).toNat * 2 ^ l) := by
      refine rnq_mono hM ?_
      rw [Nat.mul_left_comm, ← Nat.pow_add, Nat.sub_add_cancel h2, Nat.mul_comm (n * 2 ^ (j + 1074).toNat)]; exact hPk
    rw [rnq_mul _ _ hM, ← h1] at this
    rw [pow_split h2]
    exact Nat.mul_le_mul_right _ this
  have lsk : ∀ l fb, (n * 2 ^ (j + 1074).toNat * 2 ^ (l + fb) ≤ m * 2 ^ (i + 1074).toNat * 2 ^ T) → l ≤ k + T := by
    intro l fb h
    have h' := Nat.le_trans h hPk
    rw [Nat.mul_comm (2 ^ (k + T))] at h'
    have := Nat.le_of_mul_le_mul_left h' hQ
    have := (Nat.pow_le_pow_iff_right (by omega : 1 < 2)).1 this
    omega
  have bS : ks * 2 ^ ls ≤ 2 ^ (k + T) := by
    refine bnd ls ks hS.val ?_
    rcases hS.lo with e | e
    · omega
    · exact lsk _ _ e
  have bD : kd * 2 ^ ld ≤ 2 ^ (k + T) := bnd ld kd hD.val (lsk ld 52 hbig)
  have hlt : kd * 2 ^ ld < 2 ^ (k + T + 1) := Nat.lt_of_le_of_lt bD (Nat.pow_lt_pow_right (by omega) (by omega))
  refine ⟨X, Y, wordAt double 0 (s ^^ t) (kd * 2 ^ ld), wordAt single 925 (s ^^ t) (kd * 2 ^ ld), c1, d1, ?_, back hlt (by omega) hr, ?_, ?_⟩
  · show ((double.read X).quotient _ (double.read Y)).map double.write = _
    rw [c2, d2]; exact wD
  · show ((single.read x).quotient _ (single.read y)).map single.write = _
    rw [r1, r2, hw]; exact wS
  · rw [hw]
    refine bd_word ?_ (by omega)
    rw [show 1074 + k = k + T by omega]; exact bS

end Go.Proofs.Ytncgcjeihihkfaa.Fl
