/- Rounding to a double and then to a single is rounding to a single: of the values of sums, products and quotients of singles. Units: 2 ^ -1074; a single's least place is 925 above it. -/
import Derived.Test.YtncgcjeihihkfaaFl2
namespace Go.Proofs.Ytncgcjeihihkfaa.Fl
open Ieee

theorem rungOf_zero (f : Format) (c : Nat) : rungOf f c 0 = 0 := by
  have : lastOf f c 0 = c := by unfold lastOf; rw [show Nat.log2 0 = 0 from rfl]; omega
  unfold rungOf
  rw [this, show rnq 0 (2 ^ c) = 0 by
    have := rnq_mul 0 (2 ^ c) (Nat.two_pow_pos _); rwa [Nat.zero_mul] at this]
  simp

/-- The word of a sign and a magnitude in units of 2 ^ K. -/
def wordAt (f : Format) (c : Nat) (neg : Bool) (V : Nat) : Nat := f.word neg (min (rungOf f c V) f.infRung)

theorem nearest_val (f : Format) (neg : Bool) (K : Int) (c : Nat) (hc : f.leastPlace = K + c) (m : Nat) {p : Int} (hp : K ≤ p) :
    f.nearest neg m p = wordAt f c neg (m * 2 ^ (p - K).toNat) := by
  rcases Nat.eq_zero_or_pos m with z | z
  · subst z
    unfold wordAt Format.nearest
    rw [if_pos rfl, Nat.zero_mul, rungOf_zero, Nat.zero_min]
  · have := nearest_base f neg K c hc z (p - K).toNat
    rw [show K + ((p - K).toNat : Int) = p by omega] at this
    exact this

/-- The rounded value. -/
def rd (f : Format) (c V : Nat) : Nat := rnq V (2 ^ lastOf f c V) * 2 ^ lastOf f c V

theorem read_val (f : Format) (neg : Bool) (K : Int) (c : Nat) (hc : f.leastPlace = K + c) (V : Nat) (hinf : rungOf f c V < f.infRung) :
    ∃ m e, f.read (wordAt f c neg V) = .number neg m e ∧ f.leastPlace ≤ e ∧ m * 2 ^ (e - K).toNat = rd f c V := by
  rcases Nat.eq_zero_or_pos V with z | z
  · subst z
    refine ⟨0, f.leastPlace, ?_, by omega, ?_⟩
    · unfold wordAt
      rw [rungOf_zero, Nat.zero_min]
      have hb : 0 < f.binade := Nat.two_pow_pos _
      have hs : 0 < f.signWeight := Nat.two_pow_pos _
      unfold Format.read Format.word
      cases neg with
      | false => simp [hb]
      | true => simp [hb, Nat.div_self hs]
    · unfold rd
      have : rnq 0 (2 ^ lastOf f c 0) = 0 := by
        have := rnq_mul 0 (2 ^ lastOf f c 0) (Nat.two_pow_pos _); rwa [Nat.zero_mul] at this
      rw [this]; simp
  · have := read_nearest f neg K c hc z 0 (by rwa [Nat.pow_zero, Nat.mul_one])
    obtain ⟨m, e, h1, h2, h3⟩ := this
    rw [Nat.pow_zero, Nat.mul_one] at h3
    refine ⟨m, e, ?_, h2, h3⟩
    rw [← h1, nearest_val f neg K c hc V (by omega)]
    simp

/-- A value with few enough digits is not rounded. -/
theorem rd_exact (f : Format) (c t j : Nat) (ht : t < 2 ^ (f.fractionBits + 1)) (hj : c ≤ j) : rd f c (t * 2 ^ j) = t * 2 ^ j := by
  rcases Nat.eq_zero_or_pos t with z | z
  · subst z
    unfold rd
    rw [Nat.zero_mul]
    have := rnq_mul 0 (2 ^ lastOf f c 0) (Nat.two_pow_pos _)
    rw [Nat.zero_mul] at this
    rw [this, Nat.zero_mul]
  · have hl : lastOf f c (t * 2 ^ j) ≤ j := by
      unfold lastOf
      rw [log2_mul_pow z]
      have : t.log2 < f.fractionBits + 1 := (Nat.log2_lt (by omega)).2 ht
      omega
    unfold rd
    generalize lastOf f c (t * 2 ^ j) = l at *
    have e : t * 2 ^ j = (t * 2 ^ (j - l)) * 2 ^ l := by rw [Nat.mul_assoc, ← Nat.pow_add]; congr 2; omega
    rw [e, rnq_mul _ _ (Nat.two_pow_pos _)]

theorem fbS : single.fractionBits = 23 := rfl
theorem fbD : double.fractionBits = 52 := rfl
theorem leastS : single.leastPlace = (-1074 : Int) + (925 : Nat) := by decide
theorem leastD : double.leastPlace = (-1074 : Int) + (0 : Nat) := by decide
abbrev sRung (V : Nat) : Nat := rungOf single 925 V
abbrev dVal (V : Nat) : Nat := rd double 0 V

theorem pow_split {a b : Nat} (h : b ≤ a) : 2 ^ a = 2 ^ (a - b) * 2 ^ b := by rw [← Nat.pow_add, Nat.sub_add_cancel h]

/-- Rounding twice, where the value is not too near a midpoint of two singles. -/
theorem dround (V : Nat) (hm : ∀ q, 2 * V = (2 * q + 1) * 2 ^ lastOf single 925 V ∨ 2 * V + 2 ^ lastOf double 0 V < (2 * q + 1) * 2 ^ lastOf single 925 V ∨ (2 * q + 1) * 2 ^ lastOf single 925 V + 2 ^ lastOf double 0 V < 2 * V) :
    sRung (dVal V) = sRung V := by
  rcases Nat.eq_zero_or_pos V with z | z
  · subst z
    have := rd_exact double 0 0 0 (Nat.two_pow_pos _) (by omega)
    rw [Nat.zero_mul] at this
    show rungOf single 925 (rd double 0 0) = _
    rw [this]
  obtain ⟨s1, s2, s3⟩ := last_le single 925 V z
  obtain ⟨_, d2, d3⟩ := last_le double 0 V z
  have hls : lastOf double 0 V + 29 ≤ lastOf single 925 V := by unfold lastOf; rw [fbS, fbD]; omega
  show rungOf single 925 (rd double 0 V) = rungOf single 925 V
  have hR : rungOf single 925 V = (lastOf single 925 V - 925) * single.binade + rnq V (2 ^ lastOf single 925 V) := rfl
  rw [hR]
  unfold rd
  generalize lastOf single 925 V = ls at *
  generalize lastOf double 0 V = ld at *
  rw [fbS] at s2 s3
  rw [fbD] at d2 d3
  have pd : 0 < 2 ^ ld := Nat.two_pow_pos _
  have eAC : 2 ^ ls = 2 ^ ld * 2 ^ (ls - ld) := by rw [Nat.mul_comm]; exact pow_split (by omega)
  have hpos : 0 < rnq V (2 ^ ld) * 2 ^ ld := by
    refine Nat.mul_pos ?_ pd
    rcases d3 with e | e
    · subst e; rw [Nat.pow_zero, rnq_one]; exact z
    · have : rnq (2 ^ 52 * 2 ^ ld) (2 ^ ld) ≤ rnq V (2 ^ ld) := rnq_mono pd (by rw [← Nat.pow_add, Nat.add_comm]; exact e)
      rw [rnq_mul _ _ pd] at this
      exact Nat.lt_of_lt_of_le (Nat.two_pow_pos 52) this
  rw [rungOf_eq single 925 _ ls hpos s1 ?_ ?_]
  · refine congrArg ((ls - 925) * single.binade + ·) ?_
    rw [eAC, Nat.mul_comm (2 ^ ld) (2 ^ (ls - ld)), rnq_scale _ _ _ (Nat.two_pow_pos _) pd, Nat.mul_comm (2 ^ (ls - ld))]
    refine rnq_twice pd (Nat.two_pow_pos _) ?_ (fun q => by rw [← eAC]; exact hm q)
    obtain ⟨x, hx⟩ : ∃ x, ls - ld = x + 1 := ⟨ls - ld - 1, by omega⟩
    rw [hx, Nat.pow_succ]; omega
  · rw [fbS]
    have e : 2 ^ (ls + 23 + 1) = 2 ^ (ls + 23 + 1 - ld) * 2 ^ ld := pow_split (by omega)
    rw [e]
    refine Nat.mul_le_mul_right _ ?_
    have : rnq V (2 ^ ld) ≤ rnq (2 ^ (ls + 23 + 1 - ld) * 2 ^ ld) (2 ^ ld) := rnq_mono pd (by rw [← e]; exact Nat.le_of_lt s2)
    rwa [rnq_mul _ _ pd] at this
  · rw [fbS]
    rcases s3 with e | e
    · exact .inl e
    · right
      have e2 : 2 ^ (ls + 23) = 2 ^ (ls + 23 - ld) * 2 ^ ld := pow_split (by omega)
      rw [e2]
      refine Nat.mul_le_mul_right _ ?_
      have : rnq (2 ^ (ls + 23 - ld) * 2 ^ ld) (2 ^ ld) ≤ rnq V (2 ^ ld) := rnq_mono pd (by rw [← e2]; exact e)
      rwa [rnq_mul _ _ pd] at this

end Go.Proofs.Ytncgcjeihihkfaa.Fl
