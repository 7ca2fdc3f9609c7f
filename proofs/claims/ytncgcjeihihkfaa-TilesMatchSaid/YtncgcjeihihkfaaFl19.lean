/- The root of a single lies between whole numbers whose squares lie around it. -/
import Derived.Test.YtncgcjeihihkfaaFl18
namespace Go.Proofs.Ytncgcjeihihkfaa.Fl
open Ieee

/-- Digits of a root, with what is left over told by one more digit, against a whole number. -/
theorem root_between {n w G : Nat} (h1 : w * w ≤ n) (h2 : n < (w + 1) * (w + 1)) :
    (n ≤ G * G → 2 * w + (w * w != n).toNat ≤ 2 * G) ∧ (G * G ≤ n → 2 * G ≤ 2 * w + (w * w != n).toNat) := by
  constructor
  · intro h
    have hw : w ≤ G := by
      rcases Nat.lt_or_ge G w with c | c
      · have : (G + 1) * (G + 1) ≤ w * w := Nat.mul_le_mul c c
        have e : (G + 1) * (G + 1) = G * G + 2 * G + 1 := by rw [Nat.add_mul, Nat.mul_add]; omega
        omega
      · exact c
    rcases Nat.lt_or_ge w G with c | c
    · have := Bool.toNat_le (w * w != n); omega
    · have : w = G := by omega
      subst this
      have : w * w = n := by omega
      rw [this]; simp
  · intro h
    have : G < w + 1 := by
      rcases Nat.lt_or_ge G (w + 1) with c | c
      · exact c
      · have := Nat.mul_le_mul c c; omega
    omega

theorem rootW_of {x X Z r : Nat} (c : Go.floatToFloatBits .f32 x .f64 = some X) (h : double.sqrt X = some Z) (d : Go.floatToFloatBits .f64 Z .f32 = some r) : rootW x = r := by
  unfold rootW
  rw [c, Option.bind_some, h, Option.bind_some, d, Option.getD_some]

theorem root_num {d M mo0 mo n w : Nat} {I : Int} (hM : M ≠ 0) (h0 : 2 * d - M.log2 = mo0) (h1 : mo0 + ((I - (mo0 : Int)) % 2).toNat = mo) (h2 : M <<< mo = n) (h3 : Datum.rootFrom n (n.log2 / 2 + 1) 0 = w) :
    Datum.root d (.number false M I) = some (.number false (2 * w + (w * w != n).toNat) ((I - (mo : Int)) / 2 - 1)) := by
  unfold Datum.root
  simp only [hM, if_false, Bool.false_eq_true, h0, h1, h2, h3]

theorem root_parts {x : Nat} {a : Int} {k : Nat} (h : vS x = some a) (a0 : 0 ≤ a) (hb : Bd k x) (hk : k ≤ 60) : ∃ X Z c, RootAt x a X Z c := by
  obtain ⟨s, m, p, e, rfl⟩ := vS_some h
  obtain ⟨X, M, I, c1, c2, c3, c4, c5⟩ := toD e
  have g := read_single e
  obtain ⟨A, hA⟩ : ∃ A, A = m * 2 ^ (p + 1074).toNat := ⟨_, rfl⟩
  have hv : vOf s m p = (if s then -1 else 1) * (A : Int) := by rw [vOf_mag, hA]
  have hbA : A ≤ 2 ^ (1074 + k) := by
    obtain ⟨s', m', p', e', b'⟩ := hb
    rw [e] at e'; cases e'
    rw [hA]; exact b'
  rw [← hA] at c4
  rcases Nat.eq_zero_or_pos M with zM | hM
  · -- nought
    subst zM
    have zA : A = 0 := by rw [← c4]; simp
    have hz : vOf s m p = 0 := by rw [hv, zA]; simp
    have hq : double.sqrt X = some (wordAt double 0 s 0) := by
      show ((double.read X).root _).map double.write = _
      rw [c2]
      unfold Datum.root
      simp only [if_true, Option.map_some]
      show some (double.nearest s 0 _) = _
      rw [nearest_zero, wordAt_zero]
    have hd : Go.floatToFloatBits .f64 (wordAt double 0 s 0) .f32 = some (wordAt single 925 s 0) := back (B := 1) (by omega) (by omega) (by show rungOf single 925 (rd double 0 0) = _; rw [rd_zero])
    have hw : rootW x = wordAt single 925 s 0 := rootW_of c1 hq hd
    have hvz := vS_word (sg := s) (V := 0) (B := 1) (by omega) (by omega)
    rw [rd_zero] at hvz
    simp only [Int.natCast_zero, Int.mul_zero] at hvz
    refine ⟨X, _, 0, c1, hq, by rw [hw]; exact hd, by rw [hw]; exact hvz, by omega, fun G _ _ => Int.mul_nonneg (by omega) (by omega), fun G _ hg => ?_⟩
    rw [hz] at hg
    have hp := one_pos
    have : G * G * one ≤ 0 := by
      have : ((G * G * one : Nat) : Int) ≤ ((0 : Nat) : Int) := by rw [Int.natCast_mul]; exact hg
      exact Int.ofNat_le.1 this
    have : G = 0 := by
      rcases Nat.eq_zero_or_pos G with z | z
      · exact z
      · have := Nat.mul_pos (Nat.mul_pos z z) hp; omega
    subst this; simp
  · have hm : 0 < A := by rw [← c4]; exact Nat.mul_pos hM (Nat.two_pow_pos _)
    have hs : s = false := by
      cases s
      · rfl
      · rw [hv] at a0; simp only [if_true] at a0; omega
    subst hs
    have hva : vOf false m p = (A : Int) := by rw [hv]; simp
    rw [hva]
    have hI := c5 (by omega)
    -- the dividend
    obtain ⟨mo0, hmo0⟩ : ∃ mo0, mo0 = 2 * (double.fractionBits + 2) - M.log2 := ⟨_, rfl⟩
    obtain ⟨mo, hmo⟩ : ∃ mo, mo = mo0 + ((I - (mo0 : Int)) % 2).toNat := ⟨_, rfl⟩
    obtain ⟨n, hn⟩ : ∃ n, n = M <<< mo := ⟨_, rfl⟩
    obtain ⟨w, hw⟩ : ∃ w, w = Datum.rootFrom n (n.log2 / 2 + 1) 0 := ⟨_, rfl⟩
    obtain ⟨d1, d2⟩ := root_digits n
    rw [← hw] at d1 d2
    have hr : (double.read X).root (double.fractionBits + 2) = some (.number false (2 * w + (w * w != n).toNat) ((I - (mo : Int)) / 2 - 1)) := by
      rw [c2]; exact root_num (by omega) hmo0.symm hmo.symm hn.symm hw.symm
    -- the place is even
    have heven : (I - (mo : Int)) % 2 = 0 := by
      rw [hmo]; have := Int.emod_two_eq (I - (mo0 : Int)); omega
    obtain ⟨hh, hhh⟩ : ∃ hh : Int, hh = (I - (mo : Int)) / 2 := ⟨_, rfl⟩
    have hI2 : I - (mo : Int) = 2 * hh := by omega
    rw [← hhh] at hr
    have l53 : M.log2 + (I + 1074).toNat < 1074 + k + 1 := by
      have := log_units (m := M) (B := 1074 + k + 1) (e := (I + 1074).toNat) hM (by rw [c4]; exact Nat.lt_of_le_of_lt hbA (Nat.pow_lt_pow_right (by omega) (by omega)))
      exact this
    rw [fbD] at hmo0
    have e1 : hh ≤ 0 := by omega
    have e2 : -400 ≤ hh := by omega
    -- units
    obtain ⟨E, hE⟩ : ∃ E : Nat, (E : Int) = hh + 1073 := ⟨(hh + 1073).toNat, by omega⟩
    obtain ⟨T, hT⟩ : ∃ T : Nat, T = 1074 := ⟨_, rfl⟩
    have hET : E + 1 ≤ T := by omega
    have hZ : double.sqrt X = some (wordAt double 0 false ((2 * w + (w * w != n).toNat) * 2 ^ E)) := by
      show ((double.read X).root _).map double.write = _
      rw [hr]
      show some (double.nearest false _ (hh - 1)) = _
      rw [nearest_val double false (-1074) 0 leastD _ (p := hh - 1) (by omega), show (hh - 1 - -1074).toNat = E by omega]
    -- the square in units
    have hsq : n * (2 ^ (E + 1) * 2 ^ (E + 1)) = A * 2 ^ T := by
      rw [hn, Nat.shiftLeft_eq, ← c4, Nat.mul_assoc, Nat.mul_assoc, ← Nat.pow_add, ← Nat.pow_add, ← Nat.pow_add]
      congr 2; omega
    have key : ∀ g : Nat, ∃ G : Nat, g * one = G * 2 ^ (E + 1) ∧ (A ≤ g * g * one ↔ n ≤ G * G) ∧ (g * g * one ≤ A ↔ G * G ≤ n) := by
      intro g
      refine ⟨g * 2 ^ (T - (E + 1)), ?_, ?_, ?_⟩
      · rw [one_pow hT, Nat.mul_assoc, ← Nat.pow_add, Nat.sub_add_cancel hET]
      all_goals
        have hp : 0 < 2 ^ (E + 1) * 2 ^ (E + 1) := Nat.mul_pos (Nat.two_pow_pos _) (Nat.two_pow_pos _)
        have e : g * 2 ^ (T - (E + 1)) * (g * 2 ^ (T - (E + 1))) * (2 ^ (E + 1) * 2 ^ (E + 1)) = g * g * one * 2 ^ T := by
          have e' : 2 ^ (T - (E + 1)) * 2 ^ (E + 1) = 2 ^ T := by rw [← Nat.pow_add, Nat.sub_add_cancel hET]
          rw [one_pow hT]
          calc g * 2 ^ (T - (E + 1)) * (g * 2 ^ (T - (E + 1))) * (2 ^ (E + 1) * 2 ^ (E + 1)) = g * g * ((2 ^ (T - (E + 1)) * 2 ^ (E + 1)) * (2 ^ (T - (E + 1)) * 2 ^ (E + 1))) := by
                simp only [Nat.mul_assoc, Nat.mul_left_comm, Nat.mul_comm]
            _ = g * g * 2 ^ T * 2 ^ T := by rw [e']; simp only [Nat.mul_assoc]
        constructor
        · intro q
          refine Nat.le_of_mul_le_mul_right ?_ hp
          rw [hsq, e]; exact Nat.mul_le_mul_right _ q
        · intro q
          have := Nat.mul_le_mul_right (2 ^ (E + 1) * 2 ^ (E + 1)) q
          rw [hsq, e] at this
          exact Nat.le_of_mul_le_mul_right this (Nat.two_pow_pos T)
    obtain ⟨V, hV⟩ : ∃ V, V = (2 * w + (w * w != n).toNat) * 2 ^ E := ⟨_, rfl⟩
    rw [← hV] at hZ
    have cmp : ∀ g : Nat, (A ≤ g * g * one → V ≤ g * one) ∧ (g * g * one ≤ A → g * one ≤ V) := by
      intro g
      obtain ⟨G, k1, k2, k3⟩ := key g
      obtain ⟨b1, b2⟩ := root_between (G := G) d1 d2
      have k4 : g * one = 2 * G * 2 ^ E := by rw [k1, Nat.pow_succ, Nat.mul_comm 2 G, Nat.mul_assoc, Nat.mul_comm 2 (2 ^ E)]
      rw [k4, hV]
      exact ⟨fun q => Nat.mul_le_mul_right _ (b1 (k2.1 q)), fun q => Nat.mul_le_mul_right _ (b2 (k3.1 q))⟩
    -- V is small
    have hVB : V < 2 ^ (T + 61) := by
      obtain ⟨L, hL⟩ : ∃ L : Nat, L = 60 := ⟨_, rfl⟩
      have e6 : A ≤ 2 ^ L * 2 ^ L * one := by
        refine Nat.le_trans hbA ?_
        rw [one_pow hT, ← Nat.pow_add, ← Nat.pow_add]
        exact two_le (by omega)
      have := (cmp (2 ^ L)).1 e6
      rw [one_pow hT, ← Nat.pow_add] at this
      exact Nat.lt_of_le_of_lt this (Nat.pow_lt_pow_right (by omega) (by omega))
    obtain ⟨q1, q2⟩ := down_word hVB (by omega)
    have hw2 : rootW x = wordAt single 925 false (rd double 0 V) := rootW_of c1 hZ q1
    -- whole numbers are not rounded
    have fix : ∀ g : Nat, g < 16777216 → rd double 0 (g * one) = g * one ∧ rd single 925 (g * one) = g * one := by
      intro g hg
      rw [one_pow hT]
      exact ⟨rd_exact double 0 g T (by rw [fbD]; exact Nat.lt_of_lt_of_le hg (by decide)) (by omega), rd_exact single 925 g T (by rw [fbS]; exact hg) (by omega)⟩
    refine ⟨X, _, _, c1, hZ, by rw [hw2]; exact q1, by rw [hw2]; exact q2, by omega, fun g hg ha => ?_, fun g hg ha => ?_⟩
    · have ha' : A ≤ g * g * one := by
        have : (A : Int) ≤ ((g * g * one : Nat) : Int) := by rw [Int.natCast_mul]; exact ha
        exact Int.ofNat_le.1 this
      have h1 := rdD_mono ((cmp g).1 ha')
      rw [(fix g hg).1] at h1
      have h2 := rd_mono h1
      rw [(fix g hg).2] at h2
      rw [← Int.natCast_mul]; exact Int.ofNat_le.2 h2
    · have ha' : g * g * one ≤ A := by
        have : ((g * g * one : Nat) : Int) ≤ (A : Int) := by rw [Int.natCast_mul]; exact ha
        exact Int.ofNat_le.1 this
      have h1 := rdD_mono ((cmp g).2 ha')
      rw [(fix g hg).1] at h1
      have h2 := rd_mono h1
      rw [(fix g hg).2] at h2
      rw [← Int.natCast_mul]; exact Int.ofNat_le.2 h2
end Go.Proofs.Ytncgcjeihihkfaa.Fl
