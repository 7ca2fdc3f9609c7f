/- The sign struck off a word; what the reference's Height asks of a single turned into a double. -/
import Derived.Test.YtncgcjeihihkfaaFl9
namespace Go.Proofs.Ytncgcjeihihkfaa.Fl
open Ieee

theorem read_abs (f : Format) (x : Nat) : f.read (x % f.signWeight) = match f.read x with | .number _ m p => .number false m p | .infinity _ => .infinity false | .nan _ t => .nan false t := by
  have hs : 0 < f.signWeight := Nat.two_pow_pos _
  have h1 : x % f.signWeight / f.signWeight = 0 := Nat.div_eq_of_lt (Nat.mod_lt _ hs)
  have h2 : x % f.signWeight % f.signWeight = x % f.signWeight := Nat.mod_mod _ _
  unfold Format.read
  simp only [h1, h2]
  generalize x % f.signWeight = r
  split
  · rfl
  · split
    · rfl
    · split <;> rfl

theorem swS : single.signWeight = 2147483648 := by decide
theorem swD : double.signWeight = 9223372036854775808 := by decide
theorem readMaxD : double.read 9218868437227405311 = .number false 9007199254740991 971 := by decide

/-- The double of a finite single is not beyond the greatest double. -/
theorem isInf_no {x X : Nat} (h : vS x ≠ none) (hX : floatToFloatBits .f32 x .f64 = some X) : (double.order (X % 9223372036854775808) 9218868437227405311 == some .gt) = false := by
  unfold vS at h
  split at h
  · rename_i s m p hr
    obtain ⟨X', M, I, c1, c2, c3, c4, _⟩ := toD hr
    rw [hX] at c1
    cases c1
    have ha := read_abs double X
    rw [c2, swD] at ha
    simp only at ha
    unfold Format.order
    rw [ha, readMaxD, order_num c3 (by omega), some_beq, cmp_gt, decide_eq_false_iff_not]
    obtain ⟨E, hE⟩ : ∃ E : Nat, E = 1202 := ⟨_, rfl⟩
    have hlt : m * 2 ^ (p + 1074).toNat < 2 ^ E := by
      have g := read_single hr
      rcases Nat.eq_zero_or_pos m with z | z
      · subst z; rw [Nat.zero_mul]; exact Nat.two_pow_pos _
      · exact (sgl_units g z hE rfl).1
    have : 2 ^ E ≤ 9007199254740991 * 2 ^ (971 + 1074 : Int).toNat := Nat.le_trans (two_le (by omega : E ≤ (971 + 1074 : Int).toNat)) (Nat.le_mul_of_pos_left _ (by omega))
    unfold vOf
    rw [signed_eq, signed_eq, c4]
    generalize m * 2 ^ (p + 1074).toNat = A at *
    generalize 9007199254740991 * 2 ^ (971 + 1074 : Int).toNat = B at *
    simp only [Bool.false_eq_true, if_false]
    omega
  · exact absurd rfl h

theorem conv_inf {x : Nat} {s : Bool} (h : single.read x = .infinity s) : floatToFloatBits .f32 x .f64 = some (double.write (.infinity s)) := by
  unfold floatToFloatBits
  rw [if_neg (by decide)]
  have : FloatKind.f32.decode x = .infinity s := h
  simp only [this]; rfl
theorem isInf_yes (s : Bool) : (double.order (double.write (.infinity s) % 9223372036854775808) 9218868437227405311 == some .gt) = true := by cases s <;> decide

/-- 'v != v', of a single. -/
theorem self_eq {x : Nat} (h : (single.read x).isNaN = false) : (single.order x x == some .eq) = true := by
  unfold Format.order
  cases hx : single.read x with
  | number s m p =>
    have := (read_single hx).low
    rw [order_num (by omega) (by omega), some_beq, cmp_eq]; simp
  | infinity s => cases s <;> rfl
  | nan s t => rw [hx] at h; cases h
theorem self_ne {x : Nat} (h : (single.read x).isNaN = true) : (single.order x x == some .eq) = false := by rw [order_none (.inl h)]; rfl

/-- A finite single is a height where its magnitude is at most 2 ^ 20: as the reference asks. -/
theorem top_abs {x : Nat} (h : finB x = true) : (single.order (x % 2147483648) 1233125376 == some .gt) = !hgtB x := by
  unfold finB at h
  unfold hgtB
  cases hv : vS x with
  | none => rw [hv] at h; cases h
  | some a =>
    have hv0 := hv
    unfold vS at hv
    split at hv
    · rename_i s m p hr
      cases hv
      have ha := read_abs single x
      rw [hr, swS] at ha
      simp only at ha
      rw [gtr_val (vS_num ha) vS_top]
      unfold vOf vTop
      rw [signed_eq, signed_eq]
      generalize m * 2 ^ (p + 1074).toNat = A at *
      generalize 1 * 2 ^ (20 + 1074 : Int).toNat = B at *
      rw [Bool.eq_iff_iff]
      cases s <;> simp <;> omega
    · cases hv

end Go.Proofs.Ytncgcjeihihkfaa.Fl
