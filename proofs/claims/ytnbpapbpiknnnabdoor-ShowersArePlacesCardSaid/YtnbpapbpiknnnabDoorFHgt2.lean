/- Contracts: the reference's Height and Out. -/
import Derived.Test.YtnbpapbpiknnnabDoorFHgt
namespace Go.Proofs.YtnbpapbpiknnnabDoor
open Go.RowKit Fl

theorem conv32_lt {x X : Nat} (h : floatToFloatBits .f32 x .f64 = some X) : X < b64 := by
  unfold floatToFloatBits at h
  rw [if_neg (by decide)] at h
  split at h
  · cases h
  · cases h; exact Ieee.Format.write_lt _ _
  · split at h
    · cases h
    · cases h; exact Ieee.Format.write_lt _ _

/-- What the first loop asks of one single: a NaN, an infinity, or a finite one. -/
theorem step1 (x : Nat) : (finB x = true ∧ (FloatKind.f32.format.order x x == some .eq) = true ∧ ∃ X, floatToFloatBits .f32 x .f64 = some X ∧ X < b64 ∧ (FloatKind.f64.format.order (X % b63) 9218868437227405311 == some .gt) = false) ∨
    (finB x = false ∧ (FloatKind.f32.format.order x x == some .eq) = false) ∨
    (finB x = false ∧ (FloatKind.f32.format.order x x == some .eq) = true ∧ ∃ X, floatToFloatBits .f32 x .f64 = some X ∧ X < b64 ∧ (FloatKind.f64.format.order (X % b63) 9218868437227405311 == some .gt) = true) := by
  cases hv : vS x with
  | some a =>
    left
    have hr : ∃ s m p, Ieee.single.read x = .number s m p := by
      unfold vS at hv
      split at hv
      · exact ⟨_, _, _, by assumption⟩
      · cases hv
    obtain ⟨s, m, p, hr⟩ := hr
    obtain ⟨X, _, _, c1, _⟩ := toD hr
    exact ⟨by unfold finB; rw [hv]; rfl, self_eq (by rw [hr]; rfl), X, c1, conv32_lt c1, isInf_no (by rw [hv]; simp) c1⟩
  | none =>
    right
    have hf : finB x = false := by unfold finB; rw [hv]; rfl
    rcases vS_none hv with ⟨s, hs⟩ | hn
    · right
      exact ⟨hf, self_eq (by rw [hs]; rfl), _, conv_inf hs, conv32_lt (conv_inf hs), isInf_yes s⟩
    · left
      exact ⟨hf, self_ne hn⟩

def wf32 (n : Nat) (v : Nat → Nat) : Prop := ∀ i, i < n → v i < 4294967296

theorem fldE_zero {n : Nat} {v : Nat → Nat} : fldE n v = 0 ↔ allB n (fun i => hgtB (v i)) = true := by
  unfold fldE hgtE
  constructor
  · intro h
    split at h
    · split at h
      · assumption
      · cases h
    · cases h
  · intro h
    have f : allB n (fun i => finB (v i)) = true := allB_iff.2 fun i hi => hgt_fin (allB_iff.1 h i hi)
    rw [if_pos f, if_pos h]

end Go.Proofs.YtnbpapbpiknnnabDoor
