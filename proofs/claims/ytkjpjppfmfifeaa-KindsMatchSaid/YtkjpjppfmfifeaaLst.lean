/- The error of a list: the first one of its items. -/
import Derived.Test.YtkjpjppfmfifeaaRows
namespace Go.Proofs.Ytkjpjppfmfifeaa
set_option linter.unusedVariables false

/-- er is the first error of n. -/
def LstE (n : Nat) (e : Nat → Int) (er : Int) : Prop := (er = 0 ∧ ∀ i, i < n → e i = 0) ∨ (er ≠ 0 ∧ ∃ j, j < n ∧ (∀ i, i < j → e i = 0) ∧ e j = er)
theorem lstE_ex (e : Nat → Int) : ∀ n, ∃ er, LstE n e er
  | 0 => ⟨0, .inl ⟨rfl, fun i hi => by omega⟩⟩
  | n + 1 => by
    obtain ⟨er, h⟩ := lstE_ex e n
    rcases h with ⟨rfl, h⟩ | ⟨h0, j, hj, hi, he⟩
    · by_cases c : e n = 0
      · exact ⟨0, .inl ⟨rfl, fun i hi => by
          rcases Nat.lt_or_ge i n with l | l
          · exact h i l
          · rw [show i = n by omega]; exact c⟩⟩
      · exact ⟨e n, .inr ⟨c, n, by omega, h, rfl⟩⟩
    · exact ⟨er, .inr ⟨h0, j, by omega, hi, he⟩⟩
theorem LstE.zero {n : Nat} {e : Nat → Int} {er : Int} (h : LstE n e er) (a : ∀ i, i < n → e i = 0) : er = 0 := by
  rcases h with ⟨rfl, _⟩ | ⟨h0, j, hj, _, he⟩
  · rfl
  · rw [← he]; exact a j hj
theorem LstE.at {n j : Nat} {e : Nat → Int} {er : Int} (h : LstE n e er) (a : ∀ i, i < j → e i = 0) (hj : j < n) (he : e j ≠ 0) : e j = er := by
  rcases h with ⟨rfl, h⟩ | ⟨h0, k, hk, hi, hek⟩
  · exact absurd (h j hj) he
  · rcases Nat.lt_trichotomy j k with c | c | c
    · exact absurd (hi j c) he
    · rw [c]; exact hek
    · rw [a k c] at hek; exact absurd hek.symm h0
theorem LstE.all {n : Nat} {e : Nat → Int} (h : LstE n e 0) : ∀ i, i < n → e i = 0 := by
  rcases h with ⟨_, h⟩ | ⟨h0, _⟩
  · exact h
  · exact absurd rfl h0

end Go.Proofs.Ytkjpjppfmfifeaa
