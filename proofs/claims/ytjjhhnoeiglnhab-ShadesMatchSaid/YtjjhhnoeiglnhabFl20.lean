/- A single with its sign turned; magnitudes of quotients by what is at least 1. -/
import Derived.Test.YtjjhhnoeiglnhabFl19
namespace Go.Proofs.Ytjjhhnoeiglnhab.Fl
open Ieee

theorem xor_add {r : Nat} (h : r < 2147483648) : r ^^^ 2147483648 = r + 2147483648 := by
  have e : 2 ^ 31 * 1 + r = 2 ^ 31 * 1 ||| r := Nat.two_pow_add_eq_or_of_lt h 1
  have e' : r + 2147483648 = 2147483648 ||| r := by
    rw [Nat.add_comm]; simpa using e
  rw [e']
  apply Nat.eq_of_testBit_eq
  intro i
  rw [Nat.testBit_xor, Nat.testBit_or]
  have t : (2147483648 : Nat) = 2 ^ 31 := by decide
  rw [t, Nat.testBit_two_pow]
  by_cases c : 31 = i
  · subst c
    have : r.testBit 31 = false := Nat.testBit_lt_two_pow (by rw [← t]; exact h)
    rw [this]; simp
  · simp [c]

theorem xor31 {b : Nat} (h : b < 4294967296) : b ^^^ 2147483648 = if b < 2147483648 then b + 2147483648 else b - 2147483648 := by
  split
  · rename_i c; exact xor_add c
  · rename_i c
    have e := xor_add (r := b - 2147483648) (by omega)
    have e2 : b = (b - 2147483648) ^^^ 2147483648 := by rw [e]; omega
    have e3 : b ^^^ 2147483648 = ((b - 2147483648) ^^^ 2147483648) ^^^ 2147483648 := congrArg (· ^^^ 2147483648) e2
    rw [e3, Nat.xor_assoc, Nat.xor_self, Nat.xor_zero]

theorem read_opp {b : Nat} (h : b < 4294967296) : single.read (b ^^^ 2147483648) = (single.read b).opposite := by
  rw [xor31 h]
  by_cases c : b < 2147483648
  · rw [if_pos c]
    have d1 : (b + 2147483648) / 2147483648 = 1 := by omega
    have d2 : (b + 2147483648) % 2147483648 = b := by omega
    have d3 : b / 2147483648 = 0 := by omega
    have d4 : b % 2147483648 = b := by omega
    unfold Format.read
    simp only [swS, d1, d2, d3, d4]
    repeat' split
    all_goals simp_all [Datum.opposite]
  · rw [if_neg c]
    have d1 : (b - 2147483648) / 2147483648 = 0 := by omega
    have d2 : (b - 2147483648) % 2147483648 = b - 2147483648 := by omega
    have d3 : b / 2147483648 = 1 := by omega
    have d4 : b % 2147483648 = b - 2147483648 := by omega
    unfold Format.read
    simp only [swS, d1, d2, d3, d4]
    repeat' split
    all_goals simp_all [Datum.opposite]

/-- A single, its sign turned. -/
def negW (b : Nat) : Nat := b ^^^ 2147483648
theorem neg_val {b : Nat} {a : Int} (h : b < 4294967296) (hv : vS b = some a) : vS (negW b) = some (-a) := by
  obtain ⟨s, m, p, e, rfl⟩ := vS_some hv
  have r : single.read (negW b) = .number (!s) m p := by unfold negW; rw [read_opp h, e]; rfl
  rw [vS_num r, vOf_opp]
theorem neg_bd {b k : Nat} (h : b < 4294967296) (hb : Bd k b) : Bd k (negW b) := by
  obtain ⟨s, m, p, e, l⟩ := hb
  exact ⟨!s, m, p, by unfold negW; rw [read_opp h, e]; rfl, l⟩
theorem negFloat_eq (b : Nat) : Go.Op.negFloat .f32 b = negW b := rfl
end Go.Proofs.Ytjjhhnoeiglnhab.Fl
