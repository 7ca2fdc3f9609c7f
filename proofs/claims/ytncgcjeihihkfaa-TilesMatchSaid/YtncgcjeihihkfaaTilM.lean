/- The tiles of a region, in numbers: each column's width, and their sum. -/
import Derived.Test.YtncgcjeihihkfaaReg4
namespace Go.Proofs.Ytncgcjeihihkfaa
open Go.RowKit

def sumF (f : Nat → Int) : Nat → Int
  | 0 => 0
  | k + 1 => sumF f k + f k
theorem sumF_bd (f : Nat → Int) (m : Int) (n : Nat) (h : ∀ k, k < n → 0 ≤ f k ∧ f k ≤ m) : ∀ k, k ≤ n → 0 ≤ sumF f k ∧ sumF f k ≤ k * m := by
  intro k
  induction k with
  | zero => intro _; simp [sumF]
  | succ k ih =>
    intro hk
    obtain ⟨a, b⟩ := ih (by omega)
    obtain ⟨c, d⟩ := h k (by omega)
    refine ⟨by simp only [sumF]; omega, ?_⟩
    simp only [sumF]
    rw [show ((k + 1 : Nat) : Int) * m = k * m + m by rw [Int.natCast_add, Int.add_mul]; simp]
    omega
theorem flat_parts {i j c : Nat} (h : i < c) : (j * c + i) % c = i ∧ (j * c + i) / c = j := by
  constructor
  · rw [Nat.mul_comm, Nat.mul_add_mod]; exact Nat.mod_eq_of_lt h
  · rw [Nat.mul_comm, Nat.mul_add_div (by omega), Nat.div_eq_of_lt h, Nat.add_zero]
theorem sumF_flat (a b : Nat → Int) (c : Nat) (j : Nat) : ∀ i, i ≤ c → sumF (fun k => a (k % c) * b (k / c)) (j * c + i) = sumF (fun k => a (k % c) * b (k / c)) (j * c) + sumF a i * b j := by
  intro i
  induction i with
  | zero => intro _; simp [sumF]
  | succ i ih =>
    intro hi
    obtain ⟨e1, e2⟩ := flat_parts (j := j) (show i < c by omega)
    rw [← Nat.add_assoc]
    simp only [sumF]
    rw [ih (by omega), e1, e2, Int.add_mul, Int.add_assoc]
theorem sumF_rows (a b : Nat → Int) (c : Nat) (j : Nat) : sumF (fun k => a (k % c) * b (k / c)) (j * c) = sumF a c * sumF b j := by
  induction j with
  | zero => simp [sumF]
  | succ j ih =>
    rw [Nat.succ_mul, sumF_flat a b c j c (Nat.le_refl _), ih]
    simp only [sumF]
    rw [Int.mul_add]

/-- The first cell of a tile's column in a region from X on, W wide; how many of its columns lie in the region. -/
def tlX (X i s : Int) : Int := maxI X (i * s)
def tlW (X W i s : Int) : Int := minI (X + W) (i * s + s) - maxI X (i * s)
theorem tl_parts {X W s : Int} (hs : 1 ≤ s) (hW : 1 ≤ W) {i : Int} (h0 : X / s ≤ i) (h1 : i ≤ (X + W - 1) / s) :
    i * s ≤ X + W - 1 ∧ X + 1 ≤ i * s + s ∧ 1 ≤ tlW X W i s ∧ tlW X W i s ≤ s ∧ tlW X W i s ≤ W := by
  have a := Int.ediv_mul_le (X + W - 1) (show s ≠ 0 by omega)
  have b := Int.lt_ediv_add_one_mul_self X (show 0 < s by omega)
  have c := Int.mul_le_mul_of_nonneg_right h1 (show 0 ≤ s by omega)
  have d := Int.mul_le_mul_of_nonneg_right h0 (show 0 ≤ s by omega)
  rw [Int.add_mul, Int.one_mul] at b
  obtain ⟨e1, e2, e3⟩ := minI_le (X + W) (i * s + s)
  obtain ⟨f1, f2, f3⟩ := maxI_le X (i * s)
  unfold tlW
  omega
theorem tl_sum {X W s : Int} (hs : 1 ≤ s) (hW : 1 ≤ W) : ∀ k : Nat, (X / s + k ≤ (X + W - 1) / s + 1) → sumF (fun k => tlW X W (X / s + k) s) k = maxI X (minI (X + W) ((X / s + k) * s)) - X := by
  intro k
  induction k with
  | zero =>
    intro _
    have d := Int.ediv_mul_le X (show s ≠ 0 by omega)
    obtain ⟨e1, e2, e3⟩ := minI_le (X + W) ((X / s + (0 : Nat)) * s)
    obtain ⟨f1, f2, f3⟩ := maxI_le X (minI (X + W) ((X / s + (0 : Nat)) * s))
    simp only [sumF]
    rw [show (X / s + ((0 : Nat) : Int)) * s = X / s * s by simp] at *
    omega
  | succ k ih =>
    intro hk
    obtain ⟨a, b, _, _, _⟩ := tl_parts (X := X) (W := W) hs hW (i := X / s + k) (by omega) (by omega)
    have q : (X / s + ((k + 1 : Nat) : Int)) * s = (X / s + k) * s + s := by rw [show X / s + ((k + 1 : Nat) : Int) = (X / s + k) + 1 by omega, Int.add_mul, Int.one_mul]
    have r := ih (by omega)
    simp only [sumF]
    rw [q, r]
    clear q r ih
    unfold tlW
    generalize (X / s + (k : Int)) * s = p at *
    obtain ⟨e1, e2, e3⟩ := minI_le (X + W) p
    obtain ⟨f1, f2, f3⟩ := maxI_le X (minI (X + W) p)
    obtain ⟨g1, g2, g3⟩ := minI_le (X + W) (p + s)
    obtain ⟨h1, h2, h3⟩ := maxI_le X p
    obtain ⟨i1, i2, i3⟩ := maxI_le X (minI (X + W) (p + s))
    clear hk
    omega
theorem tl_all {X W s : Int} (hs : 1 ≤ s) (hW : 1 ≤ W) (c : Nat) (hc : (c : Int) = (X + W - 1) / s - X / s + 1) : sumF (fun k => tlW X W (X / s + k) s) c = W := by
  rw [tl_sum hs hW c (by omega)]
  have b := Int.lt_ediv_add_one_mul_self (X + W - 1) (show 0 < s by omega)
  rw [show X / s + (c : Int) = (X + W - 1) / s + 1 by omega]
  obtain ⟨e1, e2, e3⟩ := minI_le (X + W) (((X + W - 1) / s + 1) * s)
  obtain ⟨f1, f2, f3⟩ := maxI_le X (minI (X + W) (((X + W - 1) / s + 1) * s))
  omega

end Go.Proofs.Ytncgcjeihihkfaa
