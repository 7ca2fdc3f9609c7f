/- A mix of a cell with itself is that cell, by value. -/
import Derived.Test.YtncgcjeihihkfaaBln2
import Derived.Test.YtncgcjeihihkfaaFl13
namespace Go.Proofs.Ytncgcjeihihkfaa
open Go.RowKit Fl
set_option linter.unusedVariables false

theorem mix_self {x s : Nat} (hx : Bd 20 x) (hs : Bd 20 s) : (FloatKind.f32.format.order (mixW x x s) x == some .eq) = true := by
  obtain ⟨d, p, r, e1, _, e2, _, e3, _⟩ := mix_parts (i := 20) (j := 20) (by decide) (by decide) hx hx hs
  obtain ⟨a, va, ba⟩ := val_bd hx
  obtain ⟨c, vc, _⟩ := val_bd hs
  have vd : vS d = some 0 := by
    have := vS_sub (B := 1) e1 va va (by simp) (by decide)
    rwa [show a - a = 0 by omega, rdS_zero] at this
  have vp : vS p = some 0 := by
    have := vS_mul (c := 0) (B := 1) e2 vd vc (by simp) (by simp) (by decide)
    rwa [rdS_zero] at this
  have vr : vS r = some a := by
    obtain ⟨B, hB⟩ : ∃ B : Nat, B = 1105 := ⟨_, rfl⟩
    obtain ⟨k, hk⟩ : ∃ k : Nat, k = 1074 + 20 := ⟨_, rfl⟩
    rw [← hk] at ba
    have := vS_add (B := B) e3 va vp (by rw [Int.add_zero]; exact Nat.lt_of_le_of_lt ba (Nat.pow_lt_pow_right (by decide) (by omega))) (by omega)
    rwa [Int.add_zero, rdS_self va] at this
  rw [mix_eq e1 e2 e3, f32f, eql_val vr va]; simp

theorem blW_self {n : Nat} {v s : Nat → Nat} (g1 : allB n (fun i => hgtB (v i)) = true) (g2 : allB n (fun i => hgtB (s i)) = true) (i : Nat) (hi : i < n) : (FloatKind.f32.format.order (blW v v s i) (v i) == some .eq) = true :=
  mix_self (hgt_bd (allB_iff.1 g1 i hi)) (hgt_bd (allB_iff.1 g2 i hi))

end Go.Proofs.Ytncgcjeihihkfaa
