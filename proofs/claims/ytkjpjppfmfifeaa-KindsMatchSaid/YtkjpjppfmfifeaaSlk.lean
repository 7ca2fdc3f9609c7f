/- Slack: its word; what its steps come to (pure). -/
import Derived.Test.YtkjpjppfmfifeaaMinM
import Derived.Test.YtkjpjppfmfifeaaDth
import Derived.Test.YtkjpjppfmfifeaaOps
import Derived.Test.YtkjpjppfmfifeaaFl18
namespace Go.Proofs.Ytkjpjppfmfifeaa
open Go.RowKit Fl
set_option linter.unusedVariables false

theorem val_unit {x : Nat} {a : Int} {J : Nat} (hJ : J = 925) (h : vS x = some a) : ∃ t : Int, a = t * ((2 ^ J : Nat) : Int) := by
  obtain ⟨t, j, _, hj, e⟩ := vS_form h
  refine ⟨t * ((2 ^ (j - J) : Nat) : Int), ?_⟩
  rw [e, Int.mul_assoc, ← Int.natCast_mul, ← Nat.pow_add, show j - J + J = j by omega]
theorem diff_strict {x y : Nat} {a b : Int} (hx : vS x = some a) (hy : vS y = some b) (h : a < b) : 0 < rdS (b - a) := by
  obtain ⟨J, hJ⟩ : ∃ J : Nat, J = 925 := ⟨_, rfl⟩
  obtain ⟨t, ea⟩ := val_unit hJ hx
  obtain ⟨s, eb⟩ := val_unit hJ hy
  have p : 0 < ((2 ^ J : Nat) : Int) := Int.natCast_pos.2 (Nat.two_pow_pos _)
  have ts : t < s := by
    rw [ea, eb] at h
    exact Int.lt_of_mul_lt_mul_right h (by omega)
  have le : ((2 ^ J : Nat) : Int) ≤ b - a := by
    rw [ea, eb, ← Int.sub_mul]
    have := Int.mul_le_mul_of_nonneg_right (show (1 : Int) ≤ s - t by omega) (show (0 : Int) ≤ ((2 ^ J : Nat) : Int) by omega)
    omega
  have m := rdS_mono le
  rw [rdS_exact 1 J (by decide) (by omega) (by omega)] at m
  omega

/-- What is left at d of what fades over s. -/
def fadW (d s : Nat) : Nat := if ltB d s = true then subW 1065353216 (quoW d s) else 0
structure FadAt (d s q r : Nat) : Prop where
  q1 : floatBits .quo .f32 d s = some q
  r1 : floatBits .sub .f32 1065353216 q = some r
  w : fadW d s = r
  bd : Bd 1 r
  lt : r < 4294967296
theorem fad_parts {d s : Nat} {a b : Int} (hd : vS d = some a) (hs : vS s = some b) (a0 : 0 ≤ a) (hab : a < b) : ∃ q r, FadAt d s q r := by
  have q2 : Same2 .quo 0 d s := div_val hd hs (by omega) (by omega) (by omega)
  obtain ⟨q, q1, bq⟩ := same_ex q2
  have r2 : Same2 .sub 1 1065353216 q := sub_same (k := 0) (by omega) (bd_one 0) bq
  obtain ⟨r, r1, br⟩ := same_ex r2
  refine ⟨q, r, q1, r1, ?_, br, sub_lt r1⟩
  unfold fadW ltB
  rw [f32fmt, lss_val hd hs, if_pos (by simpa using hab)]
  unfold subW quoW
  rw [q1]
  show (floatBits .sub .f32 1065353216 q).getD 0 = r
  rw [r1]; rfl

/-- Slack of a value. -/
def slkW (v l h s : Nat) : Nat := if ltB v l = true then fadW (subW l v) s else if (FloatKind.f32.format.order v h == some .gt) = true then fadW (subW v h) s else 1065353216

/-- A difference that is above 0. -/
structure DifAt (x y d : Nat) (a : Int) : Prop where
  e : floatBits .sub .f32 y x = some d
  w : subW y x = d
  v : vS d = some a
  p : 0 < a
  lt : d < 4294967296
theorem dif_parts {x y : Nat} {a b : Int} (hx : hgtB x = true) (hy : hgtB y = true) (vx : vS x = some a) (vy : vS y = some b) (h : a < b) : ∃ d c, DifAt x y d c := by
  have s : Same2 .sub 21 y x := sub_same (k := 20) (by omega) (hgt_bd hy) (hgt_bd hx)
  obtain ⟨d, e, bd⟩ := same_ex s
  obtain ⟨a', ha', xa⟩ := hgt_val hx
  obtain ⟨b', hb', xb⟩ := hgt_val hy
  rw [vx] at ha'
  rw [vy] at hb'
  obtain rfl := Option.some.inj ha'
  obtain rfl := Option.some.inj hb'
  obtain ⟨B, hB⟩ : ∃ B : Nat, B = 1100 := ⟨_, rfl⟩
  have hv : vS d = some (rdS (b - a)) := by
    refine vS_sub (B := B) e vy vx (small_of (n := 21) (by omega) ?_ (by omega)) (by omega)
    rw [show ((2 ^ 21 : Nat) : Int) = 2097152 by decide]
    generalize one = O at *
    omega
  exact ⟨d, rdS (b - a), e, by unfold subW; rw [e]; rfl, hv, diff_strict vx vy h, sub_lt e⟩
/-- A difference of heights: its value has the sign of the difference. -/
theorem dif_any {x y : Nat} {a b : Int} (hx : hgtB x = true) (hy : hgtB y = true) (vx : vS x = some a) (vy : vS y = some b) : ∃ d c, floatBits .sub .f32 y x = some d ∧ vS d = some c ∧ (b ≤ a → c ≤ 0) := by
  have s : Same2 .sub 21 y x := sub_same (k := 20) (by omega) (hgt_bd hy) (hgt_bd hx)
  obtain ⟨d, e, bd⟩ := same_ex s
  obtain ⟨a', ha', xa⟩ := hgt_val hx
  obtain ⟨b', hb', xb⟩ := hgt_val hy
  rw [vx] at ha'
  rw [vy] at hb'
  obtain rfl := Option.some.inj ha'
  obtain rfl := Option.some.inj hb'
  obtain ⟨B, hB⟩ : ∃ B : Nat, B = 1100 := ⟨_, rfl⟩
  obtain ⟨D, hD⟩ : ∃ D : Nat, D = 1079 := ⟨_, rfl⟩
  have hO := one_lt (B := D) (by omega)
  have hv : vS d = some (rdS (b - a)) := by
    refine vS_sub (B := B) e vy vx ?_ (by omega)
    have h1 : (b - a).natAbs ≤ 2097152 * one := by
      generalize one = O at *
      omega
    have h2 : 2097152 * one < 2 ^ B := by
      have := (Nat.mul_lt_mul_left (a := 2097152) (by decide)).2 hO
      have e : 2097152 * 2 ^ D = 2 ^ B := by rw [show B = 21 + D by omega, Nat.pow_add]
      omega
    omega
  refine ⟨d, rdS (b - a), e, hv, fun h => ?_⟩
  have := rdS_mono (show b - a ≤ 0 by omega)
  rwa [rdS_zero] at this
end Go.Proofs.Ytkjpjppfmfifeaa
