/- The weight of a brush, as a word; what its steps come to; it lies from 0 to 1. -/
import Derived.Test.YtncgcjeihihkfaaSel
import Derived.Test.YtncgcjeihihkfaaRoot
namespace Go.Proofs.Ytncgcjeihihkfaa
open Go.RowKit Fl
set_option linter.unusedVariables false

/-- The square of the distance of two places. -/
def sqD (x y X Y : Int) : Int := (x - X) * (x - X) + (y - Y) * (y - Y)
def coneW (n R : Int) : Nat := subW 1065353216 (quoW (rootW (floatOfInt .f32 n)) (floatOfInt .f32 R))
def bellT (n F : Int) : Nat := subW 1065353216 (quoW (floatOfInt .f32 n) (floatOfInt .f32 F))
/-- The weight, by the square of the distance. -/
def weiW (k n R : Int) : Nat := if R * R ≤ n then 0 else if k = 2 then coneW n R else if k = 3 then mulW (bellT n (R * R)) (bellT n (R * R)) else 1065353216

theorem one_minus {q : Nat} {c : Int} (hb : Bd 0 q) (hc : vS q = some c) (c0 : 0 ≤ c) : ∃ r, floatBits .sub .f32 1065353216 q = some r ∧ Same2 .sub 1 1065353216 q ∧ ∃ d, vS r = some d ∧ 0 ≤ d ∧ d ≤ (one : Int) := by
  obtain ⟨a, ha, hab⟩ := val_bd hb
  rw [hc] at ha
  have ha' := Option.some.inj ha
  subst ha'
  obtain ⟨J, hJ⟩ : ∃ J : Nat, J = 1074 := ⟨_, rfl⟩
  have c1 : c ≤ (one : Int) := by
    rw [one_pow hJ]; rw [Nat.add_zero, ← hJ] at hab; omega
  have s : Same2 .sub 1 1065353216 q := sub_same (k := 0) (by omega) (bd_one 0) hb
  obtain ⟨r, e, _⟩ := same_ex s
  obtain ⟨B, hB⟩ : ∃ B : Nat, B = 1100 := ⟨_, rfl⟩
  have lt : one < 2 ^ B := one_lt (by omega)
  have v : vS r = some (rdS ((one : Int) - c)) := vS_sub (B := B) e vS_one hc (by omega) (by omega)
  refine ⟨r, e, s, _, v, rdS_nonneg (by omega), ?_⟩
  have := rdS_mono (show (one : Int) - c ≤ (one : Int) by omega)
  rwa [rdS_self vS_one] at this

structure ConeAt (n R : Int) (X Z : Nat) (c : Int) (q r : Nat) : Prop where
  rt : RootAt (floatOfInt .f32 n) (n * (one : Int)) X Z c
  q1 : floatBits .quo .f32 (rootW (floatOfInt .f32 n)) (floatOfInt .f32 R) = some q
  q2 : Same2 .quo 0 (rootW (floatOfInt .f32 n)) (floatOfInt .f32 R)
  r1 : floatBits .sub .f32 1065353216 q = some r
  r2 : Same2 .sub 1 1065353216 q
  w : coneW n R = r
  v : ∃ d, vS r = some d ∧ 0 ≤ d ∧ d ≤ (one : Int)

theorem cone_parts {n R : Int} (n0 : 0 ≤ n) (r1 : 1 ≤ R) (r2 : R ≤ 256) (h : n < R * R) : ∃ X Z c q r, ConeAt n R X Z c q r := by
  have hR : R * R ≤ 65536 := by
    have := Int.mul_le_mul r2 r2 (by omega) (by omega); omega
  obtain ⟨vn, bn⟩ := int_val (n := n) (by omega)
  obtain ⟨vr, _⟩ := int_val (n := R) (by omega)
  have hp : (0 : Int) < (one : Int) := Int.natCast_pos.2 one_pos
  obtain ⟨X, Z, c, RT⟩ := root_parts vn (Int.mul_nonneg n0 (by omega)) bn (by omega)
  obtain ⟨g, hg⟩ : ∃ g : Nat, R = g := ⟨R.toNat, by omega⟩
  have cR : c ≤ R * (one : Int) := by
    rw [hg]
    refine RT.hi g (by omega) ?_
    rw [Int.natCast_mul, ← hg]
    exact Int.mul_le_mul_of_nonneg_right (by omega) (by omega)
  have c0 := RT.nn
  have Rp : 0 < R * (one : Int) := Int.mul_pos (by omega) hp
  have q2 : Same2 .quo 0 (rootW (floatOfInt .f32 n)) (floatOfInt .f32 R) := div_val RT.val vr (by omega) (by omega) (by rw [Nat.pow_zero, Nat.mul_one]; omega)
  obtain ⟨q, q1, bq⟩ := same_ex q2
  obtain ⟨cq, hcq, _⟩ := val_bd bq
  obtain ⟨r, e1, e2, v⟩ := one_minus bq hcq (quo_sign q1 RT.val vr hcq c0 Rp)
  exact ⟨X, Z, c, q, r, RT, q1, q2, e1, e2, by unfold coneW quoW subW; rw [q1]; show (floatBits .sub .f32 1065353216 q).getD 0 = r; rw [e1]; rfl, v⟩

structure BellAt (n F : Int) (q t r : Nat) : Prop where
  q1 : floatBits .quo .f32 (floatOfInt .f32 n) (floatOfInt .f32 F) = some q
  q2 : Same2 .quo 0 (floatOfInt .f32 n) (floatOfInt .f32 F)
  t1 : floatBits .sub .f32 1065353216 q = some t
  t2 : Same2 .sub 1 1065353216 q
  r1 : floatBits .mul .f32 t t = some r
  r2 : Same2 .mul 0 t t
  w : mulW (bellT n F) (bellT n F) = r
  v : ∃ d, vS r = some d ∧ 0 ≤ d ∧ d ≤ (one : Int)

theorem unit_square {t : Nat} {a : Int} (h : vS t = some a) (a0 : 0 ≤ a) (a1 : a ≤ (one : Int)) : ∃ r, floatBits .mul .f32 t t = some r ∧ Same2 .mul 0 t t ∧ ∃ d, vS r = some d ∧ 0 ≤ d ∧ d ≤ (one : Int) := by
  have bt := bd_unit h (by omega) a1
  have s : Same2 .mul 0 t t := mul_same (a := 0) (b := 0) (by omega) bt bt
  obtain ⟨r, e, _⟩ := same_ex s
  obtain ⟨P, hP⟩ := mul_unit h h
  have hone : (0 : Int) < (one : Int) := Int.natCast_pos.2 one_pos
  have P0 : 0 ≤ P := by
    have := Int.mul_nonneg a0 a0
    rw [hP] at this
    exact Int.le_of_mul_le_mul_right (by rw [Int.zero_mul]; exact this) hone
  have P1 : P ≤ (one : Int) := by
    have := Int.mul_le_mul a1 a1 a0 (Int.le_of_lt hone)
    rw [hP] at this
    exact Int.le_of_mul_le_mul_right this hone
  obtain ⟨B, hB⟩ : ∃ B : Nat, B = 1100 := ⟨_, rfl⟩
  have lt : one < 2 ^ B := one_lt (by omega)
  have v := vS_mul (B := B) e h h hP (by omega) (by omega)
  refine ⟨r, e, s, _, v, rdS_nonneg P0, ?_⟩
  have := rdS_mono P1
  rwa [rdS_self vS_one] at this

theorem bell_parts {n F : Int} (n0 : 0 ≤ n) (f2 : F ≤ 65536) (h : n < F) : ∃ q t r, BellAt n F q t r := by
  obtain ⟨vn, bn⟩ := int_val (n := n) (by omega)
  obtain ⟨vf, _⟩ := int_val (n := F) (by omega)
  have hp : (0 : Int) < (one : Int) := Int.natCast_pos.2 one_pos
  have Fp : 0 < F * (one : Int) := Int.mul_pos (by omega) hp
  have N0 : 0 ≤ n * (one : Int) := Int.mul_nonneg n0 (by omega)
  have NF : n * (one : Int) ≤ F * (one : Int) := Int.mul_le_mul_of_nonneg_right (by omega) (by omega)
  have q2 : Same2 .quo 0 (floatOfInt .f32 n) (floatOfInt .f32 F) := div_val vn vf (by omega) (by omega) (by rw [Nat.pow_zero, Nat.mul_one]; omega)
  obtain ⟨q, q1, bq⟩ := same_ex q2
  obtain ⟨cq, hcq, _⟩ := val_bd bq
  obtain ⟨t, t1, t2, d, vd, d0, d1⟩ := one_minus bq hcq (quo_sign q1 vn vf hcq N0 Fp)
  obtain ⟨r, r1, r2, v⟩ := unit_square vd d0 d1
  have et : bellT n F = t := by unfold bellT quoW subW; rw [q1]; show (floatBits .sub .f32 1065353216 q).getD 0 = t; rw [t1]; rfl
  exact ⟨q, t, r, q1, q2, t1, t2, r1, r2, by rw [et]; unfold mulW; rw [r1]; rfl, v⟩

/-- A weight lies from 0 to 1. -/
theorem wei_in {k n R : Int} (n0 : 0 ≤ n) (r1 : 1 ≤ R) (r2 : R ≤ 256) : ∃ d, vS (weiW k n R) = some d ∧ 0 ≤ d ∧ d ≤ (one : Int) := by
  have hp := one_pos
  have hR : R * R ≤ 65536 := by
    have := Int.mul_le_mul r2 r2 (by omega) (by omega); omega
  unfold weiW
  split
  · exact ⟨0, vS_zero, by omega, by omega⟩
  · rename_i h
    split
    · obtain ⟨X, Z, c, q, r, C⟩ := cone_parts n0 r1 r2 (by omega)
      rw [C.w]; exact C.v
    · split
      · obtain ⟨q, t, r, C⟩ := bell_parts n0 hR (by omega)
        rw [C.w]; exact C.v
      · exact ⟨_, vS_one, by omega, by omega⟩
end Go.Proofs.Ytncgcjeihihkfaa
