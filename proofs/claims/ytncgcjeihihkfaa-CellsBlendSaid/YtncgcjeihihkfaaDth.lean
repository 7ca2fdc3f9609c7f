/- Dither and Speckle of one cell, as words; what the steps come to. -/
import Derived.Test.YtncgcjeihihkfaaPlace
import Derived.Test.YtncgcjeihihkfaaFloor
import Derived.Test.YtncgcjeihihkfaaEas
namespace Go.Proofs.Ytncgcjeihihkfaa
open Go.RowKit Fl
set_option linter.unusedVariables false

theorem div_val {x y k : Nat} {a b : Int} (hx : vS x = some a) (hy : vS y = some b) (hb : b ≠ 0) (hk : k ≤ 120) (h : a.natAbs ≤ b.natAbs * 2 ^ k) : Same2 .quo k x y := by
  obtain ⟨s, m, i, e1, rfl⟩ := vS_some hx
  obtain ⟨t, n, j, e2, rfl⟩ := vS_some hy
  have n1 : (vOf s m i).natAbs = m * 2 ^ (i + 1074).toNat := by unfold vOf; rw [signed_eq, Int.natAbs_mul, Int.natAbs_natCast]; cases s <;> simp
  have n2 : (vOf t n j).natAbs = n * 2 ^ (j + 1074).toNat := by unfold vOf; rw [signed_eq, Int.natAbs_mul, Int.natAbs_natCast]; cases t <;> simp
  refine div_same hk e1 e2 ?_ (by rw [← n1, ← n2]; exact h)
  rcases Nat.eq_zero_or_pos n with z | z
  · exfalso; apply hb; subst z
    have : (vOf t 0 j).natAbs = 0 := by rw [n2]; simp
    omega
  · exact z

theorem vS_lo {j : Nat} (hj : j = 1064) : vS 981467136 = some ((2 ^ j : Nat) : Int) := by
  have h : Ieee.single.read 981467136 = .number false 8388608 (-33) := by decide
  rw [vS_lit (t := 1) (k := 23) (j := j) h (by decide) (by rw [hj]; decide)]; simp
theorem vS_hi {j : Nat} (hj : j = 1084) : vS 1149239296 = some ((2 ^ j : Nat) : Int) := by
  have h : Ieee.single.read 1149239296 = .number false 8388608 (-13) := by decide
  rw [vS_lit (t := 1) (k := 23) (j := j) h (by decide) (by rw [hj]; decide)]; simp

/-- A right step: its value is from 2 ^ -10 to 2 ^ 10. -/
def StepOk (st : Nat) : Prop := ∃ b, vS st = some b ∧ (one : Int) ≤ 1024 * b ∧ b ≤ 1024 * (one : Int)
theorem step_ok {st : Nat} (h : wiE st 981467136 1149239296 = 0) : StepOk st := by
  unfold wiE at h
  by_cases hf : finB st = false
  · rw [if_pos hf] at h; cases h
  · rw [if_neg hf] at h
    split at h
    · cases h
    · rename_i c
      obtain ⟨a, ha⟩ := Option.isSome_iff_exists.1 (show (vS st).isSome = true by simpa [finB, Option.isSome_iff_ne_none] using hf)
      obtain ⟨j, hj⟩ : ∃ j : Nat, j = 1064 := ⟨_, rfl⟩
      have hj' : j + 20 = 1084 := by omega
      rw [show FloatKind.f32.format = Ieee.single from rfl, lss_val ha (vS_lo hj), gtr_val ha (vS_hi hj')] at c
      refine ⟨a, ha, ?_⟩
      have e1 : one = 1024 * 2 ^ j := by rw [one_split (a := 10) (j := j) (by omega)]
      have e2 : 2 ^ (j + 20) = 1048576 * 2 ^ j := by rw [Nat.pow_add, Nat.mul_comm]
      rw [e2] at c
      rw [e1]
      generalize 2 ^ j = U at *
      simp at c
      omega
theorem step_bd {st : Nat} (h : StepOk st) : Bd 11 st := by
  obtain ⟨b, hb, h1, h2⟩ := h
  obtain ⟨J, hJ⟩ : ∃ J : Nat, J = 1074 := ⟨_, rfl⟩
  refine bd_val' (j := 11 + J) hb (by omega) ?_
  have e : 2 ^ (11 + J) = 2048 * one := by rw [one_pow hJ, Nat.pow_add]
  have := one_pos
  rw [e]
  generalize one = O at *
  omega

theorem hgt_val {x : Nat} (h : hgtB x = true) : ∃ a, vS x = some a ∧ a.natAbs ≤ 1048576 * one := by
  obtain ⟨a, ha, hb⟩ := val_bd (hgt_bd h)
  refine ⟨a, ha, ?_⟩
  obtain ⟨J, hJ⟩ : ∃ J : Nat, J = 1074 := ⟨_, rfl⟩
  have e : 2 ^ (1074 + 20) = 1048576 * one := by
    rw [one_pow hJ, show 1074 + 20 = 20 + J by omega, Nat.pow_add]
  rwa [e] at hb

theorem flV_near (a : Int) : flV a ≤ a ∧ a < flV a + (one : Int) := by
  have hp : (0 : Int) < (one : Int) := Int.natCast_pos.2 one_pos
  unfold flV
  have h1 := Int.ediv_mul_le a (Int.ne_of_gt hp)
  have h2 := Int.lt_ediv_add_one_mul_self a hp
  rw [Int.add_mul, Int.one_mul] at h2
  exact ⟨h1, h2⟩

/-- The quotient that Dither makes. -/
def dthQ (v st : Nat) : Nat := (floatBits .quo .f32 v st).getD 0
/-- What Dither makes of a cell, by the word of its hash. -/
def dthW (v st : Nat) (h : Int) : Nat :=
  (floatBits .mul .f32 (if (FloatKind.f32.format.order (unitW h) ((floatBits .sub .f32 (dthQ v st) (flW (dthQ v st))).getD 0) == some .lt) = true then (floatBits .add .f32 (flW (dthQ v st)) 1065353216).getD 0 else flW (dthQ v st)) st).getD 0

structure DthAt (v st : Nat) (h : Int) (q d : Nat) (c : Bool) (j r : Nat) : Prop where
  q1 : floatBits .quo .f32 v st = some q
  q2 : Same2 .quo 30 v st
  fq : ∃ a, vS q = some a
  bq : Bd 30 q
  d1 : floatBits .sub .f32 q (flW q) = some d
  d2 : Same2 .sub 32 q (flW q)
  c1 : (FloatKind.f32.format.order (unitW h) d == some .lt) = c
  j1 : c = true → floatBits .add .f32 (flW q) 1065353216 = some j
  j2 : c = true → Same2 .add 32 (flW q) 1065353216
  j3 : c = false → j = flW q
  r1 : floatBits .mul .f32 j st = some r
  r2 : Same2 .mul 43 j st
  w : dthW v st h = r
  lt : r < 4294967296

theorem fl_bd {q k : Nat} (h : Bd k q) (hk : k ≤ 50) : Bd (k + 1) (flW q) := by
  obtain ⟨a, ha, hb⟩ := val_bd h
  obtain ⟨_, _, _, _, _, _, _, _, _, hv⟩ := floor_parts ha h hk
  refine bd_val hv ?_
  obtain ⟨h1, h2⟩ := flV_near a
  obtain ⟨J, hJ⟩ : ∃ J : Nat, J = 1074 := ⟨_, rfl⟩
  have e : one ≤ 2 ^ (1074 + k) := by rw [one_pow hJ]; exact Nat.pow_le_pow_right (by omega) (by omega)
  rw [show 1074 + (k + 1) = 1074 + k + 1 by omega, Nat.pow_succ]
  generalize 2 ^ (1074 + k) = T at *
  generalize one = O at *
  omega

theorem bd_one (k : Nat) : Bd k 1065353216 := by
  obtain ⟨J, hJ⟩ : ∃ J : Nat, J = 1074 := ⟨_, rfl⟩
  refine bd_val vS_one ?_
  rw [Int.natAbs_natCast, one_pow hJ]; exact Nat.pow_le_pow_right (by omega) (by omega)

theorem dth_parts {v st : Nat} (h : Int) (hv : hgtB v = true) (hs : StepOk st) : ∃ q d c j r, DthAt v st h q d c j r := by
  obtain ⟨a, ha, hab⟩ := hgt_val hv
  have hs' := hs
  obtain ⟨b, hb, hb1, hb2⟩ := hs'
  have op := one_pos
  have q2 : Same2 .quo 30 v st := by
    refine div_val ha hb ?_ (by omega) ?_
    · generalize one = O at *; omega
    · rw [show (2 : Nat) ^ 30 = 1073741824 by decide]; generalize one = O at *; omega
  obtain ⟨_, _, _, q, _, _, _, _, q1, bq⟩ := q2.ex
  obtain ⟨aq, haq, _⟩ := val_bd bq
  have bf := fl_bd bq (by omega)
  have d2 : Same2 .sub 32 q (flW q) := sub_same (k := 31) (by omega) (bd_up bq (by omega)) bf
  obtain ⟨_, _, _, d, _, _, _, _, d1, _⟩ := d2.ex
  have j2 : Same2 .add 32 (flW q) 1065353216 := add_same (k := 31) (by omega) bf (bd_one 31)
  obtain ⟨_, _, _, j, _, _, _, _, j1, bj⟩ := j2.ex
  have eq : dthQ v st = q := by unfold dthQ; rw [q1]; rfl
  cases hc : (FloatKind.f32.format.order (unitW h) d == some .lt) with
  | true =>
    have r2 : Same2 .mul (32 + 11) j st := mul_same (by omega) bj (step_bd hs)
    obtain ⟨_, _, _, r, _, _, _, _, r1, _⟩ := r2.ex
    refine ⟨q, d, true, j, r, q1, q2, ⟨aq, haq⟩, bq, d1, d2, hc, fun _ => j1, fun _ => j2, (fun h => by cases h), r1, r2, ?_, opt_lt (d := (Ieee.single.read j).product (Ieee.single.read st)) r1⟩
    unfold dthW
    rw [eq, d1]
    show (floatBits .mul .f32 (if (FloatKind.f32.format.order (unitW h) d == some .lt) = true then (floatBits .add .f32 (flW q) 1065353216).getD 0 else flW q) st).getD 0 = r
    rw [if_pos hc, j1]
    show (floatBits .mul .f32 j st).getD 0 = r
    rw [r1]; rfl
  | false =>
    have r2 : Same2 .mul (32 + 11) (flW q) st := mul_same (by omega) (bd_up bf (by omega)) (step_bd hs)
    obtain ⟨_, _, _, r, _, _, _, _, r1, _⟩ := r2.ex
    refine ⟨q, d, false, flW q, r, q1, q2, ⟨aq, haq⟩, bq, d1, d2, hc, (fun h => by cases h), (fun h => by cases h), fun _ => rfl, r1, r2, ?_, opt_lt (d := (Ieee.single.read (flW q)).product (Ieee.single.read st)) r1⟩
    unfold dthW
    rw [eq, d1]
    show (floatBits .mul .f32 (if (FloatKind.f32.format.order (unitW h) d == some .lt) = true then (floatBits .add .f32 (flW q) 1065353216).getD 0 else flW q) st).getD 0 = r
    rw [if_neg (by rw [hc]; simp), r1]; rfl

/-- What Speckle makes of a cell. -/
def spkW (st : Nat) (h : Int) : Nat := if (FloatKind.f32.format.order (unitW h) st == some .lt) = true then 1065353216 else 0

/-- The place of a cell by its number. -/
theorem place_of {X Y x y : Int} {W i : Nat} (hW : 1 ≤ W) (h1 : X ≤ x) (h2 : x < X + W) (h3 : Y ≤ y) (hi : (i : Int) = (y - Y) * W + (x - X)) : X + ((i % W : Nat) : Int) = x ∧ Y + ((i / W : Nat) : Int) = y := by
  obtain ⟨a, ha⟩ := Int.eq_ofNat_of_zero_le (show 0 ≤ x - X by omega)
  obtain ⟨b, hb⟩ := Int.eq_ofNat_of_zero_le (show 0 ≤ y - Y by omega)
  rw [ha, hb, ← Int.natCast_mul, ← Int.natCast_add] at hi
  have hi' : i = b * W + a := Int.ofNat.inj hi
  have ha' : a < W := by omega
  have e1 : i % W = a := by rw [hi', Nat.mul_comm, Nat.mul_add_mod, Nat.mod_eq_of_lt ha']
  have e2 : i / W = b := by rw [hi', Nat.mul_comm, Nat.mul_add_div (by omega), Nat.div_eq_of_lt ha']; rfl
  rw [e1, e2]; omega

set_option maxHeartbeats 400000 in
theorem refDiv_any (k x y r : Nat) (h : Same2 .quo k x y) (hr : floatBits .quo .f32 x y = some r) (w : World) :
    Calls Try.prog 177 #[.float .f32 x, .float .f32 y] w fun e w' => e = .returned (.float .f32 r) ∧ w = w' := by
  obtain ⟨X, Y, Z, r', h1, h2, h3, h4, h5, _⟩ := h.ex
  rw [hr] at h5
  have h5 := Option.some.inj h5
  subst h5
  have c1 := fun (W : World) => run_convert_float_float (P := Try.prog) W 39 141 .f32 .f64 x X (by kernel_rfl) Try.underlying141 h1
  have c2 := fun (W : World) => run_convert_float_float (P := Try.prog) W 39 141 .f32 .f64 y Y (by kernel_rfl) Try.underlying141 h2
  have c3 := fun (W : World) => run_float_arith (P := Try.prog) W .quo 141 .f64 X Y Z h3
  have c4 := fun (W : World) => run_convert_float_float (P := Try.prog) W 141 39 .f64 .f32 Z r (by kernel_rfl) Try.underlying39 h4
  clear h1 h2 h3 h4 hr h
  go_enter Try.func177, Try.ntmps177
  go_wp2
  go_ret
  exact ⟨rfl, rfl⟩

end Go.Proofs.Ytncgcjeihihkfaa
