/- FoldsMatch, for every list of folds, every field and every place: CheckFold, Lift and Folds answer as the references do. No condition. -/
import Derived.Test.YtdbponidkodmfaaJ1C
import Derived.ProofKit
import Derived.OpenShut
import Derived.Lib.SmallJoins
import Derived.Laws.Cover2
import Derived.Deep.Slices

/- The weight of a brush, as a word; what its steps come to; it lies from 0 to 1. -/
namespace Go.Proofs.Ytdbponidkodmfaa
open Go.RowKit Fl
set_option linter.unusedVariables false

/-- The square of the distance of two places. -/
def sqD (x y X Y : Int) : Int := (x - X) * (x - X) + (y - Y) * (y - Y)
def coneW (n R : Int) : Nat := subW 1065353216 (quoW (rootW (floatOfInt .f32 n)) (floatOfInt .f32 R))
def bellT (n F : Int) : Nat := subW 1065353216 (quoW (floatOfInt .f32 n) (floatOfInt .f32 F))
/-- The weight, by the square of the distance. -/
def weiW (k n R : Int) : Nat := if R * R ≤ n then 0 else if k = 2 then coneW n R else if k = 3 then mulW (bellT n (R * R)) (bellT n (R * R)) else 1065353216

theorem one_minus {q : Nat} {c : Int} (hb : Bd 0 q) (hc : vS q = some c) (c0 : 0 ≤ c) : ∃ r, floatBits .sub .f32 1065353216 q = some r ∧ Same2 .sub 1 1065353216 q ∧ ∃ d, vS r = some d ∧ 0 ≤ d ∧ d ≤ (one : Int) := by
  obtain ⟨a, ha, hab⟩ := val_bd hb
  rw [hc] at ha
  have ha' := Option.some.inj ha
  subst ha'
  obtain ⟨J, hJ⟩ : ∃ J : Nat, J = 1074 := ⟨_, rfl⟩
  have c1 : c ≤ (one : Int) := by
    rw [one_pow hJ]; rw [Nat.add_zero, ← hJ] at hab; omega
  have s : Same2 .sub 1 1065353216 q := sub_same (k := 0) (by omega) (bd_one 0) hb
  obtain ⟨r, e, _⟩ := same_ex s
  obtain ⟨B, hB⟩ : ∃ B : Nat, B = 1100 := ⟨_, rfl⟩
  have lt : one < 2 ^ B := one_lt (by omega)
  have v : vS r = some (rdS ((one : Int) - c)) := vS_sub (B := B) e vS_one hc (by omega) (by omega)
  refine ⟨r, e, s, _, v, rdS_nonneg (by omega), ?_⟩
  have := rdS_mono (show (one : Int) - c ≤ (one : Int) by omega)
  rwa [rdS_self vS_one] at this

structure ConeAt (n R : Int) (X Z : Nat) (c : Int) (q r : Nat) : Prop where
  rt : RootAt (floatOfInt .f32 n) (n * (one : Int)) X Z c
  q1 : floatBits .quo .f32 (rootW (floatOfInt .f32 n)) (floatOfInt .f32 R) = some q
  q2 : Same2 .quo 0 (rootW (floatOfInt .f32 n)) (floatOfInt .f32 R)
  r1 : floatBits .sub .f32 1065353216 q = some r
  r2 : Same2 .sub 1 1065353216 q
  w : coneW n R = r
  v : ∃ d, vS r = some d ∧ 0 ≤ d ∧ d ≤ (one : Int)

theorem cone_parts {n R : Int} (n0 : 0 ≤ n) (r1 : 1 ≤ R) (r2 : R ≤ 256) (h : n < R * R) : ∃ X Z c q r, ConeAt n R X Z c q r := by
  have hR : R * R ≤ 65536 := by
    have := Int.mul_le_mul r2 r2 (by omega) (by omega); omega
  obtain ⟨vn, bn⟩ := int_val (n := n) (by omega)
  obtain ⟨vr, _⟩ := int_val (n := R) (by omega)
  have hp : (0 : Int) < (one : Int) := Int.natCast_pos.2 one_pos
  obtain ⟨X, Z, c, RT⟩ := root_parts vn (Int.mul_nonneg n0 (by omega)) bn (by omega)
  obtain ⟨g, hg⟩ : ∃ g : Nat, R = g := ⟨R.toNat, by omega⟩
  have cR : c ≤ R * (one : Int) := by
    rw [hg]
    refine RT.hi g (by omega) ?_
    rw [Int.natCast_mul, ← hg]
    exact Int.mul_le_mul_of_nonneg_right (by omega) (by omega)
  have c0 := RT.nn
  have Rp : 0 < R * (one : Int) := Int.mul_pos (by omega) hp
  have q2 : Same2 .quo 0 (rootW (floatOfInt .f32 n)) (floatOfInt .f32 R) := div_val RT.val vr (by omega) (by omega) (by rw [Nat.pow_zero, Nat.mul_one]; omega)
  obtain ⟨q, q1, bq⟩ := same_ex q2
  obtain ⟨cq, hcq, _⟩ := val_bd bq
  obtain ⟨r, e1, e2, v⟩ := one_minus bq hcq (quo_sign q1 RT.val vr hcq c0 Rp)
  exact ⟨X, Z, c, q, r, RT, q1, q2, e1, e2, by unfold coneW quoW subW; rw [q1]; show (floatBits .sub .f32 1065353216 q).getD 0 = r; rw [e1]; rfl, v⟩

structure BellAt (n F : Int) (q t r : Nat) : Prop where
  q1 : floatBits .quo .f32 (floatOfInt .f32 n) (floatOfInt .f32 F) = some q
  q2 : Same2 .quo 0 (floatOfInt .f32 n) (floatOfInt .f32 F)
  t1 : floatBits .sub .f32 1065353216 q = some t
  t2 : Same2 .sub 1 1065353216 q
  r1 : floatBits .mul .f32 t t = some r
  r2 : Same2 .mul 0 t t
  w : mulW (bellT n F) (bellT n F) = r
  v : ∃ d, vS r = some d ∧ 0 ≤ d ∧ d ≤ (one : Int)

theorem unit_square {t : Nat} {a : Int} (h : vS t = some a) (a0 : 0 ≤ a) (a1 : a ≤ (one : Int)) : ∃ r, floatBits .mul .f32 t t = some r ∧ Same2 .mul 0 t t ∧ ∃ d, vS r = some d ∧ 0 ≤ d ∧ d ≤ (one : Int) := by
  have bt := bd_unit h (by omega) a1
  have s : Same2 .mul 0 t t := mul_same (a := 0) (b := 0) (by omega) bt bt
  obtain ⟨r, e, _⟩ := same_ex s
  obtain ⟨P, hP⟩ := mul_unit h h
  have hone : (0 : Int) < (one : Int) := Int.natCast_pos.2 one_pos
  have P0 : 0 ≤ P := by
    have := Int.mul_nonneg a0 a0
    rw [hP] at this
    exact Int.le_of_mul_le_mul_right (by rw [Int.zero_mul]; exact this) hone
  have P1 : P ≤ (one : Int) := by
    have := Int.mul_le_mul a1 a1 a0 (Int.le_of_lt hone)
    rw [hP] at this
    exact Int.le_of_mul_le_mul_right this hone
  obtain ⟨B, hB⟩ : ∃ B : Nat, B = 1100 := ⟨_, rfl⟩
  have lt : one < 2 ^ B := one_lt (by omega)
  have v := vS_mul (B := B) e h h hP (by omega) (by omega)
  refine ⟨r, e, s, _, v, rdS_nonneg P0, ?_⟩
  have := rdS_mono P1
  rwa [rdS_self vS_one] at this

theorem bell_parts {n F : Int} (n0 : 0 ≤ n) (f2 : F ≤ 65536) (h : n < F) : ∃ q t r, BellAt n F q t r := by
  obtain ⟨vn, bn⟩ := int_val (n := n) (by omega)
  obtain ⟨vf, _⟩ := int_val (n := F) (by omega)
  have hp : (0 : Int) < (one : Int) := Int.natCast_pos.2 one_pos
  have Fp : 0 < F * (one : Int) := Int.mul_pos (by omega) hp
  have N0 : 0 ≤ n * (one : Int) := Int.mul_nonneg n0 (by omega)
  have NF : n * (one : Int) ≤ F * (one : Int) := Int.mul_le_mul_of_nonneg_right (by omega) (by omega)
  have q2 : Same2 .quo 0 (floatOfInt .f32 n) (floatOfInt .f32 F) := div_val vn vf (by omega) (by omega) (by rw [Nat.pow_zero, Nat.mul_one]; omega)
  obtain ⟨q, q1, bq⟩ := same_ex q2
  obtain ⟨cq, hcq, _⟩ := val_bd bq
  obtain ⟨t, t1, t2, d, vd, d0, d1⟩ := one_minus bq hcq (quo_sign q1 vn vf hcq N0 Fp)
  obtain ⟨r, r1, r2, v⟩ := unit_square vd d0 d1
  have et : bellT n F = t := by unfold bellT quoW subW; rw [q1]; show (floatBits .sub .f32 1065353216 q).getD 0 = t; rw [t1]; rfl
  exact ⟨q, t, r, q1, q2, t1, t2, r1, r2, by rw [et]; unfold mulW; rw [r1]; rfl, v⟩

/-- A weight lies from 0 to 1. -/
theorem wei_in {k n R : Int} (n0 : 0 ≤ n) (r1 : 1 ≤ R) (r2 : R ≤ 256) : ∃ d, vS (weiW k n R) = some d ∧ 0 ≤ d ∧ d ≤ (one : Int) := by
  have hp := one_pos
  have hR : R * R ≤ 65536 := by
    have := Int.mul_le_mul r2 r2 (by omega) (by omega); omega
  unfold weiW
  split
  · exact ⟨0, vS_zero, by omega, by omega⟩
  · rename_i h
    split
    · obtain ⟨X, Z, c, q, r, C⟩ := cone_parts n0 r1 r2 (by omega)
      rw [C.w]; exact C.v
    · split
      · obtain ⟨q, t, r, C⟩ := bell_parts n0 hR (by omega)
        rw [C.w]; exact C.v
      · exact ⟨_, vS_one, by omega, by omega⟩
end Go.Proofs.Ytdbponidkodmfaa

/- Contracts of the regions' functions, continued: the reference's Grow; Common, Inside. -/
namespace Go.Proofs.Ytdbponidkodmfaa
open Go.RowKit

set_option maxHeartbeats 1000000 in
theorem landed_any (w : World) : Calls Try.prog 9 #[] w fun e w' => e = .returned (.bool true) ∧ Below w.heap.size w w' := by
  go_enter Try.func9, Try.ntmps9
  go_wp2
  go_ret
  exact ⟨rfl, (by repeat (first | exact Below.refl _ _ | refine Below.alloc ?_ (by first | omega | (simp; done) | (simp; omega)) _ | refine Below.setCell ?_ (by first | omega | (simp; done) | (simp; omega)) _ | refine Below.drew ?_))⟩

def insideB (x y w h x' y' w' h' : Int) : Bool := decide (x' ≤ x) && decide (y' ≤ y) && decide (x + w ≤ x' + w') && decide (y + h ≤ y' + h')
theorem insideB_iff {x y w h x' y' w' h' : Int} : insideB x y w h x' y' w' h' = true ↔ x' ≤ x ∧ y' ≤ y ∧ x + w ≤ x' + w' ∧ y + h ≤ y' + h' := by simp [insideB]; omega

set_option maxHeartbeats 1000000 in
theorem inside_any (x y ww hh x' y' ww' hh' : Int) (w : World) (a1 : -1073741824 ≤ x) (a2 : x ≤ 1073741824) (a3 : -1073741824 ≤ y) (a4 : y ≤ 1073741824) (a5 : 1 ≤ ww) (a6 : ww ≤ 1073741824) (a7 : 1 ≤ hh) (a8 : hh ≤ 1073741824)
    (b1 : -1073741824 ≤ x') (b2 : x' ≤ 1073741824) (b3 : -1073741824 ≤ y') (b4 : y' ≤ 1073741824) (b5 : 1 ≤ ww') (b6 : ww' ≤ 1073741824) (b7 : 1 ≤ hh') (b8 : hh' ≤ 1073741824) :
    Calls Try.prog 111 #[reg x y ww hh, reg x' y' ww' hh'] w fun e w' => e = .returned (.bool (insideB x y ww hh x' y' ww' hh')) ∧ Below w.heap.size w w' := by
  go_enter Try.func111, Try.ntmps111
  go_wp2
  all_goals go_ret
  all_goals refine ⟨ret_bool ?_, (by repeat (first | exact Below.refl _ _ | refine Below.alloc ?_ (by first | omega | (simp; done) | (simp; omega)) _ | refine Below.setCell ?_ (by first | omega | (simp; done) | (simp; omega)) _ | refine Below.drew ?_))⟩
  all_goals simp [insideB, *]
  all_goals omega

end Go.Proofs.Ytdbponidkodmfaa

/- Contracts: slices.Contains of the three kinds, CheckPlace, CheckBrush of both sides, the boxes. -/
namespace Go.Proofs.Ytdbponidkodmfaa
open Go.RowKit Fl
set_option linter.unusedVariables false

abbrev kindsObj : Obj := .cells #[.int .i64 1, .int .i64 2, .int .i64 3] 3

/-- The error of a place. -/
def plcE (x y : Int) : Int := if withinB x (-4194304) 4194304 = true ∧ withinB y (-4194304) 4194304 = true then 0 else 5

set_option maxHeartbeats 400000 in
theorem isPlace_any (x : Int) (w : World) :
    Calls Try.prog 133 #[.int .i64 x] w fun e w' => e = .returned (.bool (withinB x (-4194304) 4194304)) ∧ w = w' := by
  go_enter Try.func133, Try.ntmps133
  go_wp2_with (go_at_call 63; refine (within_any _ _ _ _).mono ?_; rintro e w' ⟨rfl, rfl⟩)
  go_ret
  exact ⟨rfl, rfl⟩

set_option maxHeartbeats 400000 in
theorem checkPlace_any (x y : Int) (w : World) :
    Calls Try.prog 61 #[.int .i64 x, .int .i64 y] w fun e w' => e = .returned (.int .i64 (plcE x y)) ∧ w = w' := by
  have PX := Lib.hid (fun w => isPlace_any x w)
  have PY := Lib.hid (fun w => isPlace_any y w)
  unfold plcE
  generalize withinB x (-4194304) 4194304 = c at *
  generalize withinB y (-4194304) 4194304 = d at *
  cases c <;> cases d
  all_goals go_enter Try.func61, Try.ntmps61
  all_goals go_wp2_with (first | (go_at_call 133; (with_reducible refine (PX.out _).mono ?_); rintro e w' ⟨rfl, rfl⟩) | (go_at_call 133; (with_reducible refine (PY.out _).mono ?_); rintro e w' ⟨rfl, rfl⟩))
  all_goals go_ret
  all_goals exact ⟨rfl, rfl⟩

/-- A brush as a value; its cells. -/
abbrev bru (k X Y R : Int) (h : Nat) : Value := .agg #[.int .i64 k, .int .i64 X, .int .i64 Y, .int .i64 R, .float .f32 h]
/-- The error of a brush. -/
def bruE (k X Y R : Int) (h : Nat) : Int := if withinB k 1 3 = false then 1 else if plcE X Y ≠ 0 then plcE X Y else if withinB R 1 256 = false then 3 else fldE 1 (fun _ => h)

theorem plcE_cases (x y : Int) : plcE x y = 0 ∨ plcE x y = 5 := by unfold plcE; split <;> simp

end Go.Proofs.Ytdbponidkodmfaa

/- Contracts: weight of the program; square and Weight of the reference. -/
namespace Go.Proofs.Ytdbponidkodmfaa
open Go.RowKit Fl
set_option linter.unusedVariables false

theorem side_sq {d : Int} (a : -8388608 ≤ d) (b : d ≤ 8388608) : 0 ≤ d * d ∧ d * d ≤ 70368744177664 := by
  have := Int.natAbs_mul d d
  have h : d * d = ((d.natAbs * d.natAbs : Nat) : Int) := by rw [Int.natCast_mul]; exact (Int.natAbs_mul_self' d).symm
  have l : d.natAbs * d.natAbs ≤ 8388608 * 8388608 := Nat.mul_le_mul (by omega) (by omega)
  omega
theorem rad_sq {R : Int} (r1 : 1 ≤ R) (r2 : R ≤ 256) : 1 ≤ R * R ∧ R * R ≤ 65536 := by
  have a := Int.mul_le_mul r2 r2 (by omega) (by omega)
  have b := Int.mul_le_mul r1 r1 (by omega) (by omega)
  omega

theorem drewBox (w : World) (o : Obj) (k : Nat) {w' : World} (h : w' = (w.alloc o).drewN k) : Below w.heap.size w w' := by
  rw [h]
  exact ((Below.refl _ _).alloc (Nat.le_refl _) _).trans ((below_drewN _ _).mono (by simp))
theorem drewBox2 (w : World) (o : Obj) (j k : Nat) {w' : World} (h : w' = ((w.alloc o).drewN j).drewN k) : Below w.heap.size w w' := by
  rw [h, World.drewN_drewN]; exact drewBox w o _ rfl

end Go.Proofs.Ytdbponidkodmfaa

/- Contracts: a fold's check, and what it lifts, of both sides. -/
namespace Go.Proofs.Ytdbponidkodmfaa
open Go.RowKit Fl
set_option linter.unusedVariables false

/-- A fold as a value; its cells. -/
abbrev fol (A B P : Int) (h : Nat) : Value := .agg #[.int .i64 A, .int .i64 B, .int .i64 P, .float .f32 h]
abbrev folObj (A B P : Int) (h : Nat) : Obj := .cells #[.int .i64 A, .int .i64 B, .int .i64 P, .float .f32 h] 36
/-- The error of a fold. -/
def folE (A B P : Int) (h : Nat) : Int := if withinB P 2 16777216 = false then 3 else if dirE A B 0 ≠ 0 then dirE A B 0 else fldE 1 (fun _ => h)

structure FolOk (A B P : Int) (h : Nat) : Prop where
  a1 : A.natAbs ≤ 1000
  b1 : B.natAbs ≤ 1000
  p1 : 2 ≤ P
  p2 : P ≤ 16777216
  hh : hgtB h = true

theorem fol_ok {A B P : Int} {h : Nat} (e : folE A B P h = 0) : FolOk A B P h := by
  unfold folE at e
  split at e
  · cases e
  · rename_i c
    split at e
    · rename_i d; exact absurd e d
    · rename_i d
      have d' : dirE A B 0 = 0 := by omega
      obtain ⟨l1, l2, _, _⟩ := dir_ok d'
      have c' : withinB P 2 16777216 = true := by simpa using c
      obtain ⟨p1, p2⟩ := withinB_iff.1 c'
      exact ⟨l1, l2, p1, p2, allB_iff.1 (fldE_zero.1 e) 0 (by omega)⟩

set_option maxHeartbeats 1000000 in
set_option maxRecDepth 100000 in
theorem checkFold_any (A B P : Int) (h : Nat) (w : World) :
    Calls Try.prog 17 #[fol A B P h] w fun e w' => e = .returned (.int .i64 (folE A B P h)) ∧ Below w.heap.size w w' := by
  have CD := Lib.hid (fun bb w (hb : w.heap[bb]? = some (dir2Obj A B)) => checkDir2_any A B bb w hb)
  have WR := Lib.hid (fun w => within_any P 2 16777216 w)
  have CH := Lib.hid (fun bb w (hb : w.heap[bb]? = some (flObj h)) => CheckHeights_row bb 0 1 1 (fun _ => h) (by omega) w (flAt_one_of hb))
  unfold folE
  obtain ⟨de, hde⟩ : ∃ de, dirE A B 0 = de := ⟨_, rfl⟩
  rw [hde] at CD ⊢
  clear hde
  generalize withinB P 2 16777216 = c2 at *
  generalize fldE 1 (fun _ => h) = er at *
  cases c2 with
  | false =>
    rw [if_pos rfl]
    go_enter Try.func17, Try.ntmps17
    go_wp2_with (first | (go_at_call 63; refine (WR.out _).mono ?_; rintro e w' ⟨rfl, rfl⟩))
    go_ret
    exact ⟨rfl, (by repeat (first | exact Below.refl _ _ | refine Below.alloc ?_ (by first | omega | (simp; done) | (simp; omega)) _ | refine Below.setCell ?_ (by first | omega | (simp; done) | (simp; omega)) _ | refine Below.drew ?_))⟩
  | true =>
    rw [if_neg (by simp)]
    by_cases d : de = 0
    · subst d
      rw [if_neg (by simp)]
      go_enter Try.func17, Try.ntmps17
      go_wp2_with (first | (go_at_call 63; refine (WR.out _).mono ?_; rintro e w' ⟨rfl, rfl⟩) | (go_at_call 64; refine (CD.out _ _ (by (first | (rw [heap_alloc_get, if_pos rfl]; done) | ((simp only [heap_alloc_get, heap_size_alloc, if_true]) <;> ((repeat' split) <;> first | rfl | omega))))).mono ?_; rintro e w' ⟨rfl, rfl⟩) | (go_at_call 65; refine (CH.out _ _ (by (first | (rw [heap_alloc_get, if_pos rfl]; done) | ((simp only [heap_alloc_get, heap_size_alloc, if_true]) <;> ((repeat' split) <;> first | rfl | omega))))).mono ?_; rintro e w' ⟨rfl, rfl⟩))
      go_ret
      exact ⟨rfl, (by repeat (first | exact Below.refl _ _ | refine Below.alloc ?_ (by first | omega | (simp; done) | (simp; omega)) _ | refine Below.setCell ?_ (by first | omega | (simp; done) | (simp; omega)) _ | refine Below.drew ?_))⟩
    · rw [if_pos d]
      have dn : (de == 0) = false := by simpa using d
      go_enter Try.func17, Try.ntmps17
      go_wp2_with (first | (go_at_call 63; refine (WR.out _).mono ?_; rintro e w' ⟨rfl, rfl⟩) | (go_at_call 64; refine (CD.out _ _ (by (first | (rw [heap_alloc_get, if_pos rfl]; done) | ((simp only [heap_alloc_get, heap_size_alloc, if_true]) <;> ((repeat' split) <;> first | rfl | omega))))).mono ?_; rintro e w' ⟨rfl, rfl⟩))
      go_ret
      exact ⟨rfl, (by repeat (first | exact Below.refl _ _ | refine Below.alloc ?_ (by first | omega | (simp; done) | (simp; omega)) _ | refine Below.setCell ?_ (by first | omega | (simp; done) | (simp; omega)) _ | refine Below.drew ?_))⟩

set_option maxHeartbeats 400000 in
theorem rfoldIn_any (x : Int) (w : World) :
    Calls Try.prog 66 #[.int .i64 x] w fun e w' => e = .returned (.bool (withinB x (-1000) 1000)) ∧ w = w' := by
  go_enter Try.func66, Try.ntmps66
  go_wp2
  all_goals go_ret
  all_goals refine ⟨ret_bool (Eq.symm ?_), rfl⟩
  all_goals first
    | (rw [withinB_iff]; omega)
    | (rw [withinB_no]; omega)
    | (rw [Bool.eq_iff_iff, withinB_iff, decide_eq_true_eq]; omega)

theorem fol_e {A B P : Int} {h : Nat} {er : Int} (her : fldE 1 (fun _ => h) = er) : folE A B P h =
    if P < 2 ∨ 16777216 < P then 3 else if withinB A (-1000) 1000 = false ∨ withinB B (-1000) 1000 = false then 3 else if A = 0 ∧ B = 0 then 12 else er := by
  unfold folE dirE
  rw [her]
  have z : withinB (0 : Int) (-1000) 1000 = true := rfl
  by_cases p : P < 2 ∨ 16777216 < P
  · rw [if_pos p, if_pos (by rw [withinB_no]; omega)]
  · rw [if_neg p, if_neg (by rw [Bool.not_eq_false, withinB_iff]; omega)]
    cases a : withinB A (-1000) 1000 <;> cases b : withinB B (-1000) 1000 <;> simp [z]
    split <;> simp_all

set_option maxHeartbeats 1000000 in
set_option maxRecDepth 100000 in
theorem refCheckFold_any (A B P : Int) (h : Nat) (hh : h < 4294967296) (w : World) :
    Calls Try.prog 18 #[fol A B P h] w fun e w' => e = .returned (.int .i64 (folE A B P h)) ∧ Below w.heap.size w w' := by
  have HT := Lib.hid (fun bb w (hb : w.heap[bb]? = some (flObj h)) => refHeight_of h hh bb w hb)
  have IA := Lib.hid (fun w => rfoldIn_any A w)
  have IB := Lib.hid (fun w => rfoldIn_any B w)
  obtain ⟨er, her⟩ : ∃ er, fldE 1 (fun _ => h) = er := ⟨_, rfl⟩
  rw [her] at HT
  rw [fol_e her]
  clear her hh
  generalize withinB A (-1000) 1000 = ca at *
  generalize withinB B (-1000) 1000 = cb at *
  cases ca <;> cases cb
  all_goals go_enter Try.func18, Try.ntmps18
  all_goals go_wp2_with (first | (go_at_call 66; (with_reducible refine (IA.out _).mono ?_); rintro e w' ⟨rfl, rfl⟩) | (go_at_call 66; (with_reducible refine (IB.out _).mono ?_); rintro e w' ⟨rfl, rfl⟩) | (go_at_call 42; refine (HT.out _ _ (by (first | (rw [heap_alloc_get, if_pos rfl]; done) | ((simp only [heap_alloc_get, heap_size_alloc, if_true]) <;> ((repeat' split) <;> first | rfl | omega))))).mono ?_; rintro e w' ⟨rfl, rfl⟩))
  all_goals go_ret
  all_goals refine ⟨ret_int (Eq.symm ?_), (by repeat (first | exact Below.refl _ _ | refine Below.alloc ?_ (by first | omega | (simp; done) | (simp; omega)) _ | refine Below.setCell ?_ (by first | omega | (simp; done) | (simp; omega)) _ | refine Below.drew ?_))⟩
  all_goals (repeat' split)
  all_goals first | rfl | omega | (simp_all; done) | (simp_all; omega)
end Go.Proofs.Ytdbponidkodmfaa

/- Contracts: what a fold lifts, of both sides. -/
namespace Go.Proofs.Ytdbponidkodmfaa
open Go.RowKit Fl
set_option linter.unusedVariables false

/-- The product of a part of a direction and a coordinate. -/
theorem part_bd {A x : Int} (a : A.natAbs ≤ 1000) (x1 : -8388608 ≤ x) (x2 : x ≤ 8388608) : -8388608000 ≤ A * x ∧ A * x ≤ 8388608000 := by
  have h : (A * x).natAbs ≤ 1000 * 8388608 := by
    rw [Int.natAbs_mul]; exact Nat.mul_le_mul a (by omega)
  omega

/-- How far a place lies behind the beginning of its fold. -/
def folK (A B P x y : Int) : Int := (A * x + B * y) % P
theorem folK_in {A B P x y : Int} (p : 2 ≤ P) : 0 ≤ folK A B P x y ∧ folK A B P x y < P := ⟨Int.emod_nonneg _ (by omega), Int.emod_lt_of_pos _ (by omega)⟩

set_option maxHeartbeats 1000000 in
set_option maxRecDepth 100000 in
theorem lift_any (A B P : Int) (h : Nat) (x y : Int) (w : World) (K : FolOk A B P h) (x1 : -8388608 ≤ x) (x2 : x ≤ 8388608) (y1 : -8388608 ≤ y) (y2 : y ≤ 8388608) :
    Calls Try.prog 55 #[fol A B P h, .int .i64 x, .int .i64 y] w fun e w' => e = .returned (.float .f32 (lifW (folK A B P x y) P h)) ∧ Below w.heap.size w w' := by
  obtain ⟨k0, k1⟩ := folK_in (A := A) (B := B) (P := P) (x := x) (y := y) K.p1
  obtain ⟨q, X2, t0, c, t1, p, q', r', e, r, L⟩ := lif_parts k0 k1 K.p2 K.hh
  have u1 := part_bd K.a1 x1 x2
  have u2 := part_bd K.b1 y1 y2
  obtain ⟨a, ha⟩ : ∃ a, A * x = a := ⟨_, rfl⟩
  obtain ⟨b, hb⟩ : ∃ b, B * y = b := ⟨_, rfl⟩
  have w1 : wrap64 (A * x) = a := by rw [← ha]; exact IntWalk.wrap64_in _ ⟨by omega, by omega⟩
  have w2 : wrap64 (B * y) = b := by rw [← hb]; exact IntWalk.wrap64_in _ ⟨by omega, by omega⟩
  rw [ha] at u1
  rw [hb] at u2
  obtain ⟨n, hn⟩ : ∃ n, a + b = n := ⟨_, rfl⟩
  have w3 : wrap64 (a + b) = n := by rw [← hn]; exact IntWalk.wrap64_in _ ⟨by omega, by omega⟩
  have hk : folK A B P x y = n % P := by unfold folK; rw [ha, hb, hn]
  have DV := Lib.hid (fun w => divide_any n P w (by have := K.p1; omega) K.p2 (by omega) (by omega))
  rw [L.w]
  rw [hk] at L
  rw [L.qw] at DV
  have e1 := fun (W : World) => run_float_arith (P := Try.prog) W .mul 34 .f32 q 1073741824 t0 L.m1
  have e2 := fun (W : World) => run_float_arith (P := Try.prog) W .mul 34 .f32 h e r L.r1
  have SE := Lib.hid (fun w => sease_any t1 p q' r' e L.ea L.wi w)
  rw [L.ea.w] at SE
  have cg := L.cg
  have s1 := L.s1
  have s0 := L.s0
  clear L ha hb hn hk K k0 k1 x1 x2 y1 y2 u1 u2
  cases c with
  | true =>
    have e3 := fun (W : World) => run_float_arith (P := Try.prog) W .sub 34 .f32 1073741824 t0 t1 (s1 rfl)
    clear s1 s0
    go_enter Try.func55, Try.ntmps55
    go_wp2_with (first | (go_at_call 126; refine (DV.out _).mono ?_; rintro e' w4 ⟨rfl, hb4⟩; have hc4 := blkStay (b := w.heap.size) (o := folObj A B P h) (by (first | (rw [heap_alloc_get, if_pos rfl]; done) | ((simp only [heap_alloc_get, heap_size_alloc, if_true]) <;> ((repeat' split) <;> first | rfl | omega)))) hb4; have hB4 : Below w.heap.size w w4 := Below.trans (by repeat (first | exact Below.refl _ _ | refine Below.alloc ?_ (by first | omega | (simp; done) | (simp; omega)) _ | refine Below.setCell ?_ (by first | omega | (simp; done) | (simp; omega)) _ | refine Below.drew ?_)) (Below.mono hb4 (by simp)); clear hb4; obtain ⟨cB, fB, zB⟩ := blkC hc4; clear hc4))
    go_quiet (first | (go_at_call 127; exact Calls.quiet_of_same (Calls.mono (SE.out _) fun _ _ h => ⟨h.1, h.2.symm⟩)))
    go_wp2
    go_ret
    exact ⟨rfl, hB4.trans ((below_drewN _ _).mono hB4.size)⟩
  | false =>
    have s0' := s0 rfl
    subst s0'
    clear s1 s0
    go_enter Try.func55, Try.ntmps55
    go_wp2_with (first | (go_at_call 126; refine (DV.out _).mono ?_; rintro e' w4 ⟨rfl, hb4⟩; have hc4 := blkStay (b := w.heap.size) (o := folObj A B P h) (by (first | (rw [heap_alloc_get, if_pos rfl]; done) | ((simp only [heap_alloc_get, heap_size_alloc, if_true]) <;> ((repeat' split) <;> first | rfl | omega)))) hb4; have hB4 : Below w.heap.size w w4 := Below.trans (by repeat (first | exact Below.refl _ _ | refine Below.alloc ?_ (by first | omega | (simp; done) | (simp; omega)) _ | refine Below.setCell ?_ (by first | omega | (simp; done) | (simp; omega)) _ | refine Below.drew ?_)) (Below.mono hb4 (by simp)); clear hb4; obtain ⟨cB, fB, zB⟩ := blkC hc4; clear hc4))
    go_quiet (first | (go_at_call 127; exact Calls.quiet_of_same (Calls.mono (SE.out _) fun _ _ h => ⟨h.1, h.2.symm⟩)))
    go_wp2
    go_ret
    exact ⟨rfl, hB4.trans ((below_drewN _ _).mono hB4.size)⟩

set_option maxHeartbeats 1000000 in
set_option maxRecDepth 100000 in
theorem rlift_any (A B P : Int) (h : Nat) (x y : Int) (w : World) (K : FolOk A B P h) (x1 : -8388608 ≤ x) (x2 : x ≤ 8388608) (y1 : -8388608 ≤ y) (y2 : y ≤ 8388608) :
    Calls Try.prog 60 #[fol A B P h, .int .i64 x, .int .i64 y] w fun e w' => e = .returned (.float .f32 (lifW (folK A B P x y) P h)) ∧ Below w.heap.size w w' := by
  obtain ⟨k0, k1⟩ := folK_in (A := A) (B := B) (P := P) (x := x) (y := y) K.p1
  obtain ⟨q, X2, t0, c, t1, p, q', r', e, r, L⟩ := lif_parts k0 k1 K.p2 K.hh
  have u1 := part_bd K.a1 x1 x2
  have u2 := part_bd K.b1 y1 y2
  obtain ⟨a, ha⟩ : ∃ a, A * x = a := ⟨_, rfl⟩
  obtain ⟨b, hb⟩ : ∃ b, B * y = b := ⟨_, rfl⟩
  have w1 : wrap64 (A * x) = a := by rw [← ha]; exact IntWalk.wrap64_in _ ⟨by omega, by omega⟩
  have w2 : wrap64 (B * y) = b := by rw [← hb]; exact IntWalk.wrap64_in _ ⟨by omega, by omega⟩
  rw [ha] at u1
  rw [hb] at u2
  obtain ⟨n, hn⟩ : ∃ n, a + b = n := ⟨_, rfl⟩
  have w3 : wrap64 (a + b) = n := by rw [← hn]; exact IntWalk.wrap64_in _ ⟨by omega, by omega⟩
  have QU := Lib.hid (fun w => quotient2_any n 1 P w (by have := K.p1; omega) K.p2 (by omega) (by omega))
  rw [Int.mul_one] at QU
  have hk : folK A B P x y = n % P := by unfold folK; rw [ha, hb, hn]
  rw [L.w]
  rw [hk] at L
  obtain ⟨k, hk2⟩ : ∃ k, n % P = k := ⟨_, rfl⟩
  rw [hk2] at L QU
  have M1 := Lib.hid (fun w => refMul_any 26 _ _ X2 L.x2' L.x1 w)
  have DV := Lib.hid (fun w => refDiv_any 1 _ _ t0 L.d2 L.d1 w)
  have M2 := Lib.hid (fun w => refMul_any 20 _ _ r L.r2 L.r1 w)
  have SE := Lib.hid (fun w => refEase_any t1 p q' r' e L.ea w)
  rw [L.ea.w] at SE
  have cg := L.cg
  have s1 := L.s1
  have s2 := L.s2
  have s0 := L.s0
  clear L ha hb hn hk hk2 K k0 k1 x1 x2 y1 y2 u1 u2
  cases c with
  | true =>
    have S1 := Lib.hid (fun w => refSub_any 3 _ _ t1 (s2 rfl) (s1 rfl) w)
    clear s1 s2 s0
    go_enter Try.func60, Try.ntmps60
    go_wp2_with (first | (go_at_call 129; refine (QU.out _).mono ?_; rintro e' w' ⟨rfl, rfl⟩))
    go_quiet (first | (go_at_call 131; exact Calls.quiet_of_same (Calls.mono (refConv_any _ _) fun _ _ h => ⟨h.1, h.2.symm⟩)) | (go_at_call 86; exact Calls.quiet_of_same (Calls.mono (M1.out _) fun _ _ h => ⟨h.1, h.2.symm⟩)) | (go_at_call 130; exact Calls.quiet_of_same (Calls.mono (DV.out _) fun _ _ h => ⟨h.1, h.2.symm⟩)))
    go_wp2_with (first | (go_at_call 90; refine (S1.out _).mono ?_; rintro e' w' ⟨rfl, rfl⟩))
    go_quiet (first | (go_at_call 132; exact (SE.out _).mono fun _ _ h => ⟨h.1, _, h.2.symm⟩) | (go_at_call 86; exact (M2.out _).mono fun _ _ h => ⟨h.1, _, h.2.symm⟩))
    go_wp2
    go_ret
    exact ⟨rfl, drewBox2 _ _ _ _ rfl⟩
  | false =>
    have s0' := s0 rfl
    subst s0'
    clear s1 s2 s0
    go_enter Try.func60, Try.ntmps60
    go_wp2_with (first | (go_at_call 129; refine (QU.out _).mono ?_; rintro e' w' ⟨rfl, rfl⟩))
    go_quiet (first | (go_at_call 131; exact Calls.quiet_of_same (Calls.mono (refConv_any _ _) fun _ _ h => ⟨h.1, h.2.symm⟩)) | (go_at_call 86; exact Calls.quiet_of_same (Calls.mono (M1.out _) fun _ _ h => ⟨h.1, h.2.symm⟩)) | (go_at_call 130; exact Calls.quiet_of_same (Calls.mono (DV.out _) fun _ _ h => ⟨h.1, h.2.symm⟩)))
    go_wp2
    go_quiet (first | (go_at_call 132; exact (SE.out _).mono fun _ _ h => ⟨h.1, _, h.2.symm⟩) | (go_at_call 86; exact (M2.out _).mono fun _ _ h => ⟨h.1, _, h.2.symm⟩))
    go_wp2
    go_ret
    exact ⟨rfl, drewBox2 _ _ _ _ rfl⟩
end Go.Proofs.Ytdbponidkodmfaa

/- Contracts: remade, whatever function of a value and its place it is given. -/
namespace Go.Proofs.Ytdbponidkodmfaa
open Go.RowKit Fl
set_option linter.unusedVariables false

theorem enters_remade1 : Enters 157 := by intro args W; simp [callFunc, Try.func157, Try.f157]

/-- A function of a value and its place, as a closure: over the cells of a field with the values v it answers f. -/
def Clos3 (g : Nat) (caps : Array Value) (X Y W H : Int) (v f : Nat → Nat) (w : World) : Prop :=
  ∀ (x y : Int) (i : Nat) (W' : World), X ≤ x → x < X + W → Y ≤ y → y < Y + H → (i : Int) = (y - Y) * W + (x - X) → Below w.heap.size w W' →
    Calls Try.prog g (#[.float .f32 (v i), .int .i64 x, .int .i64 y] ++ caps) W' fun e W'' => e = .returned (.float .f32 (f i)) ∧ Below W'.heap.size W' W''
theorem Clos3.stay {g : Nat} {caps : Array Value} {X Y W H : Int} {v f : Nat → Nat} {w w' : World} (h : Clos3 g caps X Y W H v f w) (hb : Below w.heap.size w w') : Clos3 g caps X Y W H v f w' :=
  fun x y i W' h1 h2 h3 h4 h5 hb' => h x y i W' h1 h2 h3 h4 h5 (hb.trans (hb'.mono hb.size))

/-- Such a function value in a box. -/
abbrev fn3Obj (g : Nat) (caps : Array Value) : Obj := .cells #[.func (.func g) #[] caps] 133

set_option maxHeartbeats 4000000 in
set_option maxRecDepth 100000 in
theorem remade1_any (X Y : Int) (W H n b cap : Nat) (v f : Nat → Nat) (g : Nat) (caps : Array Value) (p q : Nat) (w : World) (hcall : Enters g) (hcl : Clos3 g caps X Y W H v f w)
    (hp : w.heap[p]? = some (fldO X Y W H (.slice (some ⟨b, 0, none⟩) n cap))) (hq : w.heap[q]? = some (fn3Obj g caps)) (hc : FlAt w b 0 n v) (hn : n ≤ 65536)
    (hX1 : -16777216 ≤ X) (hX2 : X ≤ 16777216) (hY1 : -16777216 ≤ Y) (hY2 : Y ≤ 16777216) (hW1 : 1 ≤ W) (hW2 : W ≤ 512) (hH2 : H ≤ 512) (hnn : n = H * W) :
    Clos2 157 #[.pointer (some ⟨q, 0, none⟩), .pointer (some ⟨p, 0, none⟩)] X Y W H f w := by
  intro x y i w2 h1 h2 h3 h4 h5 hb
  have hi : i < n := num_lt hW1 h1 h2 h4 h5 hnn
  have CC := Lib.hid (fun W' (hB : Below w2.heap.size w2 W') => hcl x y i W' h1 h2 h3 h4 h5 (hb.trans (hB.mono hb.size)))
  have IX := Lib.hid (fun w => index_any X Y W H i x y w hX1 hX2 hY1 hY2 hW1 hW2 hH2 h1 h2 h3 h4 h5 (by omega))
  have P := blkStay hp hb
  have Q := blkStay hq hb
  have hcell : w2.cell? ⟨b, i, none⟩ = some (.float .f32 (v i)) := by
    have := flAt_congr hc (hb.block b (World.block_lt_of_cell? w _ (hc i hi))) i hi
    rwa [Nat.zero_add] at this
  have zb : b < w2.heap.size := World.block_lt_of_cell? w2 _ hcell
  have HC := Lib.hid hcell
  have HP := Lib.hid P
  have HQ := Lib.hid Q
  obtain ⟨cP, fP, zP⟩ := blkC P
  obtain ⟨cQ, fQ, zQ⟩ := blkC Q
  unfold Enters at hcall
  have hi2 : (i : Int) < (n : Int) := by omega
  have hi3 : (0 : Int) ≤ (i : Int) := by omega
  clear hp hq P Q hb h1 h2 h3 h4 h5 hX1 hX2 hY1 hY2 hW1 hW2 hH2 hnn hcl hc hi hn
  go_enter Try.func157, Try.ntmps157
  go_wp2
  go_region_held3 (fun w' => (∀ o, w'.cell? ⟨p, o, none⟩ = #[.int .i64 X, .int .i64 Y, .int .i64 W, .int .i64 H, .slice (some ⟨b, 0, none⟩) n cap][o]?) ∧ (∀ o, w'.cell? ⟨q, o, none⟩ = #[.func (.func g) #[] caps][o]?) ∧ w'.cell? ⟨b, i, none⟩ = some (.float .f32 (v i)) ∧ Below w2.heap.size w2 w') (first | exact ⟨(blkC (blkStay HP.out hb9)).1, (blkC (blkStay HQ.out hb9)).1, (Below.cell (p := ⟨b, i, none⟩) (w := w2) (B := w2.heap.size) hb9 zb).trans HC.out, hb9⟩ | exact ⟨(blkC (blkStay HP.out (by repeat (first | exact Below.refl _ _ | refine Below.alloc ?_ (by first | omega | (simp; done) | (simp; omega)) _ | refine Below.setCell ?_ (by first | omega | (simp; done) | (simp; omega)) _ | refine Below.drew ?_)))).1, (blkC (blkStay HQ.out (by repeat (first | exact Below.refl _ _ | refine Below.alloc ?_ (by first | omega | (simp; done) | (simp; omega)) _ | refine Below.setCell ?_ (by first | omega | (simp; done) | (simp; omega)) _ | refine Below.drew ?_)))).1, (Below.cell (p := ⟨b, i, none⟩) (w := w2) (B := w2.heap.size) (by repeat (first | exact Below.refl _ _ | refine Below.alloc ?_ (by first | omega | (simp; done) | (simp; omega)) _ | refine Below.setCell ?_ (by first | omega | (simp; done) | (simp; omega)) _ | refine Below.drew ?_)) zb).trans HC.out, (by repeat (first | exact Below.refl _ _ | refine Below.alloc ?_ (by first | omega | (simp; done) | (simp; omega)) _ | refine Below.setCell ?_ (by first | omega | (simp; done) | (simp; omega)) _ | refine Below.drew ?_))⟩) (first | (go_at_call 114; (with_reducible refine Calls.mono (IX.out _) ?_); rintro e w' ⟨rfl, rfl⟩) | (go_simp; (with_reducible refine Calls.mono (CC.out _ ?_) ?_); exact (by repeat (first | exact Below.refl _ _ | refine Below.alloc ?_ (by first | omega | (simp; done) | (simp; omega)) _ | refine Below.setCell ?_ (by first | omega | (simp; done) | (simp; omega)) _ | refine Below.drew ?_)); rintro e w' ⟨rfl, hb8⟩; have hb9 : Below w2.heap.size w2 w' := Below.trans (by repeat (first | exact Below.refl _ _ | refine Below.alloc ?_ (by first | omega | (simp; done) | (simp; omega)) _ | refine Below.setCell ?_ (by first | omega | (simp; done) | (simp; omega)) _ | refine Below.drew ?_)) (Below.mono hb8 (by first | exact Nat.le_refl _ | (simp; done) | (simp; omega))); clear hb8))
  rename_i hHeld
  go_wp2
  go_ret
  exact ⟨rfl, hHeld.2.2.2⟩

set_option maxHeartbeats 2000000 in
theorem remade_any (X Y : Int) (W H n b cap : Nat) (v f : Nat → Nat) (g : Nat) (caps : Array Value) (w : World) (hcall : Enters g) (hcl : Clos3 g caps X Y W H v f w) (h0 : checkR X Y W H = 0) (hnn : n = H * W) (hc : FlAt w b 0 n v) :
    Calls Try.prog 124 #[fldV X Y W H (.slice (some ⟨b, 0, none⟩) n cap), .func (.func g) #[] caps] w (MadePost w X Y W H n f) := by
  obtain ⟨b1, b2, b3, b4, b5, b6, b7, b8, b9⟩ := checkR_zero h0
  have hn2 : n ≤ 65536 := by
    have : ((W : Int) * (H : Int)) = (n : Int) := by rw [hnn, Nat.mul_comm]; simp
    omega
  have n1 : 1 ≤ n := by rw [hnn]; exact Nat.mul_pos (by omega) (by omega)
  have hlt : b < w.heap.size := World.block_lt_of_cell? w _ (hc 0 n1)
  have hB : Below w.heap.size w (((w.alloc (fldO X Y W H (.slice (some ⟨b, 0, none⟩) n cap))).alloc (fn3Obj g caps)).alloc (fldO 0 0 0 0 (.slice none 0 0))) := (by repeat (first | exact Below.refl _ _ | refine Below.alloc ?_ (by first | omega | (simp; done) | (simp; omega)) _ | refine Below.setCell ?_ (by first | omega | (simp; done) | (simp; omega)) _ | refine Below.drew ?_))
  have MK := Lib.hid (make_ok X Y W H n 157 #[.pointer (some ⟨w.heap.size + 1, 0, none⟩), .pointer (some ⟨w.heap.size, 0, none⟩)] f (((w.alloc (fldO X Y W H (.slice (some ⟨b, 0, none⟩) n cap))).alloc (fn3Obj g caps)).alloc (fldO 0 0 0 0 (.slice none 0 0))) enters_remade1
    (remade1_any X Y W H n b cap v f g caps w.heap.size (w.heap.size + 1) _ hcall (hcl.stay hB) (by ((simp only [heap_alloc_get, heap_size_alloc, if_true]) <;> ((repeat' split) <;> first | rfl | omega))) (by ((simp only [heap_alloc_get, heap_size_alloc, if_true]) <;> ((repeat' split) <;> first | rfl | omega))) (flAt_congr hc (hB.block b hlt)) hn2 (by omega) (by omega) (by omega) (by omega) (by omega) (by omega) (by omega) hnn) h0 hnn)
  clear hcl hcall hc h0 b1 b2 b3 b4 b5 b6 b7 b8 b9 hnn hn2 n1 hlt hB
  go_enter Try.func124, Try.ntmps124
  go_wp2_with fail
  refine MK.out.mono ?_
  intro e w4 hmade
  rcases hmade with ⟨hall, b', cap', rfl, hb', hlt', hrow, hbel⟩ | ⟨hall, rfl, hbel⟩
  · have hS := Lib.hid (blkStay (b := w.heap.size + 1 + 1) (o := fldO 0 0 0 0 (.slice none 0 0)) (by ((simp only [heap_alloc_get, heap_size_alloc, if_true]) <;> ((repeat' split) <;> first | rfl | omega))) hbel)
    have hB : Below w.heap.size w w4 := Below.trans (by repeat (first | exact Below.refl _ _ | refine Below.alloc ?_ (by first | omega | (simp; done) | (simp; omega)) _ | refine Below.setCell ?_ (by first | omega | (simp; done) | (simp; omega)) _ | refine Below.drew ?_)) (Below.mono hbel (by simp; omega))
    obtain ⟨cS, fS, zS⟩ := blkC hS.out
    have HB := Lib.hid hb'
    clear hb'
    go_wp2
    refine bodyPost_ret (v := .tuple #[fldV X Y W H (.slice (some ⟨b', 0, none⟩) n cap'), .int .i64 0]) (by simp [results, Try.results124, go_sem, cS]) rfl ?_
    have hb' := HB.out
    simp only [heap_size_alloc] at hb'
    exact .inl ⟨hall, b', cap', rfl, by omega, by rw [set5_size]; exact hlt', flAt_congr hrow (set5_heap w4 _ _ _ _ _ _ _ (by omega)), set5_below hB _ _ _ _ _ _ (by omega)⟩
  · have hS := Lib.hid (blkStay (b := w.heap.size + 1 + 1) (o := fldO 0 0 0 0 (.slice none 0 0)) (by ((simp only [heap_alloc_get, heap_size_alloc, if_true]) <;> ((repeat' split) <;> first | rfl | omega))) hbel)
    have hB : Below w.heap.size w w4 := Below.trans (by repeat (first | exact Below.refl _ _ | refine Below.alloc ?_ (by first | omega | (simp; done) | (simp; omega)) _ | refine Below.setCell ?_ (by first | omega | (simp; done) | (simp; omega)) _ | refine Below.drew ?_)) (Below.mono hbel (by simp; omega))
    obtain ⟨cS, fS, zS⟩ := blkC hS.out
    go_wp2
    refine bodyPost_ret (v := .tuple #[fldV 0 0 0 0 (.slice none 0 0), .int .i64 3]) (by simp [results, Try.results124, go_sem, cS]) rfl ?_
    exact .inr ⟨hall, rfl, set5_below hB _ _ _ _ _ _ (by omega)⟩
end Go.Proofs.Ytdbponidkodmfaa

/- A list of folds; what its folds make of a cell, of both sides. -/
namespace Go.Proofs.Ytdbponidkodmfaa
open Go.RowKit Fl
set_option linter.unusedVariables false

/-- The cells of a list of folds. -/
def FolsAt (w : World) (b off n : Nat) (A B P : Nat → Int) (h : Nat → Nat) : Prop :=
  ∀ i, i < n → w.cell? ⟨b, off + i * 4, none⟩ = some (.int .i64 (A i)) ∧ w.cell? ⟨b, off + i * 4 + 1, none⟩ = some (.int .i64 (B i)) ∧ w.cell? ⟨b, off + i * 4 + 2, none⟩ = some (.int .i64 (P i)) ∧ w.cell? ⟨b, off + i * 4 + 3, none⟩ = some (.float .f32 (h i))
/-- A list of n folds: empty, or known cell by cell. -/
def FolL (w : World) (a : Option Addr) (n : Nat) (A B P : Nat → Int) (h : Nat → Nat) : Prop := n = 0 ∨ ∃ b off, a = some ⟨b, off, none⟩ ∧ FolsAt w b off n A B P h

theorem FolsAt.stay {w w' : World} {b off n : Nat} {A B P : Nat → Int} {h : Nat → Nat} (L : FolsAt w b off n A B P h) (hb : Below w.heap.size w w') : FolsAt w' b off n A B P h := fun i hi => by
  obtain ⟨l0, l1, l2, l3⟩ := L i hi
  have z : b < w.heap.size := World.block_lt_of_cell? w _ l0
  exact ⟨(Below.cell (p := ⟨b, off + i * 4, none⟩) hb z).trans l0, (Below.cell (p := ⟨b, off + i * 4 + 1, none⟩) hb z).trans l1, (Below.cell (p := ⟨b, off + i * 4 + 2, none⟩) hb z).trans l2, (Below.cell (p := ⟨b, off + i * 4 + 3, none⟩) hb z).trans l3⟩
theorem FolL.stay {w w' : World} {a : Option Addr} {n : Nat} {A B P : Nat → Int} {h : Nat → Nat} (L : FolL w a n A B P h) (hb : Below w.heap.size w w') : FolL w' a n A B P h :=
  L.imp id fun ⟨b, off, e, l⟩ => ⟨b, off, e, l.stay hb⟩

/-- v, and the first n of f added in order. -/
def accW (v : Nat) (f : Nat → Nat) : Nat → Nat
  | 0 => v
  | j + 1 => addW (accW v f j) (f j)

theorem acc_bd {v : Nat} {f : Nat → Nat} (hv : Bd 20 v) : ∀ n, n ≤ 100 → (∀ i, i < n → Bd 20 (f i)) → Bd (20 + n) (accW v f n)
  | 0, _, _ => hv
  | n + 1, hn, hf => by
    have ih := acc_bd hv n (by omega) (fun i hi => hf i (by omega))
    have s : Same2 .add (20 + n + 1) (accW v f n) (f n) := add_same (k := 20 + n) (by omega) ih (bd_up (hf n (by omega)) (by omega))
    obtain ⟨r, r1, b⟩ := same_ex s
    show Bd (20 + (n + 1)) (addW (accW v f n) (f n))
    unfold addW; rw [r1]; exact b

theorem acc_step {v : Nat} {f : Nat → Nat} {n j : Nat} (hv : Bd 20 v) (hn : n ≤ 100) (hj : j < n) (hf : ∀ i, i < n → Bd 20 (f i)) : ∃ r, floatBits .add .f32 (accW v f j) (f j) = some r ∧ Same2 .add (20 + j + 1) (accW v f j) (f j) ∧ accW v f (j + 1) = r ∧ r < 4294967296 := by
  have ih := acc_bd hv j (by omega) (fun i hi => hf i (by omega))
  have s : Same2 .add (20 + j + 1) (accW v f j) (f j) := add_same (k := 20 + j) (by omega) ih (bd_up (hf j hj) (by omega))
  obtain ⟨r, r1, b⟩ := same_ex s
  exact ⟨r, r1, s, by show addW (accW v f j) (f j) = r; unfold addW; rw [r1]; rfl, add_lt r1⟩
theorem acc_lt {v : Nat} {f : Nat → Nat} {n : Nat} (hv : Bd 20 v) (lv : v < 4294967296) (hn : n ≤ 100) (hf : ∀ i, i < n → Bd 20 (f i)) : accW v f n < 4294967296 := by
  cases n with
  | zero => exact lv
  | succ j =>
    obtain ⟨r, _, _, e, l⟩ := acc_step (j := j) hv hn (by omega) hf
    rw [e]; exact l

/-- What the folds of a list lift at a place. -/
def folF (A B P : Nat → Int) (h : Nat → Nat) (x y : Int) (i : Nat) : Nat := lifW (folK (A i) (B i) (P i) x y) (P i) (h i)
theorem folF_bd {A B P : Nat → Int} {h : Nat → Nat} {x y : Int} {n : Nat} (K : ∀ i, i < n → FolOk (A i) (B i) (P i) (h i)) : ∀ i, i < n → Bd 20 (folF A B P h x y i) := fun i hi => by
  obtain ⟨k0, k1⟩ := folK_in (A := A i) (B := B i) (P := P i) (x := x) (y := y) (K i hi).p1
  obtain ⟨q, X2, t0, c, t1, p, q', r', e, r, L⟩ := lif_parts k0 k1 (K i hi).p2 (K i hi).hh
  unfold folF; rw [L.w]; exact L.bd

abbrev folsV (a : Option Addr) (n cap : Nat) : Value := .slice a n cap
abbrev folsO (a : Option Addr) (n cap : Nat) : Obj := .cells #[.slice a n cap] 22
abbrev liftO : Obj := .cells #[.func (.func 55) #[] #[]] 78

theorem enters_bentFold1 : Enters 125 := by intro args W; simp [callFunc, Try.func125, Try.f125]

set_option maxHeartbeats 2000000 in
set_option maxRecDepth 100000 in
theorem bentFold1_any (a : Option Addr) (n cap : Nat) (A B P : Nat → Int) (h : Nat → Nat) (v : Nat) (x y : Int) (p q : Nat) (w : World) (hp : w.heap[p]? = some (folsO a n cap)) (hq : w.heap[q]? = some liftO) (L : FolL w a n A B P h) (hn : n ≤ 100)
    (K : ∀ i, i < n → FolOk (A i) (B i) (P i) (h i)) (hv : hgtB v = true) (x1 : -8388608 ≤ x) (x2 : x ≤ 8388608) (y1 : -8388608 ≤ y) (y2 : y ≤ 8388608) :
    Calls Try.prog 125 #[.float .f32 v, .int .i64 x, .int .i64 y, .pointer (some ⟨p, 0, none⟩), .pointer (some ⟨q, 0, none⟩)] w fun e w' => e = .returned (.float .f32 (accW v (folF A B P h x y) n)) ∧ Below w.heap.size w w' := by
  have hsf := fun (w : World) (a : Addr) (m : Mode) (k : FloatKind) (b : Nat) => run_store_float (P := Try.prog) (w := w) (a := a) (m := m) k b
  have LI := Lib.hid (fun i (hi : i < n) w => lift_any (A i) (B i) (P i) (h i) x y w (K i hi) x1 x2 y1 y2)
  have ST := Lib.hid (fun j (hj : j < n) => acc_step (hgt_bd hv) hn hj (folF_bd (x := x) (y := y) K))
  have HL := Lib.hid L
  have HQ := Lib.hid hq
  obtain ⟨cP, fP, zP⟩ := blkC hp
  have zQ := (blkC hq).2.2
  obtain ⟨F, hF⟩ : ∃ F, folF A B P h x y = F := ⟨_, rfl⟩
  have FF := Lib.hid (show ∀ i, lifW (folK (A i) (B i) (P i) x y) (P i) (h i) = F i from fun i => by rw [← hF]; rfl)
  rw [hF] at ST ⊢
  clear hp hq L K hv hF x1 x2 y1 y2
  go_enter Try.func125, Try.ntmps125
  go_wp2
  go_loopw [0, 13] (fun u i wr => ∃ j : Nat, j ≤ n ∧ u = .float .f32 (accW v F j) ∧ i = .int .i64 j ∧ Below w.heap.size w wr) (fun _ i _ => n - (intOf i).toNat)
  case atStart => exact ⟨0, by omega, rfl, rfl, Below.refl _ _⟩
  case round =>
    obtain ⟨j, hj, rfl, rfl, hb⟩ := hrel
    by_cases c : j < n
    · have HB := Lib.hid hb
      rcases HL.out.stay hb with z | ⟨b, off, rfl, l⟩
      · omega
      obtain ⟨l0, l1, l2, l3⟩ := l j c
      obtain ⟨r, r1, _, er, _⟩ := ST.out j c
      have e1 := fun (W : World) => run_float_arith (P := Try.prog) W .add 34 .f32 (accW v F j) (F j) r r1
      have L1 := Lib.hid (fun w => LI.out j c w)
      rw [FF.out j] at L1
      have ER := Lib.hid er
      obtain ⟨cQ, fQ, zQ2⟩ := blkC (blkStay HQ.out hb)
      generalize accW v F j = u at *
      clear l er hb r1
      go_wp2_with (first | (go_at_call 55; refine (L1.out _).mono ?_; rintro e' w4 ⟨rfl, hb4⟩; have hB4 : Below wr.heap.size wr w4 := Below.trans (by repeat (first | exact Below.refl _ _ | refine Below.alloc ?_ (by first | omega | (simp; done) | (simp; omega)) _ | refine Below.setCell ?_ (by first | omega | (simp; done) | (simp; omega)) _ | refine Below.drew ?_)) (Below.mono hb4 (by simp)); have HB4 := Lib.hid (HB.out.trans (hB4.mono HB.out.size)); clear hb4 hB4))
      go_roundw
      case rel => exact ⟨j + 1, by omega, by rw [ER.out], by go_num, HB4.out⟩
      case measure => simp [intOf]; omega
    · have : j = n := by omega
      subst this
      go_wp2
      go_ret
      exact ⟨rfl, hb⟩
end Go.Proofs.Ytdbponidkodmfaa

/- Contracts: square and Weight of the reference; Weight and Box of the program; the reference's box. -/
namespace Go.Proofs.Ytdbponidkodmfaa
open Go.RowKit Fl
set_option linter.unusedVariables false

abbrev pnt (x y : Int) : Value := .agg #[.int .i64 x, .int .i64 y]

end Go.Proofs.Ytdbponidkodmfaa

/- Contracts: Weight and Box of the program; the reference's box. -/
namespace Go.Proofs.Ytdbponidkodmfaa
open Go.RowKit Fl
set_option linter.unusedVariables false

theorem plc_ok {x y : Int} (h : plcE x y = 0) : -4194304 ≤ x ∧ x ≤ 4194304 ∧ -4194304 ≤ y ∧ y ≤ 4194304 := by
  unfold plcE at h
  split at h
  · rename_i c
    obtain ⟨a, b⟩ := c
    have := withinB_iff.1 a
    have := withinB_iff.1 b
    omega
  · cases h

structure BruOk (k X Y R : Int) (h : Nat) : Prop where
  k1 : 1 ≤ k
  k3 : k ≤ 3
  X1 : -4194304 ≤ X
  X2 : X ≤ 4194304
  Y1 : -4194304 ≤ Y
  Y2 : Y ≤ 4194304
  r1 : 1 ≤ R
  r2 : R ≤ 256
  hg : hgtB h = true
theorem bru_ok {k X Y R : Int} {h : Nat} (e : bruE k X Y R h = 0) : BruOk k X Y R h := by
  unfold bruE at e
  split at e
  · cases e
  · rename_i c1
    split at e
    · rename_i c2; exact absurd e c2
    · rename_i c2
      split at e
      · cases e
      · rename_i c3
        have k := withinB_iff.1 (by simpa using c1)
        have r := withinB_iff.1 (by simpa using c3)
        obtain ⟨p1, p2, p3, p4⟩ := plc_ok (x := X) (y := Y) (by simpa using c2)
        exact ⟨k.1, k.2, p1, p2, p3, p4, r.1, r.2, by have := allB_iff.1 (fldE_zero.1 e) 0 (by omega); exact this⟩

/-- What Weight answers. -/
def weiE (k X Y R : Int) (h : Nat) (x y : Int) : Int := if bruE k X Y R h = 0 then plcE x y else bruE k X Y R h
def weiV (k X Y R : Int) (h : Nat) (x y : Int) : Nat := if weiE k X Y R h x y = 0 then weiW k (sqD x y X Y) R else 0

/-- The box of a brush; of a wrong one nothing. -/
def boxR (k X Y R : Int) (h : Nat) : Value := if bruE k X Y R h = 0 then reg (X - R + 1) (Y - R + 1) (2 * R - 1) (2 * R - 1) else reg 0 0 0 0

end Go.Proofs.Ytdbponidkodmfaa

/- Stamp of both sides, of a right field. -/
namespace Go.Proofs.Ytdbponidkodmfaa
open Go.RowKit Fl
set_option linter.unusedVariables false

/-- Stamp of one value. -/
def staW (v h q : Nat) : Nat := addW v (mulW h q)
theorem sta_parts {v h q : Nat} {d : Int} (hv : hgtB v = true) (hh : hgtB h = true) (hq : vS q = some d) (d0 : 0 ≤ d) (d1 : d ≤ (one : Int)) :
    ∃ m r, floatBits .mul .f32 h q = some m ∧ Same2 .mul 20 h q ∧ floatBits .add .f32 v m = some r ∧ Same2 .add 21 v m ∧ staW v h q = r ∧ r < 4294967296 := by
  have s1 : Same2 .mul (20 + 0) h q := mul_same (by omega) (hgt_bd hh) (bd_unit hq (by omega) d1)
  obtain ⟨m, e1, b1⟩ := same_ex s1
  have s2 : Same2 .add 21 v m := add_same (k := 20) (by omega) (hgt_bd hv) b1
  obtain ⟨r, e2, _⟩ := same_ex s2
  exact ⟨m, r, e1, s1, e2, s2, by unfold staW mulW addW; rw [e1]; show (floatBits .add .f32 v m).getD 0 = r; rw [e2]; rfl, add_lt e2⟩

/-- What Stamp makes of the cell number i of a region that begins at (X', Y') and is W' wide. -/
def staF (v : Nat → Nat) (k X Y R : Int) (h : Nat) (X' Y' : Int) (W' : Nat) (i : Nat) : Nat := staW (v i) h (weiW k (sqD (X' + ((i % W' : Nat) : Int)) (Y' + ((i / W' : Nat) : Int)) X Y) R)

end Go.Proofs.Ytdbponidkodmfaa

/- Stamp of the reference, of a right field. -/
namespace Go.Proofs.Ytdbponidkodmfaa
open Go.RowKit Fl
set_option linter.unusedVariables false

theorem sta_wf {n : Nat} {v : Nat → Nat} {k X Y R : Int} {h : Nat} {X' Y' : Int} {W' : Nat} (hh : allB n (fun i => hgtB (v i)) = true) (K : BruOk k X Y R h) : wf32 n (staF v k X Y R h X' Y' W') := by
  intro i hi
  unfold staF
  have n0 : 0 ≤ sqD (X' + ((i % W' : Nat) : Int)) (Y' + ((i / W' : Nat) : Int)) X Y := by
    unfold sqD
    have sq : ∀ d : Int, 0 ≤ d * d := fun d => by rw [← Int.natAbs_mul_self' d]; exact Int.mul_nonneg (Int.natCast_nonneg _) (Int.natCast_nonneg _)
    have := sq (X' + ((i % W' : Nat) : Int) - X)
    have := sq (Y' + ((i / W' : Nat) : Int) - Y)
    omega
  obtain ⟨d, hd, d0, d1⟩ := wei_in (k := k) n0 K.r1 K.r2
  obtain ⟨m, r, _, _, _, _, e3, lt⟩ := sta_parts (allB_iff.1 hh i hi) K.hg hd d0 d1
  rw [e3]; exact lt

end Go.Proofs.Ytdbponidkodmfaa

/- What the reference's folds make of a cell; the first error of a list. -/
namespace Go.Proofs.Ytdbponidkodmfaa
open Go.RowKit Fl
set_option linter.unusedVariables false

theorem enters_rFolds1 : Enters 57 := by intro args W; simp [callFunc, Try.func57, Try.f57]

/-- er is the first error of n. -/
def LstE (n : Nat) (e : Nat → Int) (er : Int) : Prop := (er = 0 ∧ ∀ i, i < n → e i = 0) ∨ (er ≠ 0 ∧ ∃ j, j < n ∧ (∀ i, i < j → e i = 0) ∧ e j = er)
theorem lstE_ex (e : Nat → Int) : ∀ n, ∃ er, LstE n e er
  | 0 => ⟨0, .inl ⟨rfl, fun i hi => by omega⟩⟩
  | n + 1 => by
    obtain ⟨er, h⟩ := lstE_ex e n
    rcases h with ⟨rfl, h⟩ | ⟨h0, j, hj, hi, he⟩
    · by_cases c : e n = 0
      · exact ⟨0, .inl ⟨rfl, fun i hi => by
          rcases Nat.lt_or_ge i n with l | l
          · exact h i l
          · rw [show i = n by omega]; exact c⟩⟩
      · exact ⟨e n, .inr ⟨c, n, by omega, h, rfl⟩⟩
    · exact ⟨er, .inr ⟨h0, j, by omega, hi, he⟩⟩
theorem LstE.zero {n : Nat} {e : Nat → Int} {er : Int} (h : LstE n e er) (a : ∀ i, i < n → e i = 0) : er = 0 := by
  rcases h with ⟨rfl, _⟩ | ⟨h0, j, hj, _, he⟩
  · rfl
  · rw [← he]; exact a j hj
theorem LstE.at {n j : Nat} {e : Nat → Int} {er : Int} (h : LstE n e er) (a : ∀ i, i < j → e i = 0) (hj : j < n) (he : e j ≠ 0) : e j = er := by
  rcases h with ⟨rfl, h⟩ | ⟨h0, k, hk, hi, hek⟩
  · exact absurd (h j hj) he
  · rcases Nat.lt_trichotomy j k with c | c | c
    · exact absurd (hi j c) he
    · rw [c]; exact hek
    · rw [a k c] at hek; exact absurd hek.symm h0
theorem LstE.all {n : Nat} {e : Nat → Int} (h : LstE n e 0) : ∀ i, i < n → e i = 0 := by
  rcases h with ⟨_, h⟩ | ⟨h0, _⟩
  · exact h
  · exact absurd rfl h0

set_option maxHeartbeats 4000000 in
set_option maxRecDepth 100000 in
theorem rFolds1_any (X Y : Int) (W H m b cap : Nat) (v : Nat → Nat) (a : Option Addr) (n lcap : Nat) (A B P : Nat → Int) (h : Nat → Nat) (p q : Nat) (w : World) (hp : w.heap[p]? = some (fldO X Y W H (.slice (some ⟨b, 0, none⟩) m cap))) (hq : w.heap[q]? = some (folsO a n lcap)) (hc : FlAt w b 0 m v)
    (hh : allB m (fun i => hgtB (v i)) = true) (L : FolL w a n A B P h) (hn : n ≤ 100) (K : ∀ i, i < n → FolOk (A i) (B i) (P i) (h i)) (h0 : checkR X Y W H = 0) (hnn : m = H * W) :
    Clos2 57 #[.pointer (some ⟨p, 0, none⟩), .pointer (some ⟨q, 0, none⟩)] X Y W H (fun i => accW (v i) (folF A B P h (X + ((i % W : Nat) : Int)) (Y + ((i / W : Nat) : Int))) n) w := by
  intro x y i w2 h1 h2 h3 h4 h5 hb
  obtain ⟨b1, b2, b3, b4, b5, b6, b7, b8, b9⟩ := checkR_zero h0
  have hm : m ≤ 65536 := by
    have : ((W : Int) * (H : Int)) = (m : Int) := by rw [hnn, Nat.mul_comm]; simp
    omega
  have hi' : i < m := num_lt (by omega) h1 h2 h4 h5 hnn
  have hv := allB_iff.1 hh i hi'
  have hrow := flAt_congr hc (hb.block b (World.block_lt_of_cell? w _ (hc i hi')))
  have AT := Lib.hid (fun W' (hb : Below w2.heap.size w2 W') => refAt_any X Y W H m b cap i v x y W' (by omega) (by omega) (by omega) (by omega) (by omega) (by omega) (by omega) h1 h2 h3 h4 h5 hi' hm (flAt_congr hrow (hb.block _ (World.block_lt_of_cell? w2 _ (hrow i hi')))))
  obtain ⟨ex, ey⟩ := place_of (show 1 ≤ W by omega) h1 h2 h3 h5
  simp only [ex, ey]
  have LI := Lib.hid (fun i (hi : i < n) w => rlift_any (A i) (B i) (P i) (h i) x y w (K i hi) (by omega) (by omega) (by omega) (by omega))
  have ST := Lib.hid (fun j (hj : j < n) => acc_step (hgt_bd hv) hn hj (folF_bd (x := x) (y := y) K))
  have hsf := fun (w : World) (a : Addr) (m : Mode) (k : FloatKind) (b : Nat) => run_store_float (P := Try.prog) (w := w) (a := a) (m := m) k b
  have HL := Lib.hid (L.stay hb)
  have GF := Lib.hid (blkStay hp hb)
  have GQ := Lib.hid (blkStay hq hb)
  obtain ⟨cF, fF, zF⟩ := blkC GF.out
  have zQ := (blkC GQ.out).2.2
  obtain ⟨F, hF⟩ : ∃ F, folF A B P h x y = F := ⟨_, rfl⟩
  have FF := Lib.hid (show ∀ i, lifW (folK (A i) (B i) (P i) x y) (P i) (h i) = F i from fun i => by rw [← hF]; rfl)
  rw [hF] at ST ⊢
  generalize v i = vi at *
  clear hb h1 h2 h3 h4 h5 b1 b2 b3 b4 b5 b6 b7 b8 b9 hnn hh h0 hi' hm hrow hp hq hc K L hv ex ey hF
  go_enter Try.func57, Try.ntmps57
  go_wp2_with (first | (go_at_call 58; refine (AT.out _ (by repeat (first | exact Below.refl _ _ | refine Below.alloc ?_ (by first | omega | (simp; done) | (simp; omega)) _ | refine Below.setCell ?_ (by first | omega | (simp; done) | (simp; omega)) _ | refine Below.drew ?_))).mono ?_; rintro e w3 ⟨rfl, hw3⟩; have hb3 : Below w2.heap.size w2 w3 := (by rw [← hw3]; exact (by repeat (first | exact Below.refl _ _ | refine Below.alloc ?_ (by first | omega | (simp; done) | (simp; omega)) _ | refine Below.setCell ?_ (by first | omega | (simp; done) | (simp; omega)) _ | refine Below.drew ?_))); have HB3 := Lib.hid hb3; clear cF fF zF; clear hw3; obtain ⟨cQ, fQ, zQ3⟩ := blkC (blkStay GQ.out hb3); clear hb3))
  go_loopw [7, 16] (fun u i wr => ∃ j : Nat, j ≤ n ∧ u = .float .f32 (accW vi F j) ∧ i = .int .i64 j ∧ Below w2.heap.size w2 wr) (fun _ i _ => n - (intOf i).toNat)
  case atStart => exact ⟨0, by omega, rfl, rfl, HB3.out⟩
  case round =>
    obtain ⟨j, hj, rfl, rfl, hb⟩ := hrel
    by_cases c : j < n
    · have HB := Lib.hid hb
      rcases HL.out.stay hb with z | ⟨b, off, rfl, l⟩
      · omega
      obtain ⟨l0, l1, l2, l3⟩ := l j c
      obtain ⟨r, r1, rs, er, _⟩ := ST.out j c
      have AD := Lib.hid (fun w => refAdd_any _ (accW vi F j) (F j) r rs r1 w)
      have L1 := Lib.hid (fun w => LI.out j c w)
      rw [FF.out j] at L1
      have ER := Lib.hid er
      generalize accW vi F j = u at *
      clear l er hb r1 rs cQ fQ zQ3
      go_wp2_with (first | (go_at_call 60; refine (L1.out _).mono ?_; rintro e' w4 ⟨rfl, hb4⟩; have hB4 : Below wr.heap.size wr w4 := Below.trans (by repeat (first | exact Below.refl _ _ | refine Below.alloc ?_ (by first | omega | (simp; done) | (simp; omega)) _ | refine Below.setCell ?_ (by first | omega | (simp; done) | (simp; omega)) _ | refine Below.drew ?_)) (Below.mono hb4 (by simp)); have HB4 := Lib.hid (HB.out.trans (hB4.mono HB.out.size)); clear hb4 hB4) | (go_at_call 59; refine (AD.out _).mono ?_; rintro e' w' ⟨rfl, rfl⟩))
      go_roundw
      case rel => exact ⟨j + 1, by omega, by rw [ER.out], by go_num, HB4.out⟩
      case measure => simp [intOf]; omega
    · have : j = n := by omega
      subst this
      go_wp2
      go_ret
      exact ⟨rfl, hb⟩
end Go.Proofs.Ytdbponidkodmfaa

/- Folds of the program, of a right field. -/
namespace Go.Proofs.Ytdbponidkodmfaa
open Go.RowKit Fl
set_option linter.unusedVariables false

/-- What the folds of a list make of a field. -/
def bndF (v : Nat → Nat) (A B P : Nat → Int) (h : Nat → Nat) (n : Nat) (X Y : Int) (W : Nat) (i : Nat) : Nat := accW (v i) (folF A B P h (X + ((i % W : Nat) : Int)) (Y + ((i / W : Nat) : Int))) n
/-- The error of a list of n, er being the first one of its folds. -/
def bndE (n : Nat) (er : Int) : Int := if 100 < n then 4 else er

set_option maxHeartbeats 4000000 in
set_option maxRecDepth 100000 in
theorem bentFold_any (X Y : Int) (W H m b cap : Nat) (v : Nat → Nat) (a : Option Addr) (n lcap : Nat) (A B P : Nat → Int) (h : Nat → Nat) (er : Int) (w : World) (h0 : checkR X Y W H = 0) (hm : m = W * H) (hc : FlAt w b 0 m v) (hh : allB m (fun i => hgtB (v i)) = true)
    (L : FolL w a n A B P h) (hl : n ≤ 9223372036854775807) (E : LstE n (fun i => folE (A i) (B i) (P i) (h i)) er) :
    Calls Try.prog 54 #[fldV X Y W H (.slice (some ⟨b, 0, none⟩) m cap), .slice a n lcap, .func (.func 17) #[] #[], .func (.func 55) #[] #[]] w (ScPost w X Y W H m (bndF v A B P h n X Y W) (bndE n er)) := by
  obtain ⟨b1, b2, b3, b4, b5, b6, b7, b8, b9⟩ := checkR_zero h0
  have hnn : m = H * W := by rw [hm]; exact Nat.mul_comm _ _
  have h1 : 1 ≤ m := by rw [hm]; exact Nat.mul_pos (by omega) (by omega)
  have hlt : b < w.heap.size := World.block_lt_of_cell? w _ (hc 0 h1)
  have CK := Lib.hid (fun W' (hb : Below w.heap.size w W') => check_ok X Y W H m b cap v W' h0 hm (flAt_congr hc (hb.block _ hlt)) hh)
  have hsf := fun (w : World) (a : Addr) (m : Mode) (k : FloatKind) (b : Nat) => run_store_float (P := Try.prog) (w := w) (a := a) (m := m) k b
  unfold bndE
  by_cases cn : 100 < n
  · rw [if_pos cn]
    have cn' : decide ((100 : Int) < (n : Int)) = true := by simp; omega
    clear hc hh h0 hm hnn h1 b1 b2 b3 b4 b5 b6 b7 b8 b9 E L cn
    go_enter Try.func54, Try.ntmps54
    go_wp2_with (first | (go_at_call 101; refine (CK.out _ (by repeat (first | exact Below.refl _ _ | refine Below.alloc ?_ (by first | omega | (simp; done) | (simp; omega)) _ | refine Below.setCell ?_ (by first | omega | (simp; done) | (simp; omega)) _ | refine Below.drew ?_))).mono ?_; rintro e w2 ⟨rfl, hb2⟩; have HL2 := Lib.hid (blkStay (b := w.heap.size + 1) (o := folsO a n lcap) (by (first | (rw [heap_alloc_get, if_pos rfl]; done) | ((simp only [heap_alloc_get, heap_size_alloc, if_true]) <;> ((repeat' split) <;> first | rfl | omega)))) hb2); have HS2 := Lib.hid (blkStay (b := w.heap.size + 1 + 1 + 1) (o := fldO 0 0 0 0 (.slice none 0 0)) (by (first | (rw [heap_alloc_get, if_pos rfl]; done) | ((simp only [heap_alloc_get, heap_size_alloc, if_true]) <;> ((repeat' split) <;> first | rfl | omega)))) hb2); have hB2 : Below w.heap.size w w2 := Below.trans (by repeat (first | exact Below.refl _ _ | refine Below.alloc ?_ (by first | omega | (simp; done) | (simp; omega)) _ | refine Below.setCell ?_ (by first | omega | (simp; done) | (simp; omega)) _ | refine Below.drew ?_)) (Below.mono hb2 (by first | omega | (simp; done) | (simp; omega))); obtain ⟨cL, fL, zL⟩ := blkC HL2.out; obtain ⟨cS, fS, zS⟩ := blkC HS2.out; clear hb2))
    refine bodyPost_ret (v := .tuple #[fldV 0 0 0 0 (.slice none 0 0), .int .i64 4]) (by simp [results, Try.results54, go_sem, cS]) rfl ?_
    exact .inl ⟨by decide, rfl, set5_below hB2 _ _ _ _ _ _ (by omega)⟩
  · rw [if_neg cn]
    have cn' : decide ((100 : Int) < (n : Int)) = false := by simp; omega
    have hn : n ≤ 100 := by omega
    have HC := Lib.hid hc
    have HL := Lib.hid L
    have EE := Lib.hid E
    have CF := Lib.hid (fun i w => checkFold_any (A i) (B i) (P i) (h i) w)
    have RM := Lib.hid (fun (hz : ∀ i, i < n → folE (A i) (B i) (P i) (h i) = 0) W' p (k1 : W'.heap[p + 1]? = some (folsO a n lcap)) (k2 : W'.heap[p + 1 + 1]? = some liftO) (hc' : FlAt W' b 0 m v) (L' : FolL W' a n A B P h) =>
      remade_any X Y W H m b cap v (bndF v A B P h n X Y W) 125 #[.pointer (some ⟨p + 1, 0, none⟩), .pointer (some ⟨p + 1 + 1, 0, none⟩)] W' enters_bentFold1
        (fun x y i W'' h1 h2 h3 h4 h5 hb => (bentFold1_any a n lcap A B P h (v i) x y (p + 1) (p + 1 + 1) W'' (blkStay k1 hb) (blkStay k2 hb) (L'.stay hb) hn (fun i hi => fol_ok (hz i hi)) (allB_iff.1 hh i (num_lt (by omega) h1 h2 h4 h5 hnn)) (by omega) (by omega) (by omega) (by omega)).mono fun e W3 h => ⟨by
          obtain ⟨ex, ey⟩ := place_of (show 1 ≤ W by omega) h1 h2 h3 h5
          unfold bndF; rw [ex, ey]; exact h.1, h.2⟩) h0 hnn hc')
    clear hc hh h0 hm hnn h1 b1 b2 b3 b4 b5 b6 b7 b8 b9 E L cn hl
    go_enter Try.func54, Try.ntmps54
    go_wp2_with (first | (go_at_call 101; refine (CK.out _ (by repeat (first | exact Below.refl _ _ | refine Below.alloc ?_ (by first | omega | (simp; done) | (simp; omega)) _ | refine Below.setCell ?_ (by first | omega | (simp; done) | (simp; omega)) _ | refine Below.drew ?_))).mono ?_; rintro e w2 ⟨rfl, hb2⟩; have HF2 := Lib.hid (blkStay (b := w.heap.size) (o := fldO X Y W H (.slice (some ⟨b, 0, none⟩) m cap)) (by (first | (rw [heap_alloc_get, if_pos rfl]; done) | ((simp only [heap_alloc_get, heap_size_alloc, if_true]) <;> ((repeat' split) <;> first | rfl | omega)))) hb2); have HL2 := Lib.hid (blkStay (b := w.heap.size + 1) (o := folsO a n lcap) (by (first | (rw [heap_alloc_get, if_pos rfl]; done) | ((simp only [heap_alloc_get, heap_size_alloc, if_true]) <;> ((repeat' split) <;> first | rfl | omega)))) hb2); have HT2 := Lib.hid (blkStay (b := w.heap.size + 1 + 1) (o := liftO) (by (first | (rw [heap_alloc_get, if_pos rfl]; done) | ((simp only [heap_alloc_get, heap_size_alloc, if_true]) <;> ((repeat' split) <;> first | rfl | omega)))) hb2); have HS2 := Lib.hid (blkStay (b := w.heap.size + 1 + 1 + 1) (o := fldO 0 0 0 0 (.slice none 0 0)) (by (first | (rw [heap_alloc_get, if_pos rfl]; done) | ((simp only [heap_alloc_get, heap_size_alloc, if_true]) <;> ((repeat' split) <;> first | rfl | omega)))) hb2); have hB2 : Below w.heap.size w w2 := Below.trans (by repeat (first | exact Below.refl _ _ | refine Below.alloc ?_ (by first | omega | (simp; done) | (simp; omega)) _ | refine Below.setCell ?_ (by first | omega | (simp; done) | (simp; omega)) _ | refine Below.drew ?_)) (Below.mono hb2 (by first | omega | (simp; done) | (simp; omega))); obtain ⟨cL, fL, zL⟩ := blkC HL2.out; clear hb2))
    have HB2 := Lib.hid hB2
    have zS2 := (blkC HS2.out).2.2
    clear hB2
    go_loopw [26] (fun i wr => ∃ j : Nat, j ≤ n ∧ i = .int .i64 j ∧ (∀ i, i < j → folE (A i) (B i) (P i) (h i) = 0) ∧ Below w2.heap.size w2 wr) (fun i _ => n - (intOf i).toNat)
    case atStart => exact ⟨0, by omega, rfl, fun i hi => by omega, Below.refl _ _⟩
    case round =>
      obtain ⟨j, hj, rfl, hz, hb⟩ := hrel
      have HZ := Lib.hid hz
      have HB := Lib.hid hb
      clear cL fL zL hz
      by_cases c : j < n
      · rcases HL.out.stay (HB2.out.trans (hb.mono HB2.out.size)) with z | ⟨b', off, rfl, l⟩
        · omega
        obtain ⟨l0, l1, l2, l3⟩ := l j c
        have C1 := Lib.hid (fun w => CF.out j w)
        obtain ⟨ej, hej⟩ : ∃ ej, folE (A j) (B j) (P j) (h j) = ej := ⟨_, rfl⟩
        rw [hej] at C1
        have HE := Lib.hid hej
        clear l hb hej
        by_cases c0 : ej = 0
        · subst c0
          go_wp2_with (first | (go_at_call 17; refine (C1.out _).mono ?_; rintro e' w4 ⟨rfl, hb4⟩; have hB4 : Below wr.heap.size wr w4 := Below.trans (by repeat (first | exact Below.refl _ _ | refine Below.alloc ?_ (by first | omega | (simp; done) | (simp; omega)) _ | refine Below.setCell ?_ (by first | omega | (simp; done) | (simp; omega)) _ | refine Below.drew ?_)) (Below.mono hb4 (by simp)); have HB4 := Lib.hid (HB.out.trans (hB4.mono HB.out.size)); clear hb4 hB4))
          go_roundw
          case rel => exact ⟨j + 1, by omega, by go_num, (fun i hi => by
            rcases Nat.lt_or_ge i j with q | q
            · exact HZ.out i q
            · rw [show i = j by omega]; exact HE.out), HB4.out⟩
          case measure => simp [intOf]; omega
        · have cz : (ej != 0) = true := by simp [c0]
          have C0 := Lib.hid c0
          clear c0
          go_wp2_with (first | (go_at_call 17; refine (C1.out _).mono ?_; rintro e' w4 ⟨rfl, hb4⟩; have hB4 : Below wr.heap.size wr w4 := Below.trans (by repeat (first | exact Below.refl _ _ | refine Below.alloc ?_ (by first | omega | (simp; done) | (simp; omega)) _ | refine Below.setCell ?_ (by first | omega | (simp; done) | (simp; omega)) _ | refine Below.drew ?_)) (Below.mono hb4 (by simp)); have HB4 := Lib.hid (HB.out.trans (hB4.mono HB.out.size)); clear hb4 hB4; obtain ⟨cS, fS, zS⟩ := blkC (blkStay HS2.out HB4.out)))
          refine bodyPost_ret (v := .tuple #[fldV 0 0 0 0 (.slice none 0 0), .int .i64 ej]) (by simp [results, Try.results54, go_sem, cS]) rfl ?_
          have e := EE.out.at HZ.out c (by show folE (A j) (B j) (P j) (h j) ≠ 0; rw [HE.out]; exact C0.out)
          have e' : ej = er := by rw [← HE.out]; exact e
          have z2 := HB2.out.size
          exact .inl ⟨by rw [← e']; exact C0.out, by rw [e'], set5_below (HB2.out.trans (HB4.out.mono z2)) _ _ _ _ _ _ (by omega)⟩
      · have : j = n := by omega
        subst this
        have e0 := EE.out.zero HZ.out
        subst e0
        obtain ⟨cF, fF, zF⟩ := blkC (blkStay HF2.out hb)
        have hb2 := HB2.out.trans (hb.mono HB2.out.size)
        have RX := Lib.hid (RM.out HZ.out wr w.heap.size (blkStay HL2.out hb) (blkStay HT2.out hb) (flAt_congr HC.out (hb2.block _ hlt)) (HL.out.stay hb2))
        have HS := Lib.hid (blkStay HS2.out hb)
        have HX := Lib.hid hb2
        clear hb hb2
        go_wp2_with fail
        clear cF fF zF
        refine RX.out.mono ?_
        intro e w4 hmade
        rcases hmade with ⟨hall, b', cap', rfl, hb', hlt', hrow, hbel⟩ | ⟨hall, rfl, hbel⟩
        · obtain ⟨cS, fS, zS4⟩ := blkC (blkStay HS.out hbel)
          have zS3 := (blkC HS.out).2.2
          have HB' := Lib.hid hb'
          clear hb'
          go_wp2
          refine bodyPost_ret (v := .tuple #[fldV X Y W H (.slice (some ⟨b', 0, none⟩) m cap'), .int .i64 0]) (by simp [results, Try.results54, go_sem, cS]) rfl ?_
          have z3 := HX.out.size
          have hb' := HB'.out
          exact .inr ⟨rfl, .inl ⟨hall, b', cap', rfl, by omega, by rw [set5_size]; exact hlt', flAt_congr hrow (set5_heap w4 _ _ _ _ _ _ _ (by omega)), set5_below (HX.out.trans (hbel.mono z3)) _ _ _ _ _ _ (by omega)⟩⟩
        · obtain ⟨cS, fS, zS4⟩ := blkC (blkStay HS.out hbel)
          go_wp2
          refine bodyPost_ret (v := .tuple #[fldV 0 0 0 0 (.slice none 0 0), .int .i64 3]) (by simp [results, Try.results54, go_sem, cS]) rfl ?_
          have z3 := HX.out.size
          exact .inr ⟨rfl, .inr ⟨hall, rfl, set5_below (HX.out.trans (hbel.mono z3)) _ _ _ _ _ _ (by omega)⟩⟩

set_option maxHeartbeats 1000000 in
theorem folds_any (X Y : Int) (W H m b cap : Nat) (v : Nat → Nat) (a : Option Addr) (n lcap : Nat) (A B P : Nat → Int) (h : Nat → Nat) (er : Int) (w : World) (h0 : checkR X Y W H = 0) (hm : m = W * H) (hc : FlAt w b 0 m v) (hh : allB m (fun i => hgtB (v i)) = true)
    (L : FolL w a n A B P h) (hl : n ≤ 9223372036854775807) (E : LstE n (fun i => folE (A i) (B i) (P i) (h i)) er) :
    Calls Try.prog 11 #[fldV X Y W H (.slice (some ⟨b, 0, none⟩) m cap), .slice a n lcap] w (ScPost w X Y W H m (bndF v A B P h n X Y W) (bndE n er)) := by
  have h1 : 1 ≤ m := by
    obtain ⟨b1, b2, b3, b4, b5, b6, b7, b8, b9⟩ := checkR_zero h0
    rw [hm]; exact Nat.mul_pos (by omega) (by omega)
  have hlt : b < w.heap.size := World.block_lt_of_cell? w _ (hc 0 h1)
  have BT := Lib.hid (fun W' (hb : Below w.heap.size w W') => bentFold_any X Y W H m b cap v a n lcap A B P h er W' h0 hm (flAt_congr hc (hb.block _ hlt)) hh (L.stay hb) hl E)
  generalize bndF v A B P h n X Y W = F at *
  generalize bndE n er = er' at *
  clear h0 hm hc hh L hl E h1 hlt
  go_enter Try.func11, Try.ntmps11
  go_wp2_with fail
  refine (BT.out _ (by repeat (first | exact Below.refl _ _ | refine Below.alloc ?_ (by first | omega | (simp; done) | (simp; omega)) _ | refine Below.setCell ?_ (by first | omega | (simp; done) | (simp; omega)) _ | refine Below.drew ?_))).mono ?_
  intro e w4 hp
  rcases hp with ⟨ne, rfl, hbel⟩ | ⟨rfl, ⟨hall, b', cap', rfl, hb', hlt', hrow, hbel⟩ | ⟨hall, rfl, hbel⟩⟩
  · have hS := Lib.hid (blkStay (b := w.heap.size + 1) (o := fldO 0 0 0 0 (.slice none 0 0)) (by (first | (rw [heap_alloc_get, if_pos rfl]; done) | ((simp only [heap_alloc_get, heap_size_alloc, if_true]) <;> ((repeat' split) <;> first | rfl | omega)))) hbel)
    have hB : Below w.heap.size w w4 := Below.trans (by repeat (first | exact Below.refl _ _ | refine Below.alloc ?_ (by first | omega | (simp; done) | (simp; omega)) _ | refine Below.setCell ?_ (by first | omega | (simp; done) | (simp; omega)) _ | refine Below.drew ?_)) (Below.mono hbel (by simp; omega))
    obtain ⟨cS, fS, zS⟩ := blkC hS.out
    go_wp2
    refine bodyPost_ret (v := .tuple #[fldV 0 0 0 0 (.slice none 0 0), .int .i64 er']) (by simp [results, Try.results11, go_sem, cS]) rfl ?_
    exact .inl ⟨ne, rfl, set5_below hB _ _ _ _ _ _ (by omega)⟩
  · have hS := Lib.hid (blkStay (b := w.heap.size + 1) (o := fldO 0 0 0 0 (.slice none 0 0)) (by (first | (rw [heap_alloc_get, if_pos rfl]; done) | ((simp only [heap_alloc_get, heap_size_alloc, if_true]) <;> ((repeat' split) <;> first | rfl | omega)))) hbel)
    have hB : Below w.heap.size w w4 := Below.trans (by repeat (first | exact Below.refl _ _ | refine Below.alloc ?_ (by first | omega | (simp; done) | (simp; omega)) _ | refine Below.setCell ?_ (by first | omega | (simp; done) | (simp; omega)) _ | refine Below.drew ?_)) (Below.mono hbel (by simp; omega))
    obtain ⟨cS, fS, zS⟩ := blkC hS.out
    have HB := Lib.hid hb'
    clear hb'
    go_wp2
    refine bodyPost_ret (v := .tuple #[fldV X Y W H (.slice (some ⟨b', 0, none⟩) m cap'), .int .i64 0]) (by simp [results, Try.results11, go_sem, cS]) rfl ?_
    have hb' := HB.out
    simp only [heap_size_alloc] at hb'
    exact .inr ⟨rfl, .inl ⟨hall, b', cap', rfl, by omega, by rw [set5_size]; exact hlt', flAt_congr hrow (set5_heap w4 _ _ _ _ _ _ _ (by omega)), set5_below hB _ _ _ _ _ _ (by omega)⟩⟩
  · have hS := Lib.hid (blkStay (b := w.heap.size + 1) (o := fldO 0 0 0 0 (.slice none 0 0)) (by (first | (rw [heap_alloc_get, if_pos rfl]; done) | ((simp only [heap_alloc_get, heap_size_alloc, if_true]) <;> ((repeat' split) <;> first | rfl | omega)))) hbel)
    have hB : Below w.heap.size w w4 := Below.trans (by repeat (first | exact Below.refl _ _ | refine Below.alloc ?_ (by first | omega | (simp; done) | (simp; omega)) _ | refine Below.setCell ?_ (by first | omega | (simp; done) | (simp; omega)) _ | refine Below.drew ?_)) (Below.mono hbel (by simp; omega))
    obtain ⟨cS, fS, zS⟩ := blkC hS.out
    go_wp2
    refine bodyPost_ret (v := .tuple #[fldV 0 0 0 0 (.slice none 0 0), .int .i64 3]) (by simp [results, Try.results11, go_sem, cS]) rfl ?_
    exact .inr ⟨rfl, .inr ⟨hall, rfl, set5_below hB _ _ _ _ _ _ (by omega)⟩⟩
end Go.Proofs.Ytdbponidkodmfaa

/- Folds of the reference, of a right field; Lift of both sides. -/
namespace Go.Proofs.Ytdbponidkodmfaa
open Go.RowKit Fl
set_option linter.unusedVariables false

theorem bnd_wf {m n : Nat} {v : Nat → Nat} {A B P : Nat → Int} {h : Nat → Nat} {X Y : Int} {W : Nat} (hh : allB m (fun i => hgtB (v i)) = true) (wv : wf32 m v) (hn : n ≤ 100) (K : ∀ i, i < n → FolOk (A i) (B i) (P i) (h i)) : wf32 m (bndF v A B P h n X Y W) := by
  intro i hi
  exact acc_lt (hgt_bd (allB_iff.1 hh i hi)) (wv i hi) hn (folF_bd K)

set_option maxHeartbeats 4000000 in
set_option maxRecDepth 100000 in
theorem rfolds_any (X Y : Int) (W H m b cap : Nat) (v : Nat → Nat) (a : Option Addr) (n lcap : Nat) (A B P : Nat → Int) (h : Nat → Nat) (er : Int) (w : World) (h0 : checkR X Y W H = 0) (hm : m = W * H) (hc : FlAt w b 0 m v) (hh : allB m (fun i => hgtB (v i)) = true) (wv : wf32 m v)
    (L : FolL w a n A B P h) (hl : n ≤ 9223372036854775807) (wh : wf32 n h) (E : LstE n (fun i => folE (A i) (B i) (P i) (h i)) er) :
    Calls Try.prog 12 #[fldV X Y W H (.slice (some ⟨b, 0, none⟩) m cap), .slice a n lcap] w (ScPost w X Y W H m (bndF v A B P h n X Y W) (bndE n er)) := by
  obtain ⟨b1, b2, b3, b4, b5, b6, b7, b8, b9⟩ := checkR_zero h0
  have hnn : m = H * W := by rw [hm]; exact Nat.mul_comm _ _
  have h1 : 1 ≤ m := by rw [hm]; exact Nat.mul_pos (by omega) (by omega)
  have hlt : b < w.heap.size := World.block_lt_of_cell? w _ (hc 0 h1)
  have hsf := fun (w : World) (a : Addr) (m : Mode) (k : FloatKind) (b : Nat) => run_store_float (P := Try.prog) (w := w) (a := a) (m := m) k b
  unfold bndE
  by_cases cn : 100 < n
  · rw [if_pos cn]
    have cn' : decide ((100 : Int) < (n : Int)) = true := by simp; omega
    clear hc hh h0 hm hnn h1 b1 b2 b3 b4 b5 b6 b7 b8 b9 E L cn wv wh hlt
    go_enter Try.func12, Try.ntmps12
    go_wp2
    refine bodyPost_ret (v := .tuple #[fldV 0 0 0 0 (.slice none 0 0), .int .i64 4]) (by simp [results, Try.results12, go_sem]) rfl ?_
    exact .inl ⟨by decide, rfl, (by repeat (first | exact Below.refl _ _ | refine Below.alloc ?_ (by first | omega | (simp; done) | (simp; omega)) _ | refine Below.setCell ?_ (by first | omega | (simp; done) | (simp; omega)) _ | refine Below.drew ?_))⟩
  · rw [if_neg cn]
    have cn' : decide ((100 : Int) < (n : Int)) = false := by simp; omega
    have hn : n ≤ 100 := by omega
    have HC := Lib.hid hc
    have HL := Lib.hid L
    have EE := Lib.hid E
    have CF := Lib.hid (fun i (hi : i < n) w => refCheckFold_any (A i) (B i) (P i) (h i) (wh i hi) w)
    have BY := Lib.hid (fun (hz : ∀ i, i < n → folE (A i) (B i) (P i) (h i) = 0) W' p (kF : W'.heap[p]? = some (fldO X Y W H (.slice (some ⟨b, 0, none⟩) m cap))) (k1 : W'.heap[p + 1]? = some (folsO a n lcap)) (hc' : FlAt W' b 0 m v) (L' : FolL W' a n A B P h) =>
      made_any X Y W H m 57 #[.pointer (some ⟨p, 0, none⟩), .pointer (some ⟨p + 1, 0, none⟩)] (bndF v A B P h n X Y W) W' enters_rFolds1
        (rFolds1_any X Y W H m b cap v a n lcap A B P h p (p + 1) W' kF k1 hc' hh L' hn (fun i hi => fol_ok (hz i hi)) h0 hnn) (bnd_wf hh wv hn (fun i hi => fol_ok (hz i hi))) (by omega) (by omega) (by omega) (by omega) (by omega) (by omega) (by omega) (by omega) hnn)
    have A0 := Lib.hid (show Below w.heap.size w (((w.alloc (fldO X Y W H (.slice (some ⟨b, 0, none⟩) m cap))).alloc (folsO a n lcap)).alloc (fldO 0 0 0 0 (.slice none 0 0))) from (by repeat (first | exact Below.refl _ _ | refine Below.alloc ?_ (by first | omega | (simp; done) | (simp; omega)) _ | refine Below.setCell ?_ (by first | omega | (simp; done) | (simp; omega)) _ | refine Below.drew ?_)))
    have HF0 := Lib.hid (show (((w.alloc (fldO X Y W H (.slice (some ⟨b, 0, none⟩) m cap))).alloc (folsO a n lcap)).alloc (fldO 0 0 0 0 (.slice none 0 0))).heap[w.heap.size]? = some (fldO X Y W H (.slice (some ⟨b, 0, none⟩) m cap)) by (first | (rw [heap_alloc_get, if_pos rfl]; done) | ((simp only [heap_alloc_get, heap_size_alloc, if_true]) <;> ((repeat' split) <;> first | rfl | omega))))
    have HL0 := Lib.hid (show (((w.alloc (fldO X Y W H (.slice (some ⟨b, 0, none⟩) m cap))).alloc (folsO a n lcap)).alloc (fldO 0 0 0 0 (.slice none 0 0))).heap[w.heap.size + 1]? = some (folsO a n lcap) by (first | (rw [heap_alloc_get, if_pos rfl]; done) | ((simp only [heap_alloc_get, heap_size_alloc, if_true]) <;> ((repeat' split) <;> first | rfl | omega))))
    have HS0 := Lib.hid (show (((w.alloc (fldO X Y W H (.slice (some ⟨b, 0, none⟩) m cap))).alloc (folsO a n lcap)).alloc (fldO 0 0 0 0 (.slice none 0 0))).heap[w.heap.size + 1 + 1]? = some (fldO 0 0 0 0 (.slice none 0 0)) by (first | (rw [heap_alloc_get, if_pos rfl]; done) | ((simp only [heap_alloc_get, heap_size_alloc, if_true]) <;> ((repeat' split) <;> first | rfl | omega))))
    clear hc hh h0 hm hnn h1 b1 b2 b3 b4 b5 b6 b7 b8 b9 E L cn hl wv wh
    go_enter Try.func12, Try.ntmps12
    go_wp2
    generalize ((w.alloc (fldO X Y W H (.slice (some ⟨b, 0, none⟩) m cap))).alloc (folsO a n lcap)).alloc (fldO 0 0 0 0 (.slice none 0 0)) = w2 at *
    go_loopw [15] (fun i wr => ∃ j : Nat, j ≤ n ∧ i = .int .i64 j ∧ (∀ i, i < j → folE (A i) (B i) (P i) (h i) = 0) ∧ Below w2.heap.size w2 wr) (fun i _ => n - (intOf i).toNat)
    case atStart => exact ⟨0, by omega, rfl, fun i hi => by omega, Below.refl _ _⟩
    case round =>
      obtain ⟨j, hj, rfl, hz, hb⟩ := hrel
      have HZ := Lib.hid hz
      have HB := Lib.hid hb
      clear hz
      by_cases c : j < n
      · rcases HL.out.stay (A0.out.trans (hb.mono A0.out.size)) with z | ⟨b', off, rfl, l⟩
        · omega
        obtain ⟨l0, l1, l2, l3⟩ := l j c
        have C1 := Lib.hid (fun w => CF.out j c w)
        obtain ⟨ej, hej⟩ : ∃ ej, folE (A j) (B j) (P j) (h j) = ej := ⟨_, rfl⟩
        rw [hej] at C1
        have HE := Lib.hid hej
        clear l hb hej
        by_cases c0 : ej = 0
        · subst c0
          go_wp2_with (first | (go_at_call 18; refine (C1.out _).mono ?_; rintro e' w4 ⟨rfl, hb4⟩; have hB4 : Below wr.heap.size wr w4 := Below.trans (by repeat (first | exact Below.refl _ _ | refine Below.alloc ?_ (by first | omega | (simp; done) | (simp; omega)) _ | refine Below.setCell ?_ (by first | omega | (simp; done) | (simp; omega)) _ | refine Below.drew ?_)) (Below.mono hb4 (by simp)); have HB4 := Lib.hid (HB.out.trans (hB4.mono HB.out.size)); clear hb4 hB4))
          go_roundw
          case rel => exact ⟨j + 1, by omega, by go_num, (fun i hi => by
            rcases Nat.lt_or_ge i j with q | q
            · exact HZ.out i q
            · rw [show i = j by omega]; exact HE.out), HB4.out⟩
          case measure => simp [intOf]; omega
        · have cz : (ej != 0) = true := by simp [c0]
          have C0 := Lib.hid c0
          clear c0
          go_wp2_with (first | (go_at_call 18; refine (C1.out _).mono ?_; rintro e' w4 ⟨rfl, hb4⟩; have hB4 : Below wr.heap.size wr w4 := Below.trans (by repeat (first | exact Below.refl _ _ | refine Below.alloc ?_ (by first | omega | (simp; done) | (simp; omega)) _ | refine Below.setCell ?_ (by first | omega | (simp; done) | (simp; omega)) _ | refine Below.drew ?_)) (Below.mono hb4 (by simp)); have HB4 := Lib.hid (HB.out.trans (hB4.mono HB.out.size)); clear hb4 hB4; obtain ⟨cS, fS, zS⟩ := blkC (blkStay HS0.out HB4.out)))
          refine bodyPost_ret (v := .tuple #[fldV 0 0 0 0 (.slice none 0 0), .int .i64 ej]) (by simp [results, Try.results12, go_sem, cS]) rfl ?_
          have e := EE.out.at HZ.out c (by show folE (A j) (B j) (P j) (h j) ≠ 0; rw [HE.out]; exact C0.out)
          have e' : ej = er := by rw [← HE.out]; exact e
          have z2 := A0.out.size; have zS2 := (blkC HS0.out).2.2
          exact .inl ⟨by rw [← e']; exact C0.out, by rw [e'], set5_below (A0.out.trans (HB4.out.mono z2)) _ _ _ _ _ _ (by omega)⟩
      · have : j = n := by omega
        subst this
        have e0 := EE.out.zero HZ.out
        subst e0
        obtain ⟨cF, fF, zF⟩ := blkC (blkStay HF0.out hb)
        have hb2 := A0.out.trans (hb.mono A0.out.size)
        have RX := Lib.hid (BY.out HZ.out wr w.heap.size (blkStay HF0.out hb) (blkStay HL0.out hb) (flAt_congr HC.out (hb2.block _ hlt)) (HL.out.stay hb2))
        have HS := Lib.hid (blkStay HS0.out hb)
        have HX := Lib.hid hb2
        clear hb hb2
        go_wp2_with fail
        clear cF fF zF
        refine RX.out.mono ?_
        intro e w4 hmade
        rcases hmade with ⟨hall, b', cap', rfl, hb', hlt', hrow, hbel⟩ | ⟨hall, rfl, hbel⟩
        · obtain ⟨cS, fS, zS4⟩ := blkC (blkStay HS.out hbel)
          have zS3 := (blkC HS.out).2.2
          have HB' := Lib.hid hb'
          clear hb'
          go_wp2
          refine bodyPost_ret (v := .tuple #[fldV X Y W H (.slice (some ⟨b', 0, none⟩) m cap'), .int .i64 0]) (by simp [results, Try.results12, go_sem, cS]) rfl ?_
          have z3 := HX.out.size
          have hb' := HB'.out
          exact .inr ⟨rfl, .inl ⟨hall, b', cap', rfl, by omega, by rw [set5_size]; exact hlt', flAt_congr hrow (set5_heap w4 _ _ _ _ _ _ _ (by omega)), set5_below (HX.out.trans (hbel.mono z3)) _ _ _ _ _ _ (by omega)⟩⟩
        · obtain ⟨cS, fS, zS4⟩ := blkC (blkStay HS.out hbel)
          go_wp2
          refine bodyPost_ret (v := .tuple #[fldV 0 0 0 0 (.slice none 0 0), .int .i64 3]) (by simp [results, Try.results12, go_sem, cS]) rfl ?_
          have z3 := HX.out.size
          exact .inr ⟨rfl, .inr ⟨hall, rfl, set5_below (HX.out.trans (hbel.mono z3)) _ _ _ _ _ _ (by omega)⟩⟩


/-- Lift's error and value. -/
def lifE (A B P : Int) (h : Nat) (x y : Int) : Int := if folE A B P h = 0 then plcE x y else folE A B P h
def lifV (A B P : Int) (h : Nat) (x y : Int) : Nat := if lifE A B P h x y = 0 then lifW (folK A B P x y) P h else 0

set_option maxHeartbeats 1000000 in
set_option maxRecDepth 100000 in
theorem liftX_any (A B P : Int) (h : Nat) (x y : Int) (w : World) :
    Calls Try.prog 14 #[fol A B P h, .int .i64 x, .int .i64 y] w fun e w' => e = .returned (.tuple #[.float .f32 (lifV A B P h x y), .int .i64 (lifE A B P h x y)]) ∧ Below w.heap.size w w' := by
  have CF := Lib.hid (fun w => checkFold_any A B P h w)
  have CP := Lib.hid (fun w => checkPlace_any x y w)
  unfold lifV lifE
  by_cases c : folE A B P h = 0
  · have K := fol_ok c
    rw [c] at CF
    rw [if_pos c]
    rcases plcE_cases x y with d | d
    · obtain ⟨p1, p2, p3, p4⟩ := plc_ok d
      have LI := Lib.hid (fun w => lift_any A B P h x y w K (by omega) (by omega) (by omega) (by omega))
      rw [d] at CP
      rw [d, if_pos rfl]
      generalize lifW (folK A B P x y) P h = r at *
      clear c K d p1 p2 p3 p4
      go_enter Try.func14, Try.ntmps14
      go_wp2_with (first | (go_at_call 17; refine (CF.out _).mono ?_; rintro e w2 ⟨rfl, hb2⟩; have HB2 := Lib.hid (blkStay (b := w.heap.size) (o := folObj A B P h) (by (first | (rw [heap_alloc_get, if_pos rfl]; done) | ((simp only [heap_alloc_get, heap_size_alloc, if_true]) <;> ((repeat' split) <;> first | rfl | omega)))) hb2); have hB2 : Below w.heap.size w w2 := Below.trans (by repeat (first | exact Below.refl _ _ | refine Below.alloc ?_ (by first | omega | (simp; done) | (simp; omega)) _ | refine Below.setCell ?_ (by first | omega | (simp; done) | (simp; omega)) _ | refine Below.drew ?_)) (Below.mono hb2 (by simp)); clear hb2; obtain ⟨cB, fB, zB⟩ := blkC HB2.out) | (go_at_call 61; refine (CP.out _).mono ?_; rintro e w' ⟨rfl, rfl⟩) | (go_at_call 55; refine (LI.out _).mono ?_; rintro e w3 ⟨rfl, hb3⟩; have hB3 := hB2.trans (hb3.mono hB2.size)))
      go_ret2
      exact ⟨rfl, hB3⟩
    · rw [d] at CP
      rw [d, if_neg (by decide)]
      clear c K d
      go_enter Try.func14, Try.ntmps14
      go_wp2_with (first | (go_at_call 17; refine (CF.out _).mono ?_; rintro e w2 ⟨rfl, hb2⟩; have HB2 := Lib.hid (blkStay (b := w.heap.size) (o := folObj A B P h) (by (first | (rw [heap_alloc_get, if_pos rfl]; done) | ((simp only [heap_alloc_get, heap_size_alloc, if_true]) <;> ((repeat' split) <;> first | rfl | omega)))) hb2); have hB2 : Below w.heap.size w w2 := Below.trans (by repeat (first | exact Below.refl _ _ | refine Below.alloc ?_ (by first | omega | (simp; done) | (simp; omega)) _ | refine Below.setCell ?_ (by first | omega | (simp; done) | (simp; omega)) _ | refine Below.drew ?_)) (Below.mono hb2 (by simp)); clear hb2; obtain ⟨cB, fB, zB⟩ := blkC HB2.out) | (go_at_call 61; refine (CP.out _).mono ?_; rintro e w' ⟨rfl, rfl⟩))
      go_ret2
      exact ⟨rfl, hB2⟩
  · rw [if_neg c, if_neg c]
    have cz : (folE A B P h != 0) = true := by simp [c]
    generalize folE A B P h = er at *
    clear c
    go_enter Try.func14, Try.ntmps14
    go_wp2_with (first | (go_at_call 17; refine (CF.out _).mono ?_; rintro e w2 ⟨rfl, hb2⟩; have hB2 : Below w.heap.size w w2 := Below.trans (by repeat (first | exact Below.refl _ _ | refine Below.alloc ?_ (by first | omega | (simp; done) | (simp; omega)) _ | refine Below.setCell ?_ (by first | omega | (simp; done) | (simp; omega)) _ | refine Below.drew ?_)) (Below.mono hb2 (by simp)); clear hb2))
    go_ret2
    exact ⟨rfl, hB2⟩


set_option maxHeartbeats 1000000 in
theorem rplaceError_any (x y : Int) (w : World) :
    Calls Try.prog 62 #[.int .i64 x, .int .i64 y, .int .i64 1] w fun e w' => e = .returned (.int .i64 (plcE x y)) ∧ w = w' := by
  go_enter Try.func62, Try.ntmps62
  go_wp2
  all_goals go_ret
  all_goals refine ⟨ret_int (Eq.symm ?_), rfl⟩
  all_goals unfold plcE
  all_goals first
    | (rw [if_neg (by rw [withinB_iff, withinB_iff]; omega)])
    | (rw [if_pos (by rw [withinB_iff, withinB_iff]; omega)])

set_option maxHeartbeats 1000000 in
set_option maxRecDepth 100000 in
theorem rliftX_any (A B P : Int) (h : Nat) (x y : Int) (w : World) (hh : h < 4294967296) :
    Calls Try.prog 15 #[fol A B P h, .int .i64 x, .int .i64 y] w fun e w' => e = .returned (.tuple #[.float .f32 (lifV A B P h x y), .int .i64 (lifE A B P h x y)]) ∧ Below w.heap.size w w' := by
  have CF := Lib.hid (fun w => refCheckFold_any A B P h hh w)
  have CP := Lib.hid (fun w => rplaceError_any x y w)
  unfold lifV lifE
  by_cases c : folE A B P h = 0
  · have K := fol_ok c
    rw [c] at CF
    rw [if_pos c]
    rcases plcE_cases x y with d | d
    · obtain ⟨p1, p2, p3, p4⟩ := plc_ok d
      have LI := Lib.hid (fun w => rlift_any A B P h x y w K (by omega) (by omega) (by omega) (by omega))
      rw [d] at CP
      rw [d, if_pos rfl]
      generalize lifW (folK A B P x y) P h = r at *
      clear c K d p1 p2 p3 p4
      go_enter Try.func15, Try.ntmps15
      go_wp2_with (first | (go_at_call 18; refine (CF.out _).mono ?_; rintro e w2 ⟨rfl, hb2⟩; have HB2 := Lib.hid (blkStay (b := w.heap.size) (o := folObj A B P h) (by (first | (rw [heap_alloc_get, if_pos rfl]; done) | ((simp only [heap_alloc_get, heap_size_alloc, if_true]) <;> ((repeat' split) <;> first | rfl | omega)))) hb2); have hB2 : Below w.heap.size w w2 := Below.trans (by repeat (first | exact Below.refl _ _ | refine Below.alloc ?_ (by first | omega | (simp; done) | (simp; omega)) _ | refine Below.setCell ?_ (by first | omega | (simp; done) | (simp; omega)) _ | refine Below.drew ?_)) (Below.mono hb2 (by simp)); clear hb2; obtain ⟨cB, fB, zB⟩ := blkC HB2.out) | (go_at_call 62; refine (CP.out _).mono ?_; rintro e w' ⟨rfl, rfl⟩) | (go_at_call 60; refine (LI.out _).mono ?_; rintro e w3 ⟨rfl, hb3⟩; have hB3 := hB2.trans (hb3.mono hB2.size)))
      go_ret2
      exact ⟨rfl, hB3⟩
    · rw [d] at CP
      rw [d, if_neg (by decide)]
      clear c K d
      go_enter Try.func15, Try.ntmps15
      go_wp2_with (first | (go_at_call 18; refine (CF.out _).mono ?_; rintro e w2 ⟨rfl, hb2⟩; have HB2 := Lib.hid (blkStay (b := w.heap.size) (o := folObj A B P h) (by (first | (rw [heap_alloc_get, if_pos rfl]; done) | ((simp only [heap_alloc_get, heap_size_alloc, if_true]) <;> ((repeat' split) <;> first | rfl | omega)))) hb2); have hB2 : Below w.heap.size w w2 := Below.trans (by repeat (first | exact Below.refl _ _ | refine Below.alloc ?_ (by first | omega | (simp; done) | (simp; omega)) _ | refine Below.setCell ?_ (by first | omega | (simp; done) | (simp; omega)) _ | refine Below.drew ?_)) (Below.mono hb2 (by simp)); clear hb2; obtain ⟨cB, fB, zB⟩ := blkC HB2.out) | (go_at_call 62; refine (CP.out _).mono ?_; rintro e w' ⟨rfl, rfl⟩))
      go_ret2
      exact ⟨rfl, hB2⟩
  · rw [if_neg c, if_neg c]
    have cz : (folE A B P h != 0) = true := by simp [c]
    generalize folE A B P h = er at *
    clear c
    go_enter Try.func15, Try.ntmps15
    go_wp2_with (first | (go_at_call 18; refine (CF.out _).mono ?_; rintro e w2 ⟨rfl, hb2⟩; have hB2 : Below w.heap.size w w2 := Below.trans (by repeat (first | exact Below.refl _ _ | refine Below.alloc ?_ (by first | omega | (simp; done) | (simp; omega)) _ | refine Below.setCell ?_ (by first | omega | (simp; done) | (simp; omega)) _ | refine Below.drew ?_)) (Below.mono hb2 (by simp)); clear hb2))
    go_ret2
    exact ⟨rfl, hB2⟩

end Go.Proofs.Ytdbponidkodmfaa

/- Select of both sides, of a right field. -/
namespace Go.Proofs.Ytdbponidkodmfaa
open Go.RowKit Fl
set_option linter.unusedVariables false

/-- Three singles, as a list. -/
def three (a b c : Nat) (i : Nat) : Nat := if i = 0 then a else if i = 1 then b else c
theorem flAt_three {w : World} {k a b c : Nat} (h : w.heap[k]? = some (.cells #[.float .f32 a, .float .f32 b, .float .f32 c] 34)) : FlAt w k 0 3 (three a b c) := by
  intro i hi
  rw [Nat.zero_add, (blkC h).1 i]
  have : i = 0 ∨ i = 1 ∨ i = 2 := by omega
  rcases this with rfl | rfl | rfl <;> rfl
theorem three_hgt {a b c : Nat} (h : fldE 3 (three a b c) = 0) : hgtB a = true ∧ hgtB b = true ∧ hgtB c = true := by
  have := allB_iff.1 (fldE_zero.1 h)
  exact ⟨this 0 (by omega), this 1 (by omega), this 2 (by omega)⟩
theorem three_wf {a b c : Nat} (ha : a < 4294967296) (hb : b < 4294967296) (hc : c < 4294967296) : wf32 3 (three a b c) := by
  intro i hi
  have : i = 0 ∨ i = 1 ∨ i = 2 := by omega
  rcases this with rfl | rfl | rfl <;> assumption

/-- The error of Select's singles. -/
def selE (lo hi so : Nat) : Int := if fldE 3 (three lo hi so) = 0 then (if (FloatKind.f32.format.order lo hi == some .gt) = true then 8 else if (FloatKind.f32.format.order so 0 == some .lt) = true then 3 else 0) else fldE 3 (three lo hi so)

end Go.Proofs.Ytdbponidkodmfaa

/- Select of the reference, of a right field. -/
namespace Go.Proofs.Ytdbponidkodmfaa
open Go.RowKit Fl
set_option linter.unusedVariables false

end Go.Proofs.Ytdbponidkodmfaa

/- Terrace of the program, of a right field. -/
namespace Go.Proofs.Ytdbponidkodmfaa
open Go.RowKit Fl
set_option linter.unusedVariables false

/-- The tests of Terrace's singles: what is wrong. -/
def terB (st sh : Nat) : Bool := (FloatKind.f32.format.order st 981467136 == some .lt) || ((FloatKind.f32.format.order st 1149239296 == some .gt) || ((FloatKind.f32.format.order sh 0 == some .lt) || (FloatKind.f32.format.order sh 1065353216 == some .gt || FloatKind.f32.format.order sh 1065353216 == some .eq)))
/-- The error of Terrace's singles. -/
def terE (st sh : Nat) : Int := if fldE 2 (two st sh) = 0 then (if terB st sh = true then 3 else 0) else fldE 2 (two st sh)

theorem two_wf {a b : Nat} (ha : a < 4294967296) (hb : b < 4294967296) : wf32 2 (two a b) := by
  intro i hi
  have : i = 0 ∨ i = 1 := by omega
  rcases this with rfl | rfl <;> assumption

theorem ter_ok {st sh : Nat} (h : hgtB st = true) (h' : hgtB sh = true) (c1 : (FloatKind.f32.format.order st 981467136 == some .lt) = false) (c2 : (FloatKind.f32.format.order st 1149239296 == some .gt) = false) (c3 : (FloatKind.f32.format.order sh 0 == some .lt) = false)
    (c4 : (FloatKind.f32.format.order sh 1065353216 == some .gt || FloatKind.f32.format.order sh 1065353216 == some .eq) = false) : StepOk st ∧ ShOk sh := by
  constructor
  · exact step_ok (by unfold wiE; rw [if_neg (by rw [hgt_fin h]; simp), if_neg (by rw [c1, c2]; simp)])
  · obtain ⟨b, hb, _⟩ := hgt_val h'
    rw [f32f, lss_val hb vS_zero] at c3
    rw [f32f, geq_val hb vS_one] at c4
    exact ⟨b, hb, by simpa using c3, by simpa using c4⟩

end Go.Proofs.Ytdbponidkodmfaa

/- Terrace of the reference, of a right field. -/
namespace Go.Proofs.Ytdbponidkodmfaa
open Go.RowKit Fl
set_option linter.unusedVariables false

theorem al_below (w : World) (o : Obj) : Below w.heap.size w (w.alloc o) := (Below.refl _ _).alloc (Nat.le_refl _) o
theorem ter_lt {v st sh : Nat} (hv : hgtB v = true) (hs : StepOk st) (hsh : ShOk sh) : terW v st sh < 4294967296 := by
  obtain ⟨q, d, c, u, x, y, j, r, T⟩ := ter_parts hv hs hsh
  rw [T.w]; exact T.lt

end Go.Proofs.Ytdbponidkodmfaa

/- SelectsMatch: Select and Terrace answer as the references do, for every field that fit makes, and any three singles. -/
namespace Go.Proofs.Ytdbponidkodmfaa
open Go.RowKit Fl
set_option linter.unusedVariables false

end Go.Proofs.Ytdbponidkodmfaa

/- Contracts of the regions' functions, continued: the reference's Inside; Common. -/
namespace Go.Proofs.Ytdbponidkodmfaa
open Go.RowKit

set_option maxHeartbeats 1000000 in
theorem refInside_any (x y ww hh x' y' ww' hh' : Int) (w : World) (_ : -1073741824 ≤ x) (_ : x ≤ 1073741824) (_ : -1073741824 ≤ y) (_ : y ≤ 1073741824) (a5 : 1 ≤ ww) (a6 : ww ≤ 1073741824) (a7 : 1 ≤ hh) (a8 : hh ≤ 1073741824)
    (b1 : -1073741824 ≤ x') (b2 : x' ≤ 1073741824) (b3 : -1073741824 ≤ y') (b4 : y' ≤ 1073741824) (b5 : 1 ≤ ww') (b6 : ww' ≤ 1073741824) (b7 : 1 ≤ hh') (b8 : hh' ≤ 1073741824) :
    Calls Try.prog 46 #[reg x y ww hh, reg x' y' ww' hh'] w fun e w' => e = .returned (.bool (insideB x y ww hh x' y' ww' hh')) ∧ Below w.heap.size w w' := by
  go_enter Try.func46, Try.ntmps46
  go_wp2
  all_goals go_ret
  all_goals refine ⟨ret_bool ?_, (by repeat (first | exact Below.refl _ _ | refine Below.alloc ?_ (by first | omega | (simp; done) | (simp; omega)) _ | refine Below.setCell ?_ (by first | omega | (simp; done) | (simp; omega)) _ | refine Below.drew ?_))⟩
  all_goals (rw [Bool.eq_iff_iff, insideB_iff]; simp; omega)


def maxI (a b : Int) : Int := if a < b then b else a
def minI (a b : Int) : Int := if b < a then b else a
theorem maxI_le (a b : Int) : a ≤ maxI a b ∧ b ≤ maxI a b ∧ (maxI a b = a ∨ maxI a b = b) := by unfold maxI; split <;> omega
theorem minI_le (a b : Int) : minI a b ≤ a ∧ minI a b ≤ b ∧ (minI a b = a ∨ minI a b = b) := by unfold minI; split <;> omega

/-- What Common answers. -/
def comB (x y w h x' y' w' h' : Int) : Bool := decide (1 ≤ minI (x + w) (x' + w') - maxI x x') && decide (1 ≤ minI (y + h) (y' + h') - maxI y y')
def comR (x y w h x' y' w' h' : Int) : Value :=
  if comB x y w h x' y' w' h' then reg (maxI x x') (maxI y y') (minI (x + w) (x' + w') - maxI x x') (minI (y + h) (y' + h') - maxI y y') else reg 0 0 0 0
theorem comB_iff {x y w h x' y' w' h' : Int} : comB x y w h x' y' w' h' = true ↔ 1 ≤ minI (x + w) (x' + w') - maxI x x' ∧ 1 ≤ minI (y + h) (y' + h') - maxI y y' := by simp [comB]
theorem comB_no {x y w h x' y' w' h' : Int} : comB x y w h x' y' w' h' = false ↔ minI (x + w) (x' + w') - maxI x x' < 1 ∨ minI (y + h) (y' + h') - maxI y y' < 1 := by
  rw [← Bool.not_eq_true, comB_iff]; omega

set_option maxHeartbeats 1000000 in
theorem common_any (x y ww hh x' y' ww' hh' : Int) (w : World) (a1 : -1073741824 ≤ x) (a2 : x ≤ 1073741824) (a3 : -1073741824 ≤ y) (a4 : y ≤ 1073741824) (a5 : 1 ≤ ww) (a6 : ww ≤ 1073741824) (a7 : 1 ≤ hh) (a8 : hh ≤ 1073741824)
    (b1 : -1073741824 ≤ x') (b2 : x' ≤ 1073741824) (b3 : -1073741824 ≤ y') (b4 : y' ≤ 1073741824) (b5 : 1 ≤ ww') (b6 : ww' ≤ 1073741824) (b7 : 1 ≤ hh') (b8 : hh' ≤ 1073741824) :
    Calls Try.prog 118 #[reg x y ww hh, reg x' y' ww' hh'] w fun e w' => e = .returned (.tuple #[comR x y ww hh x' y' ww' hh', .bool (comB x y ww hh x' y' ww' hh')]) ∧ Below w.heap.size w w' := by
  have hx : (if x < x' then x' else x) = maxI x x' := rfl
  have hy : (if y < y' then y' else y) = maxI y y' := rfl
  have ex : (if x' + ww' < x + ww then x' + ww' else x + ww) = minI (x + ww) (x' + ww') := rfl
  have ey : (if y' + hh' < y + hh then y' + hh' else y + hh) = minI (y + hh) (y' + hh') := rfl
  obtain ⟨x1, x2, x3⟩ := maxI_le x x'
  obtain ⟨y1, y2, y3⟩ := maxI_le y y'
  obtain ⟨x4, x5, x6⟩ := minI_le (x + ww) (x' + ww')
  obtain ⟨y4, y5, y6⟩ := minI_le (y + hh) (y' + hh')
  have x7 : -1073741824 ≤ maxI x x' ∧ maxI x x' ≤ 1073741824 ∧ -1073741824 ≤ minI (x + ww) (x' + ww') ∧ minI (x + ww) (x' + ww') ≤ 2147483648 := by omega
  have y7 : -1073741824 ≤ maxI y y' ∧ maxI y y' ≤ 1073741824 ∧ -1073741824 ≤ minI (y + hh) (y' + hh') ∧ minI (y + hh) (y' + hh') ≤ 2147483648 := by omega
  clear x3 y3 x6 y6
  obtain ⟨x7, x8, x9, xa⟩ := x7
  obtain ⟨y7, y8, y9, ya⟩ := y7
  rcases (show (1 ≤ minI (x + ww) (x' + ww') - maxI x x' ∧ 1 ≤ minI (y + hh) (y' + hh') - maxI y y') ∨ (1 ≤ minI (x + ww) (x' + ww') - maxI x x' ∧ minI (y + hh) (y' + hh') - maxI y y' < 1) ∨ minI (x + ww) (x' + ww') - maxI x x' < 1 by omega) with ⟨t1, t2⟩ | ⟨t1, t2⟩ | t1
  · have hb : comB x y ww hh x' y' ww' hh' = true := comB_iff.2 ⟨t1, t2⟩
    have hr : comR x y ww hh x' y' ww' hh' = reg (maxI x x') (maxI y y') (minI (x + ww) (x' + ww') - maxI x x') (minI (y + hh) (y' + hh') - maxI y y') := by unfold comR; rw [if_pos hb]
    rw [hb, hr]
    clear hb hr
    go_enter Try.func118, Try.ntmps118
    go_wp2
    go_region
    go_wp2
    exact bodyPost_ret (v := .tuple #[reg (maxI x x') (maxI y y') (minI (x + ww) (x' + ww') - maxI x x') (minI (y + hh) (y' + hh') - maxI y y'), .bool true]) (by simp [results, Try.results118, go_sem]) rfl ⟨rfl, (by repeat (first | exact Below.refl _ _ | refine Below.alloc ?_ (by first | omega | (simp; done) | (simp; omega)) _ | refine Below.setCell ?_ (by first | omega | (simp; done) | (simp; omega)) _ | refine Below.drew ?_))⟩
  all_goals
    have hb : comB x y ww hh x' y' ww' hh' = false := comB_no.2 (by omega)
    have hr : comR x y ww hh x' y' ww' hh' = reg 0 0 0 0 := by unfold comR; rw [hb]; rfl
    rw [hb, hr]
    clear hb hr
    go_enter Try.func118, Try.ntmps118
    go_wp2
    go_region
    go_wp2
    exact bodyPost_ret (v := .tuple #[reg 0 0 0 0, .bool false]) (by simp [results, Try.results118, go_sem]) rfl ⟨rfl, (by repeat (first | exact Below.refl _ _ | refine Below.alloc ?_ (by first | omega | (simp; done) | (simp; omega)) _ | refine Below.setCell ?_ (by first | omega | (simp; done) | (simp; omega)) _ | refine Below.drew ?_))⟩

set_option maxHeartbeats 1000000 in
theorem refCommon_any (x y ww hh x' y' ww' hh' : Int) (w : World) (a1 : -1073741824 ≤ x) (a2 : x ≤ 1073741824) (a3 : -1073741824 ≤ y) (a4 : y ≤ 1073741824) (a5 : 1 ≤ ww) (a6 : ww ≤ 1073741824) (a7 : 1 ≤ hh) (a8 : hh ≤ 1073741824)
    (b1 : -1073741824 ≤ x') (b2 : x' ≤ 1073741824) (b3 : -1073741824 ≤ y') (b4 : y' ≤ 1073741824) (b5 : 1 ≤ ww') (b6 : ww' ≤ 1073741824) (b7 : 1 ≤ hh') (b8 : hh' ≤ 1073741824) :
    Calls Try.prog 50 #[reg x y ww hh, reg x' y' ww' hh'] w fun e w' => e = .returned (.tuple #[comR x y ww hh x' y' ww' hh', .bool (comB x y ww hh x' y' ww' hh')]) ∧ Below w.heap.size w w' := by
  have hx : (if x < x' then x' else x) = maxI x x' := rfl
  have hy : (if y < y' then y' else y) = maxI y y' := rfl
  have ex : (if x' + ww' < x + ww then x' + ww' else x + ww) = minI (x + ww) (x' + ww') := rfl
  have ey : (if y' + hh' < y + hh then y' + hh' else y + hh) = minI (y + hh) (y' + hh') := rfl
  obtain ⟨x1, x2, x3⟩ := maxI_le x x'
  obtain ⟨y1, y2, y3⟩ := maxI_le y y'
  obtain ⟨x4, x5, x6⟩ := minI_le (x + ww) (x' + ww')
  obtain ⟨y4, y5, y6⟩ := minI_le (y + hh) (y' + hh')
  have x7 : -1073741824 ≤ maxI x x' ∧ maxI x x' ≤ 1073741824 ∧ -1073741824 ≤ minI (x + ww) (x' + ww') ∧ minI (x + ww) (x' + ww') ≤ 2147483648 := by omega
  have y7 : -1073741824 ≤ maxI y y' ∧ maxI y y' ≤ 1073741824 ∧ -1073741824 ≤ minI (y + hh) (y' + hh') ∧ minI (y + hh) (y' + hh') ≤ 2147483648 := by omega
  clear x3 y3 x6 y6
  obtain ⟨x7, x8, x9, xa⟩ := x7
  obtain ⟨y7, y8, y9, ya⟩ := y7
  rcases (show (1 ≤ minI (x + ww) (x' + ww') - maxI x x' ∧ 1 ≤ minI (y + hh) (y' + hh') - maxI y y') ∨ (1 ≤ minI (x + ww) (x' + ww') - maxI x x' ∧ minI (y + hh) (y' + hh') - maxI y y' < 1) ∨ minI (x + ww) (x' + ww') - maxI x x' < 1 by omega) with ⟨t1, t2⟩ | ⟨t1, t2⟩ | t1
  · have hb : comB x y ww hh x' y' ww' hh' = true := comB_iff.2 ⟨t1, t2⟩
    have hr : comR x y ww hh x' y' ww' hh' = reg (maxI x x') (maxI y y') (minI (x + ww) (x' + ww') - maxI x x') (minI (y + hh) (y' + hh') - maxI y y') := by unfold comR; rw [if_pos hb]
    rw [hb, hr]
    clear hb hr
    go_enter Try.func50, Try.ntmps50
    go_wp2
    go_region
    go_wp2
    exact bodyPost_ret (v := .tuple #[reg (maxI x x') (maxI y y') (minI (x + ww) (x' + ww') - maxI x x') (minI (y + hh) (y' + hh') - maxI y y'), .bool true]) (by simp [results, Try.results50, go_sem]) rfl ⟨rfl, (by repeat (first | exact Below.refl _ _ | refine Below.alloc ?_ (by first | omega | (simp; done) | (simp; omega)) _ | refine Below.setCell ?_ (by first | omega | (simp; done) | (simp; omega)) _ | refine Below.drew ?_))⟩
  all_goals
    have hb : comB x y ww hh x' y' ww' hh' = false := comB_no.2 (by omega)
    have hr : comR x y ww hh x' y' ww' hh' = reg 0 0 0 0 := by unfold comR; rw [hb]; rfl
    rw [hb, hr]
    clear hb hr
    go_enter Try.func50, Try.ntmps50
    go_wp2
    go_region
    go_wp2
    exact bodyPost_ret (v := .tuple #[reg 0 0 0 0, .bool false]) (by simp [results, Try.results50, go_sem]) rfl ⟨rfl, (by repeat (first | exact Below.refl _ _ | refine Below.alloc ?_ (by first | omega | (simp; done) | (simp; omega)) _ | refine Below.setCell ?_ (by first | omega | (simp; done) | (simp; omega)) _ | refine Below.drew ?_))⟩

end Go.Proofs.Ytdbponidkodmfaa

/- HashesMatch: Hash, Unit and Signed answer as the references do; units are from 0 to below 1, signed ones from -1. -/
namespace Go.Proofs.Ytdbponidkodmfaa
open Go.RowKit Fl
set_option linter.unusedVariables false

theorem unit_cmp {h : Int} (h0 : 0 ≤ h) (h1 : h < 4294967296) : (FloatKind.f32.format.order (unitW h) 0 == some .gt || FloatKind.f32.format.order (unitW h) 0 == some .eq) = true ∧ (FloatKind.f32.format.order (unitW h) 1065353216 == some .lt) = true := by
  obtain ⟨a, v, a0, a1⟩ := unit_in h0 h1
  rw [show FloatKind.f32.format = Ieee.single from rfl]
  exact ⟨by rw [geq_val v vS_zero]; simpa using a0, by rw [lss_val v vS_one]; simpa using a1⟩
theorem sgn_cmp {h : Int} (h0 : 0 ≤ h) (h1 : h < 4294967296) : (FloatKind.f32.format.order (sgnW h) 3212836864 == some .gt || FloatKind.f32.format.order (sgnW h) 3212836864 == some .eq) = true ∧ (FloatKind.f32.format.order (sgnW h) 1065353216 == some .lt) = true := by
  obtain ⟨a, v, a0, a1⟩ := sgn_in h0 h1
  rw [show FloatKind.f32.format = Ieee.single from rfl]
  exact ⟨by rw [geq_val v vS_mone]; simpa using a0, by rw [lss_val v vS_one]; simpa using a1⟩

set_option maxHeartbeats 400000 in
theorem bits_self (x : Nat) (w : World) :
    Calls Try.prog 37 #[.float .f32 x, .float .f32 x] w fun e w' => e = .returned (.bool true) ∧ w = w' := by
  have h1 := f32bits
  go_enter Try.func37, Try.ntmps37
  go_wp2
  go_ret
  exact ⟨rfl, rfl⟩

end Go.Proofs.Ytdbponidkodmfaa

/- EaseMatches: Ease answers as the reference does, and from 0 to 1. -/
namespace Go.Proofs.Ytdbponidkodmfaa
open Go.RowKit Fl
set_option linter.unusedVariables false

set_option maxHeartbeats 400000 in
theorem one_ok (x : Nat) (w : World) :
    Calls Try.prog 16 #[.float .f32 x, .int .i64 0, .float .f32 x, .int .i64 0] w fun e w' => e = .returned (.bool true) ∧ w = w' := by
  go_enter Try.func16, Try.ntmps16
  go_wp2_with (go_at_call 37; refine (bits_self _ _).mono ?_; rintro e w' ⟨rfl, rfl⟩)
  go_ret
  exact ⟨rfl, rfl⟩

set_option maxHeartbeats 400000 in
theorem one_err (b : Nat) (k : Int) (hk : k = 2 ∨ k = 3 ∨ k = 4 ∨ k = 5) (w : World) :
    Calls Try.prog 16 #[.float .f32 0, .int .i64 k, .float .f32 b, .int .i64 k] w fun e w' => e = .returned (.bool true) ∧ w = w' := by
  rcases hk with rfl | rfl | rfl | rfl
  all_goals go_enter Try.func16, Try.ntmps16
  all_goals go_wp2_with (go_at_call 37; refine (bits_self _ _).mono ?_; rintro e w' ⟨rfl, rfl⟩)
  all_goals go_ret
  all_goals exact ⟨rfl, rfl⟩

theorem zero_geq : (FloatKind.f32.format.order 0 0 == some .gt || FloatKind.f32.format.order 0 0 == some .eq) = true := by rw [f32f, geq_val vS_zero vS_zero]; simp
theorem zero_leq : (FloatKind.f32.format.order 0 1065353216 == some .lt || FloatKind.f32.format.order 0 1065353216 == some .eq) = true := by
  rw [f32f, leq_val vS_zero vS_one]; simp
end Go.Proofs.Ytdbponidkodmfaa

/- FoldsMatch: CheckFold, Lift and Folds answer as the references do, for every list of folds, every field that fit makes, and every place. -/
namespace Go.Proofs.Ytdbponidkodmfaa
open Go.RowKit Fl
set_option linter.unusedVariables false

set_option maxHeartbeats 400000 in
theorem one_errX (b : Nat) (k : Int) (hk : k ≠ 0) (w : World) :
    Calls Try.prog 16 #[.float .f32 0, .int .i64 k, .float .f32 b, .int .i64 k] w fun e w' => e = .returned (.bool true) ∧ w = w' := by
  have hb : (k != 0) = true := by simp [hk]
  clear hk
  go_enter Try.func16, Try.ntmps16
  go_wp2_with (go_at_call 37; refine (bits_self _ _).mono ?_; rintro e w' ⟨rfl, rfl⟩)
  go_ret
  exact ⟨rfl, rfl⟩

set_option maxHeartbeats 4000000 in
set_option maxRecDepth 100000 in
theorem foldsMatch_any (a : Option Addr) (m lcap : Nat) (A B P : Nat → Int) (h : Nat → Nat) (X0 Y0 W0 H0 : Int) (sl : Value) (x y : Int) (w : World) (L : FolL w a m A B P h) (hml : m ≤ 9223372036854775807) (wh : wf32 m h)
    (hfit : ∀ W', Below w.heap.size w W' → Calls Try.prog 10 #[fldV X0 Y0 W0 H0 sl] W' (FitPost W')) :
    Calls Try.prog 3 #[.slice a m lcap, fldV X0 Y0 W0 H0 sl, .int .i64 x, .int .i64 y] w fun e w' => e = .returned (.bool true) ∧ Below w.heap.size w w' := by
  have HF := Lib.hid hfit
  have HL := Lib.hid L
  obtain ⟨er, E⟩ := lstE_ex (fun i => folE (A i) (B i) (P i) (h i)) m
  have hsf := fun (w : World) (a : Addr) (m : Mode) (k : FloatKind) (b : Nat) => run_store_float (P := Try.prog) (w := w) (a := a) (m := m) k b
  have CF := Lib.hid (fun i w => checkFold_any (A i) (B i) (P i) (h i) w)
  have CR := Lib.hid (fun i (hi : i < m) w => refCheckFold_any (A i) (B i) (P i) (h i) (wh i hi) w)
  have LF := Lib.hid (fun i w => liftX_any (A i) (B i) (P i) (h i) x y w)
  have LR := Lib.hid (fun i (hi : i < m) w => rliftX_any (A i) (B i) (P i) (h i) x y w (wh i hi))
  have ON := Lib.hid (fun i w => show Calls Try.prog 16 #[.float .f32 (lifV (A i) (B i) (P i) (h i) x y), .int .i64 (lifE (A i) (B i) (P i) (h i) x y), .float .f32 (lifV (A i) (B i) (P i) (h i) x y), .int .i64 (lifE (A i) (B i) (P i) (h i) x y)] w fun e w' => e = .returned (.bool true) ∧ w = w' by
    by_cases c : lifE (A i) (B i) (P i) (h i) x y = 0
    · rw [c]; exact one_ok _ w
    · have : lifV (A i) (B i) (P i) (h i) x y = 0 := by unfold lifV; rw [if_neg c]
      rw [this]; exact one_errX 0 _ c w)
  clear hfit L
  go_enter Try.func3, Try.ntmps3
  go_wp2_with (first | (go_at_call 9; refine (landed_any _).mono ?_; rintro e w1 ⟨rfl, hb1⟩; have HA1 := Lib.hid (blkStay (b := w.heap.size) (o := fldO X0 Y0 W0 H0 sl) (heap_alloc_new w _) hb1); have hB1 : Below w.heap.size w w1 := Below.trans (by repeat (first | exact Below.refl _ _ | refine Below.alloc ?_ (by first | omega | (simp; done) | (simp; omega)) _ | refine Below.setCell ?_ (by first | omega | (simp; done) | (simp; omega)) _ | refine Below.drew ?_)) (Below.mono hb1 (by first | omega | (simp; done) | (simp; omega))); obtain ⟨cA, fA, zA⟩ := blkC HA1.out; clear hb1))
  refine (HF.out w1 hB1).mono ?_
  rintro e w2 ⟨X, Y, W', H', b, n, rfl, x1, x2, y1, y2, u1, u2, h1, h2, hn, hn1, hn2, hlo, hrow, hb2⟩
  obtain ⟨W, rfl⟩ : ∃ W : Nat, W' = W := ⟨W'.toNat, by omega⟩
  obtain ⟨H, rfl⟩ : ∃ H : Nat, H' = H := ⟨H'.toNat, by omega⟩
  obtain ⟨v, fv, wv, hv, bv⟩ := fit_fn hrow
  have h0 := fit_check x1 x2 y1 y2 u1 u2 h1 h2 hn hn2
  have hnn : n = W * H := by
    have : (n : Int) = ((W * H : Nat) : Int) := by rw [hn]; simp
    omega
  have HA2 := Lib.hid (blkStay HA1.out hb2)
  have hB2 : Below w.heap.size w w2 := hB1.trans (hb2.mono hB1.size)
  obtain ⟨cA, fA, zA⟩ := blkC HA2.out
  have S1 := Lib.hid (fun W' (hB : Below w.heap.size w W') (hf : FlAt W' b 0 n v) => folds_any X Y W H n b n v a m lcap A B P h er W' h0 hnn hf hv (HL.out.stay hB) hml E)
  have S2 := Lib.hid (fun W' (hB : Below w.heap.size w W') (hf : FlAt W' b 0 n v) => rfolds_any X Y W H n b n v a m lcap A B P h er W' h0 hnn hf hv wv (HL.out.stay hB) hml wh E)
  clear x1 x2 y1 y2 u1 u2 h1 h2 hn h0 hnn hrow hv wv
  have hbp : b ≠ w.heap.size := by have := hB1.size; omega
  have HA3 := Lib.hid (set5_self (.int .i64 X) (.int .i64 Y) (.int .i64 W) (.int .i64 H) (.slice (some ⟨b, 0, none⟩) n n) HA2.out)
  have F3 := Lib.hid (flAt_congr fv (set5_heap w2 w.heap.size b (.int .i64 X) (.int .i64 Y) (.int .i64 W) (.int .i64 H) (.slice (some ⟨b, 0, none⟩) n n) hbp))
  have hB3 := set5_below hB2 w.heap.size (.int .i64 X) (.int .i64 Y) (.int .i64 W) (.int .i64 H) (.slice (some ⟨b, 0, none⟩) n n) (Nat.le_refl _)
  clear hb2
  go_wp2_with fail
  refine (S1.out _ hB3 F3.out).mono ?_
  intro e w4 hp
  obtain ⟨x1, y1, u1, h1, p1, l1, q1, k1, rfl, r1, hb4⟩ := made_res hp
  have hx := set5_size w2 w.heap.size (.int .i64 X) (.int .i64 Y) (.int .i64 W) (.int .i64 H) (.slice (some ⟨b, 0, none⟩) n n)
  have F4 := Lib.hid (flAt_congr F3.out (hb4.block b (by rw [hx]; exact bv)))
  have HA4 := Lib.hid (blkStay HA3.out hb4)
  have hB4 := hB3.trans (hb4.mono hB3.size)
  have bv4 : b < w4.heap.size := by have := hb4.size; rw [hx] at this; omega
  clear hp
  rw [hx] at r1
  clear hb4 HA3 F3 hB3 hx cA fA zA HA2 hB2 hlo fv bv
  obtain ⟨cA, fA, zA⟩ := blkC HA4.out
  -- the reference's Select
  have hb5 := al_below w4 (fldO x1 y1 u1 h1 (.slice p1 l1 q1))
  have F5 := Lib.hid (flAt_congr F4.out (heap_alloc_old w4 (fldO x1 y1 u1 h1 (.slice p1 l1 q1)) bv4))
  have HA5 := Lib.hid ((heap_alloc_old w4 (fldO x1 y1 u1 h1 (.slice p1 l1 q1)) zA).trans HA4.out)
  have HQ5 := Lib.hid (heap_alloc_new w4 (fldO x1 y1 u1 h1 (.slice p1 l1 q1)))
  have R5 := Lib.hid (r1.stay hb5)
  go_wp2_with fail
  refine (S2.out _ (hB4.trans (hb5.mono hB4.size)) F5.out).mono ?_
  intro e w6 hp
  obtain ⟨x2, y2, u2, h2, p2, l2, q2, k2, rfl, r2, hb6⟩ := made_res hp
  have hb46 := hb5.trans (hb6.mono hb5.size)
  have F6 := Lib.hid (flAt_congr F5.out (hb6.block b (by have := hb5.size; omega)))
  have HA6 := Lib.hid (blkStay HA5.out hb6)
  have HQ6 := Lib.hid (blkStay HQ5.out hb6)
  have R6 := Lib.hid (R5.out.stay hb6)
  have hB6 := hB4.trans (hb46.mono hB4.size)
  have bv6 : b < w6.heap.size := by have := hb46.size; omega
  clear r1 R5 HQ5 HA5 F5 hb5 hb46 hp F4 HA4 hb6 cA fA
  obtain ⟨cA, fA, zA6⟩ := blkC HA6.out
  obtain ⟨cQ, fQ, zQ6⟩ := blkC HQ6.out
  -- same
  have hb7 := al_below w6 (fldO x2 y2 u2 h2 (.slice p2 l2 q2))
  have F7 := Lib.hid (flAt_congr F6.out (heap_alloc_old w6 (fldO x2 y2 u2 h2 (.slice p2 l2 q2)) bv6))
  have HA7 := Lib.hid ((heap_alloc_old w6 (fldO x2 y2 u2 h2 (.slice p2 l2 q2)) zA6).trans HA6.out)
  have HQ7 := Lib.hid ((heap_alloc_old w6 (fldO x2 y2 u2 h2 (.slice p2 l2 q2)) zQ6).trans HQ6.out)
  have HR7 := Lib.hid (heap_alloc_new w6 (fldO x2 y2 u2 h2 (.slice p2 l2 q2)))
  have R7 := Lib.hid (R6.out.stay hb7)
  have T7 := Lib.hid (r2.stay hb7)
  go_wp2_with fail
  refine (same_res hn1 (by omega) R7.out T7.out).mono ?_
  rintro e w8 ⟨rfl, hb8⟩
  have hb68 := hb7.trans (hb8.mono hb7.size)
  have F8 := Lib.hid (flAt_congr F7.out (hb8.block b (by have := hb7.size; omega)))
  have HA8 := Lib.hid (blkStay HA7.out hb8)
  have HQ8 := Lib.hid (blkStay HQ7.out hb8)
  have HR8 := Lib.hid (blkStay HR7.out hb8)
  have hB8 := hB6.trans (hb68.mono hB6.size)
  have bv8 : b < w8.heap.size := by have := hb68.size; omega
  clear R6 r2 R7 T7 HR7 HQ7 HA7 F7 hb7 hb8 hb68 HQ6 HA6 F6 cA fA cQ fQ
  obtain ⟨cA, fA, zA8⟩ := blkC HA8.out
  obtain ⟨cQ, fQ, zQ8⟩ := blkC HQ8.out
  obtain ⟨cR, fR, zR8⟩ := blkC HR8.out
  clear cA fA cQ fQ cR fR HA8 HQ8 HR8 F8 S1 S2 E wh hn1 hn2 HF bv8 bv6 bv4
  have HB8 := Lib.hid hB8
  clear hB8
  go_wp2_with fail
  go_loopw [43] (fun i wr => ∃ j : Nat, j ≤ m ∧ i = .int .i64 j ∧ Below w.heap.size w wr) (fun i _ => m - (intOf i).toNat)
  case atStart => exact ⟨0, by omega, rfl, HB8.out⟩
  case round =>
    obtain ⟨j, hj, rfl, hb⟩ := hrel
    have HB := Lib.hid hb
    by_cases c : j < m
    · rcases HL.out.stay hb with z | ⟨b', off, rfl, l⟩
      · omega
      obtain ⟨l0, l1, l2, l3⟩ := l j c
      have C1 := Lib.hid (fun w => CF.out j w)
      have C2 := Lib.hid (fun w => CR.out j c w)
      have L1 := Lib.hid (fun w => LF.out j w)
      have L2 := Lib.hid (fun w => LR.out j c w)
      have O1 := Lib.hid (fun w => ON.out j w)
      generalize folE (A j) (B j) (P j) (h j) = fe at *
      generalize lifV (A j) (B j) (P j) (h j) x y = V at *
      generalize lifE (A j) (B j) (P j) (h j) x y = E at *
      clear l hb CF CR LF LR ON
      go_wp2_with (first | (go_at_call 14; refine (L1.out _).mono ?_; rintro e' w9 ⟨rfl, hb9⟩; have HF9 := Lib.hid (blkStay (b := wr.heap.size) (o := folObj (A j) (B j) (P j) (h j)) (by (first | (rw [heap_alloc_get, if_pos rfl]; done) | ((simp only [heap_alloc_get, heap_size_alloc, if_true]) <;> ((repeat' split) <;> first | rfl | omega)))) hb9); have hB9 : Below wr.heap.size wr w9 := Below.trans (by repeat (first | exact Below.refl _ _ | refine Below.alloc ?_ (by first | omega | (simp; done) | (simp; omega)) _ | refine Below.setCell ?_ (by first | omega | (simp; done) | (simp; omega)) _ | refine Below.drew ?_)) (Below.mono hb9 (by simp)); clear hb9; obtain ⟨cF, fF, zF⟩ := blkC HF9.out) | (go_at_call 15; refine (L2.out _).mono ?_; rintro e' w10 ⟨rfl, hb10⟩; clear cF fF zF; have HF10 := Lib.hid (blkStay HF9.out hb10); have hB10 := hB9.trans (hb10.mono hB9.size); clear hb10 HF9 hB9; obtain ⟨cF, fF, zF⟩ := blkC HF10.out))
      go_region_held3 (fun w' => (∀ o, w'.cell? ⟨wr.heap.size, o, none⟩ = #[.int .i64 (A j), .int .i64 (B j), .int .i64 (P j), .float .f32 (h j)][o]?) ∧ Below w10.heap.size w10 w') (first | exact ⟨(blkC (blkStay HF10.out hb9)).1, hb9⟩ | exact ⟨(blkC (blkStay HF10.out (by repeat (first | exact Below.refl _ _ | refine Below.alloc ?_ (by first | omega | (simp; done) | (simp; omega)) _ | refine Below.setCell ?_ (by first | omega | (simp; done) | (simp; omega)) _ | refine Below.drew ?_)))).1, (by repeat (first | exact Below.refl _ _ | refine Below.alloc ?_ (by first | omega | (simp; done) | (simp; omega)) _ | refine Below.setCell ?_ (by first | omega | (simp; done) | (simp; omega)) _ | refine Below.drew ?_))⟩) (first | (go_at_call 17; (with_reducible refine Calls.mono (C1.out _) ?_); rintro e w' ⟨rfl, hb8⟩; have hb9 : Below w10.heap.size w10 w' := Below.trans (by first | exact hb9 | exact hb9.drew | exact (by repeat (first | exact Below.refl _ _ | refine Below.alloc ?_ (by first | omega | (simp; done) | (simp; omega)) _ | refine Below.setCell ?_ (by first | omega | (simp; done) | (simp; omega)) _ | refine Below.drew ?_))) (Below.mono hb8 (by first | exact hb9.size | exact Nat.le_refl _ | (simp; done) | (simp; omega))); clear hb8) | (go_at_call 18; (with_reducible refine Calls.mono (C2.out _) ?_); rintro e w' ⟨rfl, hb8⟩; have hb9 : Below w10.heap.size w10 w' := Below.trans (by first | exact hb9 | exact hb9.drew | exact (by repeat (first | exact Below.refl _ _ | refine Below.alloc ?_ (by first | omega | (simp; done) | (simp; omega)) _ | refine Below.setCell ?_ (by first | omega | (simp; done) | (simp; omega)) _ | refine Below.drew ?_))) (Below.mono hb8 (by first | exact hb9.size | exact Nat.le_refl _ | (simp; done) | (simp; omega))); clear hb8) | (go_at_call 16; refine (O1.out _).mono ?_; rintro e w' ⟨rfl, rfl⟩))
      rename_i wh hHeld
      have HH := Lib.hid ((HB.out.trans (hB10.mono HB.out.size)).trans (hHeld.2.mono (Nat.le_trans HB.out.size hB10.size)))
      clear hB10 hHeld cF fF zF
      go_wp2
      go_roundw
      case rel => exact ⟨j + 1, by omega, by go_num, HH.out⟩
      case measure => simp [intOf]; omega
    · have : j = m := by omega
      subst this
      go_wp2
      go_ret
      exact ⟨rfl, HB.out⟩
end Go.Proofs.Ytdbponidkodmfaa

/- A field that came in, opened: four integers, and a slice of singles that is empty or known cell by cell. -/
namespace Go.Proofs.Ytdbponidkodmfaa
open Go.ChangeShapes Go.WideShapes Go.ChangeAt Go.RowKit Go.Joins Fl

section
variable {H : Type} {enc : TypeId × Value → H} {w : World} {base : Nat} {spare : Nat → Bool} {held : Bool}

theorem trod_f32 {P : Program} {t : TypeId} {fuel : Nat} {v : Value} {y : DataW H × List MemPlace} (ht : P.underlying t = some (.float .f32)) (h : DataW.trod enc P w base spare held fuel t [v] = some y) : ∃ b, v = .float .f32 b ∧ b < 4294967296 := by
  cases fuel with
  | zero => simp [DataW.trod] at h
  | succ n =>
    unfold DataW.trod at h
    rw [ht] at h
    cases v <;> simp at h
    rename_i k b
    obtain ⟨⟨rfl, hw⟩, _⟩ := h
    exact ⟨b, rfl, by simpa [Lit.wf] using hw⟩

theorem array5 {α : Type} {cs : Array α} (h : cs.size = 5) : ∃ c0 c1 c2 c3 c4, cs = #[c0, c1, c2, c3, c4] := by
  obtain ⟨l⟩ := cs
  match l, h with
  | [c0, c1, c2, c3, c4], _ => exact ⟨c0, c1, c2, c3, c4, rfl⟩

theorem flAt_congr' {w w' : World} {b off n : Nat} {f : Nat → Nat} (h : FlAt w b off n f) (e : w'.heap[b]? = w.heap[b]?) : FlAt w' b off n f := fun i hi => by
  rw [← h i hi]; exact World.cell?_of_block (w := w) (a := ⟨b, off + i, none⟩) e

/-- What a slice of singles is: empty, or known cell by cell. -/
def SlF (w : World) (s : Value) : Prop :=
  (∃ a cap, s = .slice a 0 cap) ∨ ∃ b off len cap x, s = .slice (some ⟨b, off, none⟩) len cap ∧ 0 < len ∧ len ≤ 9223372036854775807 ∧ FlAt w b off len x ∧ wf32 len x

theorem open_singles {t e : TypeId} {fuel : Nat} {cs : List Value} {y : DataW H × List MemPlace} (ht : Try.prog.underlying t = some (.slice e)) (he : Try.prog.underlying e = some (.float .f32)) (hc : Try.prog.cellsOf e = 1)
    (h : DataW.trod enc Try.prog w base spare held fuel t cs = some y) : ∃ s, cs = [s] ∧ SlF w s := by
  rcases Go.Deep.open_slice1 ht hc h with ⟨rfl, _⟩ | ⟨a, len, cap, m, n, V, D, Pl, rfl, hb, hl, hm, hmm, _, hx⟩
  · exact ⟨_, rfl, .inl ⟨none, 0, rfl⟩⟩
  · refine ⟨_, rfl, ?_⟩
    rcases Nat.eq_zero_or_pos len with z | z
    · subst z; exact .inl ⟨_, _, rfl⟩
    · have hlm : len ≤ m := by rw [hmm]; split <;> omega
      have h0 := (hx 0 (by omega)).1
      obtain ⟨b, off, spot⟩ := a
      have hspot : spot = none := by simpa [Addr.add] using World.cell?_spot h0
      subst hspot
      have hv : ∀ i, i < len → ∃ x, V i = .float .f32 x ∧ x < 4294967296 := fun i hi => trod_f32 he (hx i (by omega)).2
      refine .inr ⟨b, off, len, cap, fun i => match V i with | .float _ x => x | _ => 0, rfl, z, ?_, fun i hi => ?_, fun i hi => ?_⟩
      · exact Nat.le_trans hl (Nat.le_trans hm (by decide))
      · have h1 := (hx i (by omega)).1
        obtain ⟨x, e1, _⟩ := hv i hi
        rw [← Go.WideShapes.add_plain, h1]
        simp only [e1]
      · obtain ⟨x, e1, e2⟩ := hv i hi
        simp only [e1]; exact e2

theorem cellsF : Try.prog.cellsOf 27 = 5 := by kernel_rfl
theorem cellsR : Try.prog.cellsOf 24 = 4 := by kernel_rfl
theorem cellsS : Try.prog.cellsOf 25 = 1 := by kernel_rfl
theorem cells1 : Try.prog.cellsOf 34 = 1 := by kernel_rfl
theorem cellsI : Try.prog.cellsOf 3 = 1 := by kernel_rfl

set_option maxRecDepth 100000 in
theorem open_field {r : Reach} {b0 : Nat} {v : Value} {d : DataW H} {p : List MemPlace} (hv : Value.okWide Try.prog w r b0 27 v) (h : DataW.Trod enc Try.prog w base spare held 27 v d p) :
    ∃ X Y W' H' : Int, ∃ s, v = fldV X Y W' H' s ∧ SlF w s := by
  obtain ⟨cs, rfl, hsz⟩ := okWide_struct Try.underlying27 hv
  obtain ⟨c0, c1, c2, c3, c4, rfl⟩ := array5 (hsz.trans cellsF)
  obtain ⟨fuel, hf⟩ := h
  obtain ⟨y0, y1, n, _, _, h0, h1⟩ := trod_struct2 Try.underlying27 hf
  rw [cellsR] at h0
  rw [cellsS] at h1
  obtain ⟨s, e4, hs⟩ := open_singles Try.underlying25 Try.underlying34 cells1 h1
  obtain ⟨z0, z1, z2, z3, n2, _, _, g0, g1, g2, g3⟩ := trod_struct4 Try.underlying24 h0
  rw [cellsI] at g0 g1 g2 g3
  obtain ⟨x0, e0, _, _⟩ := DataW.trod_int Try.underlying3 g0
  obtain ⟨x1, e1, _, _⟩ := DataW.trod_int Try.underlying3 g1
  obtain ⟨x2, e2, _, _⟩ := DataW.trod_int Try.underlying3 g2
  obtain ⟨x3, e3, _, _⟩ := DataW.trod_int Try.underlying3 g3
  simp [Value.cells] at e0 e1 e2 e3 e4
  subst e0 e1 e2 e3 e4
  exact ⟨x0, x1, x2, x3, _, rfl, hs⟩
end

theorem SlF.stay {w w' : World} {s : Value} (h : SlF w s) (hb : Below w.heap.size w w') : SlF w' s := by
  rcases h with h | ⟨b, off, len, cap, x, rfl, h1, h2, h3, h4⟩
  · exact .inl h
  · exact .inr ⟨b, off, len, cap, x, rfl, h1, h2, flAt_congr' h3 (hb.block _ (World.block_lt_of_cell? w _ (h3 0 h1))), h4⟩

/-- fit, of whatever slice. -/
theorem fit_any {X Y W H : Int} {s : Value} {w : World} (h : SlF w s) : Calls Try.prog 10 #[fldV X Y W H s] w (FitPost w) := by
  rcases h with ⟨a, cap, rfl⟩ | ⟨b, off, len, cap, x, rfl, h1, h2, h3, h4⟩
  · exact fit_none X Y W H a cap w
  · exact fit_some X Y W H b off len cap x w h1 h2 h3 h4

theorem laidOut : laidOutB Try.prog = true := by kernel_rfl
end Go.Proofs.Ytdbponidkodmfaa

/- A list of folds that came in, opened. -/
namespace Go.Proofs.Ytdbponidkodmfaa
open Go.ChangeShapes Go.WideShapes Go.ChangeAt Go.RowKit Go.Joins Go.Deep Fl

section
variable {H : Type} {enc : TypeId × Value → H} {w : World} {base : Nat} {spare : Nat → Bool} {held : Bool}

theorem cellsO : Try.prog.cellsOf 36 = 4 := by kernel_rfl

set_option maxRecDepth 100000 in
theorem open_fold {n : Nat} {cs : List Value} {y : DataW H × List MemPlace} (hl : cs.length = 4) (h : DataW.trod enc Try.prog w base spare held n 36 cs = some y) :
    ∃ A B P : Int, ∃ s : Nat, cs = [.int .i64 A, .int .i64 B, .int .i64 P, .float .f32 s] ∧ s < 4294967296 := by
  match cs, hl with
  | [c0, c1, c2, c3], _ =>
    obtain ⟨z0, z1, z2, z3, n2, _, _, g0, g1, g2, g3⟩ := trod_struct4 Try.underlying36 h
    rw [cellsI] at g0 g1 g2
    rw [cells1] at g3
    obtain ⟨x0, e0, _, _⟩ := DataW.trod_int Try.underlying3 g0
    obtain ⟨x1, e1, _, _⟩ := DataW.trod_int Try.underlying3 g1
    obtain ⟨x2, e2, _, _⟩ := DataW.trod_int Try.underlying3 g2
    have e3 : ∃ s, c3 = .float .f32 s ∧ s < 4294967296 := by
      have e : List.take 1 (List.drop 3 [c0, c1, c2, c3]) = [c3] := by simp
      simp only [e] at g3
      exact trod_f32 Try.underlying34 g3
    obtain ⟨s, rfl, ls⟩ := e3
    simp at e0 e1 e2
    subst e0 e1 e2
    exact ⟨x0, x1, x2, s, rfl, ls⟩

theorem open_fols {fuel : Nat} {cs : List Value} {y : DataW H × List MemPlace} (h : DataW.trod enc Try.prog w base spare held fuel 22 cs = some y) :
    ∃ a len cap A B P hh, cs = [.slice a len cap] ∧ len ≤ 9223372036854775807 ∧ FolL w a len A B P hh ∧ wf32 len hh := by
  rcases open_slice Try.underlying22 h with ⟨rfl, _⟩ | ⟨a, len, cap, m, n, D, Pl, rfl, hb, hl, hm, hmm, _, hx⟩
  · exact ⟨none, 0, 0, fun _ => 0, fun _ => 0, fun _ => 0, fun _ => 0, rfl, by omega, .inl rfl, fun i hi => by omega⟩
  · have hlm : len ≤ m := by rw [hmm]; split <;> omega
    have hlen : len ≤ 9223372036854775807 := Nat.le_trans hl (Nat.le_trans hm (by decide))
    rcases Nat.eq_zero_or_pos len with z | z
    · subst z; exact ⟨some a, 0, cap, fun _ => 0, fun _ => 0, fun _ => 0, fun _ => 0, rfl, by omega, .inl rfl, fun i hi => by omega⟩
    · have each : ∀ i, i < len → ∃ q : Int × Int × Int × Nat, w.cell? (a.add (i * 4)) = some (.int .i64 q.1) ∧ w.cell? (a.add (i * 4 + 1)) = some (.int .i64 q.2.1) ∧ w.cell? (a.add (i * 4 + 2)) = some (.int .i64 q.2.2.1) ∧ w.cell? (a.add (i * 4 + 3)) = some (.float .f32 q.2.2.2) ∧ q.2.2.2 < 4294967296 := by
        intro i hi
        obtain ⟨cs', h1, h2⟩ := hx i (by omega)
        rw [cellsO] at h1
        obtain ⟨_, hlen, hcell⟩ := World.cells?_some h1
        obtain ⟨A, B, P, s, rfl, ls⟩ := open_fold hlen h2
        have e0 := hcell 0 (by omega)
        have e1 := hcell 1 (by omega)
        have e2 := hcell 2 (by omega)
        have e3 := hcell 3 (by omega)
        rw [add_add] at e0 e1 e2 e3
        exact ⟨(A, B, P, s), by simpa using e0, by simpa using e1, by simpa using e2, by simpa using e3, ls⟩
      obtain ⟨q, hq⟩ := choose_lt each
      obtain ⟨b, off, spot⟩ := a
      have h0 := (hq 0 z).1
      have hspot : spot = none := by simpa [Addr.add] using World.cell?_spot h0
      subst hspot
      refine ⟨some ⟨b, off, none⟩, len, cap, fun i => (q i).1, fun i => (q i).2.1, fun i => (q i).2.2.1, fun i => (q i).2.2.2, rfl, hlen, .inr ⟨b, off, rfl, fun i hi => ?_⟩, fun i hi => (hq i hi).2.2.2.2⟩
      obtain ⟨q0, q1, q2, q3, _⟩ := hq i hi
      rw [add_plain] at q0 q1 q2 q3
      exact ⟨q0, by rw [← q1, Nat.add_assoc], by rw [← q2, Nat.add_assoc], by rw [← q3, Nat.add_assoc]⟩
end
end Go.Proofs.Ytdbponidkodmfaa

/- FoldsMatch, for every list of folds, every field and every place: CheckFold, Lift and Folds answer as the references do. No condition. -/
namespace Go.Proofs.Ytdbponidkodmfaa.foldsMatch
open Go.ChangeShapes Go.WideShapes Go.ChangeAt Go.RowKit Go.Joins
set_option linter.unusedVariables false

theorem own : ownKnob Try.prog.godebug = none := by kernel_rfl

set_option maxRecDepth 100000 in
theorem lifted (os : Os) (started : os.Started) (H : Type) (enc : TypeId × Value → H) :
    ReturnsInHanded {} Try.checked os 3 .any (Rows.foldsMatchSpec.pre6 enc Try.prog Try.f3 Rows.foldsMatchRow.domain false) (Rows.foldsMatchSpec.post enc Try.prog Try.f3 false true false false) := by
  refine returnsInHanded_of_change (C := Try.checked) own started (by kernel_rfl) Try.func3
    (ChangeSpec.witness6 (enc := enc) (C := Try.checked) false ⟨#[], #[.slice none 0 0, fldV 0 0 0 0 (.slice none 0 0), .int .i64 0, .int .i64 0], []⟩ 8 (by kernel_rfl) (by kernel_rfl) (by kernel_rfl) (by kernel_rfl)) ?_
  intro W base args ds gs before hval0 hW hcnd _
  have hval : ∀ (j : Nat) t v, Try.f3.params[j]? = some t → args[j]? = some v → Value.okWide Try.prog W .any base t v := hval0
  have hW' := hW
  have hplt : ∀ x ∈ before, x.block < W.heap.size := fun x hx => by simpa using hW'.lt x hx
  obtain ⟨p, q, hA0, hV, rfl, hfz, hnd⟩ := hW
  have hA : DataW.TrodAll enc Try.prog W 0 (fun _ => true) true Try.f3.params.toList args.toList ds p := hA0
  rw [Try.params3] at hA hval
  obtain ⟨v0, vs0, d0, ds0, p0, q0, hargs, rfl, rfl, h0, r0⟩ := trodAll_cons hA
  obtain ⟨v1, vs1, d1, ds1, p1, q1, rfl, rfl, rfl, h1, r1⟩ := trodAll_cons r0
  obtain ⟨v2, vs2, d2, ds2, p2, q2, rfl, rfl, rfl, h2, r2⟩ := trodAll_cons r1
  obtain ⟨v3, vs3, d3, ds3, p3, q3, rfl, rfl, rfl, h3, r3⟩ := trodAll_cons r2
  obtain ⟨rfl, rfl, rfl⟩ := trodAll_nil r3
  obtain rfl : args = #[v0, v1, v2, v3] := by cases args; simp_all
  obtain ⟨rfl, rfl⟩ := trodVars_none hV
  obtain ⟨a', len', cap', rfl⟩ := okWide_slice Try.underlying22 (hval 0 22 v0 rfl rfl)
  have h0' := h0
  obtain ⟨nf, hf⟩ := h0'
  obtain ⟨a, len, cap, A, B, P, hh, ecs, hl, L, wh⟩ := open_fols hf
  obtain ⟨rfl, rfl, rfl⟩ : a' = a ∧ len' = len ∧ cap' = cap := by simpa [Value.cells] using ecs
  obtain ⟨X, Y, W0, H0, s, rfl, hs⟩ := open_field (hval 1 27 v1 rfl rfl) h1
  obtain ⟨x, rfl, rfl, rfl, wx⟩ := open_int Try.underlying3 (hval 2 3 v2 rfl rfl) h2
  obtain ⟨y, rfl, rfl, rfl, wy⟩ := open_int Try.underlying3 (hval 3 3 v3 rfl rfl) h3
  have hlt1 : ∀ x ∈ p1, x.block < W.heap.size := fun x hx => hplt x (by simp [hx])
  have hlt : ∀ x ∈ p0, x.block < W.heap.size := fun x hx => hplt x (by simp [hx])
  clear hA0 hval0 hplt
  simp only [List.append_nil] at hW'
  refine (foldsMatch_any a' len' cap' A B P hh X Y W0 H0 s x y W L hl wh (fun W' hb => fit_any (hs.stay hb))).mono fun e W' ⟨he, hb⟩ => ?_
  subst he
  exact ⟨_, rfl, _, _, _, [], _, [], hW', trodAll_cons_mk (shut_bool Try.underlying4 _) trodAll_mk0, trodAll_cons_mk (Below.trod laidOut (by kernel_rfl) (of_decide_eq_true (by kernel_rfl)) h0 hb hlt) (trodAll_cons_mk (Below.trod laidOut (by kernel_rfl) (of_decide_eq_true (by kernel_rfl)) h1 hb hlt1) (trodAll_cons_mk (shut_int Try.underlying3 wx) (trodAll_cons_mk (shut_int Try.underlying3 wy) trodAll_mk0))), rfl, hb.frame _, fun h => by cases h⟩

theorem over : Rows.foldsMatchRow.holds Try.pinned (OpenSpec.ofChange Rows.foldsMatchSpec) :=
  OpenClaim.holds_of_wide 3 Try.f3 rfl rfl rfl rfl rfl rfl rfl ⟨rfl, rfl, rfl, rfl, rfl⟩ rfl rfl rfl rfl rfl (by kernel_rfl) Try.func3 (by kernel_rfl)
    (of_decide_eq_true (by kernel_rfl)) (by unfold Func.isWrapper; rw [if_neg (of_decide_eq_false (by kernel_rfl))]; exact ⟨rfl, rfl⟩)
    (fun os started H enc _ => lifted os started H enc)

theorem proved : Rows.FoldsMatchSaid :=
  over
#print axioms proved
end Go.Proofs.Ytdbponidkodmfaa.foldsMatch
