/- Lemmas and contracts for the proof that the last text of this claim holds. -/
import Derived.Test.YtihjemookgnafaaTilJB
import Derived.Deep.RegionHeld3

/- Contracts: Hash, Unit, Signed of both sides. -/
namespace Go.Proofs.Ytihjemookgnafaa
open Go.RowKit Fl
set_option linter.unusedVariables false

/-- Exclusive or of two words of 32 bits. -/
def xorU (a b : Int) : Int := bits .xor .u32 a b
theorem xorU_in (a b : Int) : 0 ≤ xorU a b ∧ xorU a b < 4294967296 := by
  unfold xorU bits; simp only [IntKind.wrap_u32]; omega
def stA (h : Int) : Int := xorU h (h / 65536) * 2246822507 % 4294967296
def stB (h : Int) : Int := xorU h (h / 8192) * 3266489909 % 4294967296
def stC (h : Int) : Int := xorU h (h / 65536)
/-- Stirred once. -/
def stirI (h : Int) : Int := stC (stB (stA h))
theorem stirI_in (h : Int) : 0 ≤ stirI h ∧ stirI h < 4294967296 := xorU_in _ _
/-- The state behind one more whole number. -/
def stepI (h n : Int) : Int := stirI (xorU h (n % 4294967296))
theorem stepI_in (h n : Int) : 0 ≤ stepI h n ∧ stepI h n < 4294967296 := stirI_in _
def hashI (s x y n : Int) : Int := stepI (stepI (stepI s x) y) n
theorem hashI_in (s x y n : Int) : 0 ≤ hashI s x y n ∧ hashI s x y n < 4294967296 := stepI_in _ _

set_option maxHeartbeats 400000 in
theorem stir_any (h : Int) (w : World) :
    Calls Try.prog 124 #[.int .u32 h] w fun e w' => e = .returned (.int .u32 (stirI h)) ∧ w = w' := by
  go_enter Try.func124, Try.ntmps124
  go_wp2
  go_ret
  exact ⟨ret_int rfl, rfl⟩

set_option maxHeartbeats 400000 in
theorem hash_any (s x y n : Int) (w : World) :
    Calls Try.prog 51 #[.int .u32 s, .int .i64 x, .int .i64 y, .int .i64 n] w fun e w' => e = .returned (.int .u32 (hashI s x y n)) ∧ w = w' := by
  go_enter Try.func51, Try.ntmps51
  go_wp2_with (go_at_call 124; refine (stir_any _ _).mono ?_; rintro e w' ⟨rfl, rfl⟩)
  go_ret
  exact ⟨ret_int rfl, rfl⟩

set_option maxHeartbeats 400000 in
theorem unit_any (h : Int) (w : World) (h0 : 0 ≤ h) (h1 : h < 4294967296) :
    Calls Try.prog 49 #[.int .u32 h] w fun e w' => e = .returned (.float .f32 (unitW h)) ∧ w = w' := by
  obtain ⟨r, e, _, hr⟩ := unit_parts h0 h1
  have a2 := fun (W : World) => run_float_arith (P := Try.prog) W .mul 37 .f32 _ 864026624 r e
  rw [← hr]
  clear e hr
  go_enter Try.func49, Try.ntmps49
  go_wp2
  go_ret
  exact ⟨rfl, rfl⟩

set_option maxHeartbeats 400000 in
theorem signed_any (h : Int) (w : World) (h0 : 0 ≤ h) (h1 : h < 4294967296) :
    Calls Try.prog 50 #[.int .u32 h] w fun e w' => e = .returned (.float .f32 (sgnW h)) ∧ w = w' := by
  obtain ⟨p, r, e, _, e', _, hr⟩ := sgn_parts h0 h1
  have a2 := fun (W : World) => run_float_arith (P := Try.prog) W .mul 37 .f32 (unitW h) 1073741824 p e
  have a3 := fun (W : World) => run_float_arith (P := Try.prog) W .sub 37 .f32 p 1065353216 r e'
  rw [← hr]
  clear e hr e'
  go_enter Try.func50, Try.ntmps50
  go_wp2_with (go_at_call 49; refine (unit_any _ _ h0 h1).mono ?_; rintro e w' ⟨rfl, rfl⟩)
  go_ret
  exact ⟨rfl, rfl⟩

set_option maxHeartbeats 400000 in
theorem refConv_any (n : Int) (w : World) :
    Calls Try.prog 123 #[.int .i64 n] w fun e w' => e = .returned (.float .f32 (floatOfInt .f32 n)) ∧ w = w' := by
  go_enter Try.func123, Try.ntmps123
  go_wp2
  go_ret
  exact ⟨rfl, rfl⟩

set_option maxHeartbeats 400000 in
theorem refUnit_any (h : Int) (w : World) (h0 : 0 ≤ h) (h1 : h < 4294967296) :
    Calls Try.prog 53 #[.int .u32 h] w fun e w' => e = .returned (.float .f32 (unitW h)) ∧ w = w' := by
  obtain ⟨r, e, S, hr⟩ := unit_parts h0 h1
  have M := Lib.hid fun w => refMul_any 24 _ _ r S e w
  rw [← hr]
  clear e hr S
  go_enter Try.func53, Try.ntmps53
  go_wp2_with (first | (go_at_call 123; refine (refConv_any _ _).mono ?_; rintro e w' ⟨rfl, rfl⟩) | (go_at_call 125; refine (M.out _).mono ?_; rintro e w' ⟨rfl, rfl⟩))
  go_ret
  exact ⟨rfl, rfl⟩

set_option maxHeartbeats 400000 in
theorem refSigned_any (h : Int) (w : World) (h0 : 0 ≤ h) (h1 : h < 4294967296) :
    Calls Try.prog 54 #[.int .u32 h] w fun e w' => e = .returned (.float .f32 (sgnW h)) ∧ w = w' := by
  obtain ⟨p, r, e, S, e', T, hr⟩ := sgn_parts h0 h1
  have M := Lib.hid fun w => refMul_any 2 _ _ p S e w
  have D := Lib.hid fun w => refSub_any 3 _ _ r T e' w
  rw [← hr]
  clear e hr S T e'
  go_enter Try.func54, Try.ntmps54
  go_wp2_with (first | (go_at_call 53; refine (refUnit_any _ _ h0 h1).mono ?_; rintro e w' ⟨rfl, rfl⟩) | (go_at_call 125; refine (M.out _).mono ?_; rintro e w' ⟨rfl, rfl⟩) | (go_at_call 117; refine (D.out _).mono ?_; rintro e w' ⟨rfl, rfl⟩))
  go_ret
  exact ⟨rfl, rfl⟩

/-- The reference's rounds: the place and the state. -/
inductive HashAt (s x y n : Int) : Value → Value → Prop where
  | z : HashAt s x y n (.int .u32 s) (.int .i64 0)
  | a : HashAt s x y n (.int .u32 (stepI s x)) (.int .i64 1)
  | b : HashAt s x y n (.int .u32 (stepI (stepI s x) y)) (.int .i64 2)
  | c : HashAt s x y n (.int .u32 (hashI s x y n)) (.int .i64 3)

set_option maxHeartbeats 1000000 in
theorem refHash_any (s x y n : Int) (w : World) :
    Calls Try.prog 52 #[.int .u32 s, .int .i64 x, .int .i64 y, .int .i64 n] w fun e w' => e = .returned (.int .u32 (hashI s x y n)) ∧ Below w.heap.size w w' := by
  go_enter Try.func52, Try.ntmps52
  go_wp2
  go_loop [9, 18] (fun h i => HashAt s x y n h i) (fun _ i => 3 - (intOf i).toNat)
  case atStart => exact .z
  case round =>
    cases hrel
    case z =>
      go_wp2
      go_round
      case rel => exact .a
      case measure => simp [intOf]
    case a =>
      go_wp2
      go_round
      case rel => exact .b
      case measure => simp [intOf]
    case b =>
      go_wp2
      go_round
      case rel => exact .c
      case measure => simp [intOf]
    case c =>
      go_wp2
      go_ret
      exact ⟨rfl, (by repeat (first | exact Below.refl _ _ | refine Below.alloc ?_ (by first | omega | (simp; done) | (simp; omega)) _ | refine Below.setCell ?_ (by first | omega | (simp; done) | (simp; omega)) _ | refine Below.drew ?_))⟩
end Go.Proofs.Ytihjemookgnafaa

/- Contracts: CheckWithin; Ease of both sides; the reference's operations of any words at all. -/
namespace Go.Proofs.Ytihjemookgnafaa
open Go.RowKit Fl
set_option linter.unusedVariables false

/-- The error of a single that should be from a to b. -/
def wiE (x a b : Nat) : Int := if finB x = false then 2 else if (FloatKind.f32.format.order x a == some .lt) = true ∨ (FloatKind.f32.format.order x b == some .gt) = true then 3 else 0

set_option maxHeartbeats 400000 in
theorem checkWithin_any (x a b : Nat) (w : World) :
    Calls Try.prog 126 #[.float .f32 x, .float .f32 a, .float .f32 b] w fun e w' => e = .returned (.int .i64 (wiE x a b)) ∧ w = w' := by
  have IH := Lib.hid (fun w => isFinite_any x w)
  unfold wiE
  cases hf : finB x with
  | false =>
    rw [hf] at IH
    clear hf
    go_enter Try.func126, Try.ntmps126
    go_wp2_with (go_at_call 110; refine (IH.out _).mono ?_; rintro e w' ⟨rfl, rfl⟩)
    go_ret
    exact ⟨ret_int rfl, rfl⟩
  | true =>
    rw [hf] at IH
    clear hf
    cases h1 : (FloatKind.f32.format.order x a == some .lt) with
    | true =>
      go_enter Try.func126, Try.ntmps126
      go_wp2_with (go_at_call 110; refine (IH.out _).mono ?_; rintro e w' ⟨rfl, rfl⟩)
      go_ret
      exact ⟨ret_int rfl, rfl⟩
    | false =>
      cases h2 : (FloatKind.f32.format.order x b == some .gt) with
      | true =>
        go_enter Try.func126, Try.ntmps126
        go_wp2_with (go_at_call 110; refine (IH.out _).mono ?_; rintro e w' ⟨rfl, rfl⟩)
        go_ret
        exact ⟨ret_int rfl, rfl⟩
      | false =>
        go_enter Try.func126, Try.ntmps126
        go_wp2_with (go_at_call 110; refine (IH.out _).mono ?_; rintro e w' ⟨rfl, rfl⟩)
        go_ret
        exact ⟨ret_int rfl, rfl⟩

set_option maxHeartbeats 400000 in
theorem ease_any (t p q r v : Nat) (E : EaseAt t p q r v) (w : World) :
    Calls Try.prog 127 #[.float .f32 t] w fun e w' => e = .returned (.float .f32 (easeW t)) ∧ w = w' := by
  have a1 := fun (W : World) => run_float_arith (P := Try.prog) W .mul 37 .f32 t t p E.p1
  have a2 := fun (W : World) => run_float_arith (P := Try.prog) W .mul 37 .f32 1073741824 t q E.q1
  have a3 := fun (W : World) => run_float_arith (P := Try.prog) W .sub 37 .f32 1077936128 q r E.r1
  have a4 := fun (W : World) => run_float_arith (P := Try.prog) W .mul 37 .f32 p r v E.v1
  rw [E.w]
  clear E
  go_enter Try.func127, Try.ntmps127
  go_wp2
  go_ret
  exact ⟨rfl, rfl⟩

set_option maxHeartbeats 400000 in
theorem refEase_any (t p q r v : Nat) (E : EaseAt t p q r v) (w : World) :
    Calls Try.prog 56 #[.float .f32 t] w fun e w' => e = .returned (.float .f32 (easeW t)) ∧ w = w' := by
  have A := Lib.hid (fun w => refMul_any 0 t t p E.p2 E.p1 w)
  have B := Lib.hid (fun w => refMul_any 2 1073741824 t q E.q2 E.q1 w)
  have C := Lib.hid (fun w => refSub_any 3 1077936128 q r E.r2 E.r1 w)
  have D := Lib.hid (fun w => refMul_any 3 p r v E.v2 E.v1 w)
  rw [E.w]
  clear E
  go_enter Try.func56, Try.ntmps56
  go_wp2_with (first | (go_at_call 125; with_reducible refine (A.out _).mono ?_; rintro e w' ⟨rfl, rfl⟩) | (go_at_call 125; with_reducible refine (B.out _).mono ?_; rintro e w' ⟨rfl, rfl⟩) | (go_at_call 125; with_reducible refine (D.out _).mono ?_; rintro e w' ⟨rfl, rfl⟩) | (go_at_call 117; refine (C.out _).mono ?_; rintro e w' ⟨rfl, rfl⟩))
  go_ret
  exact ⟨rfl, rfl⟩

theorem choose_loose (q : Question) (k : FloatKind) (w : World) : ∃ r n, ((do pure (Value.float k (← choose q))) : Sem Value).run Try.prog w = .ok (.float k r) (w.drewN n) := by
  by_cases h : q.forced = true
  · exact ⟨0, 0, by simp [h, World.drewN]⟩
  · exact ⟨q.cut (w.tape w.drawn q), 1, by simp [h]; rfl⟩

theorem conv_loose (src dst : TypeId) (s k : FloatKind) (b : Nat) (hs : (Try.prog.underlying src).isSome = true) (hd : Try.prog.underlying dst = some (.float k)) (w : World) :
    ∃ r n, (convert src dst (.float s b)).run Try.prog w = .ok (.float k r) (w.drewN n) := by
  obtain ⟨u, hs'⟩ := Option.isSome_iff_exists.1 hs
  have key : ∃ r n, (Conv.floatToFloat s b k).run Try.prog w = .ok (.float k r) (w.drewN n) := by
    unfold Conv.floatToFloat
    by_cases e : s = k
    · exact ⟨b, 0, by simp [e, World.drewN]⟩
    · rw [if_neg e]
      cases hd : s.decode b with
      | nan g f => exact choose_loose _ k w
      | infinity g => exact ⟨_, 0, rfl⟩
      | number g m i =>
        simp only
        split
        · exact choose_loose _ k w
        · exact ⟨_, 0, rfl⟩
  obtain ⟨r, n, h⟩ := key
  refine ⟨r, n, ?_⟩
  rw [← h]
  cases u <;> simp [convert, run_underlying hs', run_underlying hd]

theorem arith_loose (op : BinOp) (t : TypeId) (k : FloatKind) (x y : Nat) (ho : op = .add ∨ op = .sub ∨ op = .mul) (w : World) :
    ∃ r n, (binOp op t (.float k x) (.float k y)).run Try.prog w = .ok (.float k r) (w.drewN n) := by
  cases h : floatBits op k x y with
  | some r => exact ⟨r, 0, run_float_arith w op t k x y r h⟩
  | none =>
    obtain ⟨r, n, c⟩ := choose_loose (.nanBits k x y) k w
    refine ⟨r, n, ?_⟩
    rw [← c]
    unfold floatBits at h
    rcases ho with rfl | rfl | rfl
    all_goals simp only at h
    all_goals simp [binOp, Op.floatArith, h]

/-- Some single; the world has drawn at most. -/
def LooseF (w : World) (e : Ending) (w' : World) : Prop := ∃ r n, e = .returned (.float .f32 r) ∧ w' = w.drewN n

theorem drewN_two (w : World) (a b : Nat) : (w.drewN a).drewN b = w.drewN (a + b) := by simp [World.drewN, Nat.add_assoc]

set_option maxHeartbeats 400000 in
theorem refMul_loose (x y : Nat) (w : World) : Calls Try.prog 125 #[.float .f32 x, .float .f32 y] w (LooseF w) := by
  obtain ⟨X, n1, c1⟩ := conv_loose 37 95 .f32 .f64 x (by kernel_rfl) Try.underlying95 w
  obtain ⟨Y, n2, c2⟩ := conv_loose 37 95 .f32 .f64 y (by kernel_rfl) Try.underlying95 (w.drewN n1)
  obtain ⟨Z, n3, c3⟩ := arith_loose .mul 95 .f64 X Y (by simp) (w.drewN (n1 + n2))
  obtain ⟨r, n4, c4⟩ := conv_loose 95 37 .f64 .f32 Z (by kernel_rfl) Try.underlying37 (w.drewN (n1 + n2 + n3))
  go_enter Try.func125, Try.ntmps125
  go_wp2
  go_ret
  exact ⟨r, n1 + n2 + n3 + n4, rfl, rfl⟩

set_option maxHeartbeats 400000 in
theorem refSub_loose (x y : Nat) (w : World) : Calls Try.prog 117 #[.float .f32 x, .float .f32 y] w (LooseF w) := by
  obtain ⟨X, n1, c1⟩ := conv_loose 37 95 .f32 .f64 x (by kernel_rfl) Try.underlying95 w
  obtain ⟨Y, n2, c2⟩ := conv_loose 37 95 .f32 .f64 y (by kernel_rfl) Try.underlying95 (w.drewN n1)
  obtain ⟨Z, n3, c3⟩ := arith_loose .sub 95 .f64 X Y (by simp) (w.drewN (n1 + n2))
  obtain ⟨r, n4, c4⟩ := conv_loose 95 37 .f64 .f32 Z (by kernel_rfl) Try.underlying37 (w.drewN (n1 + n2 + n3))
  go_enter Try.func117, Try.ntmps117
  go_wp2
  go_ret
  exact ⟨r, n1 + n2 + n3 + n4, rfl, rfl⟩

set_option maxHeartbeats 400000 in
theorem refEase_loose (t : Nat) (w : World) : Calls Try.prog 56 #[.float .f32 t] w (LooseF w) := by
  go_enter Try.func56, Try.ntmps56
  go_wp2_with (first | (go_at_call 125; refine (refMul_loose _ _ _).mono ?_; rintro e w' ⟨r, n, rfl, rfl⟩) | (go_at_call 117; refine (refSub_loose _ _ _).mono ?_; rintro e w' ⟨r, n, rfl, rfl⟩))
  go_ret
  exact ⟨_, _, rfl, rfl⟩

set_option maxHeartbeats 400000 in
theorem easeX_ok (t p q r v : Nat) (E : EaseAt t p q r v) (h : wiE t 0 1065353216 = 0) (w : World) :
    Calls Try.prog 55 #[.float .f32 t] w fun e w' => e = .returned (.tuple #[.float .f32 (easeW t), .int .i64 0]) ∧ w = w' := by
  have CW := Lib.hid (fun w => checkWithin_any t 0 1065353216 w)
  rw [h] at CW
  have EA := Lib.hid (fun w => ease_any t p q r v E w)
  clear E h
  go_enter Try.func55, Try.ntmps55
  go_wp2_with (first | (go_at_call 126; refine (CW.out _).mono ?_; rintro e w' ⟨rfl, rfl⟩) | (go_at_call 127; refine (EA.out _).mono ?_; rintro e w' ⟨rfl, rfl⟩))
  go_ret2
  exact ⟨rfl, rfl⟩

set_option maxHeartbeats 400000 in
theorem easeX_no (t : Nat) (k : Int) (h : wiE t 0 1065353216 = k) (hk : k = 2 ∨ k = 3) (w : World) :
    Calls Try.prog 55 #[.float .f32 t] w fun e w' => e = .returned (.tuple #[.float .f32 0, .int .i64 k]) ∧ w = w' := by
  have CW := Lib.hid (fun w => checkWithin_any t 0 1065353216 w)
  rw [h] at CW
  clear h
  rcases hk with rfl | rfl
  all_goals go_enter Try.func55, Try.ntmps55
  all_goals go_wp2_with (first | (go_at_call 126; refine (CW.out _).mono ?_; rintro e w' ⟨rfl, rfl⟩))
  all_goals go_ret2
  all_goals exact ⟨rfl, rfl⟩
end Go.Proofs.Ytihjemookgnafaa

/- Dither and Speckle of one cell, as words; what the steps come to. -/
namespace Go.Proofs.Ytihjemookgnafaa
open Go.RowKit Fl
set_option linter.unusedVariables false

theorem div_val {x y k : Nat} {a b : Int} (hx : vS x = some a) (hy : vS y = some b) (hb : b ≠ 0) (hk : k ≤ 120) (h : a.natAbs ≤ b.natAbs * 2 ^ k) : Same2 .quo k x y := by
  obtain ⟨s, m, i, e1, rfl⟩ := vS_some hx
  obtain ⟨t, n, j, e2, rfl⟩ := vS_some hy
  have n1 : (vOf s m i).natAbs = m * 2 ^ (i + 1074).toNat := by unfold vOf; rw [signed_eq, Int.natAbs_mul, Int.natAbs_natCast]; cases s <;> simp
  have n2 : (vOf t n j).natAbs = n * 2 ^ (j + 1074).toNat := by unfold vOf; rw [signed_eq, Int.natAbs_mul, Int.natAbs_natCast]; cases t <;> simp
  refine div_same hk e1 e2 ?_ (by rw [← n1, ← n2]; exact h)
  rcases Nat.eq_zero_or_pos n with z | z
  · exfalso; apply hb; subst z
    have : (vOf t 0 j).natAbs = 0 := by rw [n2]; simp
    omega
  · exact z

theorem vS_lo {j : Nat} (hj : j = 1064) : vS 981467136 = some ((2 ^ j : Nat) : Int) := by
  have h : Ieee.single.read 981467136 = .number false 8388608 (-33) := by decide
  rw [vS_lit (t := 1) (k := 23) (j := j) h (by decide) (by rw [hj]; decide)]; simp
theorem vS_hi {j : Nat} (hj : j = 1084) : vS 1149239296 = some ((2 ^ j : Nat) : Int) := by
  have h : Ieee.single.read 1149239296 = .number false 8388608 (-13) := by decide
  rw [vS_lit (t := 1) (k := 23) (j := j) h (by decide) (by rw [hj]; decide)]; simp

/-- A right step: its value is from 2 ^ -10 to 2 ^ 10. -/
def StepOk (st : Nat) : Prop := ∃ b, vS st = some b ∧ (one : Int) ≤ 1024 * b ∧ b ≤ 1024 * (one : Int)
theorem step_ok {st : Nat} (h : wiE st 981467136 1149239296 = 0) : StepOk st := by
  unfold wiE at h
  by_cases hf : finB st = false
  · rw [if_pos hf] at h; cases h
  · rw [if_neg hf] at h
    split at h
    · cases h
    · rename_i c
      obtain ⟨a, ha⟩ := Option.isSome_iff_exists.1 (show (vS st).isSome = true by simpa [finB, Option.isSome_iff_ne_none] using hf)
      obtain ⟨j, hj⟩ : ∃ j : Nat, j = 1064 := ⟨_, rfl⟩
      have hj' : j + 20 = 1084 := by omega
      rw [show FloatKind.f32.format = Ieee.single from rfl, lss_val ha (vS_lo hj), gtr_val ha (vS_hi hj')] at c
      refine ⟨a, ha, ?_⟩
      have e1 : one = 1024 * 2 ^ j := by rw [one_split (a := 10) (j := j) (by omega)]
      have e2 : 2 ^ (j + 20) = 1048576 * 2 ^ j := by rw [Nat.pow_add, Nat.mul_comm]
      rw [e2] at c
      rw [e1]
      generalize 2 ^ j = U at *
      simp at c
      omega
theorem step_bd {st : Nat} (h : StepOk st) : Bd 11 st := by
  obtain ⟨b, hb, h1, h2⟩ := h
  obtain ⟨J, hJ⟩ : ∃ J : Nat, J = 1074 := ⟨_, rfl⟩
  refine bd_val' (j := 11 + J) hb (by omega) ?_
  have e : 2 ^ (11 + J) = 2048 * one := by rw [one_pow hJ, Nat.pow_add]
  have := one_pos
  rw [e]
  generalize one = O at *
  omega

theorem hgt_val {x : Nat} (h : hgtB x = true) : ∃ a, vS x = some a ∧ a.natAbs ≤ 1048576 * one := by
  obtain ⟨a, ha, hb⟩ := val_bd (hgt_bd h)
  refine ⟨a, ha, ?_⟩
  obtain ⟨J, hJ⟩ : ∃ J : Nat, J = 1074 := ⟨_, rfl⟩
  have e : 2 ^ (1074 + 20) = 1048576 * one := by
    rw [one_pow hJ, show 1074 + 20 = 20 + J by omega, Nat.pow_add]
  rwa [e] at hb

theorem flV_near (a : Int) : flV a ≤ a ∧ a < flV a + (one : Int) := by
  have hp : (0 : Int) < (one : Int) := Int.natCast_pos.2 one_pos
  unfold flV
  have h1 := Int.ediv_mul_le a (Int.ne_of_gt hp)
  have h2 := Int.lt_ediv_add_one_mul_self a hp
  rw [Int.add_mul, Int.one_mul] at h2
  exact ⟨h1, h2⟩

/-- The quotient that Dither makes. -/
def dthQ (v st : Nat) : Nat := (floatBits .quo .f32 v st).getD 0
/-- What Dither makes of a cell, by the word of its hash. -/
def dthW (v st : Nat) (h : Int) : Nat :=
  (floatBits .mul .f32 (if (FloatKind.f32.format.order (unitW h) ((floatBits .sub .f32 (dthQ v st) (flW (dthQ v st))).getD 0) == some .lt) = true then (floatBits .add .f32 (flW (dthQ v st)) 1065353216).getD 0 else flW (dthQ v st)) st).getD 0

structure DthAt (v st : Nat) (h : Int) (q d : Nat) (c : Bool) (j r : Nat) : Prop where
  q1 : floatBits .quo .f32 v st = some q
  q2 : Same2 .quo 30 v st
  fq : ∃ a, vS q = some a
  bq : Bd 30 q
  d1 : floatBits .sub .f32 q (flW q) = some d
  d2 : Same2 .sub 32 q (flW q)
  c1 : (FloatKind.f32.format.order (unitW h) d == some .lt) = c
  j1 : c = true → floatBits .add .f32 (flW q) 1065353216 = some j
  j2 : c = true → Same2 .add 32 (flW q) 1065353216
  j3 : c = false → j = flW q
  r1 : floatBits .mul .f32 j st = some r
  r2 : Same2 .mul 43 j st
  w : dthW v st h = r
  lt : r < 4294967296

theorem fl_bd {q k : Nat} (h : Bd k q) (hk : k ≤ 50) : Bd (k + 1) (flW q) := by
  obtain ⟨a, ha, hb⟩ := val_bd h
  obtain ⟨_, _, _, _, _, _, _, _, _, hv⟩ := floor_parts ha h hk
  refine bd_val hv ?_
  obtain ⟨h1, h2⟩ := flV_near a
  obtain ⟨J, hJ⟩ : ∃ J : Nat, J = 1074 := ⟨_, rfl⟩
  have e : one ≤ 2 ^ (1074 + k) := by rw [one_pow hJ]; exact Nat.pow_le_pow_right (by omega) (by omega)
  rw [show 1074 + (k + 1) = 1074 + k + 1 by omega, Nat.pow_succ]
  generalize 2 ^ (1074 + k) = T at *
  generalize one = O at *
  omega

theorem bd_one (k : Nat) : Bd k 1065353216 := by
  obtain ⟨J, hJ⟩ : ∃ J : Nat, J = 1074 := ⟨_, rfl⟩
  refine bd_val vS_one ?_
  rw [Int.natAbs_natCast, one_pow hJ]; exact Nat.pow_le_pow_right (by omega) (by omega)

theorem dth_parts {v st : Nat} (h : Int) (hv : hgtB v = true) (hs : StepOk st) : ∃ q d c j r, DthAt v st h q d c j r := by
  obtain ⟨a, ha, hab⟩ := hgt_val hv
  have hs' := hs
  obtain ⟨b, hb, hb1, hb2⟩ := hs'
  have op := one_pos
  have q2 : Same2 .quo 30 v st := by
    refine div_val ha hb ?_ (by omega) ?_
    · generalize one = O at *; omega
    · rw [show (2 : Nat) ^ 30 = 1073741824 by decide]; generalize one = O at *; omega
  obtain ⟨_, _, _, q, _, _, _, _, q1, bq⟩ := q2.ex
  obtain ⟨aq, haq, _⟩ := val_bd bq
  have bf := fl_bd bq (by omega)
  have d2 : Same2 .sub 32 q (flW q) := sub_same (k := 31) (by omega) (bd_up bq (by omega)) bf
  obtain ⟨_, _, _, d, _, _, _, _, d1, _⟩ := d2.ex
  have j2 : Same2 .add 32 (flW q) 1065353216 := add_same (k := 31) (by omega) bf (bd_one 31)
  obtain ⟨_, _, _, j, _, _, _, _, j1, bj⟩ := j2.ex
  have eq : dthQ v st = q := by unfold dthQ; rw [q1]; rfl
  cases hc : (FloatKind.f32.format.order (unitW h) d == some .lt) with
  | true =>
    have r2 : Same2 .mul (32 + 11) j st := mul_same (by omega) bj (step_bd hs)
    obtain ⟨_, _, _, r, _, _, _, _, r1, _⟩ := r2.ex
    refine ⟨q, d, true, j, r, q1, q2, ⟨aq, haq⟩, bq, d1, d2, hc, fun _ => j1, fun _ => j2, (fun h => by cases h), r1, r2, ?_, opt_lt (d := (Ieee.single.read j).product (Ieee.single.read st)) r1⟩
    unfold dthW
    rw [eq, d1]
    show (floatBits .mul .f32 (if (FloatKind.f32.format.order (unitW h) d == some .lt) = true then (floatBits .add .f32 (flW q) 1065353216).getD 0 else flW q) st).getD 0 = r
    rw [if_pos hc, j1]
    show (floatBits .mul .f32 j st).getD 0 = r
    rw [r1]; rfl
  | false =>
    have r2 : Same2 .mul (32 + 11) (flW q) st := mul_same (by omega) (bd_up bf (by omega)) (step_bd hs)
    obtain ⟨_, _, _, r, _, _, _, _, r1, _⟩ := r2.ex
    refine ⟨q, d, false, flW q, r, q1, q2, ⟨aq, haq⟩, bq, d1, d2, hc, (fun h => by cases h), (fun h => by cases h), fun _ => rfl, r1, r2, ?_, opt_lt (d := (Ieee.single.read (flW q)).product (Ieee.single.read st)) r1⟩
    unfold dthW
    rw [eq, d1]
    show (floatBits .mul .f32 (if (FloatKind.f32.format.order (unitW h) d == some .lt) = true then (floatBits .add .f32 (flW q) 1065353216).getD 0 else flW q) st).getD 0 = r
    rw [if_neg (by rw [hc]; simp), r1]; rfl

/-- What Speckle makes of a cell. -/
def spkW (st : Nat) (h : Int) : Nat := if (FloatKind.f32.format.order (unitW h) st == some .lt) = true then 1065353216 else 0

/-- The place of a cell by its number. -/
theorem place_of {X Y x y : Int} {W i : Nat} (hW : 1 ≤ W) (h1 : X ≤ x) (h2 : x < X + W) (h3 : Y ≤ y) (hi : (i : Int) = (y - Y) * W + (x - X)) : X + ((i % W : Nat) : Int) = x ∧ Y + ((i / W : Nat) : Int) = y := by
  obtain ⟨a, ha⟩ := Int.eq_ofNat_of_zero_le (show 0 ≤ x - X by omega)
  obtain ⟨b, hb⟩ := Int.eq_ofNat_of_zero_le (show 0 ≤ y - Y by omega)
  rw [ha, hb, ← Int.natCast_mul, ← Int.natCast_add] at hi
  have hi' : i = b * W + a := Int.ofNat.inj hi
  have ha' : a < W := by omega
  have e1 : i % W = a := by rw [hi', Nat.mul_comm, Nat.mul_add_mod, Nat.mod_eq_of_lt ha']
  have e2 : i / W = b := by rw [hi', Nat.mul_comm, Nat.mul_add_div (by omega), Nat.div_eq_of_lt ha']; rfl
  rw [e1, e2]; omega

set_option maxHeartbeats 400000 in
theorem refDiv_any (k x y r : Nat) (h : Same2 .quo k x y) (hr : floatBits .quo .f32 x y = some r) (w : World) :
    Calls Try.prog 122 #[.float .f32 x, .float .f32 y] w fun e w' => e = .returned (.float .f32 r) ∧ w = w' := by
  obtain ⟨X, Y, Z, r', h1, h2, h3, h4, h5, _⟩ := h.ex
  rw [hr] at h5
  have h5 := Option.some.inj h5
  subst h5
  have c1 := fun (W : World) => run_convert_float_float (P := Try.prog) W 37 95 .f32 .f64 x X (by kernel_rfl) Try.underlying95 h1
  have c2 := fun (W : World) => run_convert_float_float (P := Try.prog) W 37 95 .f32 .f64 y Y (by kernel_rfl) Try.underlying95 h2
  have c3 := fun (W : World) => run_float_arith (P := Try.prog) W .quo 95 .f64 X Y Z h3
  have c4 := fun (W : World) => run_convert_float_float (P := Try.prog) W 95 37 .f64 .f32 Z r (by kernel_rfl) Try.underlying37 h4
  clear h1 h2 h3 h4 hr h
  go_enter Try.func122, Try.ntmps122
  go_wp2
  go_ret
  exact ⟨rfl, rfl⟩

end Go.Proofs.Ytihjemookgnafaa

/- What many laws want: two singles as a list, what a function that makes a field answers, the number of a cell. -/
namespace Go.Proofs.Ytihjemookgnafaa
open Go.RowKit Fl
set_option linter.unusedVariables false

theorem heap_alloc_new (w : World) (o : Obj) : (w.alloc o).heap[w.heap.size]? = some o := by rw [heap_alloc_get, if_pos rfl]

/-- A single in a block of its own. -/
abbrev flObj (x : Nat) : Obj := .cells #[.float .f32 x] 37

theorem below_drewN (w : World) (k : Nat) : Below w.heap.size w (w.drewN k) := by
  induction k with
  | zero => exact Below.refl _ _
  | succ k ih => exact ih.drew

/-- Two singles, as a list. -/
def two (m c : Nat) (i : Nat) : Nat := if i = 0 then m else c
theorem flAt_two {w : World} {b m c : Nat} (h : w.heap[b]? = some (.cells #[.float .f32 m, .float .f32 c] 37)) : FlAt w b 0 2 (two m c) := by
  intro i hi
  rw [Nat.zero_add, (blkC h).1 i]
  have : i = 0 ∨ i = 1 := by omega
  rcases this with rfl | rfl <;> rfl
theorem two_hgt {m c : Nat} (h : fldE 2 (two m c) = 0) : hgtB m = true ∧ hgtB c = true := by
  have := allB_iff.1 (fldE_zero.1 h)
  exact ⟨this 0 (by omega), this 1 (by omega)⟩

/-- What Scale and Clamp answer: the error of their singles, another error, or a field that is made. -/
def ScPost (w : World) (X Y W H : Int) (n : Nat) (f : Nat → Nat) (er : Int) (e : Ending) (w' : World) : Prop :=
  (er ≠ 0 ∧ e = .returned (.tuple #[fldV 0 0 0 0 (.slice none 0 0), .int .i64 er]) ∧ Below w.heap.size w w') ∨ (er = 0 ∧ MadePost w X Y W H n f e w')

theorem num_lt {X Y x y : Int} {W H n i : Nat} (hW1 : 1 ≤ W) (h1 : X ≤ x) (h2 : x < X + W) (h4 : y < Y + H) (h5 : (i : Int) = (y - Y) * W + (x - X)) (hnn : n = H * W) : i < n := by
  have a : (y - Y) * W ≤ ((H : Int) - 1) * W := Int.mul_le_mul_of_nonneg_right (by omega) (by omega)
  have b : ((H : Int) - 1) * W = (n : Int) - W := by rw [hnn, Int.sub_mul]; simp
  omega

theorem f32f : FloatKind.f32.format = Ieee.single := rfl
theorem one_vTop : (one : Int) ≤ vTop := by
  obtain ⟨J, hJ⟩ : ∃ J : Nat, J = 1074 := ⟨_, rfl⟩
  rw [one_pow hJ]; unfold vTop
  rw [Nat.one_mul]
  exact Int.ofNat_le.2 (Nat.pow_le_pow_right (by omega) (by omega))

end Go.Proofs.Ytihjemookgnafaa

/- Contracts: Divide of the program, quotient of the reference; the share of a rest. -/
namespace Go.Proofs.Ytihjemookgnafaa
open Go.RowKit Fl
set_option linter.unusedVariables false

/-- The share of a rest, as a word. -/
def shW (r b : Int) : Nat := (floatBits .quo .f32 (floatOfInt .f32 r) (floatOfInt .f32 b)).getD 0
/-- int_val, up to 2 ^ 24 itself. -/
theorem int_val' {n : Int} (h : n.natAbs ≤ 16777216) : vS (Go.floatOfInt .f32 n) = some (n * (one : Int)) := by
  rcases Nat.lt_or_ge n.natAbs 16777216 with c | c
  · exact (int_val c).1
  · obtain ⟨j, hj⟩ : ∃ j : Nat, j = 1074 := ⟨_, rfl⟩
    have e : 2 ^ (25 + j) = 33554432 * one := by rw [one_pow hj, Nat.pow_add]
    have p := one_pos
    have hn : (n * (one : Int)).natAbs < 2 ^ (25 + j) := by
      rw [Int.natAbs_mul, Int.natAbs_natCast, e]
      exact Nat.mul_lt_mul_of_pos_right (by omega) p
    have v := vS_int hn (by omega)
    obtain ⟨t, ht⟩ : ∃ t, t = n / 2 := ⟨_, rfl⟩
    have ht2 : n = t * 2 := by omega
    rw [rdS_exact t (j + 1) (by omega) (by omega) (by rw [ht2, one_pow hj, Nat.pow_succ, Int.natCast_mul, Int.mul_assoc, Int.mul_comm 2]; rfl)] at v
    exact v
theorem sh_parts {r b : Int} (r0 : 0 ≤ r) (r1 : r < b) (b2 : b ≤ 16777216) : floatBits .quo .f32 (floatOfInt .f32 r) (floatOfInt .f32 b) = some (shW r b) ∧ Same2 .quo 0 (floatOfInt .f32 r) (floatOfInt .f32 b) ∧ Bd 1 (shW r b) := by
  obtain ⟨vr, _⟩ := int_val (n := r) (by omega)
  have vb := int_val' (n := b) (by omega)
  have hp := one_pos
  have hb : (b * (one : Int)) ≠ 0 := by
    have := Int.mul_pos (show 0 < b by omega) (Int.natCast_pos.2 hp); omega
  have S : Same2 .quo 0 (floatOfInt .f32 r) (floatOfInt .f32 b) := div_val vr vb hb (by omega) (by
    rw [Nat.pow_zero, Nat.mul_one, Int.natAbs_mul, Int.natAbs_mul, Int.natAbs_natCast]
    exact Nat.mul_le_mul_right _ (by omega))
  obtain ⟨_, _, _, s, _, _, _, _, e, bs⟩ := S.ex
  have hs : shW r b = s := by unfold shW; rw [e]; rfl
  rw [hs]
  exact ⟨e, S, bd_up bs (by omega)⟩

theorem tparts (a b : Int) (b1 : 1 ≤ b) : a = b * a.tdiv b + a.tmod b ∧ -b < a.tmod b ∧ a.tmod b < b := by
  have h := Int.mul_tdiv_add_tmod a b
  have n : (a.tmod b).natAbs = a.natAbs % b.natAbs := Int.natAbs_tmod a b
  have l := Nat.mod_lt a.natAbs (show 0 < b.natAbs by omega)
  exact ⟨by omega, by omega, by omega⟩

theorem tquo_bd {a b : Int} (b1 : 1 ≤ b) (a1 : -1099511627776 ≤ a) (a2 : a ≤ 1099511627776) : -1099511627776 ≤ a.tdiv b ∧ a.tdiv b ≤ 1099511627776 := by
  have n : (a.tdiv b).natAbs = a.natAbs / b.natAbs := Int.natAbs_tdiv a b
  have l := Nat.div_le_self a.natAbs b.natAbs
  omega

set_option maxHeartbeats 1000000 in
theorem divide_any (a b : Int) (w : World) (b1 : 1 ≤ b) (b2 : b ≤ 16777216) (a1 : -1099511627776 ≤ a) (a2 : a ≤ 1099511627776) :
    Calls Try.prog 119 #[.int .i64 a, .int .i64 b] w fun e w' => e = .returned (.tuple #[.int .i64 (a / b), .float .f32 (shW (a % b) b)]) ∧ Below w.heap.size w w' := by
  obtain ⟨h1, h2, h3⟩ := tparts a b b1
  obtain ⟨q1, q2⟩ := tquo_bd b1 a1 a2
  have hm0 := Int.emod_nonneg a (show b ≠ 0 by omega)
  have hm1 := Int.emod_lt_of_pos a (show 0 < b by omega)
  obtain ⟨e1, _, _⟩ := sh_parts hm0 hm1 b2
  have x1 := fun (W : World) => run_float_arith (P := Try.prog) W .quo 37 .f32 (floatOfInt .f32 (a % b)) (floatOfInt .f32 b) (shW (a % b) b) e1
  have w0 : ¬ (b = 0) := by omega
  obtain ⟨q, hq⟩ : ∃ q, a.tdiv b = q := ⟨_, rfl⟩
  obtain ⟨r, hr⟩ : ∃ r, a.tmod b = r := ⟨_, rfl⟩
  rw [hq, hr] at h1
  rw [hr] at h2 h3
  rw [hq] at q1 q2
  have u3 : IntKind.i64.wrap q = q := IntWalk.i64_in _ (by omega)
  by_cases c : r < 0
  · obtain ⟨d1, d2⟩ := (Int.ediv_emod_unique (a := a) (b := b) (q := q - 1) (r := r + b) (by omega)).2 ⟨by rw [Int.mul_sub]; omega, by omega, by omega⟩
    rw [d1, d2]
    rw [d2] at x1
    clear h1 hm0 hm1 e1 d1 d2
    go_enter Try.func119, Try.ntmps119
    go_wp2
    go_quiet (fail)
    go_wp2
    go_ret2
    exact ⟨rfl, below_drewN _ _⟩
  · obtain ⟨d1, d2⟩ := (Int.ediv_emod_unique (a := a) (b := b) (q := q) (r := r) (by omega)).2 ⟨by omega, by omega, by omega⟩
    rw [d1, d2]
    rw [d2] at x1
    have c' : 0 ≤ r := by omega
    clear h1 hm0 hm1 e1 d1 d2 c
    go_enter Try.func119, Try.ntmps119
    go_wp2
    go_quiet (fail)
    go_wp2
    go_ret2
    exact ⟨rfl, below_drewN _ _⟩

set_option maxHeartbeats 1000000 in
theorem quotient2_any (n num b : Int) (w : World) (b1 : 1 ≤ b) (b2 : b ≤ 16777216) (p1 : -1099511627776 ≤ n * num) (p2 : n * num ≤ 1099511627776) :
    Calls Try.prog 121 #[.int .i64 n, .int .i64 num, .int .i64 b] w fun e w' => e = .returned (.tuple #[.int .i64 (n * num / b), .int .i64 (n * num % b)]) ∧ w = w' := by
  obtain ⟨a, ha⟩ : ∃ a, n * num = a := ⟨_, rfl⟩
  have e1 : wrap64 (n * num) = a := by rw [← ha]; exact IntWalk.wrap64_in _ ⟨by omega, by omega⟩
  rw [ha] at p1 p2 ⊢
  obtain ⟨h1, h2, h3⟩ := tparts a b b1
  obtain ⟨q1, q2⟩ := tquo_bd b1 p1 p2
  have w0 : ¬ (b = 0) := by omega
  obtain ⟨q, hq⟩ : ∃ q, a.tdiv b = q := ⟨_, rfl⟩
  obtain ⟨r, hr⟩ : ∃ r, a.tmod b = r := ⟨_, rfl⟩
  rw [hq, hr] at h1
  rw [hr] at h2 h3
  rw [hq] at q1 q2
  have u4 : wrap64 q = q := IntWalk.wrap64_in _ ⟨by omega, by omega⟩
  clear ha
  by_cases c : r < 0
  · obtain ⟨d1, d2⟩ := (Int.ediv_emod_unique (a := a) (b := b) (q := q - 1) (r := r + b) (by omega)).2 ⟨by rw [Int.mul_sub]; omega, by omega, by omega⟩
    rw [d1, d2]
    have f1 : wrap64 ((q - 1) * b) = a - (r + b) := by
      rw [show (q - 1) * b = a - (r + b) by rw [Int.sub_mul, Int.mul_comm q]; omega]; exact IntWalk.wrap64_in _ ⟨by omega, by omega⟩
    clear h1 d1 d2
    go_enter Try.func121, Try.ntmps121
    go_wp2
    go_ret2
    exact ⟨by rw [show a - (a - (r + b)) = r + b by omega]; rfl, rfl⟩
  · obtain ⟨d1, d2⟩ := (Int.ediv_emod_unique (a := a) (b := b) (q := q) (r := r) (by omega)).2 ⟨by omega, by omega, by omega⟩
    rw [d1, d2]
    have c' : 0 ≤ r := by omega
    have f1 : wrap64 (q * b) = a - r := by
      rw [show q * b = a - r by rw [Int.mul_comm]; omega]; exact IntWalk.wrap64_in _ ⟨by omega, by omega⟩
    clear h1 d1 d2 c
    go_enter Try.func121, Try.ntmps121
    go_wp2
    go_ret2
    exact ⟨by rw [show a - (a - r) = r by omega]; rfl, rfl⟩

theorem quotient_any (n num b : Int) (w : World) (b1 : 1 ≤ b) (b2 : b ≤ 4096) (m1 : 1 ≤ num) (m2 : num ≤ 64) (n1 : -16777216 ≤ n) (n2 : n ≤ 16777216) :
    Calls Try.prog 121 #[.int .i64 n, .int .i64 num, .int .i64 b] w fun e w' => e = .returned (.tuple #[.int .i64 (n * num / b), .int .i64 (n * num % b)]) ∧ w = w' :=
  quotient2_any n num b w b1 (by omega)
    (by have := Int.mul_le_mul_of_nonneg_right n1 (show 0 ≤ num by omega); omega)
    (by have := Int.mul_le_mul_of_nonneg_right n2 (show 0 ≤ num by omega); omega)
end Go.Proofs.Ytihjemookgnafaa

/- The error of a single that should lie between two others, by the tests of the reference. -/
namespace Go.Proofs.Ytihjemookgnafaa
open Go.RowKit Fl
set_option linter.unusedVariables false

/-- The error of a single that should be from lo to hi, told by the reference's tests. -/
def WithinCases (st lo hi : Nat) : Prop :=
    ((fldE 1 (fun _ => st) = 2 ∨ fldE 1 (fun _ => st) = 3) ∧ wiE st lo hi = fldE 1 (fun _ => st)) ∨
    (fldE 1 (fun _ => st) = 0 ∧ wiE st lo hi = 3 ∧ (FloatKind.f32.format.order st lo == some .lt) = true) ∨
    (fldE 1 (fun _ => st) = 0 ∧ wiE st lo hi = 3 ∧ (FloatKind.f32.format.order st lo == some .lt) = false ∧ (FloatKind.f32.format.order st hi == some .gt) = true) ∨
    (fldE 1 (fun _ => st) = 0 ∧ wiE st lo hi = 0 ∧ (FloatKind.f32.format.order st lo == some .lt) = false ∧ (FloatKind.f32.format.order st hi == some .gt) = false)
theorem within_cases {st lo hi : Nat} {l h : Int} (hl : vS lo = some l) (hh : vS hi = some h) (l1 : -vTop ≤ l) (h1 : h ≤ vTop) : WithinCases st lo hi := by
  unfold WithinCases
  cases hf : finB st with
  | false =>
    have e : fldE 1 (fun _ => st) = 2 := by simp [fldE, allB, List.range_succ, hf]
    exact .inl ⟨.inl e, by rw [e]; unfold wiE; rw [if_pos hf]⟩
  | true =>
    obtain ⟨a, ha⟩ := Option.isSome_iff_exists.1 (show (vS st).isSome = true from hf)
    have l0 := lss_val ha hl
    have g1 := gtr_val ha hh
    rw [← f32f] at l0 g1
    have hw : ((FloatKind.f32.format.order st lo == some .lt) = true ∨ (FloatKind.f32.format.order st hi == some .gt) = true) → wiE st lo hi = 3 := fun c => by
      unfold wiE; rw [if_neg (by rw [hf]; simp), if_pos c]
    cases hgt : hgtB st with
    | false =>
      have e : fldE 1 (fun _ => st) = 3 := by simp [fldE, hgtE, allB, List.range_succ, hf, hgt]
      refine .inl ⟨.inr e, ?_⟩
      rw [e]
      refine hw ?_
      unfold hgtB at hgt
      rw [ha] at hgt
      rw [l0, g1]
      simp at hgt ⊢
      omega
    | true =>
      have e : fldE 1 (fun _ => st) = 0 := fldE_one_ok hgt
      cases c1 : (FloatKind.f32.format.order st lo == some .lt) with
      | true => exact .inr (.inl ⟨e, hw (.inl c1), rfl⟩)
      | false =>
        cases c2 : (FloatKind.f32.format.order st hi == some .gt) with
        | true => exact .inr (.inr (.inl ⟨e, hw (.inr c2), rfl, rfl⟩))
        | false => exact .inr (.inr (.inr ⟨e, by unfold wiE; rw [if_neg (by rw [hf]; simp), if_neg (by rw [c1, c2]; simp)], rfl, rfl⟩))

theorem vTop_one : vTop = 1048576 * (one : Int) := by
  obtain ⟨J, hJ⟩ : ∃ J : Nat, J = 1074 := ⟨_, rfl⟩
  unfold vTop
  rw [one_pow hJ, Nat.one_mul, show ((20 : Int) + 1074).toNat = 20 + J by omega, Nat.pow_add, Int.natCast_mul]; rfl
theorem step_cases (st : Nat) : WithinCases st 981467136 1149239296 := by
  obtain ⟨j, hj⟩ : ∃ j : Nat, j = 1064 := ⟨_, rfl⟩
  have hj' : j + 20 = 1084 := by omega
  have e1 : one = 1024 * 2 ^ j := by rw [one_split (a := 10) (j := j) (by omega)]
  have e2 : 2 ^ (j + 20) = 1048576 * 2 ^ j := by rw [Nat.pow_add, Nat.mul_comm]
  have hp := Nat.two_pow_pos j
  exact within_cases (st := st) (vS_lo hj) (vS_hi hj') (by rw [vTop_one, e1]; generalize 2 ^ j = U at *; omega) (by rw [vTop_one, e1, e2]; generalize 2 ^ j = U at *; omega)

theorem flAt_one_of {w : World} {b x : Nat} (h : w.heap[b]? = some (flObj x)) : FlAt w b 0 1 (fun _ => x) := by
  intro i hi
  have : i = 0 := by omega
  subst this
  exact (blkC h).1 0
theorem refHeight_of (x : Nat) (hx : x < 4294967296) (bb : Nat) (w : World) (h : w.heap[bb]? = some (flObj x)) :
    Calls Try.prog 26 #[.slice (some ⟨bb, 0, none⟩) 1 1] w fun e w' => e = .returned (.int .i64 (fldE 1 (fun _ => x))) ∧ w = w' :=
  refHeight_row bb 0 1 1 (fun _ => x) (by omega) w (flAt_one_of h) (fun _ _ => hx)

end Go.Proofs.Ytihjemookgnafaa

/- The sign of a quotient of singles; the root of a single, by the model's own root of a double: what it lies between. -/
namespace Go.Proofs.Ytihjemookgnafaa.Fl
open Ieee

theorem word_sign {sg : Bool} {V : Nat} {c : Int} (h : vS (wordAt single 925 sg V) = some c) : ∃ n : Nat, c = (if sg then -1 else 1) * (n : Int) := by
  by_cases hr : rungOf single 925 V < single.infRung
  · obtain ⟨M, I, q1, _, q3⟩ := read_val single sg (-1074) 925 leastS V hr
    rw [vS_num q1] at h
    have h' := Option.some.inj h
    rw [← h']; unfold vOf; rw [signed_eq]; exact ⟨_, rfl⟩
  · have e : wordAt single 925 sg V = single.word sg single.infRung := by unfold wordAt; rw [Nat.min_eq_right (by omega)]
    rw [e] at h
    have r : single.read (single.word sg single.infRung) = .infinity sg := by cases sg <;> decide
    unfold vS at h; rw [r] at h; cases h

theorem vOf_mag (s : Bool) (m : Nat) (p : Int) : vOf s m p = (if s then -1 else 1) * ((m * 2 ^ (p + 1074).toNat : Nat) : Int) := by unfold vOf; rw [signed_eq]

/-- A quotient of what is not below 0 by what is above 0 is not below 0. -/
theorem quo_sign {x y q : Nat} {a b c : Int} (h : Go.floatBits .quo .f32 x y = some q) (hx : vS x = some a) (hy : vS y = some b) (hc : vS q = some c) (a0 : 0 ≤ a) (b0 : 0 < b) : 0 ≤ c := by
  obtain ⟨s, m, i, e1, rfl⟩ := vS_some hx
  obtain ⟨t, n, j, e2, rfl⟩ := vS_some hy
  have g1 := read_single e1
  have g2 := read_single e2
  have l1 := g1.low
  have l2 := g2.low
  have q1 := g1.high
  have q2 := g2.high
  have s1 := g1.small
  have s2 := g2.small
  rw [vOf_mag] at a0 b0
  have p2 := Nat.two_pow_pos (j + 1074).toNat
  have ht : t = false := by
    cases t with
    | false => rfl
    | true =>
      rw [if_pos rfl] at b0
      have : (0 : Int) ≤ ((n * 2 ^ (j + 1074).toNat : Nat) : Int) := Int.natCast_nonneg _
      omega
  subst ht
  have hn : 0 < n := by
    rcases Nat.eq_zero_or_pos n with z | z
    · subst z; simp at b0
    · exact z
  have h' : ((single.read x).quotient (single.fractionBits + 2) (single.read y)).map single.write = some q := h
  rw [e1, e2] at h'
  rcases Nat.eq_zero_or_pos m with z | hm
  · subst z
    unfold Datum.quotient at h'
    simp only at h'
    rw [if_neg (by omega)] at h'
    simp only [Nat.zero_shiftLeft, Nat.zero_div, Nat.zero_mod, bne_self_eq_false, Bool.toNat_false, Nat.mul_zero, Nat.add_zero, Option.map_some] at h'
    have h2 : single.nearest (s ^^ false) 0 _ = q := Option.some.inj h'
    rw [nearest_zero, ← wordAt_zero single 925] at h2
    rw [← h2] at hc
    have := vS_word (sg := s ^^ false) (V := 0) (B := 1) (by omega) (by omega)
    rw [this, rd_zero] at hc
    have := Option.some.inj hc
    rw [← this]; simp
  · have hs : s = false := by
      cases s
      · rfl
      · have := Nat.mul_pos hm (Nat.two_pow_pos (i + 1074).toNat)
        simp only [if_true] at a0
        omega
    subst hs
    obtain ⟨T, hT⟩ : ∃ T : Nat, T = 1074 := ⟨_, rfl⟩
    have ln24 : n.log2 < 24 := log_lt (by rw [show (2 : Nat) ^ 24 = 16777216 by decide]; exact s2) (by omega)
    obtain ⟨ls, ks, hS, wS⟩ := quot_word single 925 leastS (s := false) (t := false) (m := m) (n := n) (i := i) (j := j) hm hn (by omega) (by omega) (by rw [fbS]; omega) hT
    rw [wS] at h'
    have h2 := Option.some.inj h'
    rw [← h2] at hc
    obtain ⟨u, hu⟩ := word_sign hc
    rw [hu]; simp

/-- The root's digits. -/
theorem rootFrom_spec (n : Nat) : ∀ (todo root : Nat), root * root ≤ n → n < (root + 2 ^ todo) * (root + 2 ^ todo) →
    (Datum.rootFrom n todo root) * (Datum.rootFrom n todo root) ≤ n ∧ n < (Datum.rootFrom n todo root + 1) * (Datum.rootFrom n todo root + 1)
  | 0, root, h1, h2 => by
    unfold Datum.rootFrom
    rw [Nat.pow_zero] at h2
    exact ⟨h1, h2⟩
  | todo + 1, root, h1, h2 => by
    unfold Datum.rootFrom
    simp only
    rw [Nat.one_shiftLeft]
    split
    · rename_i c
      refine rootFrom_spec n todo _ c ?_
      rw [Nat.pow_succ] at h2
      rw [show root + 2 ^ todo + 2 ^ todo = root + 2 ^ todo * 2 by omega]; exact h2
    · rename_i c
      exact rootFrom_spec n todo _ h1 (by omega)

theorem root_digits (n : Nat) : (Datum.rootFrom n (n.log2 / 2 + 1) 0) * (Datum.rootFrom n (n.log2 / 2 + 1) 0) ≤ n ∧ n < (Datum.rootFrom n (n.log2 / 2 + 1) 0 + 1) * (Datum.rootFrom n (n.log2 / 2 + 1) 0 + 1) := by
  refine rootFrom_spec n _ 0 (by simp) ?_
  rw [Nat.zero_add, ← Nat.pow_add]
  have : n < 2 ^ (n.log2 + 1) := Nat.lt_log2_self
  exact Nat.lt_of_lt_of_le this (two_le (by omega))

/-- The root of a single, as a word: the root of the double, turned into a single. -/
def rootW (x : Nat) : Nat := (((Go.floatToFloatBits .f32 x .f64).bind fun X => double.sqrt X).bind fun Z => Go.floatToFloatBits .f64 Z .f32).getD 0

/-- What the root of the single x with the value a comes to. -/
structure RootAt (x : Nat) (a : Int) (X Z : Nat) (c : Int) : Prop where
  up : Go.floatToFloatBits .f32 x .f64 = some X
  sq : double.sqrt X = some Z
  dn : Go.floatToFloatBits .f64 Z .f32 = some (rootW x)
  val : vS (rootW x) = some c
  nn : 0 ≤ c
  hi : ∀ g : Nat, g < 16777216 → a ≤ ((g * g : Nat) : Int) * (one : Int) → c ≤ (g : Int) * (one : Int)
  lo : ∀ g : Nat, g < 16777216 → ((g * g : Nat) : Int) * (one : Int) ≤ a → (g : Int) * (one : Int) ≤ c

theorem rdD_mono {V W : Nat} (h : V ≤ W) : rd double 0 V ≤ rd double 0 W := by
  rcases Nat.eq_zero_or_pos V with z | z
  · subst z; rw [rd_zero]; exact Nat.zero_le _
  have z' : 0 < W := by omega
  obtain ⟨l1, l2, l3⟩ := last_le double 0 V z
  obtain ⟨k1, k2, k3⟩ := last_le double 0 W z'
  unfold rd
  generalize lastOf double 0 V = l at *
  generalize lastOf double 0 W = k at *
  rw [fbD] at l2 l3 k2 k3
  have pl : 0 < 2 ^ l := Nat.two_pow_pos l
  have pk : 0 < 2 ^ k := Nat.two_pow_pos k
  rcases Nat.lt_trichotomy l k with c | c | c
  · -- W reaches a higher binade
    have a : rnq V (2 ^ l) ≤ 2 ^ 53 := by
      have := rnq_mono (M := 2 ^ l) pl (N := V) (N' := 2 ^ 53 * 2 ^ l) (by rw [← Nat.pow_add]; exact Nat.le_of_lt (by rwa [show 53 + l = l + 52 + 1 by omega]))
      rwa [rnq_mul _ _ pl] at this
    have b : 2 ^ 52 ≤ rnq W (2 ^ k) := by
      have e : 2 ^ (k + 52) ≤ W := by rcases k3 with x | x; omega; exact x
      have := rnq_mono (M := 2 ^ k) pk (N := 2 ^ 52 * 2 ^ k) (N' := W) (by rw [← Nat.pow_add, show 52 + k = k + 52 by omega]; exact e)
      rwa [rnq_mul _ _ pk] at this
    calc rnq V (2 ^ l) * 2 ^ l ≤ 2 ^ 53 * 2 ^ l := Nat.mul_le_mul_right _ a
      _ = 2 ^ (53 + l) := by rw [Nat.pow_add]
      _ ≤ 2 ^ (52 + k) := Nat.pow_le_pow_right (by omega) (by omega)
      _ = 2 ^ 52 * 2 ^ k := by rw [Nat.pow_add]
      _ ≤ rnq W (2 ^ k) * 2 ^ k := Nat.mul_le_mul_right _ b
  · subst c
    exact Nat.mul_le_mul_right _ (rnq_mono pl h)
  · exfalso
    rcases l3 with x | x
    · omega
    · have : 2 ^ (l + 52) < 2 ^ (k + 52 + 1) := Nat.lt_of_le_of_lt (Nat.le_trans x h) k2
      have := (Nat.pow_lt_pow_iff_right (by omega : 1 < 2)).1 this
      omega

theorem down_word {V B : Nat} (hB : V < 2 ^ B) (hB' : B < 1200) :
    Go.floatToFloatBits .f64 (wordAt double 0 false V) .f32 = some (wordAt single 925 false (rd double 0 V)) ∧ vS (wordAt single 925 false (rd double 0 V)) = some ((rd single 925 (rd double 0 V) : Nat) : Int) := by
  obtain ⟨M, I, r1, r2, r3⟩ := read_val double false (-1074) 0 leastD V (rungD_lt hB (by omega))
  have hl : double.leastPlace = -1074 := by decide
  rw [hl] at r2
  have hn := nearest_val single false (-1074) 925 leastS M (p := I) (by omega)
  rw [r3] at hn
  have hd : rd double 0 V ≤ 2 ^ B := by
    have e : rd double 0 (1 * 2 ^ B) = 1 * 2 ^ B := rd_exact double 0 1 B (by rw [fbD]; decide) (by omega)
    have m : rd double 0 V ≤ rd double 0 (1 * 2 ^ B) := rdD_mono (by omega)
    rw [e] at m; omega
  have hd' : rd double 0 V < 2 ^ (B + 1) := Nat.lt_of_le_of_lt hd (Nat.pow_lt_pow_right (by omega) (by omega))
  have hv := vS_word (sg := false) hd' (by omega)
  simp only [Bool.false_eq_true, if_false, Int.one_mul] at hv
  refine ⟨?_, hv⟩
  obtain ⟨M', I', q1, _, _⟩ := read_val single false (-1074) 925 leastS (rd double 0 V) (rungS_lt hd' (by omega))
  unfold Go.floatToFloatBits
  rw [if_neg (by decide)]
  have d : Go.FloatKind.f64.decode (wordAt double 0 false V) = .number false M I := r1
  simp only [d]
  have w : Go.FloatKind.f32.encode (.number false M I) = wordAt single 925 false (rd double 0 V) := hn
  rw [w]
  have d2 : Go.FloatKind.f32.decode (wordAt single 925 false (rd double 0 V)) = .number false M' I' := q1
  rw [d2]; rfl
end Go.Proofs.Ytihjemookgnafaa.Fl

/- Select and Terrace of one cell, as words; what their steps come to. -/
namespace Go.Proofs.Ytihjemookgnafaa
open Go.RowKit Fl
set_option linter.unusedVariables false

theorem wi_unit {t : Nat} {c : Int} (h : vS t = some c) (c0 : 0 ≤ c) (c1 : c ≤ (one : Int)) : wiE t 0 1065353216 = 0 := by
  unfold wiE
  rw [if_neg (by unfold finB; rw [h]; simp), if_neg]
  rw [f32f, lss_val h vS_zero, gtr_val h vS_one]
  simp; omega

/-- What is left at the distance d of what fades over so. -/
def fadeW (d so : Nat) : Nat := if ltB d so = true then subW 1065353216 (easeW (quoW d so)) else 0
structure FadeAt (d so q p1 q1 r1 e r : Nat) : Prop where
  q1' : floatBits .quo .f32 d so = some q
  q2' : Same2 .quo 0 d so
  ea : EaseAt q p1 q1 r1 e
  wi : wiE q 0 1065353216 = 0
  r1' : floatBits .sub .f32 1065353216 e = some r
  r2' : Same2 .sub 4 1065353216 e
  lt : r < 4294967296
  w : subW 1065353216 (easeW (quoW d so)) = r

theorem fade_parts {d so : Nat} {a b : Int} (hd : vS d = some a) (hs : vS so = some b) (a0 : 0 ≤ a) (hab : a < b) : ∃ q p1 q1 r1 e r, FadeAt d so q p1 q1 r1 e r := by
  have q2 : Same2 .quo 0 d so := div_val hd hs (by omega) (by omega) (by omega)
  obtain ⟨q, q1, bq⟩ := same_ex q2
  obtain ⟨c, hc, hcb⟩ := val_bd bq
  have c0 := quo_sign q1 hd hs hc a0 (by omega)
  obtain ⟨J, hJ⟩ : ∃ J : Nat, J = 1074 := ⟨_, rfl⟩
  have c1 : c ≤ (one : Int) := by
    rw [one_pow hJ]; rw [Nat.add_zero, ← hJ] at hcb; omega
  obtain ⟨p, q', r', e, E⟩ := ease_parts (bd_unit hc (by omega) c1)
  obtain ⟨_, e1, be⟩ := same_ex E.v2
  rw [E.v1] at e1
  have e1' := Option.some.inj e1
  rw [← e1'] at be
  have r2 : Same2 .sub 4 1065353216 e := sub_same (k := 3) (by omega) (bd_one 3) be
  obtain ⟨r, r1, _⟩ := same_ex r2
  refine ⟨q, p, q', r', e, r, q1, q2, E, wi_unit hc c0 c1, r1, r2, sub_lt r1, ?_⟩
  unfold subW quoW
  rw [q1]
  show (floatBits .sub .f32 1065353216 (easeW q)).getD 0 = r
  rw [E.w, r1]; rfl

/-- Select of one value. -/
def selW (v lo hi so : Nat) : Nat := if ltB v lo = true then fadeW (subW lo v) so else if (FloatKind.f32.format.order v hi == some .gt) = true then fadeW (subW v hi) so else 1065353216

theorem diff_pos {x y : Nat} (hx : hgtB x = true) (hy : hgtB y = true) (h : ltB x y = true) : ∃ d a, floatBits .sub .f32 y x = some d ∧ Same2 .sub 21 y x ∧ vS d = some a ∧ 0 ≤ a ∧ d < 4294967296 := by
  obtain ⟨a, ha, xa⟩ := hgt_val hx
  obtain ⟨b, hb, xb⟩ := hgt_val hy
  unfold ltB at h
  rw [f32f, lss_val ha hb] at h
  have s : Same2 .sub 21 y x := sub_same (k := 20) (by omega) (hgt_bd hy) (hgt_bd hx)
  obtain ⟨d, e, bd⟩ := same_ex s
  obtain ⟨c, hc, _⟩ := val_bd bd
  obtain ⟨B, hB⟩ : ∃ B : Nat, B = 1100 := ⟨_, rfl⟩
  have hv : vS d = some (rdS (b - a)) := by
    have h' : a < b := by simpa using h
    refine vS_sub (B := B) e hb ha (small_of (n := 21) (by omega) ?_ (by omega)) (by omega)
    rw [show ((2 ^ 21 : Nat) : Int) = 2097152 by decide]
    generalize one = O at *
    omega
  exact ⟨d, rdS (b - a), e, s, hv, rdS_nonneg (by simp at h; omega), sub_lt e⟩

theorem sel_lt {v lo hi so : Nat} (hv : hgtB v = true) (hl : hgtB lo = true) (hh : hgtB hi = true) (hs : hgtB so = true) : selW v lo hi so < 4294967296 := by
  have F : ∀ {x y : Nat}, hgtB x = true → hgtB y = true → ltB x y = true → fadeW (subW y x) so < 4294967296 := by
    intro x y hx hy h
    obtain ⟨d, a, e, _, hd, a0, _⟩ := diff_pos hx hy h
    obtain ⟨b, hb, _⟩ := hgt_val hs
    have ed : subW y x = d := by unfold subW; rw [e]; rfl
    unfold fadeW
    rw [ed]
    split
    · rename_i c
      unfold ltB at c
      rw [f32f, lss_val hd hb] at c
      obtain ⟨q, p1, q1, r1, e, r, A⟩ := fade_parts hd hb a0 (by simpa using c)
      rw [A.w]; exact A.lt
    · decide
  unfold selW
  split
  · rename_i c; exact F hv hl c
  · split
    · rename_i c
      refine F hh hv ?_
      obtain ⟨a, ha, _⟩ := hgt_val hv
      obtain ⟨b, hb, _⟩ := hgt_val hh
      rw [f32f, gtr_val ha hb] at c
      unfold ltB; rw [f32f, lss_val hb ha]; simpa using c
    · decide

/-- A right sharpness: its value is from 0 to below 1. -/
def ShOk (sh : Nat) : Prop := ∃ b, vS sh = some b ∧ 0 ≤ b ∧ b < (one : Int)

/-- Terrace of one value. -/
def terW (v st sh : Nat) : Nat :=
  if ltB (subW (quoW v st) (flW (quoW v st))) sh = true then mulW (flW (quoW v st)) st
  else mulW (addW (flW (quoW v st)) (quoW (subW (subW (quoW v st) (flW (quoW v st))) sh) (subW 1065353216 sh))) st

structure TerAt (v st sh q d : Nat) (c : Bool) (u x y j r : Nat) : Prop where
  q1 : floatBits .quo .f32 v st = some q
  q2 : Same2 .quo 30 v st
  fq : ∃ a, vS q = some a
  bq : Bd 30 q
  d1 : floatBits .sub .f32 q (flW q) = some d
  d2 : Same2 .sub 32 q (flW q)
  c1 : ltB d sh = c
  u1 : floatBits .sub .f32 d sh = some u
  u2 : Same2 .sub 33 d sh
  x1 : floatBits .sub .f32 1065353216 sh = some x
  x2 : Same2 .sub 1 1065353216 sh
  y1 : floatBits .quo .f32 u x = some y
  y2 : Same2 .quo 60 u x
  j1 : c = false → floatBits .add .f32 (flW q) y = some j
  j2 : c = false → Same2 .add 61 (flW q) y
  j3 : c = true → j = flW q
  r1 : floatBits .mul .f32 j st = some r
  r2 : Same2 .mul 72 j st
  w : terW v st sh = r
  lt : r < 4294967296

theorem below_one {e : Int} {sh j : Nat} (h : vS sh = some e) (e0 : 0 ≤ e) (e1 : e < (one : Int)) (hj : j = 1050) : ((2 ^ j : Nat) : Int) ≤ (one : Int) - e := by
  obtain ⟨t, i, ht, hi, he⟩ := vS_form h
  have p := Nat.two_pow_pos i
  have t0 : 0 ≤ t := by
    rcases Int.lt_or_le t 0 with c | c
    · have : t * ((2 ^ i : Nat) : Int) < 0 := Int.mul_neg_of_neg_of_pos c (Int.natCast_pos.2 p)
      omega
    · exact c
  obtain ⟨u, rfl⟩ := Int.eq_ofNat_of_zero_le t0
  have he' : e = ((u * 2 ^ i : Nat) : Int) := by rw [he, Int.natCast_mul]
  have hu : u < 16777216 := by simpa using ht
  have e24 : one = 16777216 * 2 ^ j := by rw [one_split (a := 24) (j := j) (by omega)]
  have hlt : u * 2 ^ i < one := by omega
  have goal : 2 ^ j + u * 2 ^ i ≤ one := by
    rcases Nat.le_total j i with c | c
    · have e2 : 2 ^ i = 2 ^ (i - j) * 2 ^ j := by rw [← Nat.pow_add, Nat.sub_add_cancel c]
      rw [e2, ← Nat.mul_assoc] at hlt ⊢
      rw [e24] at hlt ⊢
      have := Nat.lt_of_mul_lt_mul_right hlt
      rw [show 2 ^ j + u * 2 ^ (i - j) * 2 ^ j = (1 + u * 2 ^ (i - j)) * 2 ^ j by rw [Nat.add_mul, Nat.one_mul]]
      exact Nat.mul_le_mul_right _ (by omega)
    · rcases Nat.eq_or_lt_of_le c with z | z
      · subst z
        rw [e24]
        rw [show 2 ^ i + u * 2 ^ i = (1 + u) * 2 ^ i by rw [Nat.add_mul, Nat.one_mul]]
        exact Nat.mul_le_mul_right _ (by omega)
      · obtain ⟨J, hJ⟩ : ∃ J, j = J + 1 := ⟨j - 1, by omega⟩
        have e3 : 2 ^ i ≤ 2 ^ J := Nat.pow_le_pow_right (by omega) (by omega)
        have e5 : u * 2 ^ i ≤ 16777215 * 2 ^ J := Nat.mul_le_mul (by omega) e3
        have e4 : 2 ^ j = 2 * 2 ^ J := by rw [hJ]; exact Nat.pow_succ'
        rw [e24, e4]
        generalize 2 ^ J = U at *
        generalize u * 2 ^ i = V at *
        omega
  rw [he']; omega

theorem ter_parts {v st sh : Nat} (hv : hgtB v = true) (hs : StepOk st) (hsh : ShOk sh) : ∃ q d c u x y j r, TerAt v st sh q d c u x y j r := by
  obtain ⟨a, ha, hab⟩ := hgt_val hv
  have hs' := hs
  obtain ⟨b, hb, hb1, hb2⟩ := hs'
  obtain ⟨e, he, e0, e1⟩ := hsh
  have op := one_pos
  have q2 : Same2 .quo 30 v st := by
    refine div_val ha hb ?_ (by omega) ?_
    · generalize one = O at *; omega
    · rw [show (2 : Nat) ^ 30 = 1073741824 by decide]; generalize one = O at *; omega
  obtain ⟨q, q1, bq⟩ := same_ex q2
  obtain ⟨aq, haq, _⟩ := val_bd bq
  have bf := fl_bd bq (by omega)
  have d2 : Same2 .sub 32 q (flW q) := sub_same (k := 31) (by omega) (bd_up bq (by omega)) bf
  obtain ⟨d, d1, bd⟩ := same_ex d2
  have bsh : Bd 0 sh := bd_unit he (by omega) (by omega)
  have u2 : Same2 .sub 33 d sh := sub_same (k := 32) (by omega) bd (bd_up bsh (by omega))
  obtain ⟨u, u1, bu⟩ := same_ex u2
  have x2 : Same2 .sub 1 1065353216 sh := sub_same (k := 0) (by omega) (bd_one 0) bsh
  obtain ⟨x, x1, bx⟩ := same_ex x2
  obtain ⟨J, hJ⟩ : ∃ J : Nat, J = 1050 := ⟨_, rfl⟩
  obtain ⟨B, hB⟩ : ∃ B : Nat, B = 1100 := ⟨_, rfl⟩
  have vx : vS x = some (rdS ((one : Int) - e)) := vS_sub (B := B) x1 vS_one he (by
    have : one < 2 ^ B := one_lt (by omega)
    omega) (by omega)
  have lx : ((2 ^ J : Nat) : Int) ≤ rdS ((one : Int) - e) := by
    have := rdS_mono (below_one he e0 e1 hJ)
    rwa [rdS_exact (c := ((2 ^ J : Nat) : Int)) 1 J (by decide) (by omega) (by simp)] at this
  obtain ⟨au, hau, hub⟩ := val_bd bu
  have y2 : Same2 .quo 60 u x := by
    have pj := Nat.two_pow_pos J
    refine div_val hau vx (by omega) (by omega) (Nat.le_trans hub ?_)
    rw [show 1074 + 33 = J + 57 by omega, Nat.pow_add]
    refine Nat.mul_le_mul (by omega) (Nat.pow_le_pow_right (by omega) (by omega))
  obtain ⟨y, y1, by'⟩ := same_ex y2
  have j2 : Same2 .add 61 (flW q) y := add_same (k := 60) (by omega) (bd_up bf (by omega)) by'
  obtain ⟨j, j1, bj⟩ := same_ex j2
  have eq : quoW v st = q := by unfold quoW; rw [q1]; rfl
  have ed : subW q (flW q) = d := by unfold subW; rw [d1]; rfl
  have eu : subW d sh = u := by unfold subW; rw [u1]; rfl
  have ex : subW 1065353216 sh = x := by unfold subW; rw [x1]; rfl
  have ey : quoW u x = y := by unfold quoW; rw [y1]; rfl
  have ej : addW (flW q) y = j := by unfold addW; rw [j1]; rfl
  cases hc : ltB d sh with
  | true =>
    have r2 : Same2 .mul (61 + 11) (flW q) st := mul_same (by omega) (bd_up bf (by omega)) (step_bd hs)
    obtain ⟨r, r1, _⟩ := same_ex r2
    refine ⟨q, d, true, u, x, y, flW q, r, q1, q2, ⟨aq, haq⟩, bq, d1, d2, hc, u1, u2, x1, x2, y1, y2, (fun h => by cases h), (fun h => by cases h), fun _ => rfl, r1, r2, ?_, mul_lt r1⟩
    unfold terW
    rw [eq, ed, if_pos hc]; unfold mulW; rw [r1]; rfl
  | false =>
    have r2 : Same2 .mul (61 + 11) j st := mul_same (by omega) bj (step_bd hs)
    obtain ⟨r, r1, _⟩ := same_ex r2
    refine ⟨q, d, false, u, x, y, j, r, q1, q2, ⟨aq, haq⟩, bq, d1, d2, hc, u1, u2, x1, x2, y1, y2, fun _ => j1, fun _ => j2, (fun h => by cases h), r1, r2, ?_, mul_lt r1⟩
    unfold terW
    rw [eq, ed, if_neg (by rw [hc]; simp), eu, ex, ey, ej]; unfold mulW; rw [r1]; rfl
end Go.Proofs.Ytihjemookgnafaa

/- The root of a single lies between whole numbers whose squares lie around it. -/
namespace Go.Proofs.Ytihjemookgnafaa.Fl
open Ieee

/-- Digits of a root, with what is left over told by one more digit, against a whole number. -/
theorem root_between {n w G : Nat} (h1 : w * w ≤ n) (h2 : n < (w + 1) * (w + 1)) :
    (n ≤ G * G → 2 * w + (w * w != n).toNat ≤ 2 * G) ∧ (G * G ≤ n → 2 * G ≤ 2 * w + (w * w != n).toNat) := by
  constructor
  · intro h
    have hw : w ≤ G := by
      rcases Nat.lt_or_ge G w with c | c
      · have : (G + 1) * (G + 1) ≤ w * w := Nat.mul_le_mul c c
        have e : (G + 1) * (G + 1) = G * G + 2 * G + 1 := by rw [Nat.add_mul, Nat.mul_add]; omega
        omega
      · exact c
    rcases Nat.lt_or_ge w G with c | c
    · have := Bool.toNat_le (w * w != n); omega
    · have : w = G := by omega
      subst this
      have : w * w = n := by omega
      rw [this]; simp
  · intro h
    have : G < w + 1 := by
      rcases Nat.lt_or_ge G (w + 1) with c | c
      · exact c
      · have := Nat.mul_le_mul c c; omega
    omega

theorem rootW_of {x X Z r : Nat} (c : Go.floatToFloatBits .f32 x .f64 = some X) (h : double.sqrt X = some Z) (d : Go.floatToFloatBits .f64 Z .f32 = some r) : rootW x = r := by
  unfold rootW
  rw [c, Option.bind_some, h, Option.bind_some, d, Option.getD_some]

theorem root_num {d M mo0 mo n w : Nat} {I : Int} (hM : M ≠ 0) (h0 : 2 * d - M.log2 = mo0) (h1 : mo0 + ((I - (mo0 : Int)) % 2).toNat = mo) (h2 : M <<< mo = n) (h3 : Datum.rootFrom n (n.log2 / 2 + 1) 0 = w) :
    Datum.root d (.number false M I) = some (.number false (2 * w + (w * w != n).toNat) ((I - (mo : Int)) / 2 - 1)) := by
  unfold Datum.root
  simp only [hM, if_false, Bool.false_eq_true, h0, h1, h2, h3]

theorem root_parts {x : Nat} {a : Int} {k : Nat} (h : vS x = some a) (a0 : 0 ≤ a) (hb : Bd k x) (hk : k ≤ 60) : ∃ X Z c, RootAt x a X Z c := by
  obtain ⟨s, m, p, e, rfl⟩ := vS_some h
  obtain ⟨X, M, I, c1, c2, c3, c4, c5⟩ := toD e
  have g := read_single e
  obtain ⟨A, hA⟩ : ∃ A, A = m * 2 ^ (p + 1074).toNat := ⟨_, rfl⟩
  have hv : vOf s m p = (if s then -1 else 1) * (A : Int) := by rw [vOf_mag, hA]
  have hbA : A ≤ 2 ^ (1074 + k) := by
    obtain ⟨s', m', p', e', b'⟩ := hb
    rw [e] at e'; cases e'
    rw [hA]; exact b'
  rw [← hA] at c4
  rcases Nat.eq_zero_or_pos M with zM | hM
  · -- nought
    subst zM
    have zA : A = 0 := by rw [← c4]; simp
    have hz : vOf s m p = 0 := by rw [hv, zA]; simp
    have hq : double.sqrt X = some (wordAt double 0 s 0) := by
      show ((double.read X).root _).map double.write = _
      rw [c2]
      unfold Datum.root
      simp only [if_true, Option.map_some]
      show some (double.nearest s 0 _) = _
      rw [nearest_zero, wordAt_zero]
    have hd : Go.floatToFloatBits .f64 (wordAt double 0 s 0) .f32 = some (wordAt single 925 s 0) := back (B := 1) (by omega) (by omega) (by show rungOf single 925 (rd double 0 0) = _; rw [rd_zero])
    have hw : rootW x = wordAt single 925 s 0 := rootW_of c1 hq hd
    have hvz := vS_word (sg := s) (V := 0) (B := 1) (by omega) (by omega)
    rw [rd_zero] at hvz
    simp only [Int.natCast_zero, Int.mul_zero] at hvz
    refine ⟨X, _, 0, c1, hq, by rw [hw]; exact hd, by rw [hw]; exact hvz, by omega, fun G _ _ => Int.mul_nonneg (by omega) (by omega), fun G _ hg => ?_⟩
    rw [hz] at hg
    have hp := one_pos
    have : G * G * one ≤ 0 := by
      have : ((G * G * one : Nat) : Int) ≤ ((0 : Nat) : Int) := by rw [Int.natCast_mul]; exact hg
      exact Int.ofNat_le.1 this
    have : G = 0 := by
      rcases Nat.eq_zero_or_pos G with z | z
      · exact z
      · have := Nat.mul_pos (Nat.mul_pos z z) hp; omega
    subst this; simp
  · have hm : 0 < A := by rw [← c4]; exact Nat.mul_pos hM (Nat.two_pow_pos _)
    have hs : s = false := by
      cases s
      · rfl
      · rw [hv] at a0; simp only [if_true] at a0; omega
    subst hs
    have hva : vOf false m p = (A : Int) := by rw [hv]; simp
    rw [hva]
    have hI := c5 (by omega)
    -- the dividend
    obtain ⟨mo0, hmo0⟩ : ∃ mo0, mo0 = 2 * (double.fractionBits + 2) - M.log2 := ⟨_, rfl⟩
    obtain ⟨mo, hmo⟩ : ∃ mo, mo = mo0 + ((I - (mo0 : Int)) % 2).toNat := ⟨_, rfl⟩
    obtain ⟨n, hn⟩ : ∃ n, n = M <<< mo := ⟨_, rfl⟩
    obtain ⟨w, hw⟩ : ∃ w, w = Datum.rootFrom n (n.log2 / 2 + 1) 0 := ⟨_, rfl⟩
    obtain ⟨d1, d2⟩ := root_digits n
    rw [← hw] at d1 d2
    have hr : (double.read X).root (double.fractionBits + 2) = some (.number false (2 * w + (w * w != n).toNat) ((I - (mo : Int)) / 2 - 1)) := by
      rw [c2]; exact root_num (by omega) hmo0.symm hmo.symm hn.symm hw.symm
    -- the place is even
    have heven : (I - (mo : Int)) % 2 = 0 := by
      rw [hmo]; have := Int.emod_two_eq (I - (mo0 : Int)); omega
    obtain ⟨hh, hhh⟩ : ∃ hh : Int, hh = (I - (mo : Int)) / 2 := ⟨_, rfl⟩
    have hI2 : I - (mo : Int) = 2 * hh := by omega
    rw [← hhh] at hr
    have l53 : M.log2 + (I + 1074).toNat < 1074 + k + 1 := by
      have := log_units (m := M) (B := 1074 + k + 1) (e := (I + 1074).toNat) hM (by rw [c4]; exact Nat.lt_of_le_of_lt hbA (Nat.pow_lt_pow_right (by omega) (by omega)))
      exact this
    rw [fbD] at hmo0
    have e1 : hh ≤ 0 := by omega
    have e2 : -400 ≤ hh := by omega
    -- units
    obtain ⟨E, hE⟩ : ∃ E : Nat, (E : Int) = hh + 1073 := ⟨(hh + 1073).toNat, by omega⟩
    obtain ⟨T, hT⟩ : ∃ T : Nat, T = 1074 := ⟨_, rfl⟩
    have hET : E + 1 ≤ T := by omega
    have hZ : double.sqrt X = some (wordAt double 0 false ((2 * w + (w * w != n).toNat) * 2 ^ E)) := by
      show ((double.read X).root _).map double.write = _
      rw [hr]
      show some (double.nearest false _ (hh - 1)) = _
      rw [nearest_val double false (-1074) 0 leastD _ (p := hh - 1) (by omega), show (hh - 1 - -1074).toNat = E by omega]
    -- the square in units
    have hsq : n * (2 ^ (E + 1) * 2 ^ (E + 1)) = A * 2 ^ T := by
      rw [hn, Nat.shiftLeft_eq, ← c4, Nat.mul_assoc, Nat.mul_assoc, ← Nat.pow_add, ← Nat.pow_add, ← Nat.pow_add]
      congr 2; omega
    have key : ∀ g : Nat, ∃ G : Nat, g * one = G * 2 ^ (E + 1) ∧ (A ≤ g * g * one ↔ n ≤ G * G) ∧ (g * g * one ≤ A ↔ G * G ≤ n) := by
      intro g
      refine ⟨g * 2 ^ (T - (E + 1)), ?_, ?_, ?_⟩
      · rw [one_pow hT, Nat.mul_assoc, ← Nat.pow_add, Nat.sub_add_cancel hET]
      all_goals
        have hp : 0 < 2 ^ (E + 1) * 2 ^ (E + 1) := Nat.mul_pos (Nat.two_pow_pos _) (Nat.two_pow_pos _)
        have e : g * 2 ^ (T - (E + 1)) * (g * 2 ^ (T - (E + 1))) * (2 ^ (E + 1) * 2 ^ (E + 1)) = g * g * one * 2 ^ T := by
          have e' : 2 ^ (T - (E + 1)) * 2 ^ (E + 1) = 2 ^ T := by rw [← Nat.pow_add, Nat.sub_add_cancel hET]
          rw [one_pow hT]
          calc g * 2 ^ (T - (E + 1)) * (g * 2 ^ (T - (E + 1))) * (2 ^ (E + 1) * 2 ^ (E + 1)) = g * g * ((2 ^ (T - (E + 1)) * 2 ^ (E + 1)) * (2 ^ (T - (E + 1)) * 2 ^ (E + 1))) := by
                simp only [Nat.mul_assoc, Nat.mul_left_comm, Nat.mul_comm]
            _ = g * g * 2 ^ T * 2 ^ T := by rw [e']; simp only [Nat.mul_assoc]
        constructor
        · intro q
          refine Nat.le_of_mul_le_mul_right ?_ hp
          rw [hsq, e]; exact Nat.mul_le_mul_right _ q
        · intro q
          have := Nat.mul_le_mul_right (2 ^ (E + 1) * 2 ^ (E + 1)) q
          rw [hsq, e] at this
          exact Nat.le_of_mul_le_mul_right this (Nat.two_pow_pos T)
    obtain ⟨V, hV⟩ : ∃ V, V = (2 * w + (w * w != n).toNat) * 2 ^ E := ⟨_, rfl⟩
    rw [← hV] at hZ
    have cmp : ∀ g : Nat, (A ≤ g * g * one → V ≤ g * one) ∧ (g * g * one ≤ A → g * one ≤ V) := by
      intro g
      obtain ⟨G, k1, k2, k3⟩ := key g
      obtain ⟨b1, b2⟩ := root_between (G := G) d1 d2
      have k4 : g * one = 2 * G * 2 ^ E := by rw [k1, Nat.pow_succ, Nat.mul_comm 2 G, Nat.mul_assoc, Nat.mul_comm 2 (2 ^ E)]
      rw [k4, hV]
      exact ⟨fun q => Nat.mul_le_mul_right _ (b1 (k2.1 q)), fun q => Nat.mul_le_mul_right _ (b2 (k3.1 q))⟩
    -- V is small
    have hVB : V < 2 ^ (T + 61) := by
      obtain ⟨L, hL⟩ : ∃ L : Nat, L = 60 := ⟨_, rfl⟩
      have e6 : A ≤ 2 ^ L * 2 ^ L * one := by
        refine Nat.le_trans hbA ?_
        rw [one_pow hT, ← Nat.pow_add, ← Nat.pow_add]
        exact two_le (by omega)
      have := (cmp (2 ^ L)).1 e6
      rw [one_pow hT, ← Nat.pow_add] at this
      exact Nat.lt_of_le_of_lt this (Nat.pow_lt_pow_right (by omega) (by omega))
    obtain ⟨q1, q2⟩ := down_word hVB (by omega)
    have hw2 : rootW x = wordAt single 925 false (rd double 0 V) := rootW_of c1 hZ q1
    -- whole numbers are not rounded
    have fix : ∀ g : Nat, g < 16777216 → rd double 0 (g * one) = g * one ∧ rd single 925 (g * one) = g * one := by
      intro g hg
      rw [one_pow hT]
      exact ⟨rd_exact double 0 g T (by rw [fbD]; exact Nat.lt_of_lt_of_le hg (by decide)) (by omega), rd_exact single 925 g T (by rw [fbS]; exact hg) (by omega)⟩
    refine ⟨X, _, _, c1, hZ, by rw [hw2]; exact q1, by rw [hw2]; exact q2, by omega, fun g hg ha => ?_, fun g hg ha => ?_⟩
    · have ha' : A ≤ g * g * one := by
        have : (A : Int) ≤ ((g * g * one : Nat) : Int) := by rw [Int.natCast_mul]; exact ha
        exact Int.ofNat_le.1 this
      have h1 := rdD_mono ((cmp g).1 ha')
      rw [(fix g hg).1] at h1
      have h2 := rd_mono h1
      rw [(fix g hg).2] at h2
      rw [← Int.natCast_mul]; exact Int.ofNat_le.2 h2
    · have ha' : g * g * one ≤ A := by
        have : ((g * g * one : Nat) : Int) ≤ (A : Int) := by rw [Int.natCast_mul]; exact ha
        exact Int.ofNat_le.1 this
      have h1 := rdD_mono ((cmp g).2 ha')
      rw [(fix g hg).1] at h1
      have h2 := rd_mono h1
      rw [(fix g hg).2] at h2
      rw [← Int.natCast_mul]; exact Int.ofNat_le.2 h2
end Go.Proofs.Ytihjemookgnafaa.Fl

/- Contracts: math.Sqrt, and the roots of both sides. -/
namespace Go.Proofs.Ytihjemookgnafaa
open Go.RowKit Fl
set_option linter.unusedVariables false

theorem extSqrt (X Z : Nat) (h : FloatKind.f64.format.sqrt X = some Z) : Extern.MathSqrt.sqrt #[.float .f64 X] = pure (.float .f64 Z) := by
  conv => lhs; whnf
  rw [h]

end Go.Proofs.Ytihjemookgnafaa

/- The weight of a brush, as a word; what its steps come to; it lies from 0 to 1. -/
namespace Go.Proofs.Ytihjemookgnafaa
open Go.RowKit Fl
set_option linter.unusedVariables false

/-- The square of the distance of two places. -/
def sqD (x y X Y : Int) : Int := (x - X) * (x - X) + (y - Y) * (y - Y)
def coneW (n R : Int) : Nat := subW 1065353216 (quoW (rootW (floatOfInt .f32 n)) (floatOfInt .f32 R))
def bellT (n F : Int) : Nat := subW 1065353216 (quoW (floatOfInt .f32 n) (floatOfInt .f32 F))
/-- The weight, by the square of the distance. -/
def weiW (k n R : Int) : Nat := if R * R ≤ n then 0 else if k = 2 then coneW n R else if k = 3 then mulW (bellT n (R * R)) (bellT n (R * R)) else 1065353216

theorem one_minus {q : Nat} {c : Int} (hb : Bd 0 q) (hc : vS q = some c) (c0 : 0 ≤ c) : ∃ r, floatBits .sub .f32 1065353216 q = some r ∧ Same2 .sub 1 1065353216 q ∧ ∃ d, vS r = some d ∧ 0 ≤ d ∧ d ≤ (one : Int) := by
  obtain ⟨a, ha, hab⟩ := val_bd hb
  rw [hc] at ha
  have ha' := Option.some.inj ha
  subst ha'
  obtain ⟨J, hJ⟩ : ∃ J : Nat, J = 1074 := ⟨_, rfl⟩
  have c1 : c ≤ (one : Int) := by
    rw [one_pow hJ]; rw [Nat.add_zero, ← hJ] at hab; omega
  have s : Same2 .sub 1 1065353216 q := sub_same (k := 0) (by omega) (bd_one 0) hb
  obtain ⟨r, e, _⟩ := same_ex s
  obtain ⟨B, hB⟩ : ∃ B : Nat, B = 1100 := ⟨_, rfl⟩
  have lt : one < 2 ^ B := one_lt (by omega)
  have v : vS r = some (rdS ((one : Int) - c)) := vS_sub (B := B) e vS_one hc (by omega) (by omega)
  refine ⟨r, e, s, _, v, rdS_nonneg (by omega), ?_⟩
  have := rdS_mono (show (one : Int) - c ≤ (one : Int) by omega)
  rwa [rdS_self vS_one] at this

structure ConeAt (n R : Int) (X Z : Nat) (c : Int) (q r : Nat) : Prop where
  rt : RootAt (floatOfInt .f32 n) (n * (one : Int)) X Z c
  q1 : floatBits .quo .f32 (rootW (floatOfInt .f32 n)) (floatOfInt .f32 R) = some q
  q2 : Same2 .quo 0 (rootW (floatOfInt .f32 n)) (floatOfInt .f32 R)
  r1 : floatBits .sub .f32 1065353216 q = some r
  r2 : Same2 .sub 1 1065353216 q
  w : coneW n R = r
  v : ∃ d, vS r = some d ∧ 0 ≤ d ∧ d ≤ (one : Int)

theorem cone_parts {n R : Int} (n0 : 0 ≤ n) (r1 : 1 ≤ R) (r2 : R ≤ 256) (h : n < R * R) : ∃ X Z c q r, ConeAt n R X Z c q r := by
  have hR : R * R ≤ 65536 := by
    have := Int.mul_le_mul r2 r2 (by omega) (by omega); omega
  obtain ⟨vn, bn⟩ := int_val (n := n) (by omega)
  obtain ⟨vr, _⟩ := int_val (n := R) (by omega)
  have hp : (0 : Int) < (one : Int) := Int.natCast_pos.2 one_pos
  obtain ⟨X, Z, c, RT⟩ := root_parts vn (Int.mul_nonneg n0 (by omega)) bn (by omega)
  obtain ⟨g, hg⟩ : ∃ g : Nat, R = g := ⟨R.toNat, by omega⟩
  have cR : c ≤ R * (one : Int) := by
    rw [hg]
    refine RT.hi g (by omega) ?_
    rw [Int.natCast_mul, ← hg]
    exact Int.mul_le_mul_of_nonneg_right (by omega) (by omega)
  have c0 := RT.nn
  have Rp : 0 < R * (one : Int) := Int.mul_pos (by omega) hp
  have q2 : Same2 .quo 0 (rootW (floatOfInt .f32 n)) (floatOfInt .f32 R) := div_val RT.val vr (by omega) (by omega) (by rw [Nat.pow_zero, Nat.mul_one]; omega)
  obtain ⟨q, q1, bq⟩ := same_ex q2
  obtain ⟨cq, hcq, _⟩ := val_bd bq
  obtain ⟨r, e1, e2, v⟩ := one_minus bq hcq (quo_sign q1 RT.val vr hcq c0 Rp)
  exact ⟨X, Z, c, q, r, RT, q1, q2, e1, e2, by unfold coneW quoW subW; rw [q1]; show (floatBits .sub .f32 1065353216 q).getD 0 = r; rw [e1]; rfl, v⟩

structure BellAt (n F : Int) (q t r : Nat) : Prop where
  q1 : floatBits .quo .f32 (floatOfInt .f32 n) (floatOfInt .f32 F) = some q
  q2 : Same2 .quo 0 (floatOfInt .f32 n) (floatOfInt .f32 F)
  t1 : floatBits .sub .f32 1065353216 q = some t
  t2 : Same2 .sub 1 1065353216 q
  r1 : floatBits .mul .f32 t t = some r
  r2 : Same2 .mul 0 t t
  w : mulW (bellT n F) (bellT n F) = r
  v : ∃ d, vS r = some d ∧ 0 ≤ d ∧ d ≤ (one : Int)

theorem unit_square {t : Nat} {a : Int} (h : vS t = some a) (a0 : 0 ≤ a) (a1 : a ≤ (one : Int)) : ∃ r, floatBits .mul .f32 t t = some r ∧ Same2 .mul 0 t t ∧ ∃ d, vS r = some d ∧ 0 ≤ d ∧ d ≤ (one : Int) := by
  have bt := bd_unit h (by omega) a1
  have s : Same2 .mul 0 t t := mul_same (a := 0) (b := 0) (by omega) bt bt
  obtain ⟨r, e, _⟩ := same_ex s
  obtain ⟨P, hP⟩ := mul_unit h h
  have hone : (0 : Int) < (one : Int) := Int.natCast_pos.2 one_pos
  have P0 : 0 ≤ P := by
    have := Int.mul_nonneg a0 a0
    rw [hP] at this
    exact Int.le_of_mul_le_mul_right (by rw [Int.zero_mul]; exact this) hone
  have P1 : P ≤ (one : Int) := by
    have := Int.mul_le_mul a1 a1 a0 (Int.le_of_lt hone)
    rw [hP] at this
    exact Int.le_of_mul_le_mul_right this hone
  obtain ⟨B, hB⟩ : ∃ B : Nat, B = 1100 := ⟨_, rfl⟩
  have lt : one < 2 ^ B := one_lt (by omega)
  have v := vS_mul (B := B) e h h hP (by omega) (by omega)
  refine ⟨r, e, s, _, v, rdS_nonneg P0, ?_⟩
  have := rdS_mono P1
  rwa [rdS_self vS_one] at this

theorem bell_parts {n F : Int} (n0 : 0 ≤ n) (f2 : F ≤ 65536) (h : n < F) : ∃ q t r, BellAt n F q t r := by
  obtain ⟨vn, bn⟩ := int_val (n := n) (by omega)
  obtain ⟨vf, _⟩ := int_val (n := F) (by omega)
  have hp : (0 : Int) < (one : Int) := Int.natCast_pos.2 one_pos
  have Fp : 0 < F * (one : Int) := Int.mul_pos (by omega) hp
  have N0 : 0 ≤ n * (one : Int) := Int.mul_nonneg n0 (by omega)
  have NF : n * (one : Int) ≤ F * (one : Int) := Int.mul_le_mul_of_nonneg_right (by omega) (by omega)
  have q2 : Same2 .quo 0 (floatOfInt .f32 n) (floatOfInt .f32 F) := div_val vn vf (by omega) (by omega) (by rw [Nat.pow_zero, Nat.mul_one]; omega)
  obtain ⟨q, q1, bq⟩ := same_ex q2
  obtain ⟨cq, hcq, _⟩ := val_bd bq
  obtain ⟨t, t1, t2, d, vd, d0, d1⟩ := one_minus bq hcq (quo_sign q1 vn vf hcq N0 Fp)
  obtain ⟨r, r1, r2, v⟩ := unit_square vd d0 d1
  have et : bellT n F = t := by unfold bellT quoW subW; rw [q1]; show (floatBits .sub .f32 1065353216 q).getD 0 = t; rw [t1]; rfl
  exact ⟨q, t, r, q1, q2, t1, t2, r1, r2, by rw [et]; unfold mulW; rw [r1]; rfl, v⟩

/-- A weight lies from 0 to 1. -/
theorem wei_in {k n R : Int} (n0 : 0 ≤ n) (r1 : 1 ≤ R) (r2 : R ≤ 256) : ∃ d, vS (weiW k n R) = some d ∧ 0 ≤ d ∧ d ≤ (one : Int) := by
  have hp := one_pos
  have hR : R * R ≤ 65536 := by
    have := Int.mul_le_mul r2 r2 (by omega) (by omega); omega
  unfold weiW
  split
  · exact ⟨0, vS_zero, by omega, by omega⟩
  · rename_i h
    split
    · obtain ⟨X, Z, c, q, r, C⟩ := cone_parts n0 r1 r2 (by omega)
      rw [C.w]; exact C.v
    · split
      · obtain ⟨q, t, r, C⟩ := bell_parts n0 hR (by omega)
        rw [C.w]; exact C.v
      · exact ⟨_, vS_one, by omega, by omega⟩
end Go.Proofs.Ytihjemookgnafaa

/- Contracts: slices.Contains of the three kinds, CheckPlace, CheckBrush of both sides, the boxes. -/
namespace Go.Proofs.Ytihjemookgnafaa
open Go.RowKit Fl
set_option linter.unusedVariables false

abbrev kindsObj : Obj := .cells #[.int .i64 1, .int .i64 2, .int .i64 3] 3

/-- The error of a place. -/
def plcE (x y : Int) : Int := if withinB x (-4194304) 4194304 = true ∧ withinB y (-4194304) 4194304 = true then 0 else 5

set_option maxHeartbeats 400000 in
theorem isPlace_any (x : Int) (w : World) :
    Calls Try.prog 149 #[.int .i64 x] w fun e w' => e = .returned (.bool (withinB x (-4194304) 4194304)) ∧ w = w' := by
  go_enter Try.func149, Try.ntmps149
  go_wp2_with (go_at_call 71; refine (within_any _ _ _ _).mono ?_; rintro e w' ⟨rfl, rfl⟩)
  go_ret
  exact ⟨rfl, rfl⟩

set_option maxHeartbeats 400000 in
theorem checkPlace_any (x y : Int) (w : World) :
    Calls Try.prog 136 #[.int .i64 x, .int .i64 y] w fun e w' => e = .returned (.int .i64 (plcE x y)) ∧ w = w' := by
  have PX := Lib.hid (fun w => isPlace_any x w)
  have PY := Lib.hid (fun w => isPlace_any y w)
  unfold plcE
  generalize withinB x (-4194304) 4194304 = c at *
  generalize withinB y (-4194304) 4194304 = d at *
  cases c <;> cases d
  all_goals go_enter Try.func136, Try.ntmps136
  all_goals go_wp2_with (first | (go_at_call 149; (with_reducible refine (PX.out _).mono ?_); rintro e w' ⟨rfl, rfl⟩) | (go_at_call 149; (with_reducible refine (PY.out _).mono ?_); rintro e w' ⟨rfl, rfl⟩))
  all_goals go_ret
  all_goals exact ⟨rfl, rfl⟩

/-- A brush as a value; its cells. -/
abbrev bru (k X Y R : Int) (h : Nat) : Value := .agg #[.int .i64 k, .int .i64 X, .int .i64 Y, .int .i64 R, .float .f32 h]
/-- The error of a brush. -/
def bruE (k X Y R : Int) (h : Nat) : Int := if withinB k 1 3 = false then 1 else if plcE X Y ≠ 0 then plcE X Y else if withinB R 1 256 = false then 3 else fldE 1 (fun _ => h)

theorem plcE_cases (x y : Int) : plcE x y = 0 ∨ plcE x y = 5 := by unfold plcE; split <;> simp

end Go.Proofs.Ytihjemookgnafaa

/- Lists of regions that are appended; square, checkSide; Tile. -/
namespace Go.Proofs.Ytihjemookgnafaa
open Go.RowKit Fl
set_option linter.unusedVariables false

/-- The four numbers of a region. -/
structure Rgn where
  x : Int
  y : Int
  w : Int
  h : Int
abbrev Rgn.cells (r : Rgn) : Array Value := #[.int .i64 r.x, .int .i64 r.y, .int .i64 r.w, .int .i64 r.h]
/-- The cells of the first k regions. -/
def rgsL (T : Nat → Rgn) : Nat → List Value
  | 0 => []
  | k + 1 => rgsL T k ++ (T k).cells.toList
theorem rgsL_len (T : Nat → Rgn) (k : Nat) : (rgsL T k).length = k * 4 := by
  induction k with
  | zero => rfl
  | succ k ih => simp [rgsL, ih]; omega
theorem rgsL_get (T : Nat → Rgn) (k : Nat) {i j : Nat} (hi : i < k) (hj : j < 4) : (rgsL T k)[i * 4 + j]? = (T i).cells[j]? := by
  induction k with
  | zero => omega
  | succ k ih =>
    simp only [rgsL]
    by_cases e : i < k
    · rw [List.getElem?_append_left (by rw [rgsL_len]; omega)]
      exact ih e
    · obtain rfl : i = k := by omega
      rw [List.getElem?_append_right (by rw [rgsL_len]; omega), rgsL_len, show i * 4 + j - i * 4 = j by omega, Array.getElem?_toList]

/-- What holds of the world when k regions have been appended. -/
structure TlAt (w0 : World) (X Y W H : Int) (base : Nat) (T : Nat → Rgn) (k : Nat) (ov : Value) (wr : World) : Prop where
  own : wr.ownsRow base 23 4 ov k (rgsL T k)
  reg : wr.heap[w0.heap.size]? = some (regObj X Y W H)
  bel : Below w0.heap.size w0 wr
  size : base ≤ wr.heap.size
theorem TlAt.push {w0 wr w5 w6 : World} {X Y W H : Int} {base k g' cap' : Nat} {T : Nat → Rgn} {ov : Value} {o : Obj} (h : TlAt w0 X Y W H base T k ov wr) (h5 : Below wr.heap.size wr w5) (hb : w0.heap.size < base)
    (hgrow : (w5.alloc o).grownBy w6 ov.ownBlock) (hown : w6.ownsRow base 23 4 (.slice (some ⟨g', 0, none⟩) (k + 1) cap') (k + 1) (rgsL T k ++ (T k).cells.toList)) :
    TlAt w0 X Y W H base T (k + 1) (.slice (some ⟨g', 0, none⟩) (k + 1) cap') w6 := by
  have z5 : base ≤ w5.heap.size := Nat.le_trans h.size h5.size
  have own5 := ownsRow_below h.own h5
  have B5 : Below w0.heap.size w0 w5 := h.bel.trans (h5.mono h.bel.size)
  have e4 : ∀ j, j < base → w6.heap[j]? = w5.heap[j]? := fun j hj => (hgrow.block j (by show j < (w5.alloc o).heap.size; rw [heap_size_alloc]; omega) (ownsRow_far own5 hj)).trans (heap_alloc_old _ _ (by omega))
  have B4 : Below w0.heap.size w0 (w5.alloc o) := B5.alloc B5.size o
  have z6 := hgrow.size
  rw [heap_size_alloc] at z6
  exact ⟨hown, (e4 _ hb).trans (blkStay h.reg h5), ⟨hgrow.os.trans B4.os, hgrow.tape.trans B4.tape, hgrow.output.trans B4.output, Nat.le_trans B4.size hgrow.size, fun j hj => (e4 j (by omega)).trans (B5.block j hj)⟩, by omega⟩
/-- A block whose first n elements are these regions. -/
def TlRow (w : World) (g n : Nat) (T : Nat → Rgn) : Prop := (∀ i, i < n → ∀ j, j < 4 → w.cell? ⟨g, i * 4 + j, none⟩ = (T i).cells[j]?) ∧ g < w.heap.size
theorem TlRow.stay {w w' : World} {g n : Nat} {T : Nat → Rgn} (h : TlRow w g n T) (hb : Below w.heap.size w w') : TlRow w' g n T :=
  ⟨fun i hi j hj => by rw [World.cell?_of_block (w := w) (a := ⟨g, i * 4 + j, none⟩) (hb.block g h.2)]; exact h.1 i hi j hj, Nat.lt_of_lt_of_le h.2 hb.size⟩
theorem TlAt.cells {w0 wr : World} {X Y W H : Int} {base g cap k : Nat} {T : Nat → Rgn} (h : TlAt w0 X Y W H base T k (.slice (some ⟨g, 0, none⟩) k cap) wr) : TlRow wr g k T ∧ base ≤ g := by
  rcases h.own.2 with ⟨h0, _⟩ | ⟨g', cap', cur, hv, hg, hh, h1, h2, h3, h4⟩
  · cases h0
  · cases hv
    refine ⟨⟨fun i hi j hj => ?_, (blkC hh).2.2⟩, hg⟩
    rw [(blkC hh).1, ← rgsL_get T k hi hj, ← h4, List.getElem?_take, if_pos (by omega)]
    simp

/-- Whether a side may be; the tile of a column and a row. -/
def sidB (s : Int) : Bool := withinB s 1 256
theorem sid_iff {s : Int} : sidB s = true ↔ 1 ≤ s ∧ s ≤ 256 := withinB_iff
theorem within_sid (s : Int) (k : Bool) (h : sidB s = k) (w : World) : Calls Try.prog 71 #[.int .i64 s, .int .i64 1, .int .i64 256] w fun e w' => e = .returned (.bool k) ∧ w = w' := by
  subst h
  exact within_any s 1 256 w
set_option maxHeartbeats 400000 in
theorem checkSide_no (s : Int) (h : sidB s = false) (w : World) : Calls Try.prog 135 #[.int .i64 s] w fun e w' => e = .returned (.int .i64 3) ∧ w = w' := by
  have C := Lib.hid (within_sid s false h)
  clear h
  go_enter Try.func135, Try.ntmps135
  go_wp2_with (go_at_call 71; refine (C.out _).mono ?_; rintro e w' ⟨rfl, rfl⟩)
  go_ret
  exact ⟨rfl, rfl⟩
set_option maxHeartbeats 400000 in
theorem checkSide_ok (s : Int) (h : sidB s = true) (w : World) : Calls Try.prog 135 #[.int .i64 s] w fun e w' => e = .returned (.int .i64 0) ∧ w = w' := by
  have C := Lib.hid (within_sid s true h)
  clear h
  go_enter Try.func135, Try.ntmps135
  go_wp2_with (go_at_call 71; refine (C.out _).mono ?_; rintro e w' ⟨rfl, rfl⟩)
  go_ret
  exact ⟨rfl, rfl⟩
set_option maxHeartbeats 400000 in
theorem square_any (s c r p q : Int) (hp : c * s = p) (hq : r * s = q) (p1 : -16777216 ≤ p) (p2 : p ≤ 16777216) (q1 : -16777216 ≤ q) (q2 : q ≤ 16777216) (w : World) :
    Calls Try.prog 137 #[.int .i64 s, .int .i64 c, .int .i64 r] w fun e w' => e = .returned (reg p q s s) ∧ Below w.heap.size w w' := by
  have e1 : wrap64 (c * s) = p := by rw [hp]; exact IntWalk.wrap64_in _ ⟨by omega, by omega⟩
  have e2 : wrap64 (r * s) = q := by rw [hq]; exact IntWalk.wrap64_in _ ⟨by omega, by omega⟩
  clear hp hq
  go_enter Try.func137, Try.ntmps137
  go_wp2
  exact bodyPost_ret (v := reg p q s s) (by simp [results, Try.results137, go_sem]) rfl ⟨rfl, (by repeat (first | exact Below.refl _ _ | refine Below.alloc ?_ (by first | omega | (simp; done) | (simp; omega)) _ | refine Below.setCell ?_ (by first | omega | (simp; done) | (simp; omega)) _ | refine Below.drew ?_))⟩

theorem sq_bd {X s : Int} (h1 : 1 ≤ s) (h2 : s ≤ 256) (h3 : -4194304 ≤ X) (h4 : X ≤ 4194304) {i : Int} (a : X / s ≤ i) (b : i ≤ X / s + 512) : -4194304 ≤ X / s ∧ X / s ≤ 4194304 ∧ -16777216 ≤ i * s ∧ i * s ≤ 16777216 := by
  have c1 := Int.lt_ediv_add_one_mul_self X (show 0 < s by omega)
  have c2 := Int.ediv_mul_le X (show s ≠ 0 by omega)
  have d := Int.mul_le_mul_of_nonneg_right a (show 0 ≤ s by omega)
  have e := Int.mul_le_mul_of_nonneg_right b (show 0 ≤ s by omega)
  rw [Int.add_mul, Int.one_mul] at c1
  rw [Int.add_mul] at e
  have q1 : -4194304 ≤ X / s := by
    have := Int.ediv_le_ediv (show 0 < s by omega) h3
    have h : -4194304 ≤ (-4194304 : Int) / s := by
      rw [Int.le_ediv_iff_mul_le (by omega)]
      omega
    omega
  have q2 : X / s ≤ 4194304 := by
    have h : X / s ≤ 4194304 / s := Int.ediv_le_ediv (show 0 < s by omega) h4
    have : (4194304 : Int) / s ≤ 4194304 := Int.ediv_le_self _ (by omega)
    omega
  omega

/-- What Tile answers. -/
def tileE (s x y : Int) : Int := if sidB s = false then 3 else plcE x y
set_option maxHeartbeats 1000000 in
theorem tile_bad (s x y : Int) (h : tileE s x y ≠ 0) (w : World) :
    Calls Try.prog 67 #[.int .i64 s, .int .i64 x, .int .i64 y] w fun e w' => e = .returned (.tuple #[reg 0 0 0 0, .int .i64 (tileE s x y)]) ∧ Below w.heap.size w w' := by
  cases hs : sidB s with
  | false =>
    have e : tileE s x y = 3 := by unfold tileE; rw [if_pos hs]
    rw [e]
    have C := Lib.hid (checkSide_no s hs)
    clear h e hs
    go_enter Try.func67, Try.ntmps67
    go_wp2_with (go_at_call 135; refine (C.out _).mono ?_; rintro e w' ⟨rfl, rfl⟩)
    exact bodyPost_ret (v := .tuple #[reg 0 0 0 0, .int .i64 3]) (by simp [results, Try.results67, go_sem]) rfl ⟨rfl, (by repeat (first | exact Below.refl _ _ | refine Below.alloc ?_ (by first | omega | (simp; done) | (simp; omega)) _ | refine Below.setCell ?_ (by first | omega | (simp; done) | (simp; omega)) _ | refine Below.drew ?_))⟩
  | true =>
    have e' : tileE s x y = plcE x y := by unfold tileE; rw [hs, if_neg (by simp)]
    have e : plcE x y = 5 := by
      rw [e'] at h
      have := plcE_cases x y
      omega
    rw [e', e]
    have C := Lib.hid (checkSide_ok s hs)
    have D := Lib.hid (fun w => checkPlace_any x y w)
    rw [e] at D
    clear h e hs e'
    go_enter Try.func67, Try.ntmps67
    go_wp2_with (first | (go_at_call 135; refine (C.out _).mono ?_; rintro e w' ⟨rfl, rfl⟩) | (go_at_call 136; refine (D.out _).mono ?_; rintro e w' ⟨rfl, rfl⟩))
    exact bodyPost_ret (v := .tuple #[reg 0 0 0 0, .int .i64 5]) (by simp [results, Try.results67, go_sem]) rfl ⟨rfl, (by repeat (first | exact Below.refl _ _ | refine Below.alloc ?_ (by first | omega | (simp; done) | (simp; omega)) _ | refine Below.setCell ?_ (by first | omega | (simp; done) | (simp; omega)) _ | refine Below.drew ?_))⟩
theorem plcE_zero {x y : Int} (h : plcE x y = 0) : -4194304 ≤ x ∧ x ≤ 4194304 ∧ -4194304 ≤ y ∧ y ≤ 4194304 := by
  unfold plcE at h
  split at h
  · rename_i c
    have a := withinB_iff.1 c.1
    have b := withinB_iff.1 c.2
    omega
  · cases h
set_option maxHeartbeats 1000000 in
theorem tile_ok (s x y : Int) (h : tileE s x y = 0) (w : World) :
    Calls Try.prog 67 #[.int .i64 s, .int .i64 x, .int .i64 y] w fun e w' => e = .returned (.tuple #[reg (x / s * s) (y / s * s) s s, .int .i64 0]) ∧ Below w.heap.size w w' := by
  have hs : sidB s = true := by
    cases hs : sidB s with
    | true => rfl
    | false => unfold tileE at h; rw [if_pos hs] at h; cases h
  have e : plcE x y = 0 := by
    unfold tileE at h
    rw [hs, if_neg (by simp)] at h
    exact h
  obtain ⟨s1, s2⟩ := sid_iff.1 hs
  obtain ⟨x1, x2, y1, y2⟩ := plcE_zero e
  obtain ⟨_, _, a1, a2⟩ := sq_bd s1 s2 x1 x2 (Int.le_refl (x / s)) (by omega)
  obtain ⟨_, _, b1, b2⟩ := sq_bd s1 s2 y1 y2 (Int.le_refl (y / s)) (by omega)
  have C := Lib.hid (checkSide_ok s hs)
  have D := Lib.hid (fun w => checkPlace_any x y w)
  rw [e] at D
  have DX := Lib.hid (fun w => divide_any x s w s1 (by omega) (by omega) (by omega))
  have DY := Lib.hid (fun w => divide_any y s w s1 (by omega) (by omega) (by omega))
  have SQ := Lib.hid (fun w => square_any s (x / s) (y / s) _ _ rfl rfl a1 a2 b1 b2 w)
  clear h e hs s1 s2 x1 x2 y1 y2 a1 a2 b1 b2
  generalize x / s * s = p at *
  generalize y / s * s = q at *
  generalize x / s = c at *
  generalize y / s = r at *
  generalize shW (x % s) s = f1 at *
  generalize shW (y % s) s = f2 at *
  go_enter Try.func67, Try.ntmps67
  have HZ := Lib.hid (fun (w : World) => heap_alloc_new w (regObj 0 0 0 0))
  go_wp2_with (first | (go_at_call 135; refine (C.out _).mono ?_; rintro e w' ⟨rfl, rfl⟩) | (go_at_call 136; refine (D.out _).mono ?_; rintro e w' ⟨rfl, rfl⟩) | (go_at_call 119; (first | (with_reducible refine Calls.mono (DX.out _) ?_; rintro e w1 ⟨rfl, hb1⟩; have HR := Lib.hid (blkStay (b := w.heap.size) (o := regObj 0 0 0 0) (by (first | (rw [heap_alloc_get, if_pos rfl]; done) | ((simp only [heap_alloc_get, heap_size_alloc, if_true]) <;> ((repeat' split) <;> first | rfl | omega)))) hb1); have B1 := Lib.hid (Below.trans (show Below w.heap.size w (w.alloc (regObj 0 0 0 0)) from (by repeat (first | exact Below.refl _ _ | refine Below.alloc ?_ (by first | omega | (simp; done) | (simp; omega)) _ | refine Below.setCell ?_ (by first | omega | (simp; done) | (simp; omega)) _ | refine Below.drew ?_))) (hb1.mono (by simp))); clear hb1) | (with_reducible refine Calls.mono (DY.out _) ?_; rintro e w2 ⟨rfl, hb2⟩; have HR2 := Lib.hid (blkStay HR.out hb2); have B2 := Lib.hid (B1.out.trans (hb2.mono B1.out.size)); clear hb2))) | (go_at_call 137; refine (SQ.out _).mono ?_; rintro e w7 ⟨rfl, hb7⟩; have HR3 := Lib.hid (blkStay HR2.out hb7); have B3 := Lib.hid (B2.out.trans (hb7.mono B2.out.size)); clear hb7; obtain ⟨cR, fR, zR⟩ := blkC HR3.out))
  have zz := B3.out.size
  refine bodyPost_ret (v := .tuple #[reg p q s s, .int .i64 0]) (by simp [results, Try.results67, go_sem, cR]) rfl ⟨rfl, ?_⟩
  repeat (first | exact B3.out | refine Below.setCell ?_ (by first | omega | (simp; done) | (simp; omega)) _)
end Go.Proofs.Ytihjemookgnafaa

/- Tiles of the program. -/
namespace Go.Proofs.Ytihjemookgnafaa
open Go.RowKit Fl
set_option linter.unusedVariables false

/-- The tile number k of a region: c of them in a row. -/
def tlR (X Y W H s : Int) (c k : Nat) : Rgn := ⟨tlX X (X / s + (k % c : Nat)) s, tlX Y (Y / s + (k / c : Nat)) s, tlW X W (X / s + (k % c : Nat)) s, tlW Y H (Y / s + (k / c : Nat)) s⟩
/-- How many columns or rows of tiles there are. -/
def tlN (X W s : Int) : Nat := ((X + W - 1) / s - X / s + 1).toNat
theorem tlN_parts {X W s : Int} (hs : 1 ≤ s) (hW : 1 ≤ W) (hW2 : W ≤ 512) : (tlN X W s : Int) = (X + W - 1) / s - X / s + 1 ∧ 1 ≤ tlN X W s ∧ tlN X W s ≤ 512 := by
  have a := Int.ediv_le_ediv (show 0 < s by omega) (show X ≤ X + W - 1 by omega)
  have b : (X + W - 1) / s ≤ X / s + 511 := by
    have c1 := Int.lt_ediv_add_one_mul_self X (show 0 < s by omega)
    have h : (X + W - 1) / s < X / s + 512 := by
      apply Int.ediv_lt_of_lt_mul (by omega)
      have : (X / s + 512) * s = (X / s + 1) * s + 511 * s := by rw [← Int.add_mul]; congr 1; omega
      rw [this]
      omega
    omega
  unfold tlN
  omega
/-- What Tiles answers. -/
def tilsE (X Y W H s : Int) : Int :=
  if checkR X Y W H ≠ 0 then checkR X Y W H else if sidB s = false then 3 else if 1024 < tlN X W s * tlN Y H s then 4 else 0
/-- Common of a region and of a tile in it. -/
theorem com_tile {X Y W H s : Int} (hs : 1 ≤ s) (hW : 1 ≤ W) (hH : 1 ≤ H) {i j : Int} (i0 : X / s ≤ i) (i1 : i ≤ (X + W - 1) / s) (j0 : Y / s ≤ j) (j1 : j ≤ (Y + H - 1) / s) :
    comB X Y W H (i * s) (j * s) s s = true ∧ comR X Y W H (i * s) (j * s) s s = reg (tlX X i s) (tlX Y j s) (tlW X W i s) (tlW Y H j s) := by
  obtain ⟨_, _, a, _, _⟩ := tl_parts (X := X) (W := W) hs hW i0 i1
  obtain ⟨_, _, b, _, _⟩ := tl_parts (X := Y) (W := H) hs hH j0 j1
  have h : comB X Y W H (i * s) (j * s) s s = true := comB_iff.2 ⟨a, b⟩
  refine ⟨h, ?_⟩
  unfold comR
  rw [if_pos h]
  rfl
theorem maxI_comm (a b : Int) : maxI a b = maxI b a := by unfold maxI; split <;> split <;> omega
theorem minI_comm (a b : Int) : minI a b = minI b a := by unfold minI; split <;> split <;> omega
theorem com_tile' {X Y W H s : Int} (hs : 1 ≤ s) (hW : 1 ≤ W) (hH : 1 ≤ H) {i j : Int} (i0 : X / s ≤ i) (i1 : i ≤ (X + W - 1) / s) (j0 : Y / s ≤ j) (j1 : j ≤ (Y + H - 1) / s) :
    comB (i * s) (j * s) s s X Y W H = true ∧ comR (i * s) (j * s) s s X Y W H = reg (tlX X i s) (tlX Y j s) (tlW X W i s) (tlW Y H j s) := by
  obtain ⟨a, b⟩ := com_tile (X := X) (Y := Y) (W := W) (H := H) hs hW hH i0 i1 j0 j1
  have e : comB (i * s) (j * s) s s X Y W H = comB X Y W H (i * s) (j * s) s s := by
    unfold comB
    rw [maxI_comm X, maxI_comm Y, minI_comm (X + W), minI_comm (Y + H)]
  refine ⟨by rw [e]; exact a, ?_⟩
  rw [← b]
  unfold comR
  rw [e, a, maxI_comm X, maxI_comm Y, minI_comm (X + W), minI_comm (Y + H)]

theorem com_cell {X Y W H s : Int} (h0 : checkR X Y W H = 0) (hs : sidB s = true) (i j : Nat) (hi : i < tlN X W s) (hj : j < tlN Y H s) (w : World) :
    Calls Try.prog 20 #[reg X Y W H, reg ((X / s + i) * s) ((Y / s + j) * s) s s] w fun e w' => e = .returned (.tuple #[reg (tlX X (X / s + i) s) (tlX Y (Y / s + j) s) (tlW X W (X / s + i) s) (tlW Y H (Y / s + j) s), .bool true]) ∧ Below w.heap.size w w' := by
  obtain ⟨b1, b2, b3, b4, _, b6, b7, b8, b9⟩ := checkR_zero h0
  obtain ⟨s1, s2⟩ := sid_iff.1 hs
  obtain ⟨c1, c2, c3⟩ := tlN_parts (X := X) s1 b1 b2
  obtain ⟨d1, d2, d3⟩ := tlN_parts (X := Y) s1 b3 b4
  obtain ⟨_, _, e1, e2⟩ := sq_bd s1 s2 b6 (show X ≤ 4194304 by omega) (show X / s ≤ X / s + i by omega) (by omega)
  obtain ⟨_, _, e3, e4⟩ := sq_bd s1 s2 b8 (show Y ≤ 4194304 by omega) (show Y / s ≤ Y / s + j by omega) (by omega)
  have h := common_any X Y W H ((X / s + i) * s) ((Y / s + j) * s) s s w (by omega) (by omega) (by omega) (by omega) (by omega) (by omega) (by omega) (by omega) (by omega) (by omega) (by omega) (by omega) (by omega) (by omega) (by omega) (by omega)
  obtain ⟨x1, x2⟩ := com_tile (X := X) (Y := Y) (W := W) (H := H) s1 b1 b3 (i := X / s + i) (j := Y / s + j) (by omega) (by omega) (by omega) (by omega)
  rw [x1, x2] at h
  exact h
theorem sq_cell {X Y W H s : Int} (h0 : checkR X Y W H = 0) (hs : sidB s = true) (i j : Nat) (hi : i < tlN X W s) (hj : j < tlN Y H s) (w : World) :
    Calls Try.prog 137 #[.int .i64 s, .int .i64 (X / s + i), .int .i64 (Y / s + j)] w fun e w' => e = .returned (reg ((X / s + i) * s) ((Y / s + j) * s) s s) ∧ Below w.heap.size w w' := by
  obtain ⟨b1, b2, b3, b4, _, b6, b7, b8, b9⟩ := checkR_zero h0
  obtain ⟨s1, s2⟩ := sid_iff.1 hs
  obtain ⟨c1, c2, c3⟩ := tlN_parts (X := X) s1 b1 b2
  obtain ⟨d1, d2, d3⟩ := tlN_parts (X := Y) s1 b3 b4
  obtain ⟨_, _, e1, e2⟩ := sq_bd s1 s2 b6 (show X ≤ 4194304 by omega) (show X / s ≤ X / s + i by omega) (by omega)
  obtain ⟨_, _, e3, e4⟩ := sq_bd s1 s2 b8 (show Y ≤ 4194304 by omega) (show Y / s ≤ Y / s + j by omega) (by omega)
  exact square_any s _ _ _ _ rfl rfl e1 e2 e3 e4 w

/-- The tiles are there. -/
def TlsPost (w : World) (n : Nat) (T : Nat → Rgn) (e : Ending) (w' : World) : Prop :=
  ∃ g cap, e = .returned (.tuple #[.slice (some ⟨g, 0, none⟩) n cap, .int .i64 0]) ∧ w.heap.size ≤ g ∧ TlRow w' g n T ∧ Below w.heap.size w w'

/-- One tile's block behind the region that cuts it. -/
def OneT (wr : World) (r : Rgn) (v : Value) (wx : World) : Prop := ∃ p, v = .pointer (some ⟨p, 0, none⟩) ∧ wx.heap[p]? = some (.cells r.cells 23 (0, 0)) ∧ Below wr.heap.size wr wx

theorem oneT_new {wr w6 : World} {t1 t2 t3 t4 : Int} (hb : Below wr.heap.size wr w6) : OneT wr ⟨t1, t2, t3, t4⟩ (.pointer (some ⟨w6.heap.size, 0, none⟩)) (w6.alloc (regObj t1 t2 t3 t4)) :=
  ⟨_, rfl, heap_alloc_new _ _, hb.alloc hb.size _⟩
theorem oneT_old {wr w6 : World} {p : Nat} {t1 t2 t3 t4 : Int} (hb : Below wr.heap.size wr w6) (hp : w6.heap[p]? = some (regObj 0 0 0 0)) (hlo : wr.heap.size ≤ p) :
    OneT wr ⟨t1, t2, t3, t4⟩ (.pointer (some ⟨p, 0, none⟩)) ((((w6.setCell ⟨p, 0, none⟩ (.int .i64 t1)).setCell ⟨p, 1, none⟩ (.int .i64 t2)).setCell ⟨p, 2, none⟩ (.int .i64 t3)).setCell ⟨p, 3, none⟩ (.int .i64 t4)) := by
  have h1 := heap_setCell_same w6 p 0 _ _ (.int .i64 t1) hp
  have h2 := heap_setCell_same _ p 1 _ _ (.int .i64 t2) h1
  have h3 := heap_setCell_same _ p 2 _ _ (.int .i64 t3) h2
  exact ⟨p, rfl, heap_setCell_same _ p 3 _ _ (.int .i64 t4) h3, (((hb.setCell (p := ⟨p, 0, none⟩) hlo _).setCell (p := ⟨p, 1, none⟩) hlo _).setCell (p := ⟨p, 2, none⟩) hlo _).setCell (p := ⟨p, 3, none⟩) hlo _⟩

/-- What holds at the head of the inner loop. -/
def InAt (w : World) (X Y W H : Int) (T : Nat → Rgn) (c : Nat) (x0 : Int) (j : Nat) (l x : Value) (wr : World) : Prop :=
  ∃ (i : Nat) (ov : Value), i ≤ c ∧ x = .int .i64 (x0 + i) ∧ ov = l ∧ TlAt w X Y W H (w.heap.size + 1) T (j * c + i) ov wr

set_option maxRecDepth 100000 in
set_option maxHeartbeats 4000000 in
theorem tiles_ok (X Y W H s : Int) (w : World) (h0 : checkR X Y W H = 0) (hs : sidB s = true) (hm : tlN X W s * tlN Y H s ≤ 1024) :
    Calls Try.prog 68 #[reg X Y W H, .int .i64 s] w (TlsPost w (tlN Y H s * tlN X W s) (tlR X Y W H s (tlN X W s))) := by
  obtain ⟨b1, b2, b3, b4, _, b6, b7, b8, b9⟩ := checkR_zero h0
  obtain ⟨s1, s2⟩ := sid_iff.1 hs
  obtain ⟨c1, c2, c3⟩ := tlN_parts (X := X) s1 b1 b2
  obtain ⟨d1, d2, d3⟩ := tlN_parts (X := Y) s1 b3 b4
  obtain ⟨p1, p2, _, _⟩ := sq_bd s1 s2 b6 (show X ≤ 4194304 by omega) (Int.le_refl (X / s)) (by omega)
  obtain ⟨q1, q2, _, _⟩ := sq_bd s1 s2 b8 (show Y ≤ 4194304 by omega) (Int.le_refl (Y / s)) (by omega)
  have CR := Lib.hid (fun w => checkRegion_any X Y W H w)
  rw [h0] at CR
  have CS := Lib.hid (checkSide_ok s hs)
  have D0 := Lib.hid (fun w => divide_any X s w s1 (by omega) (by omega) (by omega))
  have D1 := Lib.hid (fun w => divide_any Y s w s1 (by omega) (by omega) (by omega))
  have D2 := Lib.hid (fun w => divide_any (X + W - 1) s w s1 (by omega) (by omega) (by omega))
  have D3 := Lib.hid (fun w => divide_any (Y + H - 1) s w s1 (by omega) (by omega) (by omega))
  have SQ := Lib.hid (fun (i j : Nat) (hi : i < tlN X W s) (hj : j < tlN Y H s) w => sq_cell h0 hs i j hi hj w)
  have CM := Lib.hid (fun (i j : Nat) (hi : i < tlN X W s) (hj : j < tlN Y H s) w => com_cell h0 hs i j hi hj w)
  have TR := Lib.hid (fun (i j : Nat) (hi : i < tlN X W s) => show tlR X Y W H s (tlN X W s) (j * tlN X W s + i) = ⟨tlX X (X / s + i) s, tlX Y (Y / s + j) s, tlW X W (X / s + i) s, tlW Y H (Y / s + j) s⟩ from by
    unfold tlR
    rw [(flat_parts hi).1, (flat_parts hi).2])
  have hpr : ((X + W - 1) / s - X / s + 1) * ((Y + H - 1) / s - Y / s + 1) = (tlN X W s * tlN Y H s : Nat) := by rw [← c1, ← d1]; simp
  have MU := Lib.hid (show wrap64 (((X + W - 1) / s - X / s + 1) * ((Y + H - 1) / s - Y / s + 1)) = (tlN X W s * tlN Y H s : Nat) from by rw [hpr]; exact IntWalk.wrap64_in _ ⟨by omega, by omega⟩)
  have hinfo : (Try.prog.info? 23).map (fun i => (i.zero, i.size, i.bytes)) = some (some (.agg #[.int .i64 0, .int .i64 0, .int .i64 0, .int .i64 0]), 4, 32) := by kernel_rfl
  obtain ⟨ti, hi, hz0, hz1, hz2⟩ := info_parts hinfo
  have HI := Lib.hid hi
  have z1 : X / s ≤ (X + W - 1) / s := by omega
  have z2 : Y / s ≤ (Y + H - 1) / s := by omega
  have z3 : (X + W - 1) / s ≤ X / s + 511 := by omega
  have z4 : (Y + H - 1) / s ≤ Y / s + 511 := by omega
  have TM := Lib.hid (show tlN X W s * tlN Y H s ≤ 1024 from hm)
  have TC := Lib.hid c1
  have TD := Lib.hid d1
  clear hpr hinfo hi hm h0 hs c1 d1
  generalize tlR X Y W H s (tlN X W s) = T at *
  generalize tlN X W s = c at *
  generalize tlN Y H s = d at *
  generalize shW (X % s) s = f0 at *
  generalize shW (Y % s) s = f1 at *
  generalize shW ((X + W - 1) % s) s = f2 at *
  generalize shW ((Y + H - 1) % s) s = f3 at *
  generalize hx0 : X / s = x0 at *
  generalize hy0 : Y / s = y0 at *
  generalize hx1 : (X + W - 1) / s = x1 at *
  generalize hy1 : (Y + H - 1) / s = y1 at *
  have hmu := MU.out
  generalize hcd : c * d = m at *
  have CD := Lib.hid hcd
  clear hcd
  obtain ⟨m', hm'⟩ : ∃ m' : Int, (m : Int) = m' := ⟨_, rfl⟩
  rw [hm'] at hmu
  have hm2 : m' ≤ 1024 := by have := TM.out; omega
  clear hx0 hy0 hx1 hy1 MU hm'
  go_enter Try.func68, Try.ntmps68
  go_wp2_with (first | (go_at_call 15; refine (CR.out _).mono ?_; rintro e w' ⟨rfl, rfl⟩) | (go_at_call 135; refine (CS.out _).mono ?_; rintro e w' ⟨rfl, rfl⟩) | (go_at_call 119; (first | (with_reducible refine Calls.mono (D0.out _) ?_; rintro e w1 ⟨rfl, hb1⟩; have HA1 := Lib.hid (blkStay (b := w.heap.size) (o := regObj X Y W H) (by (first | (rw [heap_alloc_get, if_pos rfl]; done) | ((simp only [heap_alloc_get, heap_size_alloc, if_true]) <;> ((repeat' split) <;> first | rfl | omega)))) hb1); have hB1 : Below w.heap.size w w1 := Below.trans (by repeat (first | exact Below.refl _ _ | refine Below.alloc ?_ (by first | omega | (simp; done) | (simp; omega)) _ | refine Below.setCell ?_ (by first | omega | (simp; done) | (simp; omega)) _ | refine Below.drew ?_)) (Below.mono hb1 (by first | omega | (simp; done) | (simp; omega))); obtain ⟨cA, fA, zA⟩ := blkC HA1.out; clear hb1) | (with_reducible refine Calls.mono (D1.out _) ?_; rintro e w2 ⟨rfl, hb2⟩; have HA2 := Lib.hid (blkStay HA1.out hb2); have hB2 := hB1.trans (hb2.mono hB1.size); clear cA fA zA; obtain ⟨cA, fA, zA⟩ := blkC HA2.out; clear hb2) | (with_reducible refine Calls.mono (D2.out _) ?_; rintro e w3 ⟨rfl, hb3⟩; have HA3 := Lib.hid (blkStay HA2.out hb3); have hB3 := hB2.trans (hb3.mono hB2.size); clear cA fA zA; obtain ⟨cA, fA, zA⟩ := blkC HA3.out; clear hb3) | (with_reducible refine Calls.mono (D3.out _) ?_; rintro e w4 ⟨rfl, hb4⟩; have HA4 := Lib.hid (blkStay HA3.out hb4); have hB4 := hB3.trans (hb4.mono hB3.size); clear cA fA zA; obtain ⟨cA, fA, zA⟩ := blkC HA4.out; clear hb4))))
  have ST := Lib.hid (show TlAt w X Y W H (w.heap.size + 1) T (0 * c) (.slice none 0 0) w4 from ⟨⟨by simp [rgsL], .inl ⟨rfl, by simp⟩⟩, HA4.out, hB4, zA⟩)
  clear cA fA zA HA1 HA2 HA3 HA4 hB1 hB2 hB3 hB4 CR CS D0 D1 D2 D3 hmu
  go_loopw [16, 17] (fun l y wr => ∃ (j : Nat) (ov : Value), j ≤ d ∧ y = .int .i64 (y0 + j) ∧ ov = l ∧ TlAt w X Y W H (w.heap.size + 1) T (j * c) ov wr) (fun _ y _ => (y1 + 1 - intOf y).toNat)
  case atStart => exact ⟨0, _, by omega, by simp, rfl, ST.out⟩
  case round =>
    obtain ⟨j, ov, hj, rfl, rfl, hm⟩ := hrel
    have HM := Lib.hid hm
    clear hm
    by_cases hlt : j < d
    · have hle : y0 + (j : Int) ≤ y1 := by have := TD.out; omega
      go_wp2
      obtain ⟨w2, rfl⟩ : ∃ w2, w2 = wr := ⟨_, rfl⟩
      go_loopw [16, 18] (fun l x wr => InAt w X Y W H T c x0 j l x wr) (fun _ x _ => (x1 + 1 - intOf x).toNat)
      case atStart => exact ⟨0, _, by omega, by simp, rfl, HM.out⟩
      case round =>
        obtain ⟨i, ov, hi1, rfl, rfl, hmi⟩ := hrel
        have HMi := Lib.hid hmi
        have HRg := Lib.hid hmi.reg
        obtain ⟨cB, fB, zB⟩ := blkC hmi.reg
        clear hmi
        by_cases hlt2 : i < c
        · have hle2 : x0 + (i : Int) ≤ x1 := by have := TC.out; omega
          have SQI := Lib.hid (SQ.out i j hlt2 hlt)
          have CMI := Lib.hid (CM.out i j hlt2 hlt)
          have TRI := Lib.hid (TR.out i j hlt2)
          generalize tlX X (x0 + (i : Int)) s = t1 at *
          generalize tlX Y (y0 + (j : Int)) s = t2 at *
          generalize tlW X W (x0 + (i : Int)) s = t3 at *
          generalize tlW Y H (y0 + (j : Int)) s = t4 at *
          generalize (x0 + (i : Int)) * s = p at *
          generalize (y0 + (j : Int)) * s = q at *
          have HN := Lib.hid (heap_alloc_new wr (regObj 0 0 0 0))
          have HA3 := Lib.hid (show Below wr.heap.size wr (wr.alloc (regObj 0 0 0 0)) from (Below.refl _ _).alloc (Nat.le_refl _) _)
          go_upto_region 20 with fail
          go_cut [19, 20] from 84 to 101 (fun s19 s20 wx => OneT wr ⟨t1, t2, t3, t4⟩ s19 wx)
          case first =>
            go_region_law (first
              | (go_simp; (with_reducible refine Calls.mono (SQI.out _) ?_); rintro e w5 ⟨rfl, hb5⟩; have hb5' : Below wr.heap.size wr w5 := ⟨hb5.os, hb5.tape, hb5.output, hb5.size, hb5.block⟩; have HB5 := Lib.hid hb5'; have RG5 := Lib.hid (blkStay HRg.out hb5'); have z5 := hb5'.size; clear cB fB zB; obtain ⟨cB, fB, zB⟩ := blkC RG5.out; clear hb5 hb5')
              | (go_simp; (with_reducible refine Calls.mono (SQI.out _) ?_); rintro e w5 ⟨rfl, hb5⟩; have hb5' : Below (wr.alloc (regObj 0 0 0 0)).heap.size (wr.alloc (regObj 0 0 0 0)) w5 := ⟨hb5.os, hb5.tape, hb5.output, hb5.size, hb5.block⟩; have HB5 := Lib.hid (HA3.out.trans (hb5'.mono HA3.out.size)); have RG5 := Lib.hid (blkStay HRg.out HB5.out); have ZZ5 := Lib.hid (blkStay HN.out hb5'); have z5 := HB5.out.size; clear cB fB zB; obtain ⟨cB, fB, zB⟩ := blkC RG5.out; clear hb5 hb5')
              | (go_simp; (with_reducible refine Calls.mono (CMI.out _) ?_); rintro e w6 ⟨rfl, hb6⟩; have hb6' : Below w5.heap.size w5 w6 := ⟨hb6.os, hb6.tape, hb6.output, hb6.size, hb6.block⟩; have HB6 := Lib.hid (HB5.out.trans (hb6'.mono HB5.out.size)); have HX6 := Lib.hid hb6'; have z6 := hb6'.size; clear cB fB zB hb6 hb6'; first | (have ZZ6 := Lib.hid (blkStay ZZ5.out HX6.out); obtain ⟨cZ, fZ, zZ⟩ := blkC ZZ6.out) | skip)
              | (go_simp; (with_reducible refine Calls.mono (CMI.out _) ?_); rintro e w6 ⟨rfl, hb6⟩; have hb6' : Below (w5.alloc (regObj 0 0 0 0)).heap.size (w5.alloc (regObj 0 0 0 0)) w6 := ⟨hb6.os, hb6.tape, hb6.output, hb6.size, hb6.block⟩; have HX5 := Lib.hid (show Below w5.heap.size w5 (w5.alloc (regObj 0 0 0 0)) from (Below.refl _ _).alloc (Nat.le_refl _) _); have HB6 := Lib.hid (HB5.out.trans ((HX5.out.trans (hb6'.mono HX5.out.size)).mono HB5.out.size)); have ZZ7 := Lib.hid (blkStay (heap_alloc_new w5 (regObj 0 0 0 0)) hb6'); have z6 := HB6.out.size; clear cB fB zB hb6 hb6'; obtain ⟨cZ, fZ, zZ⟩ := blkC ZZ7.out))
            all_goals
              go_wp2_with fail
              go_meet
              case rel => first
                | ((with_reducible refine oneT_new ?_); exact HB6.out)
                | ((with_reducible refine oneT_old ?_ ?_ ?_); exact HB6.out; (first | exact ZZ7.out | exact ZZ6.out); (first | exact z5 | exact Nat.le_refl _))
          case rest =>
            obtain ⟨p5, rfl, HP0, HB0⟩ := hcut
            have HP := Lib.hid HP0
            have HB5 := Lib.hid HB0
            have OW5 := Lib.hid (ownsRow_below HMi.out.own HB0)
            have z0 := HMi.out.size
            have z5 := HB0.size
            have KB : j * c + i < 1024 := by
              have := Nat.mul_le_mul_right c (show j + 1 ≤ d by omega)
              rw [Nat.succ_mul, Nat.mul_comm d c, CD.out] at this
              have := TM.out
              omega
            have KE := Lib.hid (show j * c + (i + 1) = j * c + i + 1 by omega)
            clear cB fB zB HN HA3 SQI CMI
            obtain ⟨cB, fB, zB⟩ := blkC HP0
            clear HP0 HB0
            have hi := HI.out
            generalize j * c + i = k at *
            go_wp2_with (at_builtin; go_loud (refine wpList_append_lies _ rfl _ _ _ rfl (w.heap.size + 1) 23 ti _ 4 32 Try.underlying84 hi hz0 hz1 hz2 rfl (by omega) ov k (rgsL T k) (by rfl) (OW5.out.alloc _) ⟨wc.heap.size, 0, none⟩ 1 1 [.int .i64 t1, .int .i64 t2, .int .i64 t3, .int .i64 t4] (by rfl) (by rfl) (World.news_of_block (cs := #[.int .i64 t1, .int .i64 t2, .int .i64 t3, .int .i64 t4]) (t := 23) (fr := (0, 0)) (heap_alloc_new wc _)) (by simp [Value.oneCell']) (by omega) (by unfold maxLen; omega) (by omega) (by simp; omega) (wc.heap.size + 1) (by simp) ?_; intro g' cap' w6 hown6 hgrow hat hlt6; have HN6 := Lib.hid (TlAt.push HMi.out HB5.out (by omega) hgrow (by rw [TRI.out]; exact hown6)); clear hown6 hgrow hat hlt6))
            go_roundw
            case rel => exact ⟨i + 1, _, by omega, by go_num, rfl, by rw [KE.out]; exact HN6.out⟩
            case measure => simp [intOf]; omega
        · have hiW : i = c := by omega
          have hge : ¬ x0 + (i : Int) ≤ x1 := by have := TC.out; omega
          have HM3 : Hid (TlAt w X Y W H (w.heap.size + 1) T ((j + 1) * c) ov wr) := by
            have h := HMi.out
            rw [hiW, ← Nat.succ_mul] at h
            exact h
          clear hiW
          go_wp2
          go_roundw
          case rel => exact ⟨j + 1, _, by omega, by go_num, rfl, HM3.out⟩
          case measure => simp [intOf]; omega
    · have hjH : j = d := by omega
      have hge : ¬ y0 + (j : Int) ≤ y1 := by have := TD.out; omega
      have hm := HM.out
      rw [hjH] at hm
      have hn1 : 0 < d * c := Nat.mul_pos d2 c2
      obtain ⟨gb, cap, rfl, _⟩ := hm.own.form hn1
      obtain ⟨hrow, hlo⟩ := hm.cells
      have HB := Lib.hid hm.bel
      have HR := Lib.hid hrow
      have HL := Lib.hid hlo
      clear hm hrow hlo hjH
      go_wp2
      go_ret2
      exact ⟨gb, cap, rfl, by have := HL.out; omega, HR.out, HB.out⟩
end Go.Proofs.Ytihjemookgnafaa

/- Tiles: errors, of the program and of the reference; the reference's parts. -/
namespace Go.Proofs.Ytihjemookgnafaa
open Go.RowKit Fl
set_option linter.unusedVariables false

theorem tilsE_parts {X Y W H s : Int} (h : tilsE X Y W H s = 0) : checkR X Y W H = 0 ∧ sidB s = true ∧ tlN X W s * tlN Y H s ≤ 1024 := by
  unfold tilsE at h
  split at h
  · rename_i c
    exact absurd h c
  · rename_i c
    have c' : checkR X Y W H = 0 := by simpa using c
    split at h
    · cases h
    · rename_i d
      split at h
      · cases h
      · exact ⟨c', by simpa using d, by omega⟩

/-- The answer is an error. -/
def TilsNo (w : World) (n : Int) (e : Ending) (w' : World) : Prop := e = .returned (.tuple #[.slice none 0 0, .int .i64 n]) ∧ Below w.heap.size w w'

set_option maxHeartbeats 2000000 in
theorem tiles_bad (X Y W H s : Int) (w : World) (h : tilsE X Y W H s ≠ 0) : Calls Try.prog 68 #[reg X Y W H, .int .i64 s] w (TilsNo w (tilsE X Y W H s)) := by
  by_cases h0 : checkR X Y W H = 0
  · have CR := Lib.hid (fun w => checkRegion_any X Y W H w)
    rw [h0] at CR
    cases hs : sidB s with
    | false =>
      have e : tilsE X Y W H s = 3 := by unfold tilsE; rw [if_neg (by simpa using h0), if_pos hs]
      rw [e]
      have CS := Lib.hid (checkSide_no s hs)
      clear h h0 hs e
      go_enter Try.func68, Try.ntmps68
      go_wp2_with (first | (go_at_call 15; refine (CR.out _).mono ?_; rintro e w' ⟨rfl, rfl⟩) | (go_at_call 135; refine (CS.out _).mono ?_; rintro e w' ⟨rfl, rfl⟩))
      go_ret2
      exact ⟨rfl, (by repeat (first | exact Below.refl _ _ | refine Below.alloc ?_ (by first | omega | (simp; done) | (simp; omega)) _ | refine Below.setCell ?_ (by first | omega | (simp; done) | (simp; omega)) _ | refine Below.drew ?_))⟩
    | true =>
      have hm : 1024 < tlN X W s * tlN Y H s := by
        apply Nat.lt_of_not_le
        intro c
        apply h
        unfold tilsE
        rw [if_neg (by simpa using h0), if_neg (by simp [hs]), if_neg (by omega)]
      have e : tilsE X Y W H s = 4 := by unfold tilsE; rw [if_neg (by simpa using h0), if_neg (by simp [hs]), if_pos hm]
      rw [e]
      have CS := Lib.hid (checkSide_ok s hs)
      obtain ⟨b1, b2, b3, b4, _, b6, b7, b8, b9⟩ := checkR_zero h0
      obtain ⟨s1, s2⟩ := sid_iff.1 hs
      obtain ⟨c1, c2, c3⟩ := tlN_parts (X := X) s1 b1 b2
      obtain ⟨d1, d2, d3⟩ := tlN_parts (X := Y) s1 b3 b4
      obtain ⟨p1, p2, _, _⟩ := sq_bd s1 s2 b6 (show X ≤ 4194304 by omega) (Int.le_refl (X / s)) (by omega)
      obtain ⟨q1, q2, _, _⟩ := sq_bd s1 s2 b8 (show Y ≤ 4194304 by omega) (Int.le_refl (Y / s)) (by omega)
      have D0 := Lib.hid (fun w => divide_any X s w s1 (by omega) (by omega) (by omega))
      have D1 := Lib.hid (fun w => divide_any Y s w s1 (by omega) (by omega) (by omega))
      have D2 := Lib.hid (fun w => divide_any (X + W - 1) s w s1 (by omega) (by omega) (by omega))
      have D3 := Lib.hid (fun w => divide_any (Y + H - 1) s w s1 (by omega) (by omega) (by omega))
      have hpr : ((X + W - 1) / s - X / s + 1) * ((Y + H - 1) / s - Y / s + 1) = (tlN X W s * tlN Y H s : Nat) := by rw [← c1, ← d1]; simp
      have hle : tlN X W s * tlN Y H s ≤ 512 * 512 := Nat.mul_le_mul c3 d3
      have hmu : wrap64 (((X + W - 1) / s - X / s + 1) * ((Y + H - 1) / s - Y / s + 1)) = (tlN X W s * tlN Y H s : Nat) := by rw [hpr]; exact IntWalk.wrap64_in _ ⟨by omega, by omega⟩
      have z1 : X / s ≤ (X + W - 1) / s := by omega
      have z2 : Y / s ≤ (Y + H - 1) / s := by omega
      have z3 : (X + W - 1) / s ≤ X / s + 511 := by omega
      have z4 : (Y + H - 1) / s ≤ Y / s + 511 := by omega
      obtain ⟨m', hm'⟩ : ∃ m' : Int, ((tlN X W s * tlN Y H s : Nat) : Int) = m' := ⟨_, rfl⟩
      rw [hm'] at hmu
      have hm2 : 1024 < m' := by omega
      clear h h0 hs e hpr hle c1 d1 c2 c3 d2 d3 hm hm'
      generalize shW (X % s) s = f0 at *
      generalize shW (Y % s) s = f1 at *
      generalize shW ((X + W - 1) % s) s = f2 at *
      generalize shW ((Y + H - 1) % s) s = f3 at *
      generalize X / s = x0 at *
      generalize Y / s = y0 at *
      generalize (X + W - 1) / s = x1 at *
      generalize (Y + H - 1) / s = y1 at *
      go_enter Try.func68, Try.ntmps68
      go_wp2_with (first | (go_at_call 15; refine (CR.out _).mono ?_; rintro e w' ⟨rfl, rfl⟩) | (go_at_call 135; refine (CS.out _).mono ?_; rintro e w' ⟨rfl, rfl⟩) | (go_at_call 119; (first | (with_reducible refine Calls.mono (D0.out _) ?_; rintro e w1 ⟨rfl, hb1⟩; have HA1 := Lib.hid (blkStay (b := w.heap.size) (o := regObj X Y W H) (by (first | (rw [heap_alloc_get, if_pos rfl]; done) | ((simp only [heap_alloc_get, heap_size_alloc, if_true]) <;> ((repeat' split) <;> first | rfl | omega)))) hb1); have hB1 : Below w.heap.size w w1 := Below.trans (by repeat (first | exact Below.refl _ _ | refine Below.alloc ?_ (by first | omega | (simp; done) | (simp; omega)) _ | refine Below.setCell ?_ (by first | omega | (simp; done) | (simp; omega)) _ | refine Below.drew ?_)) (Below.mono hb1 (by first | omega | (simp; done) | (simp; omega))); obtain ⟨cA, fA, zA⟩ := blkC HA1.out; clear hb1) | (with_reducible refine Calls.mono (D1.out _) ?_; rintro e w2 ⟨rfl, hb2⟩; have HA2 := Lib.hid (blkStay HA1.out hb2); have hB2 := hB1.trans (hb2.mono hB1.size); clear cA fA zA; obtain ⟨cA, fA, zA⟩ := blkC HA2.out; clear hb2) | (with_reducible refine Calls.mono (D2.out _) ?_; rintro e w3 ⟨rfl, hb3⟩; have HA3 := Lib.hid (blkStay HA2.out hb3); have hB3 := hB2.trans (hb3.mono hB2.size); clear cA fA zA; obtain ⟨cA, fA, zA⟩ := blkC HA3.out; clear hb3) | (with_reducible refine Calls.mono (D3.out _) ?_; rintro e w4 ⟨rfl, hb4⟩; have HA4 := Lib.hid (blkStay HA3.out hb4); have hB4 := hB3.trans (hb4.mono hB3.size); clear cA fA zA; obtain ⟨cA, fA, zA⟩ := blkC HA4.out; clear hb4))))
      go_ret2
      exact ⟨rfl, hB4⟩
  · have e : tilsE X Y W H s = checkR X Y W H := by unfold tilsE; rw [if_pos h0]
    rw [e]
    have CR := Lib.hid (fun w => checkRegion_any X Y W H w)
    have hb : (checkR X Y W H != 0) = true := by simp [h0]
    clear h e h0
    generalize checkR X Y W H = c at *
    go_enter Try.func68, Try.ntmps68
    go_wp2_with (first | (go_at_call 15; refine (CR.out _).mono ?_; rintro e w' ⟨rfl, rfl⟩))
    go_ret2
    exact ⟨rfl, (by repeat (first | exact Below.refl _ _ | refine Below.alloc ?_ (by first | omega | (simp; done) | (simp; omega)) _ | refine Below.setCell ?_ (by first | omega | (simp; done) | (simp; omega)) _ | refine Below.drew ?_))⟩

theorem quotient1_any (n b : Int) (w : World) (b1 : 1 ≤ b) (b2 : b ≤ 16777216) (p1 : -1099511627776 ≤ n) (p2 : n ≤ 1099511627776) :
    Calls Try.prog 121 #[.int .i64 n, .int .i64 1, .int .i64 b] w fun e w' => e = .returned (.tuple #[.int .i64 (n / b), .int .i64 (n % b)]) ∧ w = w' := by
  have h := quotient2_any n 1 b w b1 b2 (by omega) (by omega)
  rw [Int.mul_one] at h
  exact h
theorem com_ref {X Y W H s : Int} (h0 : checkR X Y W H = 0) (hs : sidB s = true) (i j : Nat) (hi : i < tlN X W s) (hj : j < tlN Y H s) (w : World) :
    Calls Try.prog 21 #[reg ((X / s + i) * s) ((Y / s + j) * s) s s, reg X Y W H] w fun e w' => e = .returned (.tuple #[reg (tlX X (X / s + i) s) (tlX Y (Y / s + j) s) (tlW X W (X / s + i) s) (tlW Y H (Y / s + j) s), .bool true]) ∧ Below w.heap.size w w' := by
  obtain ⟨b1, b2, b3, b4, _, b6, b7, b8, b9⟩ := checkR_zero h0
  obtain ⟨s1, s2⟩ := sid_iff.1 hs
  obtain ⟨c1, c2, c3⟩ := tlN_parts (X := X) s1 b1 b2
  obtain ⟨d1, d2, d3⟩ := tlN_parts (X := Y) s1 b3 b4
  obtain ⟨_, _, e1, e2⟩ := sq_bd s1 s2 b6 (show X ≤ 4194304 by omega) (show X / s ≤ X / s + i by omega) (by omega)
  obtain ⟨_, _, e3, e4⟩ := sq_bd s1 s2 b8 (show Y ≤ 4194304 by omega) (show Y / s ≤ Y / s + j by omega) (by omega)
  have h := refCommon_any ((X / s + i) * s) ((Y / s + j) * s) s s X Y W H w (by omega) (by omega) (by omega) (by omega) (by omega) (by omega) (by omega) (by omega) (by omega) (by omega) (by omega) (by omega) (by omega) (by omega) (by omega) (by omega)
  obtain ⟨x1, x2⟩ := com_tile' (X := X) (Y := Y) (W := W) (H := H) s1 b1 b3 (i := X / s + i) (j := Y / s + j) (by omega) (by omega) (by omega) (by omega)
  rw [x1, x2] at h
  exact h
theorem sq_wrap {X Y W H s : Int} (h0 : checkR X Y W H = 0) (hs : sidB s = true) (i j : Nat) (hi : i < tlN X W s) (hj : j < tlN Y H s) :
    wrap64 ((X / s + i) * s) = (X / s + i) * s ∧ wrap64 ((Y / s + j) * s) = (Y / s + j) * s := by
  obtain ⟨b1, b2, b3, b4, _, b6, b7, b8, b9⟩ := checkR_zero h0
  obtain ⟨s1, s2⟩ := sid_iff.1 hs
  obtain ⟨c1, c2, c3⟩ := tlN_parts (X := X) s1 b1 b2
  obtain ⟨d1, d2, d3⟩ := tlN_parts (X := Y) s1 b3 b4
  obtain ⟨_, _, e1, e2⟩ := sq_bd s1 s2 b6 (show X ≤ 4194304 by omega) (show X / s ≤ X / s + i by omega) (by omega)
  obtain ⟨_, _, e3, e4⟩ := sq_bd s1 s2 b8 (show Y ≤ 4194304 by omega) (show Y / s ≤ Y / s + j by omega) (by omega)
  exact ⟨IntWalk.wrap64_in _ ⟨by omega, by omega⟩, IntWalk.wrap64_in _ ⟨by omega, by omega⟩⟩

set_option maxHeartbeats 2000000 in
theorem refTiles_bad (X Y W H s : Int) (w : World) (h : tilsE X Y W H s ≠ 0) : Calls Try.prog 69 #[reg X Y W H, .int .i64 s] w (TilsNo w (tilsE X Y W H s)) := by
  by_cases h0 : checkR X Y W H = 0
  · have CR := Lib.hid (fun w => refCheckRegion_any X Y W H w)
    rw [h0] at CR
    cases hs : sidB s with
    | false =>
      have e : tilsE X Y W H s = 3 := by unfold tilsE; rw [if_neg (by simpa using h0), if_pos hs]
      rw [e]
      have hss : s < 1 ∨ (1 ≤ s ∧ 256 < s) := by
        have := withinB_no.1 hs
        omega
      clear h h0 hs e
      rcases hss with a | ⟨a, b⟩
      all_goals
        go_enter Try.func69, Try.ntmps69
        go_wp2_with (first | (go_at_call 16; refine (CR.out _).mono ?_; rintro e w' ⟨rfl, rfl⟩))
        go_ret2
        exact ⟨rfl, (by repeat (first | exact Below.refl _ _ | refine Below.alloc ?_ (by first | omega | (simp; done) | (simp; omega)) _ | refine Below.setCell ?_ (by first | omega | (simp; done) | (simp; omega)) _ | refine Below.drew ?_))⟩
    | true =>
      have hm : 1024 < tlN X W s * tlN Y H s := by
        apply Nat.lt_of_not_le
        intro c
        apply h
        unfold tilsE
        rw [if_neg (by simpa using h0), if_neg (by simp [hs]), if_neg (by omega)]
      have e : tilsE X Y W H s = 4 := by unfold tilsE; rw [if_neg (by simpa using h0), if_neg (by simp [hs]), if_pos hm]
      rw [e]
      obtain ⟨b1, b2, b3, b4, _, b6, b7, b8, b9⟩ := checkR_zero h0
      obtain ⟨s1, s2⟩ := sid_iff.1 hs
      obtain ⟨c1, c2, c3⟩ := tlN_parts (X := X) s1 b1 b2
      obtain ⟨d1, d2, d3⟩ := tlN_parts (X := Y) s1 b3 b4
      obtain ⟨p1, p2, _, _⟩ := sq_bd s1 s2 b6 (show X ≤ 4194304 by omega) (Int.le_refl (X / s)) (by omega)
      obtain ⟨q1, q2, _, _⟩ := sq_bd s1 s2 b8 (show Y ≤ 4194304 by omega) (Int.le_refl (Y / s)) (by omega)
      have D0 := Lib.hid (fun w => quotient1_any X s w s1 (by omega) (by omega) (by omega))
      have D1 := Lib.hid (fun w => quotient1_any Y s w s1 (by omega) (by omega) (by omega))
      have D2 := Lib.hid (fun w => quotient1_any (X + W - 1) s w s1 (by omega) (by omega) (by omega))
      have D3 := Lib.hid (fun w => quotient1_any (Y + H - 1) s w s1 (by omega) (by omega) (by omega))
      have hpr : ((X + W - 1) / s - X / s + 1) * ((Y + H - 1) / s - Y / s + 1) = (tlN X W s * tlN Y H s : Nat) := by rw [← c1, ← d1]; simp
      have hle : tlN X W s * tlN Y H s ≤ 512 * 512 := Nat.mul_le_mul c3 d3
      have hmu : wrap64 (((X + W - 1) / s - X / s + 1) * ((Y + H - 1) / s - Y / s + 1)) = (tlN X W s * tlN Y H s : Nat) := by rw [hpr]; exact IntWalk.wrap64_in _ ⟨by omega, by omega⟩
      have z1 : X / s ≤ (X + W - 1) / s := by omega
      have z2 : Y / s ≤ (Y + H - 1) / s := by omega
      have z3 : (X + W - 1) / s ≤ X / s + 511 := by omega
      have z4 : (Y + H - 1) / s ≤ Y / s + 511 := by omega
      obtain ⟨m', hm'⟩ : ∃ m' : Int, ((tlN X W s * tlN Y H s : Nat) : Int) = m' := ⟨_, rfl⟩
      rw [hm'] at hmu
      have hm2 : 1024 < m' := by omega
      clear h h0 hs e hpr hle c1 d1 c2 c3 d2 d3 hm hm'
      generalize X % s = f0 at *
      generalize Y % s = f1 at *
      generalize (X + W - 1) % s = f2 at *
      generalize (Y + H - 1) % s = f3 at *
      generalize X / s = x0 at *
      generalize Y / s = y0 at *
      generalize (X + W - 1) / s = x1 at *
      generalize (Y + H - 1) / s = y1 at *
      go_enter Try.func69, Try.ntmps69
      go_wp2_with (first | (go_at_call 16; refine (CR.out _).mono ?_; rintro e w' ⟨rfl, rfl⟩) | (go_at_call 121; (first | (with_reducible refine Calls.mono (D0.out _) ?_) | (with_reducible refine Calls.mono (D1.out _) ?_) | (with_reducible refine Calls.mono (D2.out _) ?_) | (with_reducible refine Calls.mono (D3.out _) ?_)); rintro e w' ⟨rfl, rfl⟩))
      go_ret2
      exact ⟨rfl, (by repeat (first | exact Below.refl _ _ | refine Below.alloc ?_ (by first | omega | (simp; done) | (simp; omega)) _ | refine Below.setCell ?_ (by first | omega | (simp; done) | (simp; omega)) _ | refine Below.drew ?_))⟩
  · have e : tilsE X Y W H s = checkR X Y W H := by unfold tilsE; rw [if_pos h0]
    rw [e]
    have CR := Lib.hid (fun w => refCheckRegion_any X Y W H w)
    have hb : (checkR X Y W H != 0) = true := by simp [h0]
    clear h e h0
    generalize checkR X Y W H = c at *
    go_enter Try.func69, Try.ntmps69
    go_wp2_with (first | (go_at_call 16; refine (CR.out _).mono ?_; rintro e w' ⟨rfl, rfl⟩))
    go_ret2
    exact ⟨rfl, (by repeat (first | exact Below.refl _ _ | refine Below.alloc ?_ (by first | omega | (simp; done) | (simp; omega)) _ | refine Below.setCell ?_ (by first | omega | (simp; done) | (simp; omega)) _ | refine Below.drew ?_))⟩
end Go.Proofs.Ytihjemookgnafaa

/- Tiles of the reference. -/
namespace Go.Proofs.Ytihjemookgnafaa
open Go.RowKit Fl
set_option linter.unusedVariables false

set_option maxRecDepth 100000 in
set_option maxHeartbeats 4000000 in
theorem refTiles_ok (X Y W H s : Int) (w : World) (h0 : checkR X Y W H = 0) (hs : sidB s = true) (hm : tlN X W s * tlN Y H s ≤ 1024) :
    Calls Try.prog 69 #[reg X Y W H, .int .i64 s] w (TlsPost w (tlN Y H s * tlN X W s) (tlR X Y W H s (tlN X W s))) := by
  obtain ⟨b1, b2, b3, b4, _, b6, b7, b8, b9⟩ := checkR_zero h0
  obtain ⟨s1, s2⟩ := sid_iff.1 hs
  obtain ⟨c1, c2, c3⟩ := tlN_parts (X := X) s1 b1 b2
  obtain ⟨d1, d2, d3⟩ := tlN_parts (X := Y) s1 b3 b4
  obtain ⟨p1, p2, _, _⟩ := sq_bd s1 s2 b6 (show X ≤ 4194304 by omega) (Int.le_refl (X / s)) (by omega)
  obtain ⟨q1, q2, _, _⟩ := sq_bd s1 s2 b8 (show Y ≤ 4194304 by omega) (Int.le_refl (Y / s)) (by omega)
  have CR := Lib.hid (fun w => refCheckRegion_any X Y W H w)
  rw [h0] at CR
  have D0 := Lib.hid (fun w => quotient1_any X s w s1 (by omega) (by omega) (by omega))
  have D1 := Lib.hid (fun w => quotient1_any Y s w s1 (by omega) (by omega) (by omega))
  have D2 := Lib.hid (fun w => quotient1_any (X + W - 1) s w s1 (by omega) (by omega) (by omega))
  have D3 := Lib.hid (fun w => quotient1_any (Y + H - 1) s w s1 (by omega) (by omega) (by omega))
  have CM := Lib.hid (fun (i j : Nat) (hi : i < tlN X W s) (hj : j < tlN Y H s) w => com_ref h0 hs i j hi hj w)
  have SQ := Lib.hid (fun (i j : Nat) (hi : i < tlN X W s) (hj : j < tlN Y H s) => sq_wrap h0 hs i j hi hj)
  have TR := Lib.hid (fun (i j : Nat) (hi : i < tlN X W s) => show tlR X Y W H s (tlN X W s) (j * tlN X W s + i) = ⟨tlX X (X / s + i) s, tlX Y (Y / s + j) s, tlW X W (X / s + i) s, tlW Y H (Y / s + j) s⟩ from by
    unfold tlR
    rw [(flat_parts hi).1, (flat_parts hi).2])
  have hpr : ((X + W - 1) / s - X / s + 1) * ((Y + H - 1) / s - Y / s + 1) = (tlN X W s * tlN Y H s : Nat) := by rw [← c1, ← d1]; simp
  have MU := Lib.hid (show wrap64 (((X + W - 1) / s - X / s + 1) * ((Y + H - 1) / s - Y / s + 1)) = (tlN X W s * tlN Y H s : Nat) from by rw [hpr]; exact IntWalk.wrap64_in _ ⟨by omega, by omega⟩)
  have hinfo : (Try.prog.info? 23).map (fun i => (i.zero, i.size, i.bytes)) = some (some (.agg #[.int .i64 0, .int .i64 0, .int .i64 0, .int .i64 0]), 4, 32) := by kernel_rfl
  obtain ⟨ti, hi, hz0, hz1, hz2⟩ := info_parts hinfo
  have HI := Lib.hid hi
  have z1 : X / s ≤ (X + W - 1) / s := by omega
  have z2 : Y / s ≤ (Y + H - 1) / s := by omega
  have z3 : (X + W - 1) / s ≤ X / s + 511 := by omega
  have z4 : (Y + H - 1) / s ≤ Y / s + 511 := by omega
  have TM := Lib.hid (show tlN X W s * tlN Y H s ≤ 1024 from hm)
  have TC := Lib.hid c1
  have TD := Lib.hid d1
  clear hpr hinfo hi hm h0 hs c1 d1
  generalize tlR X Y W H s (tlN X W s) = T at *
  generalize tlN X W s = c at *
  generalize tlN Y H s = d at *
  generalize X % s = f0 at *
  generalize Y % s = f1 at *
  generalize (X + W - 1) % s = f2 at *
  generalize (Y + H - 1) % s = f3 at *
  generalize hx0 : X / s = x0 at *
  generalize hy0 : Y / s = y0 at *
  generalize hx1 : (X + W - 1) / s = x1 at *
  generalize hy1 : (Y + H - 1) / s = y1 at *
  have hmu := MU.out
  generalize hcd : c * d = m at *
  have CD := Lib.hid hcd
  clear hcd
  obtain ⟨m', hm'⟩ : ∃ m' : Int, (m : Int) = m' := ⟨_, rfl⟩
  rw [hm'] at hmu
  have hm2 : m' ≤ 1024 := by have := TM.out; omega
  clear hx0 hy0 hx1 hy1 MU hm'
  go_enter Try.func69, Try.ntmps69
  go_wp2_with (first | (go_at_call 16; refine (CR.out _).mono ?_; rintro e w' ⟨rfl, rfl⟩) | (go_at_call 121; (first | (with_reducible refine Calls.mono (D0.out _) ?_) | (with_reducible refine Calls.mono (D1.out _) ?_) | (with_reducible refine Calls.mono (D2.out _) ?_) | (with_reducible refine Calls.mono (D3.out _) ?_)); rintro e w' ⟨rfl, rfl⟩))
  have HB0 := Lib.hid (show Below w.heap.size w ((w.alloc (regObj X Y W H)).alloc (regObj X Y W H)) from (by repeat (first | exact Below.refl _ _ | refine Below.alloc ?_ (by first | omega | (simp; done) | (simp; omega)) _ | refine Below.setCell ?_ (by first | omega | (simp; done) | (simp; omega)) _ | refine Below.drew ?_)))
  have ST := Lib.hid (show TlAt w X Y W H (w.heap.size + 1) T (0 * c) (.slice none 0 0) ((w.alloc (regObj X Y W H)).alloc (regObj X Y W H)) from ⟨⟨by simp [rgsL], .inl ⟨rfl, by simp⟩⟩, by (first | (rw [heap_alloc_get, if_pos rfl]; done) | ((simp only [heap_alloc_get, heap_size_alloc, if_true]) <;> ((repeat' split) <;> first | rfl | omega))), HB0.out, by simp⟩)
  clear CR D0 D1 D2 D3 hmu HB0
  generalize (w.alloc (regObj X Y W H)).alloc (regObj X Y W H) = w4 at *
  go_loopw [15, 16] (fun l y wr => ∃ (j : Nat) (ov : Value), j ≤ d ∧ y = .int .i64 (y0 + j) ∧ ov = l ∧ TlAt w X Y W H (w.heap.size + 1) T (j * c) ov wr) (fun _ y _ => (y1 + 1 - intOf y).toNat)
  case atStart => exact ⟨0, _, by omega, by simp, rfl, ST.out⟩
  case round =>
    obtain ⟨j, ov, hj, rfl, rfl, hm⟩ := hrel
    have HM := Lib.hid hm
    clear hm
    by_cases hlt : j < d
    · have hle : y0 + (j : Int) ≤ y1 := by have := TD.out; omega
      go_wp2
      obtain ⟨w2, rfl⟩ : ∃ w2, w2 = wr := ⟨_, rfl⟩
      go_loopw [15, 17] (fun l x wr => InAt w X Y W H T c x0 j l x wr) (fun _ x _ => (x1 + 1 - intOf x).toNat)
      case atStart => exact ⟨0, _, by omega, by simp, rfl, HM.out⟩
      case round =>
        obtain ⟨i, ov, hi1, rfl, rfl, hmi⟩ := hrel
        have HMi := Lib.hid hmi
        have HRg := Lib.hid hmi.reg
        obtain ⟨cB, fB, zB⟩ := blkC hmi.reg
        clear hmi
        by_cases hlt2 : i < c
        · have hle2 : x0 + (i : Int) ≤ x1 := by have := TC.out; omega
          obtain ⟨e1', e2'⟩ := SQ.out i j hlt2 hlt
          have CMI := Lib.hid (CM.out i j hlt2 hlt)
          have TRI := Lib.hid (TR.out i j hlt2)
          generalize tlX X (x0 + (i : Int)) s = t1 at *
          generalize tlX Y (y0 + (j : Int)) s = t2 at *
          generalize tlW X W (x0 + (i : Int)) s = t3 at *
          generalize tlW Y H (y0 + (j : Int)) s = t4 at *
          obtain ⟨p, hp⟩ : ∃ p, (x0 + (i : Int)) * s = p := ⟨_, rfl⟩
          obtain ⟨q, hq⟩ : ∃ q, (y0 + (j : Int)) * s = q := ⟨_, rfl⟩
          rw [hp, hq] at CMI
          have e1 := e1'.trans hp
          have e2 := e2'.trans hq
          clear hp hq e1' e2'
          have z0 := HMi.out.size
          have KB : j * c + i < 1024 := by
            have := Nat.mul_le_mul_right c (show j + 1 ≤ d by omega)
            rw [Nat.succ_mul, Nat.mul_comm d c, CD.out] at this
            have := TM.out
            omega
          have KE := Lib.hid (show j * c + (i + 1) = j * c + i + 1 by omega)
          have hi := HI.out
          generalize j * c + i = k at *
          go_upto_region 20 with (go_at_call 21; refine (CMI.out _).mono ?_; rintro e w5 ⟨rfl, hb5⟩; have HB6 := Lib.hid (hb5.alloc hb5.size (regObj t1 t2 t3 t4)); have HP := Lib.hid (heap_alloc_new w5 (regObj t1 t2 t3 t4)); clear hb5 cB fB zB e1 e2)
          have HW : Hid (w5.alloc (regObj t1 t2 t3 t4) = w5.alloc (regObj t1 t2 t3 t4)) := Lib.hid rfl
          generalize w5.alloc (regObj t1 t2 t3 t4) = wc at *
          generalize w5.heap.size = p5 at *
          clear HW
          have OW5 := Lib.hid (ownsRow_below HMi.out.own HB6.out)
          have z5 := HB6.out.size
          obtain ⟨cB, fB, zB⟩ := blkC HP.out
          go_wp2_with (at_builtin; go_loud (refine wpList_append_lies _ rfl _ _ _ rfl (w.heap.size + 1) 23 ti _ 4 32 Try.underlying84 hi hz0 hz1 hz2 rfl (by omega) ov k (rgsL T k) (by rfl) (OW5.out.alloc _) ⟨wc.heap.size, 0, none⟩ 1 1 [.int .i64 t1, .int .i64 t2, .int .i64 t3, .int .i64 t4] (by rfl) (by rfl) (World.news_of_block (cs := #[.int .i64 t1, .int .i64 t2, .int .i64 t3, .int .i64 t4]) (t := 23) (fr := (0, 0)) (heap_alloc_new wc _)) (by simp [Value.oneCell']) (by omega) (by unfold maxLen; omega) (by omega) (by simp; omega) (wc.heap.size + 1) (by simp) ?_; intro g' cap' w6 hown6 hgrow hat hlt6; have HN6 := Lib.hid (TlAt.push HMi.out HB6.out (by omega) hgrow (by rw [TRI.out]; exact hown6)); clear hown6 hgrow hat hlt6))
          go_roundw
          case rel => exact ⟨i + 1, _, by omega, by go_num, rfl, by rw [KE.out]; exact HN6.out⟩
          case measure => simp [intOf]; omega
        · have hiW : i = c := by omega
          have hge : ¬ x0 + (i : Int) ≤ x1 := by have := TC.out; omega
          have HM3 : Hid (TlAt w X Y W H (w.heap.size + 1) T ((j + 1) * c) ov wr) := by
            have h := HMi.out
            rw [hiW, ← Nat.succ_mul] at h
            exact h
          clear hiW
          go_wp2
          go_roundw
          case rel => exact ⟨j + 1, _, by omega, by go_num, rfl, HM3.out⟩
          case measure => simp [intOf]; omega
    · have hjH : j = d := by omega
      have hge : ¬ y0 + (j : Int) ≤ y1 := by have := TD.out; omega
      have hm := HM.out
      rw [hjH] at hm
      have hn1 : 0 < d * c := Nat.mul_pos d2 c2
      obtain ⟨gb, cap, rfl, _⟩ := hm.own.form hn1
      obtain ⟨hrow, hlo⟩ := hm.cells
      have HB := Lib.hid hm.bel
      have HR := Lib.hid hrow
      have HL := Lib.hid hlo
      clear hm hrow hlo hjH
      go_wp2
      go_ret2
      exact ⟨gb, cap, rfl, by have := HL.out; omega, HR.out, HB.out⟩
end Go.Proofs.Ytihjemookgnafaa

/- slices.Equal of regions; the sum of all tiles; what TilesMatch asks of Tile. -/
namespace Go.Proofs.Ytihjemookgnafaa
open Go.RowKit Fl
set_option linter.unusedVariables false

theorem tl_at {w : World} {b n : Nat} {T : Nat → Rgn} (h : TlRow w b n T) {i : Nat} (hi : i < n) :
    w.cell? ⟨b, i * 4, none⟩ = some (.int .i64 (T i).x) ∧ w.cell? ⟨b, i * 4 + 1, none⟩ = some (.int .i64 (T i).y) ∧ w.cell? ⟨b, i * 4 + 2, none⟩ = some (.int .i64 (T i).w) ∧ w.cell? ⟨b, i * 4 + 3, none⟩ = some (.int .i64 (T i).h) ∧ b < w.heap.size :=
  ⟨h.1 i hi 0 (by omega), h.1 i hi 1 (by omega), h.1 i hi 2 (by omega), h.1 i hi 3 (by omega), h.2⟩

set_option maxHeartbeats 4000000 in
theorem equalRgn_any (b1 b2 n k1 k2 : Nat) (T : Nat → Rgn) (w : World) (hn : n ≤ 1024) (h1 : TlRow w b1 n T) (h2 : TlRow w b2 n T) :
    Calls Try.prog 70 #[.slice (some ⟨b1, 0, none⟩) n k1, .slice (some ⟨b2, 0, none⟩) n k2] w fun e w' => e = .returned (.bool true) ∧ Below w.heap.size w w' := by
  have R1 := Lib.hid h1
  have R2 := Lib.hid h2
  have ni : (n : Int) ≤ 1024 := by omega
  clear h1 h2
  go_enter Try.func70, Try.ntmps70
  go_wp2
  go_loopw [13] (fun s13 wr => ∃ k : Nat, k ≤ n ∧ s13 = .int .i64 k ∧ Below w.heap.size w wr) (fun s13 _ => n - (intOf s13).toNat)
  case atStart => exact ⟨0, Nat.zero_le _, rfl, Below.refl _ _⟩
  case round =>
    obtain ⟨k, hk, rfl, hb⟩ := hrel
    have HB := Lib.hid hb
    clear hb
    by_cases hlt : k < n
    · have HK := Lib.hid hlt
      obtain ⟨c0, c1, c2, c3, z1⟩ := tl_at (R1.out.stay HB.out) hlt
      obtain ⟨d0, d1, d2, d3, z2⟩ := tl_at (R2.out.stay HB.out) hlt
      generalize T k = t at *
      obtain ⟨t1, t2, t3, t4⟩ := t
      simp only at c0 c1 c2 c3 d0 d1 d2 d3
      go_wp2
      go_quiet (fail)
      go_wp2
      go_roundw
      case rel => exact ⟨k + 1, HK.out, by go_num, HB.out.trans ((below_drewN _ _).mono HB.out.size)⟩
      case measure => have := HK.out; simp [intOf]; omega
    · go_wp2
      go_ret
      exact ⟨rfl, HB.out⟩
set_option maxHeartbeats 1000000 in
theorem equalRgn_nil (w : World) : Calls Try.prog 70 #[.slice none 0 0, .slice none 0 0] w fun e w' => e = .returned (.bool true) ∧ Below w.heap.size w w' := by
  go_enter Try.func70, Try.ntmps70
  go_wp2
  go_loopw [13] (fun s13 wr => s13 = .int .i64 0 ∧ Below w.heap.size w wr) (fun s13 _ => 0)
  case atStart => exact ⟨rfl, Below.refl _ _⟩
  case round =>
    obtain ⟨rfl, hb⟩ := hrel
    have HB := Lib.hid hb
    clear hb
    go_wp2
    go_ret
    exact ⟨rfl, HB.out⟩

/-- How many cells a tile has. -/
def tlS (X Y W H s : Int) (c k : Nat) : Int := (tlR X Y W H s c k).w * (tlR X Y W H s c k).h
theorem tlS_parts {X Y W H s : Int} (h : tilsE X Y W H s = 0) :
    (∀ k, k < tlN Y H s * tlN X W s → 1 ≤ (tlR X Y W H s (tlN X W s) k).w ∧ (tlR X Y W H s (tlN X W s) k).w ≤ 256 ∧ 1 ≤ (tlR X Y W H s (tlN X W s) k).h ∧ (tlR X Y W H s (tlN X W s) k).h ≤ 256 ∧ 0 ≤ tlS X Y W H s (tlN X W s) k ∧ tlS X Y W H s (tlN X W s) k ≤ 65536) ∧
    sumF (tlS X Y W H s (tlN X W s)) (tlN Y H s * tlN X W s) = W * H := by
  obtain ⟨h0, hs, hm⟩ := tilsE_parts h
  obtain ⟨b1, b2, b3, b4, _, b6, b7, b8, b9⟩ := checkR_zero h0
  obtain ⟨s1, s2⟩ := sid_iff.1 hs
  obtain ⟨c1, c2, c3⟩ := tlN_parts (X := X) s1 b1 b2
  obtain ⟨d1, d2, d3⟩ := tlN_parts (X := Y) s1 b3 b4
  constructor
  · intro k hk
    have q1 : k % tlN X W s < tlN X W s := Nat.mod_lt _ (by omega)
    have q2 : k / tlN X W s < tlN Y H s := by
      apply Nat.div_lt_of_lt_mul
      rw [Nat.mul_comm]
      exact hk
    unfold tlS tlR
    simp only
    generalize k % tlN X W s = m1 at *
    generalize k / tlN X W s = m2 at *
    obtain ⟨_, _, e1, e2, _⟩ := tl_parts (X := X) (W := W) s1 b1 (i := X / s + m1) (by omega) (by omega)
    obtain ⟨_, _, f1, f2, _⟩ := tl_parts (X := Y) (W := H) s1 b3 (i := Y / s + m2) (by omega) (by omega)
    refine ⟨e1, by omega, f1, by omega, Int.mul_nonneg (by omega) (by omega), ?_⟩
    have := Int.mul_le_mul (show tlW X W (X / s + m1) s ≤ 256 by omega) (show tlW Y H (Y / s + m2) s ≤ 256 by omega) (by omega) (by omega)
    omega
  · have a := sumF_rows (fun i => tlW X W (X / s + i) s) (fun j => tlW Y H (Y / s + j) s) (tlN X W s) (tlN Y H s)
    rw [tl_all (X := X) (W := W) s1 b1 _ c1, tl_all (X := Y) (W := H) s1 b3 _ d1] at a
    exact a

/-- A cell lies in its tile. -/
theorem in_tile {s x y : Int} (h1 : 1 ≤ s) : insideB x y 1 1 (x / s * s) (y / s * s) s s = true := by
  have a1 := Int.lt_ediv_add_one_mul_self x (show 0 < s by omega)
  have a2 := Int.ediv_mul_le x (show s ≠ 0 by omega)
  have b1 := Int.lt_ediv_add_one_mul_self y (show 0 < s by omega)
  have b2 := Int.ediv_mul_le y (show s ≠ 0 by omega)
  rw [Int.add_mul, Int.one_mul] at a1 b1
  exact insideB_iff.2 ⟨by omega, by omega, by omega, by omega⟩
theorem tile_mod {s x : Int} : (x / s * s).tmod s = 0 := Int.mul_tmod_left _ _
end Go.Proofs.Ytihjemookgnafaa
