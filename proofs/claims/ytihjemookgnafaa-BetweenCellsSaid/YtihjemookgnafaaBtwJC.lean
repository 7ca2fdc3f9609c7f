/- Lemmas and contracts for the proof that the last text of this claim holds. -/
import Derived.Test.YtihjemookgnafaaBtwJB

/- Contracts: Hash, Unit, Signed of both sides. -/
namespace Go.Proofs.Ytihjemookgnafaa
open Go.RowKit Fl
set_option linter.unusedVariables false

/-- Exclusive or of two words of 32 bits. -/
def xorU (a b : Int) : Int := bits .xor .u32 a b
theorem xorU_in (a b : Int) : 0 ≤ xorU a b ∧ xorU a b < 4294967296 := by
  unfold xorU bits; simp only [IntKind.wrap_u32]; omega
def stA (h : Int) : Int := xorU h (h / 65536) * 2246822507 % 4294967296
def stB (h : Int) : Int := xorU h (h / 8192) * 3266489909 % 4294967296
def stC (h : Int) : Int := xorU h (h / 65536)
/-- Stirred once. -/
def stirI (h : Int) : Int := stC (stB (stA h))
theorem stirI_in (h : Int) : 0 ≤ stirI h ∧ stirI h < 4294967296 := xorU_in _ _
/-- The state behind one more whole number. -/
def stepI (h n : Int) : Int := stirI (xorU h (n % 4294967296))
theorem stepI_in (h n : Int) : 0 ≤ stepI h n ∧ stepI h n < 4294967296 := stirI_in _
def hashI (s x y n : Int) : Int := stepI (stepI (stepI s x) y) n
theorem hashI_in (s x y n : Int) : 0 ≤ hashI s x y n ∧ hashI s x y n < 4294967296 := stepI_in _ _

set_option maxHeartbeats 400000 in
theorem stir_any (h : Int) (w : World) :
    Calls Try.prog 124 #[.int .u32 h] w fun e w' => e = .returned (.int .u32 (stirI h)) ∧ w = w' := by
  go_enter Try.func124, Try.ntmps124
  go_wp2
  go_ret
  exact ⟨ret_int rfl, rfl⟩

set_option maxHeartbeats 400000 in
theorem hash_any (s x y n : Int) (w : World) :
    Calls Try.prog 51 #[.int .u32 s, .int .i64 x, .int .i64 y, .int .i64 n] w fun e w' => e = .returned (.int .u32 (hashI s x y n)) ∧ w = w' := by
  go_enter Try.func51, Try.ntmps51
  go_wp2_with (go_at_call 124; refine (stir_any _ _).mono ?_; rintro e w' ⟨rfl, rfl⟩)
  go_ret
  exact ⟨ret_int rfl, rfl⟩

set_option maxHeartbeats 400000 in
theorem unit_any (h : Int) (w : World) (h0 : 0 ≤ h) (h1 : h < 4294967296) :
    Calls Try.prog 49 #[.int .u32 h] w fun e w' => e = .returned (.float .f32 (unitW h)) ∧ w = w' := by
  obtain ⟨r, e, _, hr⟩ := unit_parts h0 h1
  have a2 := fun (W : World) => run_float_arith (P := Try.prog) W .mul 37 .f32 _ 864026624 r e
  rw [← hr]
  clear e hr
  go_enter Try.func49, Try.ntmps49
  go_wp2
  go_ret
  exact ⟨rfl, rfl⟩

set_option maxHeartbeats 400000 in
theorem signed_any (h : Int) (w : World) (h0 : 0 ≤ h) (h1 : h < 4294967296) :
    Calls Try.prog 50 #[.int .u32 h] w fun e w' => e = .returned (.float .f32 (sgnW h)) ∧ w = w' := by
  obtain ⟨p, r, e, _, e', _, hr⟩ := sgn_parts h0 h1
  have a2 := fun (W : World) => run_float_arith (P := Try.prog) W .mul 37 .f32 (unitW h) 1073741824 p e
  have a3 := fun (W : World) => run_float_arith (P := Try.prog) W .sub 37 .f32 p 1065353216 r e'
  rw [← hr]
  clear e hr e'
  go_enter Try.func50, Try.ntmps50
  go_wp2_with (go_at_call 49; refine (unit_any _ _ h0 h1).mono ?_; rintro e w' ⟨rfl, rfl⟩)
  go_ret
  exact ⟨rfl, rfl⟩

set_option maxHeartbeats 400000 in
theorem refConv_any (n : Int) (w : World) :
    Calls Try.prog 123 #[.int .i64 n] w fun e w' => e = .returned (.float .f32 (floatOfInt .f32 n)) ∧ w = w' := by
  go_enter Try.func123, Try.ntmps123
  go_wp2
  go_ret
  exact ⟨rfl, rfl⟩

set_option maxHeartbeats 400000 in
theorem refUnit_any (h : Int) (w : World) (h0 : 0 ≤ h) (h1 : h < 4294967296) :
    Calls Try.prog 53 #[.int .u32 h] w fun e w' => e = .returned (.float .f32 (unitW h)) ∧ w = w' := by
  obtain ⟨r, e, S, hr⟩ := unit_parts h0 h1
  have M := Lib.hid fun w => refMul_any 24 _ _ r S e w
  rw [← hr]
  clear e hr S
  go_enter Try.func53, Try.ntmps53
  go_wp2_with (first | (go_at_call 123; refine (refConv_any _ _).mono ?_; rintro e w' ⟨rfl, rfl⟩) | (go_at_call 125; refine (M.out _).mono ?_; rintro e w' ⟨rfl, rfl⟩))
  go_ret
  exact ⟨rfl, rfl⟩

set_option maxHeartbeats 400000 in
theorem refSigned_any (h : Int) (w : World) (h0 : 0 ≤ h) (h1 : h < 4294967296) :
    Calls Try.prog 54 #[.int .u32 h] w fun e w' => e = .returned (.float .f32 (sgnW h)) ∧ w = w' := by
  obtain ⟨p, r, e, S, e', T, hr⟩ := sgn_parts h0 h1
  have M := Lib.hid fun w => refMul_any 2 _ _ p S e w
  have D := Lib.hid fun w => refSub_any 3 _ _ r T e' w
  rw [← hr]
  clear e hr S T e'
  go_enter Try.func54, Try.ntmps54
  go_wp2_with (first | (go_at_call 53; refine (refUnit_any _ _ h0 h1).mono ?_; rintro e w' ⟨rfl, rfl⟩) | (go_at_call 125; refine (M.out _).mono ?_; rintro e w' ⟨rfl, rfl⟩) | (go_at_call 117; refine (D.out _).mono ?_; rintro e w' ⟨rfl, rfl⟩))
  go_ret
  exact ⟨rfl, rfl⟩

/-- The reference's rounds: the place and the state. -/
inductive HashAt (s x y n : Int) : Value → Value → Prop where
  | z : HashAt s x y n (.int .u32 s) (.int .i64 0)
  | a : HashAt s x y n (.int .u32 (stepI s x)) (.int .i64 1)
  | b : HashAt s x y n (.int .u32 (stepI (stepI s x) y)) (.int .i64 2)
  | c : HashAt s x y n (.int .u32 (hashI s x y n)) (.int .i64 3)

set_option maxHeartbeats 1000000 in
theorem refHash_any (s x y n : Int) (w : World) :
    Calls Try.prog 52 #[.int .u32 s, .int .i64 x, .int .i64 y, .int .i64 n] w fun e w' => e = .returned (.int .u32 (hashI s x y n)) ∧ Below w.heap.size w w' := by
  go_enter Try.func52, Try.ntmps52
  go_wp2
  go_loop [9, 18] (fun h i => HashAt s x y n h i) (fun _ i => 3 - (intOf i).toNat)
  case atStart => exact .z
  case round =>
    cases hrel
    case z =>
      go_wp2
      go_round
      case rel => exact .a
      case measure => simp [intOf]
    case a =>
      go_wp2
      go_round
      case rel => exact .b
      case measure => simp [intOf]
    case b =>
      go_wp2
      go_round
      case rel => exact .c
      case measure => simp [intOf]
    case c =>
      go_wp2
      go_ret
      exact ⟨rfl, (by repeat (first | exact Below.refl _ _ | refine Below.alloc ?_ (by first | omega | (simp; done) | (simp; omega)) _ | refine Below.setCell ?_ (by first | omega | (simp; done) | (simp; omega)) _ | refine Below.drew ?_))⟩
end Go.Proofs.Ytihjemookgnafaa

/- Contracts: Same$1, EqualFunc, Same, same. -/
namespace Go.Proofs.Ytihjemookgnafaa
open Go.RowKit Fl
set_option linter.unusedVariables false

theorem enters_Same1 : Enters 87 := by intro args W; simp [callFunc, Try.func87, Try.f87]

set_option maxHeartbeats 400000 in
theorem same1_self (x : Nat) (w : World) :
    Calls Try.prog 87 #[.float .f32 x, .float .f32 x] w fun e w' => e = .returned (.bool true) ∧ w = w' := by
  have h1 := f32bits
  go_enter Try.func87, Try.ntmps87
  go_wp2
  go_ret
  exact ⟨rfl, rfl⟩

set_option maxHeartbeats 1000000 in
theorem equalFunc_row (b b' cap cap' n : Nat) (v : Nat → Nat) (hl : n ≤ 9223372036854775807) (w : World) (hc : FlAt w b 0 n v) (hc' : FlAt w b' 0 n v) :
    Calls Try.prog 86 #[.slice (some ⟨b, 0, none⟩) n cap, .slice (some ⟨b', 0, none⟩) n cap', .func (.func 87) #[] #[]] w fun e w' => e = .returned (.bool true) ∧ w = w' := by
  have hcall := enters_Same1
  unfold Enters at hcall
  go_enter Try.func86, Try.ntmps86
  go_wp2
  go_loop [17] (fun i => ∃ k : Nat, k ≤ n ∧ i = .int .i64 k) (fun i => n - (intOf i).toNat)
  case atStart => exact ⟨0, Nat.zero_le _, rfl⟩
  case round =>
    obtain ⟨k, hk, rfl⟩ := hrel
    by_cases hlt : k < n
    · have hcell := hc k hlt
      have hcell' := hc' k hlt
      rw [Nat.zero_add] at hcell hcell'
      have IH := Lib.hid (fun w => same1_self (v k) w)
      go_wp2_with fail
      refine (IH.out _).mono ?_
      rintro e w' ⟨rfl, rfl⟩
      go_wp2
      go_round
      case rel => exact ⟨k + 1, by omega, by go_num⟩
      case measure => simp [intOf]; omega
    · go_wp2
      go_ret
      exact ⟨rfl, rfl⟩

set_option maxHeartbeats 1000000 in
theorem same_ok (X Y W H : Int) (b b' cap cap' n : Nat) (v : Nat → Nat) (hl : n ≤ 9223372036854775807) (h1 : 1 ≤ n) (w : World) (hc : FlAt w b 0 n v) (hc' : FlAt w b' 0 n v) :
    Calls Try.prog 31 #[fldV X Y W H (.slice (some ⟨b, 0, none⟩) n cap), fldV X Y W H (.slice (some ⟨b', 0, none⟩) n cap')] w fun e w' => e = .returned (.bool true) ∧ Below w.heap.size w w' := by
  have z := World.block_lt_of_cell? w _ (hc 0 h1)
  have z' := World.block_lt_of_cell? w _ (hc' 0 h1)
  have EF := Lib.hid (fun W' (hb : Below w.heap.size w W') => equalFunc_row b b' cap cap' n v hl W' (flAt_congr hc (hb.block _ z)) (flAt_congr hc' (hb.block _ z')))
  clear hc hc'
  go_enter Try.func31, Try.ntmps31
  go_wp2_with (first | (go_at_call 86; refine (EF.out _ (by repeat (first | exact Below.refl _ _ | refine Below.alloc ?_ (by first | omega | (simp; done) | (simp; omega)) _ | refine Below.setCell ?_ (by first | omega | (simp; done) | (simp; omega)) _ | refine Below.drew ?_))).mono ?_; rintro e w' ⟨rfl, rfl⟩))
  go_ret
  exact ⟨rfl, (by repeat (first | exact Below.refl _ _ | refine Below.alloc ?_ (by first | omega | (simp; done) | (simp; omega)) _ | refine Below.setCell ?_ (by first | omega | (simp; done) | (simp; omega)) _ | refine Below.drew ?_))⟩

set_option maxHeartbeats 1000000 in
theorem law_same_ok (X Y W H : Int) (b b' cap cap' n : Nat) (v : Nat → Nat) (hl : n ≤ 9223372036854775807) (h1 : 1 ≤ n) (w : World) (hc : FlAt w b 0 n v) (hc' : FlAt w b' 0 n v) :
    Calls Try.prog 38 #[fldV X Y W H (.slice (some ⟨b, 0, none⟩) n cap), .int .i64 0, fldV X Y W H (.slice (some ⟨b', 0, none⟩) n cap'), .int .i64 0] w fun e w' => e = .returned (.bool true) ∧ Below w.heap.size w w' := by
  have z := World.block_lt_of_cell? w _ (hc 0 h1)
  have z' := World.block_lt_of_cell? w _ (hc' 0 h1)
  have SM := Lib.hid (fun W' (hb : Below w.heap.size w W') => same_ok X Y W H b b' cap cap' n v hl h1 W' (flAt_congr hc (hb.block _ z)) (flAt_congr hc' (hb.block _ z')))
  clear hc hc'
  go_enter Try.func38, Try.ntmps38
  go_wp2_with (first | (go_at_call 31; refine (SM.out _ (by repeat (first | exact Below.refl _ _ | refine Below.alloc ?_ (by first | omega | (simp; done) | (simp; omega)) _ | refine Below.setCell ?_ (by first | omega | (simp; done) | (simp; omega)) _ | refine Below.drew ?_))).mono ?_; rintro e w2 ⟨rfl, hb2⟩))
  go_ret
  exact ⟨rfl, Below.trans (by repeat (first | exact Below.refl _ _ | refine Below.alloc ?_ (by first | omega | (simp; done) | (simp; omega)) _ | refine Below.setCell ?_ (by first | omega | (simp; done) | (simp; omega)) _ | refine Below.drew ?_)) (Below.mono hb2 (by simp; try omega))⟩

set_option maxHeartbeats 1000000 in
theorem law_same_err (e1 : Int) (he : e1 ≠ 0) (w : World) :
    Calls Try.prog 38 #[fldV 0 0 0 0 (.slice none 0 0), .int .i64 e1, fldV 0 0 0 0 (.slice none 0 0), .int .i64 e1] w fun e w' => e = .returned (.bool true) ∧ Below w.heap.size w w' := by
  have hb : (e1 != 0) = true := by simp [he]
  go_enter Try.func38, Try.ntmps38
  go_wp2
  go_ret
  exact ⟨rfl, (by repeat (first | exact Below.refl _ _ | refine Below.alloc ?_ (by first | omega | (simp; done) | (simp; omega)) _ | refine Below.setCell ?_ (by first | omega | (simp; done) | (simp; omega)) _ | refine Below.drew ?_))⟩

end Go.Proofs.Ytihjemookgnafaa

/- Contracts: the laws' bits, one: a single, with its error, told by both sides. -/
namespace Go.Proofs.Ytihjemookgnafaa
open Go.RowKit Fl
set_option linter.unusedVariables false

set_option maxHeartbeats 400000 in
theorem bits_self (x : Nat) (w : World) :
    Calls Try.prog 29 #[.float .f32 x, .float .f32 x] w fun e w' => e = .returned (.bool true) ∧ w = w' := by
  have h1 := f32bits
  go_enter Try.func29, Try.ntmps29
  go_wp2
  go_ret
  exact ⟨rfl, rfl⟩

set_option maxHeartbeats 400000 in
theorem one_ok (x : Nat) (w : World) :
    Calls Try.prog 46 #[.float .f32 x, .int .i64 0, .float .f32 x, .int .i64 0] w fun e w' => e = .returned (.bool true) ∧ w = w' := by
  go_enter Try.func46, Try.ntmps46
  go_wp2_with (go_at_call 29; refine (bits_self _ _).mono ?_; rintro e w' ⟨rfl, rfl⟩)
  go_ret
  exact ⟨rfl, rfl⟩

set_option maxHeartbeats 400000 in
theorem one_err (b : Nat) (k : Int) (hk : k = 2 ∨ k = 3 ∨ k = 4 ∨ k = 5) (w : World) :
    Calls Try.prog 46 #[.float .f32 0, .int .i64 k, .float .f32 b, .int .i64 k] w fun e w' => e = .returned (.bool true) ∧ w = w' := by
  rcases hk with rfl | rfl | rfl | rfl
  all_goals go_enter Try.func46, Try.ntmps46
  all_goals go_wp2_with (go_at_call 29; refine (bits_self _ _).mono ?_; rintro e w' ⟨rfl, rfl⟩)
  all_goals go_ret
  all_goals exact ⟨rfl, rfl⟩

set_option maxHeartbeats 400000 in
theorem one_errX (b : Nat) (k : Int) (hk : k ≠ 0) (w : World) :
    Calls Try.prog 46 #[.float .f32 0, .int .i64 k, .float .f32 b, .int .i64 k] w fun e w' => e = .returned (.bool true) ∧ w = w' := by
  have hb : (k != 0) = true := by simp [hk]
  clear hk
  go_enter Try.func46, Try.ntmps46
  go_wp2_with (go_at_call 29; refine (bits_self _ _).mono ?_; rintro e w' ⟨rfl, rfl⟩)
  go_ret
  exact ⟨rfl, rfl⟩

end Go.Proofs.Ytihjemookgnafaa

/- HashesMatch: Hash, Unit and Signed answer as the references do; units are from 0 to below 1, signed ones from -1. -/
namespace Go.Proofs.Ytihjemookgnafaa
open Go.RowKit Fl
set_option linter.unusedVariables false

theorem unit_cmp {h : Int} (h0 : 0 ≤ h) (h1 : h < 4294967296) : (FloatKind.f32.format.order (unitW h) 0 == some .gt || FloatKind.f32.format.order (unitW h) 0 == some .eq) = true ∧ (FloatKind.f32.format.order (unitW h) 1065353216 == some .lt) = true := by
  obtain ⟨a, v, a0, a1⟩ := unit_in h0 h1
  rw [show FloatKind.f32.format = Ieee.single from rfl]
  exact ⟨by rw [geq_val v vS_zero]; simpa using a0, by rw [lss_val v vS_one]; simpa using a1⟩
theorem sgn_cmp {h : Int} (h0 : 0 ≤ h) (h1 : h < 4294967296) : (FloatKind.f32.format.order (sgnW h) 3212836864 == some .gt || FloatKind.f32.format.order (sgnW h) 3212836864 == some .eq) = true ∧ (FloatKind.f32.format.order (sgnW h) 1065353216 == some .lt) = true := by
  obtain ⟨a, v, a0, a1⟩ := sgn_in h0 h1
  rw [show FloatKind.f32.format = Ieee.single from rfl]
  exact ⟨by rw [geq_val v vS_mone]; simpa using a0, by rw [lss_val v vS_one]; simpa using a1⟩

set_option maxHeartbeats 1000000 in
theorem hashesMatch_any (s x y n h : Int) (w : World) (h0 : 0 ≤ h) (h1 : h < 4294967296) :
    Calls Try.prog 9 #[.int .u32 s, .int .i64 x, .int .i64 y, .int .i64 n, .int .u32 h] w fun e w' => e = .returned (.bool true) ∧ Below w.heap.size w w' := by
  obtain ⟨c1, c2⟩ := unit_cmp h0 h1
  obtain ⟨c3, c4⟩ := sgn_cmp h0 h1
  go_enter Try.func9, Try.ntmps9
  go_wp2_with (first | (go_at_call 14; refine (landed_any _).mono ?_; rintro e w1 ⟨rfl, hb1⟩) | (go_at_call 49; refine (unit_any _ _ h0 h1).mono ?_; rintro e w' ⟨rfl, rfl⟩) | (go_at_call 50; refine (signed_any _ _ h0 h1).mono ?_; rintro e w' ⟨rfl, rfl⟩) | (go_at_call 51; refine (hash_any _ _ _ _ _).mono ?_; rintro e w' ⟨rfl, rfl⟩) | (go_at_call 52; refine (refHash_any _ _ _ _ _).mono ?_; rintro e w2 ⟨rfl, hb2⟩) | (go_at_call 53; refine (refUnit_any _ _ h0 h1).mono ?_; rintro e w' ⟨rfl, rfl⟩) | (go_at_call 54; refine (refSigned_any _ _ h0 h1).mono ?_; rintro e w' ⟨rfl, rfl⟩) | (go_at_call 29; refine (bits_self _ _).mono ?_; rintro e w' ⟨rfl, rfl⟩))
  go_ret
  exact ⟨rfl, Below.trans hb1 (Below.mono hb2 (by have := hb1.size; omega))⟩
end Go.Proofs.Ytihjemookgnafaa

/- Contracts: CheckWithin; Ease of both sides; the reference's operations of any words at all. -/
namespace Go.Proofs.Ytihjemookgnafaa
open Go.RowKit Fl
set_option linter.unusedVariables false

/-- The error of a single that should be from a to b. -/
def wiE (x a b : Nat) : Int := if finB x = false then 2 else if (FloatKind.f32.format.order x a == some .lt) = true ∨ (FloatKind.f32.format.order x b == some .gt) = true then 3 else 0

set_option maxHeartbeats 400000 in
theorem checkWithin_any (x a b : Nat) (w : World) :
    Calls Try.prog 126 #[.float .f32 x, .float .f32 a, .float .f32 b] w fun e w' => e = .returned (.int .i64 (wiE x a b)) ∧ w = w' := by
  have IH := Lib.hid (fun w => isFinite_any x w)
  unfold wiE
  cases hf : finB x with
  | false =>
    rw [hf] at IH
    clear hf
    go_enter Try.func126, Try.ntmps126
    go_wp2_with (go_at_call 110; refine (IH.out _).mono ?_; rintro e w' ⟨rfl, rfl⟩)
    go_ret
    exact ⟨ret_int rfl, rfl⟩
  | true =>
    rw [hf] at IH
    clear hf
    cases h1 : (FloatKind.f32.format.order x a == some .lt) with
    | true =>
      go_enter Try.func126, Try.ntmps126
      go_wp2_with (go_at_call 110; refine (IH.out _).mono ?_; rintro e w' ⟨rfl, rfl⟩)
      go_ret
      exact ⟨ret_int rfl, rfl⟩
    | false =>
      cases h2 : (FloatKind.f32.format.order x b == some .gt) with
      | true =>
        go_enter Try.func126, Try.ntmps126
        go_wp2_with (go_at_call 110; refine (IH.out _).mono ?_; rintro e w' ⟨rfl, rfl⟩)
        go_ret
        exact ⟨ret_int rfl, rfl⟩
      | false =>
        go_enter Try.func126, Try.ntmps126
        go_wp2_with (go_at_call 110; refine (IH.out _).mono ?_; rintro e w' ⟨rfl, rfl⟩)
        go_ret
        exact ⟨ret_int rfl, rfl⟩

set_option maxHeartbeats 400000 in
theorem ease_any (t p q r v : Nat) (E : EaseAt t p q r v) (w : World) :
    Calls Try.prog 127 #[.float .f32 t] w fun e w' => e = .returned (.float .f32 (easeW t)) ∧ w = w' := by
  have a1 := fun (W : World) => run_float_arith (P := Try.prog) W .mul 37 .f32 t t p E.p1
  have a2 := fun (W : World) => run_float_arith (P := Try.prog) W .mul 37 .f32 1073741824 t q E.q1
  have a3 := fun (W : World) => run_float_arith (P := Try.prog) W .sub 37 .f32 1077936128 q r E.r1
  have a4 := fun (W : World) => run_float_arith (P := Try.prog) W .mul 37 .f32 p r v E.v1
  rw [E.w]
  clear E
  go_enter Try.func127, Try.ntmps127
  go_wp2
  go_ret
  exact ⟨rfl, rfl⟩

set_option maxHeartbeats 400000 in
theorem refEase_any (t p q r v : Nat) (E : EaseAt t p q r v) (w : World) :
    Calls Try.prog 56 #[.float .f32 t] w fun e w' => e = .returned (.float .f32 (easeW t)) ∧ w = w' := by
  have A := Lib.hid (fun w => refMul_any 0 t t p E.p2 E.p1 w)
  have B := Lib.hid (fun w => refMul_any 2 1073741824 t q E.q2 E.q1 w)
  have C := Lib.hid (fun w => refSub_any 3 1077936128 q r E.r2 E.r1 w)
  have D := Lib.hid (fun w => refMul_any 3 p r v E.v2 E.v1 w)
  rw [E.w]
  clear E
  go_enter Try.func56, Try.ntmps56
  go_wp2_with (first | (go_at_call 125; with_reducible refine (A.out _).mono ?_; rintro e w' ⟨rfl, rfl⟩) | (go_at_call 125; with_reducible refine (B.out _).mono ?_; rintro e w' ⟨rfl, rfl⟩) | (go_at_call 125; with_reducible refine (D.out _).mono ?_; rintro e w' ⟨rfl, rfl⟩) | (go_at_call 117; refine (C.out _).mono ?_; rintro e w' ⟨rfl, rfl⟩))
  go_ret
  exact ⟨rfl, rfl⟩

theorem choose_loose (q : Question) (k : FloatKind) (w : World) : ∃ r n, ((do pure (Value.float k (← choose q))) : Sem Value).run Try.prog w = .ok (.float k r) (w.drewN n) := by
  by_cases h : q.forced = true
  · exact ⟨0, 0, by simp [h, World.drewN]⟩
  · exact ⟨q.cut (w.tape w.drawn q), 1, by simp [h]; rfl⟩

theorem conv_loose (src dst : TypeId) (s k : FloatKind) (b : Nat) (hs : (Try.prog.underlying src).isSome = true) (hd : Try.prog.underlying dst = some (.float k)) (w : World) :
    ∃ r n, (convert src dst (.float s b)).run Try.prog w = .ok (.float k r) (w.drewN n) := by
  obtain ⟨u, hs'⟩ := Option.isSome_iff_exists.1 hs
  have key : ∃ r n, (Conv.floatToFloat s b k).run Try.prog w = .ok (.float k r) (w.drewN n) := by
    unfold Conv.floatToFloat
    by_cases e : s = k
    · exact ⟨b, 0, by simp [e, World.drewN]⟩
    · rw [if_neg e]
      cases hd : s.decode b with
      | nan g f => exact choose_loose _ k w
      | infinity g => exact ⟨_, 0, rfl⟩
      | number g m i =>
        simp only
        split
        · exact choose_loose _ k w
        · exact ⟨_, 0, rfl⟩
  obtain ⟨r, n, h⟩ := key
  refine ⟨r, n, ?_⟩
  rw [← h]
  cases u <;> simp [convert, run_underlying hs', run_underlying hd]

theorem arith_loose (op : BinOp) (t : TypeId) (k : FloatKind) (x y : Nat) (ho : op = .add ∨ op = .sub ∨ op = .mul) (w : World) :
    ∃ r n, (binOp op t (.float k x) (.float k y)).run Try.prog w = .ok (.float k r) (w.drewN n) := by
  cases h : floatBits op k x y with
  | some r => exact ⟨r, 0, run_float_arith w op t k x y r h⟩
  | none =>
    obtain ⟨r, n, c⟩ := choose_loose (.nanBits k x y) k w
    refine ⟨r, n, ?_⟩
    rw [← c]
    unfold floatBits at h
    rcases ho with rfl | rfl | rfl
    all_goals simp only at h
    all_goals simp [binOp, Op.floatArith, h]

/-- Some single; the world has drawn at most. -/
def LooseF (w : World) (e : Ending) (w' : World) : Prop := ∃ r n, e = .returned (.float .f32 r) ∧ w' = w.drewN n

theorem drewN_two (w : World) (a b : Nat) : (w.drewN a).drewN b = w.drewN (a + b) := by simp [World.drewN, Nat.add_assoc]

set_option maxHeartbeats 400000 in
theorem refMul_loose (x y : Nat) (w : World) : Calls Try.prog 125 #[.float .f32 x, .float .f32 y] w (LooseF w) := by
  obtain ⟨X, n1, c1⟩ := conv_loose 37 95 .f32 .f64 x (by kernel_rfl) Try.underlying95 w
  obtain ⟨Y, n2, c2⟩ := conv_loose 37 95 .f32 .f64 y (by kernel_rfl) Try.underlying95 (w.drewN n1)
  obtain ⟨Z, n3, c3⟩ := arith_loose .mul 95 .f64 X Y (by simp) (w.drewN (n1 + n2))
  obtain ⟨r, n4, c4⟩ := conv_loose 95 37 .f64 .f32 Z (by kernel_rfl) Try.underlying37 (w.drewN (n1 + n2 + n3))
  go_enter Try.func125, Try.ntmps125
  go_wp2
  go_ret
  exact ⟨r, n1 + n2 + n3 + n4, rfl, rfl⟩

set_option maxHeartbeats 400000 in
theorem refSub_loose (x y : Nat) (w : World) : Calls Try.prog 117 #[.float .f32 x, .float .f32 y] w (LooseF w) := by
  obtain ⟨X, n1, c1⟩ := conv_loose 37 95 .f32 .f64 x (by kernel_rfl) Try.underlying95 w
  obtain ⟨Y, n2, c2⟩ := conv_loose 37 95 .f32 .f64 y (by kernel_rfl) Try.underlying95 (w.drewN n1)
  obtain ⟨Z, n3, c3⟩ := arith_loose .sub 95 .f64 X Y (by simp) (w.drewN (n1 + n2))
  obtain ⟨r, n4, c4⟩ := conv_loose 95 37 .f64 .f32 Z (by kernel_rfl) Try.underlying37 (w.drewN (n1 + n2 + n3))
  go_enter Try.func117, Try.ntmps117
  go_wp2
  go_ret
  exact ⟨r, n1 + n2 + n3 + n4, rfl, rfl⟩

set_option maxHeartbeats 400000 in
theorem refEase_loose (t : Nat) (w : World) : Calls Try.prog 56 #[.float .f32 t] w (LooseF w) := by
  go_enter Try.func56, Try.ntmps56
  go_wp2_with (first | (go_at_call 125; refine (refMul_loose _ _ _).mono ?_; rintro e w' ⟨r, n, rfl, rfl⟩) | (go_at_call 117; refine (refSub_loose _ _ _).mono ?_; rintro e w' ⟨r, n, rfl, rfl⟩))
  go_ret
  exact ⟨_, _, rfl, rfl⟩

set_option maxHeartbeats 400000 in
theorem easeX_ok (t p q r v : Nat) (E : EaseAt t p q r v) (h : wiE t 0 1065353216 = 0) (w : World) :
    Calls Try.prog 55 #[.float .f32 t] w fun e w' => e = .returned (.tuple #[.float .f32 (easeW t), .int .i64 0]) ∧ w = w' := by
  have CW := Lib.hid (fun w => checkWithin_any t 0 1065353216 w)
  rw [h] at CW
  have EA := Lib.hid (fun w => ease_any t p q r v E w)
  clear E h
  go_enter Try.func55, Try.ntmps55
  go_wp2_with (first | (go_at_call 126; refine (CW.out _).mono ?_; rintro e w' ⟨rfl, rfl⟩) | (go_at_call 127; refine (EA.out _).mono ?_; rintro e w' ⟨rfl, rfl⟩))
  go_ret2
  exact ⟨rfl, rfl⟩

set_option maxHeartbeats 400000 in
theorem easeX_no (t : Nat) (k : Int) (h : wiE t 0 1065353216 = k) (hk : k = 2 ∨ k = 3) (w : World) :
    Calls Try.prog 55 #[.float .f32 t] w fun e w' => e = .returned (.tuple #[.float .f32 0, .int .i64 k]) ∧ w = w' := by
  have CW := Lib.hid (fun w => checkWithin_any t 0 1065353216 w)
  rw [h] at CW
  clear h
  rcases hk with rfl | rfl
  all_goals go_enter Try.func55, Try.ntmps55
  all_goals go_wp2_with (first | (go_at_call 126; refine (CW.out _).mono ?_; rintro e w' ⟨rfl, rfl⟩))
  all_goals go_ret2
  all_goals exact ⟨rfl, rfl⟩
end Go.Proofs.Ytihjemookgnafaa

/- Dither and Speckle of one cell, as words; what the steps come to. -/
namespace Go.Proofs.Ytihjemookgnafaa
open Go.RowKit Fl
set_option linter.unusedVariables false

theorem div_val {x y k : Nat} {a b : Int} (hx : vS x = some a) (hy : vS y = some b) (hb : b ≠ 0) (hk : k ≤ 120) (h : a.natAbs ≤ b.natAbs * 2 ^ k) : Same2 .quo k x y := by
  obtain ⟨s, m, i, e1, rfl⟩ := vS_some hx
  obtain ⟨t, n, j, e2, rfl⟩ := vS_some hy
  have n1 : (vOf s m i).natAbs = m * 2 ^ (i + 1074).toNat := by unfold vOf; rw [signed_eq, Int.natAbs_mul, Int.natAbs_natCast]; cases s <;> simp
  have n2 : (vOf t n j).natAbs = n * 2 ^ (j + 1074).toNat := by unfold vOf; rw [signed_eq, Int.natAbs_mul, Int.natAbs_natCast]; cases t <;> simp
  refine div_same hk e1 e2 ?_ (by rw [← n1, ← n2]; exact h)
  rcases Nat.eq_zero_or_pos n with z | z
  · exfalso; apply hb; subst z
    have : (vOf t 0 j).natAbs = 0 := by rw [n2]; simp
    omega
  · exact z

theorem vS_lo {j : Nat} (hj : j = 1064) : vS 981467136 = some ((2 ^ j : Nat) : Int) := by
  have h : Ieee.single.read 981467136 = .number false 8388608 (-33) := by decide
  rw [vS_lit (t := 1) (k := 23) (j := j) h (by decide) (by rw [hj]; decide)]; simp
theorem vS_hi {j : Nat} (hj : j = 1084) : vS 1149239296 = some ((2 ^ j : Nat) : Int) := by
  have h : Ieee.single.read 1149239296 = .number false 8388608 (-13) := by decide
  rw [vS_lit (t := 1) (k := 23) (j := j) h (by decide) (by rw [hj]; decide)]; simp

/-- A right step: its value is from 2 ^ -10 to 2 ^ 10. -/
def StepOk (st : Nat) : Prop := ∃ b, vS st = some b ∧ (one : Int) ≤ 1024 * b ∧ b ≤ 1024 * (one : Int)
theorem step_ok {st : Nat} (h : wiE st 981467136 1149239296 = 0) : StepOk st := by
  unfold wiE at h
  by_cases hf : finB st = false
  · rw [if_pos hf] at h; cases h
  · rw [if_neg hf] at h
    split at h
    · cases h
    · rename_i c
      obtain ⟨a, ha⟩ := Option.isSome_iff_exists.1 (show (vS st).isSome = true by simpa [finB, Option.isSome_iff_ne_none] using hf)
      obtain ⟨j, hj⟩ : ∃ j : Nat, j = 1064 := ⟨_, rfl⟩
      have hj' : j + 20 = 1084 := by omega
      rw [show FloatKind.f32.format = Ieee.single from rfl, lss_val ha (vS_lo hj), gtr_val ha (vS_hi hj')] at c
      refine ⟨a, ha, ?_⟩
      have e1 : one = 1024 * 2 ^ j := by rw [one_split (a := 10) (j := j) (by omega)]
      have e2 : 2 ^ (j + 20) = 1048576 * 2 ^ j := by rw [Nat.pow_add, Nat.mul_comm]
      rw [e2] at c
      rw [e1]
      generalize 2 ^ j = U at *
      simp at c
      omega
theorem step_bd {st : Nat} (h : StepOk st) : Bd 11 st := by
  obtain ⟨b, hb, h1, h2⟩ := h
  obtain ⟨J, hJ⟩ : ∃ J : Nat, J = 1074 := ⟨_, rfl⟩
  refine bd_val' (j := 11 + J) hb (by omega) ?_
  have e : 2 ^ (11 + J) = 2048 * one := by rw [one_pow hJ, Nat.pow_add]
  have := one_pos
  rw [e]
  generalize one = O at *
  omega

theorem hgt_val {x : Nat} (h : hgtB x = true) : ∃ a, vS x = some a ∧ a.natAbs ≤ 1048576 * one := by
  obtain ⟨a, ha, hb⟩ := val_bd (hgt_bd h)
  refine ⟨a, ha, ?_⟩
  obtain ⟨J, hJ⟩ : ∃ J : Nat, J = 1074 := ⟨_, rfl⟩
  have e : 2 ^ (1074 + 20) = 1048576 * one := by
    rw [one_pow hJ, show 1074 + 20 = 20 + J by omega, Nat.pow_add]
  rwa [e] at hb

theorem flV_near (a : Int) : flV a ≤ a ∧ a < flV a + (one : Int) := by
  have hp : (0 : Int) < (one : Int) := Int.natCast_pos.2 one_pos
  unfold flV
  have h1 := Int.ediv_mul_le a (Int.ne_of_gt hp)
  have h2 := Int.lt_ediv_add_one_mul_self a hp
  rw [Int.add_mul, Int.one_mul] at h2
  exact ⟨h1, h2⟩

/-- The quotient that Dither makes. -/
def dthQ (v st : Nat) : Nat := (floatBits .quo .f32 v st).getD 0
/-- What Dither makes of a cell, by the word of its hash. -/
def dthW (v st : Nat) (h : Int) : Nat :=
  (floatBits .mul .f32 (if (FloatKind.f32.format.order (unitW h) ((floatBits .sub .f32 (dthQ v st) (flW (dthQ v st))).getD 0) == some .lt) = true then (floatBits .add .f32 (flW (dthQ v st)) 1065353216).getD 0 else flW (dthQ v st)) st).getD 0

structure DthAt (v st : Nat) (h : Int) (q d : Nat) (c : Bool) (j r : Nat) : Prop where
  q1 : floatBits .quo .f32 v st = some q
  q2 : Same2 .quo 30 v st
  fq : ∃ a, vS q = some a
  bq : Bd 30 q
  d1 : floatBits .sub .f32 q (flW q) = some d
  d2 : Same2 .sub 32 q (flW q)
  c1 : (FloatKind.f32.format.order (unitW h) d == some .lt) = c
  j1 : c = true → floatBits .add .f32 (flW q) 1065353216 = some j
  j2 : c = true → Same2 .add 32 (flW q) 1065353216
  j3 : c = false → j = flW q
  r1 : floatBits .mul .f32 j st = some r
  r2 : Same2 .mul 43 j st
  w : dthW v st h = r
  lt : r < 4294967296

theorem fl_bd {q k : Nat} (h : Bd k q) (hk : k ≤ 50) : Bd (k + 1) (flW q) := by
  obtain ⟨a, ha, hb⟩ := val_bd h
  obtain ⟨_, _, _, _, _, _, _, _, _, hv⟩ := floor_parts ha h hk
  refine bd_val hv ?_
  obtain ⟨h1, h2⟩ := flV_near a
  obtain ⟨J, hJ⟩ : ∃ J : Nat, J = 1074 := ⟨_, rfl⟩
  have e : one ≤ 2 ^ (1074 + k) := by rw [one_pow hJ]; exact Nat.pow_le_pow_right (by omega) (by omega)
  rw [show 1074 + (k + 1) = 1074 + k + 1 by omega, Nat.pow_succ]
  generalize 2 ^ (1074 + k) = T at *
  generalize one = O at *
  omega

theorem bd_one (k : Nat) : Bd k 1065353216 := by
  obtain ⟨J, hJ⟩ : ∃ J : Nat, J = 1074 := ⟨_, rfl⟩
  refine bd_val vS_one ?_
  rw [Int.natAbs_natCast, one_pow hJ]; exact Nat.pow_le_pow_right (by omega) (by omega)

theorem dth_parts {v st : Nat} (h : Int) (hv : hgtB v = true) (hs : StepOk st) : ∃ q d c j r, DthAt v st h q d c j r := by
  obtain ⟨a, ha, hab⟩ := hgt_val hv
  have hs' := hs
  obtain ⟨b, hb, hb1, hb2⟩ := hs'
  have op := one_pos
  have q2 : Same2 .quo 30 v st := by
    refine div_val ha hb ?_ (by omega) ?_
    · generalize one = O at *; omega
    · rw [show (2 : Nat) ^ 30 = 1073741824 by decide]; generalize one = O at *; omega
  obtain ⟨_, _, _, q, _, _, _, _, q1, bq⟩ := q2.ex
  obtain ⟨aq, haq, _⟩ := val_bd bq
  have bf := fl_bd bq (by omega)
  have d2 : Same2 .sub 32 q (flW q) := sub_same (k := 31) (by omega) (bd_up bq (by omega)) bf
  obtain ⟨_, _, _, d, _, _, _, _, d1, _⟩ := d2.ex
  have j2 : Same2 .add 32 (flW q) 1065353216 := add_same (k := 31) (by omega) bf (bd_one 31)
  obtain ⟨_, _, _, j, _, _, _, _, j1, bj⟩ := j2.ex
  have eq : dthQ v st = q := by unfold dthQ; rw [q1]; rfl
  cases hc : (FloatKind.f32.format.order (unitW h) d == some .lt) with
  | true =>
    have r2 : Same2 .mul (32 + 11) j st := mul_same (by omega) bj (step_bd hs)
    obtain ⟨_, _, _, r, _, _, _, _, r1, _⟩ := r2.ex
    refine ⟨q, d, true, j, r, q1, q2, ⟨aq, haq⟩, bq, d1, d2, hc, fun _ => j1, fun _ => j2, (fun h => by cases h), r1, r2, ?_, opt_lt (d := (Ieee.single.read j).product (Ieee.single.read st)) r1⟩
    unfold dthW
    rw [eq, d1]
    show (floatBits .mul .f32 (if (FloatKind.f32.format.order (unitW h) d == some .lt) = true then (floatBits .add .f32 (flW q) 1065353216).getD 0 else flW q) st).getD 0 = r
    rw [if_pos hc, j1]
    show (floatBits .mul .f32 j st).getD 0 = r
    rw [r1]; rfl
  | false =>
    have r2 : Same2 .mul (32 + 11) (flW q) st := mul_same (by omega) (bd_up bf (by omega)) (step_bd hs)
    obtain ⟨_, _, _, r, _, _, _, _, r1, _⟩ := r2.ex
    refine ⟨q, d, false, flW q, r, q1, q2, ⟨aq, haq⟩, bq, d1, d2, hc, (fun h => by cases h), (fun h => by cases h), fun _ => rfl, r1, r2, ?_, opt_lt (d := (Ieee.single.read (flW q)).product (Ieee.single.read st)) r1⟩
    unfold dthW
    rw [eq, d1]
    show (floatBits .mul .f32 (if (FloatKind.f32.format.order (unitW h) d == some .lt) = true then (floatBits .add .f32 (flW q) 1065353216).getD 0 else flW q) st).getD 0 = r
    rw [if_neg (by rw [hc]; simp), r1]; rfl

/-- What Speckle makes of a cell. -/
def spkW (st : Nat) (h : Int) : Nat := if (FloatKind.f32.format.order (unitW h) st == some .lt) = true then 1065353216 else 0

/-- The place of a cell by its number. -/
theorem place_of {X Y x y : Int} {W i : Nat} (hW : 1 ≤ W) (h1 : X ≤ x) (h2 : x < X + W) (h3 : Y ≤ y) (hi : (i : Int) = (y - Y) * W + (x - X)) : X + ((i % W : Nat) : Int) = x ∧ Y + ((i / W : Nat) : Int) = y := by
  obtain ⟨a, ha⟩ := Int.eq_ofNat_of_zero_le (show 0 ≤ x - X by omega)
  obtain ⟨b, hb⟩ := Int.eq_ofNat_of_zero_le (show 0 ≤ y - Y by omega)
  rw [ha, hb, ← Int.natCast_mul, ← Int.natCast_add] at hi
  have hi' : i = b * W + a := Int.ofNat.inj hi
  have ha' : a < W := by omega
  have e1 : i % W = a := by rw [hi', Nat.mul_comm, Nat.mul_add_mod, Nat.mod_eq_of_lt ha']
  have e2 : i / W = b := by rw [hi', Nat.mul_comm, Nat.mul_add_div (by omega), Nat.div_eq_of_lt ha']; rfl
  rw [e1, e2]; omega

set_option maxHeartbeats 400000 in
theorem refDiv_any (k x y r : Nat) (h : Same2 .quo k x y) (hr : floatBits .quo .f32 x y = some r) (w : World) :
    Calls Try.prog 122 #[.float .f32 x, .float .f32 y] w fun e w' => e = .returned (.float .f32 r) ∧ w = w' := by
  obtain ⟨X, Y, Z, r', h1, h2, h3, h4, h5, _⟩ := h.ex
  rw [hr] at h5
  have h5 := Option.some.inj h5
  subst h5
  have c1 := fun (W : World) => run_convert_float_float (P := Try.prog) W 37 95 .f32 .f64 x X (by kernel_rfl) Try.underlying95 h1
  have c2 := fun (W : World) => run_convert_float_float (P := Try.prog) W 37 95 .f32 .f64 y Y (by kernel_rfl) Try.underlying95 h2
  have c3 := fun (W : World) => run_float_arith (P := Try.prog) W .quo 95 .f64 X Y Z h3
  have c4 := fun (W : World) => run_convert_float_float (P := Try.prog) W 95 37 .f64 .f32 Z r (by kernel_rfl) Try.underlying37 h4
  clear h1 h2 h3 h4 hr h
  go_enter Try.func122, Try.ntmps122
  go_wp2
  go_ret
  exact ⟨rfl, rfl⟩

end Go.Proofs.Ytihjemookgnafaa

/- The closures of Dither, on both sides. -/
namespace Go.Proofs.Ytihjemookgnafaa
open Go.RowKit Fl
set_option linter.unusedVariables false

theorem enters_Dither1 : Enters 129 := by intro args W; simp [callFunc, Try.func129, Try.f129]
theorem enters_rDither1 : Enters 130 := by intro args W; simp [callFunc, Try.func130, Try.f130]

/-- A word of 32 bits in a box. -/
abbrev u32Obj (s : Int) : Obj := .cells #[.int .u32 s] 62

/-- What Dither makes of the cell number i. -/
def dthF (v : Nat → Nat) (st : Nat) (sd X Y : Int) (W : Nat) (i : Nat) : Nat := dthW (v i) st (hashI sd (X + ((i % W : Nat) : Int)) (Y + ((i / W : Nat) : Int)) 8)

/-- What the closures hold: the field, the seed, the step. -/
structure DCaps (w : World) (X Y : Int) (W H n b cap : Nat) (v : Nat → Nat) (p st : Nat) (sd : Int) : Prop where
  fld : w.heap[p]? = some (fldO X Y W H (.slice (some ⟨b, 0, none⟩) n cap))
  sed : w.heap[p + 1]? = some (u32Obj sd)
  stp : w.heap[p + 1 + 1]? = some (flObj st)
  row : FlAt w b 0 n v
theorem DCaps.stay {w w' : World} {X Y : Int} {W H n b cap : Nat} {v : Nat → Nat} {p st : Nat} {sd : Int} (h : DCaps w X Y W H n b cap v p st sd) (hn : 1 ≤ n) (hb : Below w.heap.size w w') : DCaps w' X Y W H n b cap v p st sd :=
  ⟨blkStay h.fld hb, blkStay h.sed hb, blkStay h.stp hb, flAt_congr h.row (hb.block _ (World.block_lt_of_cell? w _ (h.row 0 hn)))⟩

set_option maxHeartbeats 4000000 in
set_option maxRecDepth 100000 in
theorem dither1_any (X Y : Int) (W H n b cap : Nat) (v : Nat → Nat) (p st : Nat) (sd : Int) (w : World) (hk : DCaps w X Y W H n b cap v p st sd) (hn : n ≤ 65536) (hv : allB n (fun i => hgtB (v i)) = true) (hs : StepOk st)
    (hX1 : -16777216 ≤ X) (hX2 : X ≤ 16777216) (hY1 : -16777216 ≤ Y) (hY2 : Y ≤ 16777216) (hW1 : 1 ≤ W) (hW2 : W ≤ 512) (hH2 : H ≤ 512) (hnn : n = H * W) :
    Clos2 129 #[.pointer (some ⟨p, 0, none⟩), .pointer (some ⟨p + 1 + 1, 0, none⟩), .pointer (some ⟨p + 1, 0, none⟩)] X Y W H (dthF v st sd X Y W) w := by
  intro x y i w2 h1 h2 h3 h4 h5 hb
  have hi : i < n := num_lt hW1 h1 h2 h4 h5 hnn
  have K := hk.stay (by omega) hb
  obtain ⟨ex, ey⟩ := place_of hW1 h1 h2 h3 h5
  unfold dthF
  rw [ex, ey]
  obtain ⟨q, d, c, j, r, D⟩ := dth_parts (hashI sd x y 8) (allB_iff.1 hv i hi) hs
  rw [D.w]
  obtain ⟨aq, haq⟩ := D.fq
  have FL := Lib.hid (fun w => floor_any q 30 aq haq D.bq (by omega) w)
  have IX := Lib.hid (fun w => index_any X Y W H i x y w hX1 hX2 hY1 hY2 hW1 hW2 hH2 h1 h2 h3 h4 h5 (by omega))
  have UN := Lib.hid (fun w => unit_any (hashI sd x y 8) w (hashI_in _ _ _ _).1 (hashI_in _ _ _ _).2)
  have a1 := fun (W : World) => run_float_arith (P := Try.prog) W .quo 37 .f32 (v i) st q D.q1
  have a2 := fun (W : World) => run_float_arith (P := Try.prog) W .sub 37 .f32 q (flW q) d D.d1
  have a4 := fun (W : World) => run_float_arith (P := Try.prog) W .mul 37 .f32 j st r D.r1
  have hcell := K.row i hi
  rw [Nat.zero_add] at hcell
  have zb : b < w2.heap.size := World.block_lt_of_cell? w2 _ hcell
  have HC := Lib.hid hcell
  have GF := Lib.hid K.fld
  have GS := Lib.hid K.stp
  have GH := Lib.hid K.sed
  obtain ⟨cF, fF, zF⟩ := blkC K.fld
  obtain ⟨cS, fS, zS⟩ := blkC K.stp
  obtain ⟨cH, fH, zH⟩ := blkC K.sed
  have hi2 : (i : Int) < (n : Int) := by omega
  have hi3 : (0 : Int) ≤ (i : Int) := by omega
  have c1 := D.c1
  have DJ := Lib.hid (And.intro D.j1 D.j3)
  clear D haq hk hb h1 h2 h3 h4 h5 hX1 hX2 hY1 hY2 hW1 hW2 hH2 hnn hv hs K ex ey hi hn
  go_enter Try.func129, Try.ntmps129
  go_wp2
  go_region_held3 (fun w' => (∀ o, w'.cell? ⟨p, o, none⟩ = #[.int .i64 X, .int .i64 Y, .int .i64 W, .int .i64 H, .slice (some ⟨b, 0, none⟩) n cap][o]?) ∧ (∀ o, w'.cell? ⟨p + 1 + 1, o, none⟩ = #[.float .f32 st][o]?) ∧ (∀ o, w'.cell? ⟨p + 1, o, none⟩ = #[.int .u32 sd][o]?) ∧ w'.cell? ⟨b, i, none⟩ = some (.float .f32 (v i)) ∧ Below w2.heap.size w2 w') (first | exact ⟨(blkC (blkStay GF.out (by repeat (first | exact Below.refl _ _ | refine Below.alloc ?_ (by first | omega | (simp; done) | (simp; omega)) _ | refine Below.setCell ?_ (by first | omega | (simp; done) | (simp; omega)) _ | refine Below.drew ?_)))).1, (blkC (blkStay GS.out (by repeat (first | exact Below.refl _ _ | refine Below.alloc ?_ (by first | omega | (simp; done) | (simp; omega)) _ | refine Below.setCell ?_ (by first | omega | (simp; done) | (simp; omega)) _ | refine Below.drew ?_)))).1, (blkC (blkStay GH.out (by repeat (first | exact Below.refl _ _ | refine Below.alloc ?_ (by first | omega | (simp; done) | (simp; omega)) _ | refine Below.setCell ?_ (by first | omega | (simp; done) | (simp; omega)) _ | refine Below.drew ?_)))).1, (Below.cell (p := ⟨b, i, none⟩) (w := w2) (B := w2.heap.size) (by repeat (first | exact Below.refl _ _ | refine Below.alloc ?_ (by first | omega | (simp; done) | (simp; omega)) _ | refine Below.setCell ?_ (by first | omega | (simp; done) | (simp; omega)) _ | refine Below.drew ?_)) zb).trans HC.out, (by repeat (first | exact Below.refl _ _ | refine Below.alloc ?_ (by first | omega | (simp; done) | (simp; omega)) _ | refine Below.setCell ?_ (by first | omega | (simp; done) | (simp; omega)) _ | refine Below.drew ?_))⟩) (first | (go_at_call 85; (with_reducible refine Calls.mono (IX.out _) ?_); rintro e w' ⟨rfl, rfl⟩))
  rename_i hHeld
  obtain ⟨k1, k2, k3, k4, k5⟩ := hHeld
  clear cF cS cH fF fS fH hcell
  cases c with
  | true =>
    have a3 := fun (W : World) => run_float_arith (P := Try.prog) W .add 37 .f32 (flW q) 1065353216 j (DJ.out.1 rfl)
    go_wp2_with (first | (go_at_call 112; refine (FL.out _).mono ?_; rintro e w' ⟨rfl, rfl⟩) | (go_at_call 51; refine (hash_any _ _ _ _ _).mono ?_; rintro e w' ⟨rfl, rfl⟩) | (go_at_call 49; refine (UN.out _).mono ?_; rintro e w' ⟨rfl, rfl⟩))
    go_ret
    exact ⟨rfl, k5⟩
  | false =>
    have ej := DJ.out.2 rfl
    subst ej
    go_wp2_with (first | (go_at_call 112; refine (FL.out _).mono ?_; rintro e w' ⟨rfl, rfl⟩) | (go_at_call 51; refine (hash_any _ _ _ _ _).mono ?_; rintro e w' ⟨rfl, rfl⟩) | (go_at_call 49; refine (UN.out _).mono ?_; rintro e w' ⟨rfl, rfl⟩))
    go_ret
    exact ⟨rfl, k5⟩
end Go.Proofs.Ytihjemookgnafaa

/- The reference's closure of Dither; the closures of Speckle. -/
namespace Go.Proofs.Ytihjemookgnafaa
open Go.RowKit Fl
set_option linter.unusedVariables false

theorem enters_Speckle1 : Enters 132 := by intro args W; simp [callFunc, Try.func132, Try.f132]
theorem enters_rSpeckle1 : Enters 134 := by intro args W; simp [callFunc, Try.func134, Try.f134]

set_option maxHeartbeats 4000000 in
set_option maxRecDepth 100000 in
theorem rdither1_any (X Y : Int) (W H n b cap : Nat) (v : Nat → Nat) (p st : Nat) (sd : Int) (w : World) (hk : DCaps w X Y W H n b cap v p st sd) (hn : n ≤ 65536) (hv : allB n (fun i => hgtB (v i)) = true) (hs : StepOk st)
    (hX1 : -16777216 ≤ X) (hX2 : X ≤ 16777216) (hY1 : -16777216 ≤ Y) (hY2 : Y ≤ 16777216) (hW1 : 1 ≤ W) (hW2 : W ≤ 512) (hH2 : H ≤ 512) (hnn : n = H * W) :
    Clos2 130 #[.pointer (some ⟨p, 0, none⟩), .pointer (some ⟨p + 1 + 1, 0, none⟩), .pointer (some ⟨p + 1, 0, none⟩)] X Y W H (dthF v st sd X Y W) w := by
  intro x y i w2 h1 h2 h3 h4 h5 hb
  have hi : i < n := num_lt hW1 h1 h2 h4 h5 hnn
  have K := hk.stay (by omega) hb
  obtain ⟨ex, ey⟩ := place_of hW1 h1 h2 h3 h5
  unfold dthF
  rw [ex, ey]
  obtain ⟨q, d, c, j, r, D⟩ := dth_parts (hashI sd x y 8) (allB_iff.1 hv i hi) hs
  rw [D.w]
  obtain ⟨aq, haq⟩ := D.fq
  have FL := Lib.hid (fun w => refFloor_any q 30 aq haq D.bq (by omega) w)
  have z1 := (World.block_lt_of_cell? w2 _ (K.row i hi))
  have AT := Lib.hid (fun W' (hb : Below w2.heap.size w2 W') => refAt_any X Y W H n b cap i v x y W' hX1 hX2 hY1 hY2 hW1 hW2 hH2 h1 h2 h3 h4 h5 hi hn (flAt_congr K.row (hb.block _ z1)))
  have DV := Lib.hid (fun w => refDiv_any 30 (v i) st q D.q2 D.q1 w)
  have SB := Lib.hid (fun w => refSub_any 32 q (flW q) d D.d2 D.d1 w)
  have ML := Lib.hid (fun w => refMul_any 43 j st r D.r2 D.r1 w)
  have UN := Lib.hid (fun w => refUnit_any (hashI sd x y 8) w (hashI_in _ _ _ _).1 (hashI_in _ _ _ _).2)
  have GF := Lib.hid K.fld
  have GS := Lib.hid K.stp
  have GH := Lib.hid K.sed
  obtain ⟨cF, fF, zF⟩ := blkC K.fld
  obtain ⟨cS, fS, zS⟩ := blkC K.stp
  obtain ⟨cH, fH, zH⟩ := blkC K.sed
  have c1 := D.c1
  have DJ := Lib.hid (And.intro D.j1 (And.intro D.j2 D.j3))
  clear D haq hk hb h1 h2 h3 h4 h5 hX1 hX2 hY1 hY2 hW1 hW2 hH2 hnn hv hs K ex ey hi hn z1
  go_enter Try.func130, Try.ntmps130
  go_wp2
  go_region_held3 (fun w' => (∀ o, w'.cell? ⟨p, o, none⟩ = #[.int .i64 X, .int .i64 Y, .int .i64 W, .int .i64 H, .slice (some ⟨b, 0, none⟩) n cap][o]?) ∧ (∀ o, w'.cell? ⟨p + 1 + 1, o, none⟩ = #[.float .f32 st][o]?) ∧ (∀ o, w'.cell? ⟨p + 1, o, none⟩ = #[.int .u32 sd][o]?) ∧ Below w2.heap.size w2 w') (first | exact ⟨(blkC (blkStay GF.out (by repeat (first | exact Below.refl _ _ | refine Below.alloc ?_ (by first | omega | (simp; done) | (simp; omega)) _ | refine Below.setCell ?_ (by first | omega | (simp; done) | (simp; omega)) _ | refine Below.drew ?_)))).1, (blkC (blkStay GS.out (by repeat (first | exact Below.refl _ _ | refine Below.alloc ?_ (by first | omega | (simp; done) | (simp; omega)) _ | refine Below.setCell ?_ (by first | omega | (simp; done) | (simp; omega)) _ | refine Below.drew ?_)))).1, (blkC (blkStay GH.out (by repeat (first | exact Below.refl _ _ | refine Below.alloc ?_ (by first | omega | (simp; done) | (simp; omega)) _ | refine Below.setCell ?_ (by first | omega | (simp; done) | (simp; omega)) _ | refine Below.drew ?_)))).1, (by repeat (first | exact Below.refl _ _ | refine Below.alloc ?_ (by first | omega | (simp; done) | (simp; omega)) _ | refine Below.setCell ?_ (by first | omega | (simp; done) | (simp; omega)) _ | refine Below.drew ?_))⟩) (first | (go_at_call 90; (with_reducible refine Calls.mono (AT.out _ ?_) ?_); exact (by repeat (first | exact Below.refl _ _ | refine Below.alloc ?_ (by first | omega | (simp; done) | (simp; omega)) _ | refine Below.setCell ?_ (by first | omega | (simp; done) | (simp; omega)) _ | refine Below.drew ?_)); rintro e w' ⟨rfl, rfl⟩) | (go_at_call 122; refine (DV.out _).mono ?_; rintro e w' ⟨rfl, rfl⟩))
  rename_i wh hHeld
  obtain ⟨k1, k2, k3, k5⟩ := hHeld
  have K5 := Lib.hid k5
  clear cF cS cH fF fS fH k1 k2 k5
  cases c with
  | true =>
    have AD := Lib.hid (fun w => refAdd_any 32 (flW q) 1065353216 j (DJ.out.2.1 rfl) (DJ.out.1 rfl) w)
    go_wp2_with (first | (go_at_call 115; refine (FL.out _).mono ?_; rintro e w' ⟨rfl, rfl⟩) | (go_at_call 52; refine (refHash_any _ _ _ _ _).mono ?_; rintro e w5 ⟨rfl, hb5⟩; have B5 := Lib.hid (K5.out.trans (hb5.mono K5.out.size)); obtain ⟨cS5, fS5, zS5⟩ := blkC (blkStay GS.out B5.out); clear hb5) | (go_at_call 53; refine (UN.out _).mono ?_; rintro e w' ⟨rfl, rfl⟩) | (go_at_call 117; refine (SB.out _).mono ?_; rintro e w' ⟨rfl, rfl⟩) | (go_at_call 131; refine (AD.out _).mono ?_; rintro e w' ⟨rfl, rfl⟩) | (go_at_call 125; refine (ML.out _).mono ?_; rintro e w' ⟨rfl, rfl⟩))
    go_ret
    exact ⟨rfl, B5.out⟩
  | false =>
    have ej := DJ.out.2.2 rfl
    subst ej
    go_wp2_with (first | (go_at_call 115; refine (FL.out _).mono ?_; rintro e w' ⟨rfl, rfl⟩) | (go_at_call 52; refine (refHash_any _ _ _ _ _).mono ?_; rintro e w5 ⟨rfl, hb5⟩; have B5 := Lib.hid (K5.out.trans (hb5.mono K5.out.size)); obtain ⟨cS5, fS5, zS5⟩ := blkC (blkStay GS.out B5.out); clear hb5) | (go_at_call 53; refine (UN.out _).mono ?_; rintro e w' ⟨rfl, rfl⟩) | (go_at_call 117; refine (SB.out _).mono ?_; rintro e w' ⟨rfl, rfl⟩) | (go_at_call 125; refine (ML.out _).mono ?_; rintro e w' ⟨rfl, rfl⟩))
    go_ret
    exact ⟨rfl, B5.out⟩

/-- What Speckle makes of the cell number i. -/
def spkF (st : Nat) (sd X Y : Int) (W : Nat) (i : Nat) : Nat := spkW st (hashI sd (X + ((i % W : Nat) : Int)) (Y + ((i / W : Nat) : Int)) 9)

/-- What Speckle's closures hold: the seed, the share. -/
structure SCaps (w : World) (p st : Nat) (sd : Int) : Prop where
  sed : w.heap[p]? = some (u32Obj sd)
  stp : w.heap[p + 1]? = some (flObj st)
theorem SCaps.stay {w w' : World} {p st : Nat} {sd : Int} (h : SCaps w p st sd) (hb : Below w.heap.size w w') : SCaps w' p st sd := ⟨blkStay h.sed hb, blkStay h.stp hb⟩

set_option maxHeartbeats 4000000 in
theorem speckle1_any (X Y : Int) (W H n : Nat) (p st : Nat) (sd : Int) (w : World) (hk : SCaps w p st sd) (hW1 : 1 ≤ W) (hnn : n = H * W) :
    Clos2 132 #[.pointer (some ⟨p, 0, none⟩), .pointer (some ⟨p + 1, 0, none⟩)] X Y W H (spkF st sd X Y W) w := by
  intro x y i w2 h1 h2 h3 h4 h5 hb
  have K := hk.stay hb
  obtain ⟨ex, ey⟩ := place_of hW1 h1 h2 h3 h5
  unfold spkF
  rw [ex, ey]
  unfold spkW
  have UN := Lib.hid (fun w => unit_any (hashI sd x y 9) w (hashI_in _ _ _ _).1 (hashI_in _ _ _ _).2)
  obtain ⟨cS, fS, zS⟩ := blkC K.stp
  obtain ⟨cH, fH, zH⟩ := blkC K.sed
  clear hk hb h1 h2 h3 h4 h5 hW1 hnn K ex ey
  generalize hh : hashI sd x y 9 = hw at *
  have HH := Lib.hid hh
  clear hh
  cases hc : (FloatKind.f32.format.order (unitW hw) st == some .lt)
  all_goals
    go_enter Try.func132, Try.ntmps132
    go_wp2
    go_quiet (first | (go_at_call 51; exact Calls.quiet_of_same ((hash_any _ _ _ _ _).mono fun _ _ h => ⟨h.1.trans (by rw [HH.out]), h.2.symm⟩)) | (go_at_call 49; exact Calls.quiet_of_same ((UN.out _).mono fun _ _ h => ⟨h.1, h.2.symm⟩)))
    go_wp2
    go_ret
    exact ⟨rfl, below_drewN _ _⟩

set_option maxHeartbeats 4000000 in
theorem rspeckle1_any (X Y : Int) (W H n : Nat) (p st : Nat) (sd : Int) (w : World) (hk : SCaps w p st sd) (hW1 : 1 ≤ W) (hnn : n = H * W) :
    Clos2 134 #[.pointer (some ⟨p, 0, none⟩), .pointer (some ⟨p + 1, 0, none⟩)] X Y W H (spkF st sd X Y W) w := by
  intro x y i w2 h1 h2 h3 h4 h5 hb
  have K := hk.stay hb
  obtain ⟨ex, ey⟩ := place_of hW1 h1 h2 h3 h5
  unfold spkF
  rw [ex, ey]
  unfold spkW
  have UN := Lib.hid (fun w => refUnit_any (hashI sd x y 9) w (hashI_in _ _ _ _).1 (hashI_in _ _ _ _).2)
  have RH := Lib.hid (fun w => refHash_any sd x y 9 w)
  have GS := Lib.hid K.stp
  have GH := Lib.hid K.sed
  obtain ⟨cS, fS, zS⟩ := blkC K.stp
  obtain ⟨cH, fH, zH⟩ := blkC K.sed
  clear hk hb h1 h2 h3 h4 h5 hW1 hnn K ex ey
  generalize hashI sd x y 9 = hw at *
  cases hc : (FloatKind.f32.format.order (unitW hw) st == some .lt)
  all_goals
    go_enter Try.func134, Try.ntmps134
    go_wp2
    go_region_held3 (fun w' => (∀ o, w'.cell? ⟨p + 1, o, none⟩ = #[.float .f32 st][o]?) ∧ (∀ o, w'.cell? ⟨p, o, none⟩ = #[.int .u32 sd][o]?) ∧ Below w2.heap.size w2 w') (first | exact ⟨(blkC (blkStay GS.out hb9)).1, (blkC (blkStay GH.out hb9)).1, hb9⟩ | exact ⟨(blkC (blkStay GS.out (by repeat (first | exact Below.refl _ _ | refine Below.alloc ?_ (by first | omega | (simp; done) | (simp; omega)) _ | refine Below.setCell ?_ (by first | omega | (simp; done) | (simp; omega)) _ | refine Below.drew ?_)))).1, (blkC (blkStay GH.out (by repeat (first | exact Below.refl _ _ | refine Below.alloc ?_ (by first | omega | (simp; done) | (simp; omega)) _ | refine Below.setCell ?_ (by first | omega | (simp; done) | (simp; omega)) _ | refine Below.drew ?_)))).1, (by repeat (first | exact Below.refl _ _ | refine Below.alloc ?_ (by first | omega | (simp; done) | (simp; omega)) _ | refine Below.setCell ?_ (by first | omega | (simp; done) | (simp; omega)) _ | refine Below.drew ?_))⟩) (first | (go_at_call 52; (with_reducible refine Calls.mono (RH.out _) ?_); rintro e w' ⟨rfl, hb8⟩; have hb9 : Below w2.heap.size w2 w' := ⟨hb8.os, hb8.tape, hb8.output, hb8.size, hb8.block⟩; clear hb8) | (go_at_call 53; refine (UN.out _).mono ?_; rintro e w' ⟨rfl, rfl⟩))
    rename_i wh hHeld
    go_wp2
    go_ret
    exact ⟨rfl, hHeld.2.2⟩
end Go.Proofs.Ytihjemookgnafaa

/- Scale and Clamp, on both sides, of a right field. -/
namespace Go.Proofs.Ytihjemookgnafaa
open Go.RowKit Fl
set_option linter.unusedVariables false

set_option maxHeartbeats 2000000 in
theorem scale_any (X Y : Int) (W H n b cap : Nat) (v : Nat → Nat) (m c : Nat) (w : World) (h0 : checkR X Y W H = 0) (hn : n = W * H) (hc : FlAt w b 0 n v) (hh : allB n (fun i => hgtB (v i)) = true) :
    Calls Try.prog 36 #[fldV X Y W H (.slice (some ⟨b, 0, none⟩) n cap), .float .f32 m, .float .f32 c] w (ScPost w X Y W H n (sclW v m c) (fldE 2 (two m c))) := by
  obtain ⟨b1, b2, b3, b4, b5, _⟩ := checkR_zero h0
  have en : ((W : Int) * (H : Int)) = (n : Int) := by rw [hn]; simp
  have hn2 : n ≤ 65536 := by omega
  have h1 : 1 ≤ n := by
    have := Nat.mul_pos (by omega : 0 < W) (by omega : 0 < H)
    omega
  have hlt : b < w.heap.size := World.block_lt_of_cell? w _ (hc 0 h1)
  have CK := Lib.hid (fun W' (hb : Below w.heap.size w W') => check_ok X Y W H n b cap v W' h0 hn (flAt_congr hc (hb.block _ hlt)) hh)
  have CS := Lib.hid (fun bb W' (hb : W'.heap[bb]? = some (.cells #[.float .f32 m, .float .f32 c] 37)) => CheckHeights_row bb 0 2 2 (two m c) (by omega) W' (flAt_two hb))
  by_cases hz : fldE 2 (two m c) = 0
  · obtain ⟨hm, hcc⟩ := two_hgt hz
    have BY := Lib.hid (fun W' p (hk : Caps W' X Y W H n b cap v p m c) => byCell_any X Y W H n 96 _ (sclW v m c) W' enters_Scale1 (scale1_any X Y W H n b cap v p m c W' hk hn2 hh hm hcc) en.symm h1 hn2)
    rw [hz] at CS
    have HC := Lib.hid hc
    have HZ := Lib.hid hz
    clear hc hn h0 hh hm hcc en hz b5
    go_enter Try.func36, Try.ntmps36
    go_wp2_with (first | (go_at_call 82; refine (CK.out _ (by repeat (first | exact Below.refl _ _ | refine Below.alloc ?_ (by first | omega | (simp; done) | (simp; omega)) _ | refine Below.setCell ?_ (by first | omega | (simp; done) | (simp; omega)) _ | refine Below.drew ?_))).mono ?_; rintro e w2 ⟨rfl, hb2⟩; have HF2 := Lib.hid (blkStay (b := w.heap.size) (o := fldO X Y W H (.slice (some ⟨b, 0, none⟩) n cap)) (by ((simp only [heap_alloc_get, heap_size_alloc, if_true]) <;> ((repeat' split) <;> first | rfl | omega))) hb2); have HM2 := Lib.hid (blkStay (b := w.heap.size + 1) (o := flObj m) (by ((simp only [heap_alloc_get, heap_size_alloc, if_true]) <;> ((repeat' split) <;> first | rfl | omega))) hb2); have HC2 := Lib.hid (blkStay (b := w.heap.size + 1 + 1) (o := flObj c) (by ((simp only [heap_alloc_get, heap_size_alloc, if_true]) <;> ((repeat' split) <;> first | rfl | omega))) hb2); have HS2 := Lib.hid (blkStay (b := w.heap.size + 1 + 1 + 1) (o := fldO 0 0 0 0 (.slice none 0 0)) (by ((simp only [heap_alloc_get, heap_size_alloc, if_true]) <;> ((repeat' split) <;> first | rfl | omega))) hb2); have hB2 : Below w.heap.size w w2 := Below.trans (by repeat (first | exact Below.refl _ _ | refine Below.alloc ?_ (by first | omega | (simp; done) | (simp; omega)) _ | refine Below.setCell ?_ (by first | omega | (simp; done) | (simp; omega)) _ | refine Below.drew ?_)) (Below.mono hb2 (by first | omega | (simp; done) | (simp; omega))); obtain ⟨cF, fF, zF⟩ := blkC HF2.out; obtain ⟨cM, fM, zM⟩ := blkC HM2.out; obtain ⟨cC, fC, zC⟩ := blkC HC2.out; clear hb2) | (go_at_call 75; refine (CS.out _ _ (heap_alloc_new _ _)).mono ?_; rintro e w3 ⟨rfl, rfl⟩))
    have K2 : Caps w2 X Y W H n b cap v w.heap.size m c := ⟨HF2.out, HM2.out, HC2.out, flAt_congr HC.out (hB2.block _ hlt)⟩
    refine (BY.out _ w.heap.size (K2.stay h1 (by repeat (first | exact Below.refl _ _ | refine Below.alloc ?_ (by first | omega | (simp; done) | (simp; omega)) _ | refine Below.setCell ?_ (by first | omega | (simp; done) | (simp; omega)) _ | refine Below.drew ?_)))).mono ?_
    intro e w4 hmade
    rcases hmade with ⟨hall, b', cap', rfl, hb', hlt', hrow, hbel⟩ | ⟨hall, rfl, hbel⟩
    · have hb24 : Below w2.heap.size w2 w4 := Below.trans (by repeat (first | exact Below.refl _ _ | refine Below.alloc ?_ (by first | omega | (simp; done) | (simp; omega)) _ | refine Below.setCell ?_ (by first | omega | (simp; done) | (simp; omega)) _ | refine Below.drew ?_)) (Below.mono hbel (by simp))
      obtain ⟨cS, fS, zS⟩ := blkC (blkStay HS2.out hb24)
      go_wp2
      refine bodyPost_ret (v := .tuple #[fldV X Y W H (.slice (some ⟨b', 0, none⟩) n cap'), .int .i64 0]) (by simp [results, Try.results36, go_sem, cS]) rfl ?_
      have z2 := hB2.size
      rw [heap_size_alloc] at hb'
      exact .inr ⟨HZ.out, .inl ⟨hall, b', cap', rfl, by omega, by rw [set5_size]; exact hlt', flAt_congr hrow (set5_heap w4 _ _ _ _ _ _ _ (by have := HS2.out; have := (blkC this).2.2; omega)), set5_below (hB2.trans (hb24.mono z2)) _ _ _ _ _ _ (by omega)⟩⟩
    · have hb24 : Below w2.heap.size w2 w4 := Below.trans (by repeat (first | exact Below.refl _ _ | refine Below.alloc ?_ (by first | omega | (simp; done) | (simp; omega)) _ | refine Below.setCell ?_ (by first | omega | (simp; done) | (simp; omega)) _ | refine Below.drew ?_)) (Below.mono hbel (by simp))
      obtain ⟨cS, fS, zS⟩ := blkC (blkStay HS2.out hb24)
      go_wp2
      refine bodyPost_ret (v := .tuple #[fldV 0 0 0 0 (.slice none 0 0), .int .i64 3]) (by simp [results, Try.results36, go_sem, cS]) rfl ?_
      have z2 := hB2.size
      exact .inr ⟨HZ.out, .inr ⟨hall, rfl, set5_below (hB2.trans (hb24.mono z2)) _ _ _ _ _ _ (by omega)⟩⟩
  · have hzb : (fldE 2 (two m c) != 0) = true := by simp [hz]
    have HZ := Lib.hid hz
    clear hc hn h0 hh en hz b5
    go_enter Try.func36, Try.ntmps36
    go_wp2_with (first | (go_at_call 82; refine (CK.out _ (by repeat (first | exact Below.refl _ _ | refine Below.alloc ?_ (by first | omega | (simp; done) | (simp; omega)) _ | refine Below.setCell ?_ (by first | omega | (simp; done) | (simp; omega)) _ | refine Below.drew ?_))).mono ?_; rintro e w2 ⟨rfl, hb2⟩; have HF2 := Lib.hid (blkStay (b := w.heap.size) (o := fldO X Y W H (.slice (some ⟨b, 0, none⟩) n cap)) (by ((simp only [heap_alloc_get, heap_size_alloc, if_true]) <;> ((repeat' split) <;> first | rfl | omega))) hb2); have HM2 := Lib.hid (blkStay (b := w.heap.size + 1) (o := flObj m) (by ((simp only [heap_alloc_get, heap_size_alloc, if_true]) <;> ((repeat' split) <;> first | rfl | omega))) hb2); have HC2 := Lib.hid (blkStay (b := w.heap.size + 1 + 1) (o := flObj c) (by ((simp only [heap_alloc_get, heap_size_alloc, if_true]) <;> ((repeat' split) <;> first | rfl | omega))) hb2); have HS2 := Lib.hid (blkStay (b := w.heap.size + 1 + 1 + 1) (o := fldO 0 0 0 0 (.slice none 0 0)) (by ((simp only [heap_alloc_get, heap_size_alloc, if_true]) <;> ((repeat' split) <;> first | rfl | omega))) hb2); have hB2 : Below w.heap.size w w2 := Below.trans (by repeat (first | exact Below.refl _ _ | refine Below.alloc ?_ (by first | omega | (simp; done) | (simp; omega)) _ | refine Below.setCell ?_ (by first | omega | (simp; done) | (simp; omega)) _ | refine Below.drew ?_)) (Below.mono hb2 (by first | omega | (simp; done) | (simp; omega))); obtain ⟨cF, fF, zF⟩ := blkC HF2.out; obtain ⟨cM, fM, zM⟩ := blkC HM2.out; obtain ⟨cC, fC, zC⟩ := blkC HC2.out; clear hb2) | (go_at_call 75; refine (CS.out _ _ (heap_alloc_new _ _)).mono ?_; rintro e w3 ⟨rfl, hw3⟩; have hb23 : Below w2.heap.size w2 w3 := (by rw [← hw3]; exact (by repeat (first | exact Below.refl _ _ | refine Below.alloc ?_ (by first | omega | (simp; done) | (simp; omega)) _ | refine Below.setCell ?_ (by first | omega | (simp; done) | (simp; omega)) _ | refine Below.drew ?_))); clear hw3; obtain ⟨cS, fS, zS⟩ := blkC (blkStay HS2.out hb23)))
    refine bodyPost_ret (v := .tuple #[fldV 0 0 0 0 (.slice none 0 0), .int .i64 (fldE 2 (two m c))]) (by simp [results, Try.results36, go_sem, cS]) rfl ?_
    exact .inl ⟨HZ.out, rfl, set5_below (hB2.trans (hb23.mono hB2.size)) _ _ _ _ _ _ (by omega)⟩

end Go.Proofs.Ytihjemookgnafaa

/- The reference's Scale. -/
namespace Go.Proofs.Ytihjemookgnafaa
open Go.RowKit Fl
set_option linter.unusedVariables false

theorem two_wf {m c : Nat} (h1 : m < 4294967296) (h2 : c < 4294967296) : wf32 2 (two m c) := by
  intro i _; unfold two; split
  · exact h1
  · exact h2
theorem scl_wf {n m c : Nat} {v : Nat → Nat} (hh : allB n (fun i => hgtB (v i)) = true) (hm : hgtB m = true) (hc : hgtB c = true) : wf32 n (sclW v m c) := by
  intro i hi
  obtain ⟨r, s, e1, _, e2, _, e3⟩ := scl_parts (allB_iff.1 hh i hi) hm hc
  rw [scl_eq e1 e2]; exact e3

set_option maxHeartbeats 2000000 in
theorem rscale_any (X Y : Int) (W H n b cap : Nat) (v : Nat → Nat) (m c : Nat) (w : World) (h0 : checkR X Y W H = 0) (hn : n = W * H) (hc : FlAt w b 0 n v) (hh : allB n (fun i => hgtB (v i)) = true) (hvw : wf32 n v) (hm32 : m < 4294967296) (hc32 : c < 4294967296) :
    Calls Try.prog 37 #[fldV X Y W H (.slice (some ⟨b, 0, none⟩) n cap), .float .f32 m, .float .f32 c] w (ScPost w X Y W H n (sclW v m c) (fldE 2 (two m c))) := by
  obtain ⟨b1, b2, b3, b4, b5, b6, b7, b8, b9⟩ := checkR_zero h0
  have en : ((W : Int) * (H : Int)) = (n : Int) := by rw [hn]; simp
  have hn2 : n ≤ 65536 := by omega
  have h1 : 1 ≤ n := by
    have := Nat.mul_pos (by omega : 0 < W) (by omega : 0 < H)
    omega
  have hlt : b < w.heap.size := World.block_lt_of_cell? w _ (hc 0 h1)
  have CS := Lib.hid (fun bb W' (hb : W'.heap[bb]? = some (.cells #[.float .f32 m, .float .f32 c] 37)) => refHeight_row bb 0 2 2 (two m c) (by omega) W' (flAt_two hb) (two_wf hm32 hc32))
  by_cases hz : fldE 2 (two m c) = 0
  · obtain ⟨hm, hcc⟩ := two_hgt hz
    have BY := Lib.hid (fun W' p (hk : Caps W' X Y W H n b cap v p m c) => made_any X Y W H n 97 _ (sclW v m c) W' enters_rScale1 (rscale1_any X Y W H n b cap v p m c W' hk hn2 hh hm hcc (by omega) (by omega) (by omega) (by omega) (by omega) (by omega) (by omega) (by rw [hn]; exact Nat.mul_comm _ _)) (scl_wf hh hm hcc) (by omega) (by omega) (by omega) (by omega) (by omega) (by omega) (by omega) (by omega) (by rw [hn]; exact Nat.mul_comm _ _))
    rw [hz] at CS
    have HC := Lib.hid hc
    have HZ := Lib.hid hz
    clear hc hn h0 hh hm hcc en hz b5 hvw
    go_enter Try.func37, Try.ntmps37
    go_wp2_with (first | (go_at_call 26; refine (CS.out _ _ (by ((simp only [heap_alloc_get, heap_size_alloc, if_true]) <;> ((repeat' split) <;> first | rfl | omega)))).mono ?_; rintro e w2 ⟨rfl, hw3⟩; have hw2 : Below w.heap.size w w2 := (by rw [← hw3]; exact (by repeat (first | exact Below.refl _ _ | refine Below.alloc ?_ (by first | omega | (simp; done) | (simp; omega)) _ | refine Below.setCell ?_ (by first | omega | (simp; done) | (simp; omega)) _ | refine Below.drew ?_))); have HF2 := Lib.hid (show w2.heap[w.heap.size]? = some (fldO X Y W H (.slice (some ⟨b, 0, none⟩) n cap)) by rw [← hw3]; ((simp only [heap_alloc_get, heap_size_alloc, if_true]) <;> ((repeat' split) <;> first | rfl | omega))); have HM2 := Lib.hid (show w2.heap[w.heap.size + 1]? = some (flObj m) by rw [← hw3]; ((simp only [heap_alloc_get, heap_size_alloc, if_true]) <;> ((repeat' split) <;> first | rfl | omega))); have HC2 := Lib.hid (show w2.heap[w.heap.size + 1 + 1]? = some (flObj c) by rw [← hw3]; ((simp only [heap_alloc_get, heap_size_alloc, if_true]) <;> ((repeat' split) <;> first | rfl | omega))); have HS2 := Lib.hid (show w2.heap[w.heap.size + 1 + 1 + 1]? = some (fldO 0 0 0 0 (.slice none 0 0)) by rw [← hw3]; ((simp only [heap_alloc_get, heap_size_alloc, if_true]) <;> ((repeat' split) <;> first | rfl | omega))); have hB2 := hw2; obtain ⟨cF, fF, zF⟩ := blkC HF2.out; obtain ⟨cM, fM, zM⟩ := blkC HM2.out; obtain ⟨cC, fC, zC⟩ := blkC HC2.out; obtain ⟨cS, fS, zS⟩ := blkC HS2.out; clear hw3))
    have K2 : Caps w2 X Y W H n b cap v w.heap.size m c := ⟨HF2.out, HM2.out, HC2.out, flAt_congr HC.out (hB2.block _ hlt)⟩
    clear cS fS zS
    refine (BY.out _ w.heap.size (K2.stay h1 (by repeat (first | exact Below.refl _ _ | refine Below.alloc ?_ (by first | omega | (simp; done) | (simp; omega)) _ | refine Below.setCell ?_ (by first | omega | (simp; done) | (simp; omega)) _ | refine Below.drew ?_)))).mono ?_
    intro e w4 hmade
    rcases hmade with ⟨hall, b', cap', rfl, hb', hlt', hrow, hbel⟩ | ⟨hall, rfl, hbel⟩
    · have hb24 : Below w2.heap.size w2 w4 := Below.trans (by repeat (first | exact Below.refl _ _ | refine Below.alloc ?_ (by first | omega | (simp; done) | (simp; omega)) _ | refine Below.setCell ?_ (by first | omega | (simp; done) | (simp; omega)) _ | refine Below.drew ?_)) (Below.mono hbel (by first | exact Nat.le_refl _ | simp))
      obtain ⟨cS, fS, zS⟩ := blkC (blkStay HS2.out hb24)
      go_wp2
      refine bodyPost_ret (v := .tuple #[fldV X Y W H (.slice (some ⟨b', 0, none⟩) n cap'), .int .i64 0]) (by simp [results, Try.results37, go_sem, cS]) rfl ?_
      have z2 := hB2.size
      exact .inr ⟨HZ.out,  .inl ⟨hall, b', cap', rfl, by omega, by rw [set5_size]; exact hlt', flAt_congr hrow (set5_heap w4 _ _ _ _ _ _ _ (by have := HS2.out; have := (blkC this).2.2; omega)), set5_below (hB2.trans (hb24.mono z2)) _ _ _ _ _ _ (by omega)⟩⟩
    · have hb24 : Below w2.heap.size w2 w4 := Below.trans (by repeat (first | exact Below.refl _ _ | refine Below.alloc ?_ (by first | omega | (simp; done) | (simp; omega)) _ | refine Below.setCell ?_ (by first | omega | (simp; done) | (simp; omega)) _ | refine Below.drew ?_)) (Below.mono hbel (by first | exact Nat.le_refl _ | simp))
      obtain ⟨cS, fS, zS⟩ := blkC (blkStay HS2.out hb24)
      go_wp2
      refine bodyPost_ret (v := .tuple #[fldV 0 0 0 0 (.slice none 0 0), .int .i64 3]) (by simp [results, Try.results37, go_sem, cS]) rfl ?_
      have z2 := hB2.size
      exact .inr ⟨HZ.out,  .inr ⟨hall, rfl, set5_below (hB2.trans (hb24.mono z2)) _ _ _ _ _ _ (by omega)⟩⟩
  · have hzb : (fldE 2 (two m c) != 0) = true := by simp [hz]
    have HZ := Lib.hid hz
    clear hc hn h0 hh en hz b5 hvw
    go_enter Try.func37, Try.ntmps37
    go_wp2_with (first | (go_at_call 26; refine (CS.out _ _ (by ((simp only [heap_alloc_get, heap_size_alloc, if_true]) <;> ((repeat' split) <;> first | rfl | omega)))).mono ?_; rintro e w2 ⟨rfl, hw3⟩; have hw2 : Below w.heap.size w w2 := (by rw [← hw3]; exact (by repeat (first | exact Below.refl _ _ | refine Below.alloc ?_ (by first | omega | (simp; done) | (simp; omega)) _ | refine Below.setCell ?_ (by first | omega | (simp; done) | (simp; omega)) _ | refine Below.drew ?_))); have HF2 := Lib.hid (show w2.heap[w.heap.size]? = some (fldO X Y W H (.slice (some ⟨b, 0, none⟩) n cap)) by rw [← hw3]; ((simp only [heap_alloc_get, heap_size_alloc, if_true]) <;> ((repeat' split) <;> first | rfl | omega))); have HM2 := Lib.hid (show w2.heap[w.heap.size + 1]? = some (flObj m) by rw [← hw3]; ((simp only [heap_alloc_get, heap_size_alloc, if_true]) <;> ((repeat' split) <;> first | rfl | omega))); have HC2 := Lib.hid (show w2.heap[w.heap.size + 1 + 1]? = some (flObj c) by rw [← hw3]; ((simp only [heap_alloc_get, heap_size_alloc, if_true]) <;> ((repeat' split) <;> first | rfl | omega))); have HS2 := Lib.hid (show w2.heap[w.heap.size + 1 + 1 + 1]? = some (fldO 0 0 0 0 (.slice none 0 0)) by rw [← hw3]; ((simp only [heap_alloc_get, heap_size_alloc, if_true]) <;> ((repeat' split) <;> first | rfl | omega))); have hB2 := hw2; obtain ⟨cF, fF, zF⟩ := blkC HF2.out; obtain ⟨cM, fM, zM⟩ := blkC HM2.out; obtain ⟨cC, fC, zC⟩ := blkC HC2.out; obtain ⟨cS, fS, zS⟩ := blkC HS2.out; clear hw3))
    refine bodyPost_ret (v := .tuple #[fldV 0 0 0 0 (.slice none 0 0), .int .i64 (fldE 2 (two m c))]) (by simp [results, Try.results37, go_sem, cS]) rfl ?_
    exact .inl ⟨HZ.out, rfl, set5_below hB2 _ _ _ _ _ _ (by omega)⟩

end Go.Proofs.Ytihjemookgnafaa

/- Dither of the program and of the reference, of a right field. -/
namespace Go.Proofs.Ytihjemookgnafaa
open Go.RowKit Fl
set_option linter.unusedVariables false

theorem dth_wf {n : Nat} {v : Nat → Nat} {st : Nat} {sd X Y : Int} {W : Nat} (hh : allB n (fun i => hgtB (v i)) = true) (hs : StepOk st) : wf32 n (dthF v st sd X Y W) := by
  intro i hi
  obtain ⟨q, d, c, j, r, D⟩ := dth_parts (hashI sd (X + ((i % W : Nat) : Int)) (Y + ((i / W : Nat) : Int)) 8) (allB_iff.1 hh i hi) hs
  unfold dthF; rw [D.w]; exact D.lt

set_option maxHeartbeats 2000000 in
theorem dither_any (X Y : Int) (W H n b cap : Nat) (v : Nat → Nat) (sd : Int) (st : Nat) (w : World) (h0 : checkR X Y W H = 0) (hn : n = W * H) (hc : FlAt w b 0 n v) (hh : allB n (fun i => hgtB (v i)) = true) :
    Calls Try.prog 63 #[fldV X Y W H (.slice (some ⟨b, 0, none⟩) n cap), .int .u32 sd, .float .f32 st] w (ScPost w X Y W H n (dthF v st sd X Y W) (wiE st 981467136 1149239296)) := by
  obtain ⟨b1, b2, b3, b4, b5, b6, b7, b8, b9⟩ := checkR_zero h0
  have en : ((W : Int) * (H : Int)) = (n : Int) := by rw [hn]; simp
  have hn2 : n ≤ 65536 := by omega
  have hnn : n = H * W := by rw [hn]; exact Nat.mul_comm _ _
  have h1 : 1 ≤ n := by
    have := Nat.mul_pos (by omega : 0 < W) (by omega : 0 < H)
    omega
  have hlt : b < w.heap.size := World.block_lt_of_cell? w _ (hc 0 h1)
  have CK := Lib.hid (fun W' (hb : Below w.heap.size w W') => check_ok X Y W H n b cap v W' h0 hn (flAt_congr hc (hb.block _ hlt)) hh)
  have CW := Lib.hid (fun w => checkWithin_any st 981467136 1149239296 w)
  by_cases hz : wiE st 981467136 1149239296 = 0
  · have hs := step_ok hz
    have MK := Lib.hid (fun W' p (hk : DCaps W' X Y W H n b cap v p st sd) => make_ok X Y W H n 129 _ (dthF v st sd X Y W) W' enters_Dither1 (dither1_any X Y W H n b cap v p st sd W' hk hn2 hh hs (by omega) (by omega) (by omega) (by omega) (by omega) (by omega) (by omega) hnn) h0 hnn)
    rw [hz] at CW
    have HC := Lib.hid hc
    have HZ := Lib.hid hz
    clear hc hn h0 hh en hz b5 hs hnn
    go_enter Try.func63, Try.ntmps63
    go_wp2_with (first | (go_at_call 82; refine (CK.out _ (by repeat (first | exact Below.refl _ _ | refine Below.alloc ?_ (by first | omega | (simp; done) | (simp; omega)) _ | refine Below.setCell ?_ (by first | omega | (simp; done) | (simp; omega)) _ | refine Below.drew ?_))).mono ?_; rintro e w2 ⟨rfl, hb2⟩; have HF2 := Lib.hid (blkStay (b := w.heap.size) (o := fldO X Y W H (.slice (some ⟨b, 0, none⟩) n cap)) (by ((simp only [heap_alloc_get, heap_size_alloc, if_true]) <;> ((repeat' split) <;> first | rfl | omega))) hb2); have HM2 := Lib.hid (blkStay (b := w.heap.size + 1) (o := u32Obj sd) (by ((simp only [heap_alloc_get, heap_size_alloc, if_true]) <;> ((repeat' split) <;> first | rfl | omega))) hb2); have HC2 := Lib.hid (blkStay (b := w.heap.size + 1 + 1) (o := flObj st) (by ((simp only [heap_alloc_get, heap_size_alloc, if_true]) <;> ((repeat' split) <;> first | rfl | omega))) hb2); have HS2 := Lib.hid (blkStay (b := w.heap.size + 1 + 1 + 1) (o := fldO 0 0 0 0 (.slice none 0 0)) (by ((simp only [heap_alloc_get, heap_size_alloc, if_true]) <;> ((repeat' split) <;> first | rfl | omega))) hb2); have hB2 : Below w.heap.size w w2 := Below.trans (by repeat (first | exact Below.refl _ _ | refine Below.alloc ?_ (by first | omega | (simp; done) | (simp; omega)) _ | refine Below.setCell ?_ (by first | omega | (simp; done) | (simp; omega)) _ | refine Below.drew ?_)) (Below.mono hb2 (by first | omega | (simp; done) | (simp; omega))); obtain ⟨cF, fF, zF⟩ := blkC HF2.out; obtain ⟨cM, fM, zM⟩ := blkC HM2.out; obtain ⟨cC, fC, zC⟩ := blkC HC2.out; clear hb2) | (go_at_call 126; refine (CW.out _).mono ?_; rintro e w3 ⟨rfl, rfl⟩))
    have K2 : DCaps w2 X Y W H n b cap v w.heap.size st sd := ⟨HF2.out, HM2.out, HC2.out, flAt_congr HC.out (hB2.block _ hlt)⟩
    refine (MK.out _ w.heap.size (K2.stay h1 (by repeat (first | exact Below.refl _ _ | refine Below.alloc ?_ (by first | omega | (simp; done) | (simp; omega)) _ | refine Below.setCell ?_ (by first | omega | (simp; done) | (simp; omega)) _ | refine Below.drew ?_)))).mono ?_
    intro e w4 hmade
    rcases hmade with ⟨hall, b', cap', rfl, hb', hlt', hrow, hbel⟩ | ⟨hall, rfl, hbel⟩
    · have hb24 : Below w2.heap.size w2 w4 := Below.trans (by repeat (first | exact Below.refl _ _ | refine Below.alloc ?_ (by first | omega | (simp; done) | (simp; omega)) _ | refine Below.setCell ?_ (by first | omega | (simp; done) | (simp; omega)) _ | refine Below.drew ?_)) (Below.mono hbel (by first | exact Nat.le_refl _ | simp))
      obtain ⟨cS, fS, zS⟩ := blkC (blkStay HS2.out hb24)
      go_wp2
      refine bodyPost_ret (v := .tuple #[fldV X Y W H (.slice (some ⟨b', 0, none⟩) n cap'), .int .i64 0]) (by simp [results, Try.results63, go_sem, cS]) rfl ?_
      have z2 := hB2.size
      exact .inr ⟨HZ.out, .inl ⟨hall, b', cap', rfl, by omega, by rw [set5_size]; exact hlt', flAt_congr hrow (set5_heap w4 _ _ _ _ _ _ _ (by have := HS2.out; have := (blkC this).2.2; omega)), set5_below (hB2.trans (hb24.mono z2)) _ _ _ _ _ _ (by omega)⟩⟩
    · have hb24 : Below w2.heap.size w2 w4 := Below.trans (by repeat (first | exact Below.refl _ _ | refine Below.alloc ?_ (by first | omega | (simp; done) | (simp; omega)) _ | refine Below.setCell ?_ (by first | omega | (simp; done) | (simp; omega)) _ | refine Below.drew ?_)) (Below.mono hbel (by first | exact Nat.le_refl _ | simp))
      obtain ⟨cS, fS, zS⟩ := blkC (blkStay HS2.out hb24)
      go_wp2
      refine bodyPost_ret (v := .tuple #[fldV 0 0 0 0 (.slice none 0 0), .int .i64 3]) (by simp [results, Try.results63, go_sem, cS]) rfl ?_
      have z2 := hB2.size
      exact .inr ⟨HZ.out, .inr ⟨hall, rfl, set5_below (hB2.trans (hb24.mono z2)) _ _ _ _ _ _ (by omega)⟩⟩
  · have hzb : (wiE st 981467136 1149239296 != 0) = true := by simp [hz]
    have HZ := Lib.hid hz
    generalize wiE st 981467136 1149239296 = er at *
    clear hc hn h0 hh en hz b5 hnn
    go_enter Try.func63, Try.ntmps63
    go_wp2_with (first | (go_at_call 82; refine (CK.out _ (by repeat (first | exact Below.refl _ _ | refine Below.alloc ?_ (by first | omega | (simp; done) | (simp; omega)) _ | refine Below.setCell ?_ (by first | omega | (simp; done) | (simp; omega)) _ | refine Below.drew ?_))).mono ?_; rintro e w2 ⟨rfl, hb2⟩; have HF2 := Lib.hid (blkStay (b := w.heap.size) (o := fldO X Y W H (.slice (some ⟨b, 0, none⟩) n cap)) (by ((simp only [heap_alloc_get, heap_size_alloc, if_true]) <;> ((repeat' split) <;> first | rfl | omega))) hb2); have HC2 := Lib.hid (blkStay (b := w.heap.size + 1 + 1) (o := flObj st) (by ((simp only [heap_alloc_get, heap_size_alloc, if_true]) <;> ((repeat' split) <;> first | rfl | omega))) hb2); have HS2 := Lib.hid (blkStay (b := w.heap.size + 1 + 1 + 1) (o := fldO 0 0 0 0 (.slice none 0 0)) (by ((simp only [heap_alloc_get, heap_size_alloc, if_true]) <;> ((repeat' split) <;> first | rfl | omega))) hb2); have hB2 : Below w.heap.size w w2 := Below.trans (by repeat (first | exact Below.refl _ _ | refine Below.alloc ?_ (by first | omega | (simp; done) | (simp; omega)) _ | refine Below.setCell ?_ (by first | omega | (simp; done) | (simp; omega)) _ | refine Below.drew ?_)) (Below.mono hb2 (by first | omega | (simp; done) | (simp; omega))); obtain ⟨cF, fF, zF⟩ := blkC HF2.out; obtain ⟨cC, fC, zC⟩ := blkC HC2.out; obtain ⟨cS, fS, zS⟩ := blkC HS2.out; clear hb2) | (go_at_call 126; refine (CW.out _).mono ?_; rintro e w3 ⟨rfl, rfl⟩))
    refine bodyPost_ret (v := .tuple #[fldV 0 0 0 0 (.slice none 0 0), .int .i64 er]) (by simp [results, Try.results63, go_sem, cS]) rfl ?_
    exact .inl ⟨HZ.out, rfl, set5_below hB2 _ _ _ _ _ _ (by omega)⟩
end Go.Proofs.Ytihjemookgnafaa

/- EaseMatches: Ease answers as the reference does, and from 0 to 1. -/
namespace Go.Proofs.Ytihjemookgnafaa
open Go.RowKit Fl
set_option linter.unusedVariables false

theorem zero_geq : (FloatKind.f32.format.order 0 0 == some .gt || FloatKind.f32.format.order 0 0 == some .eq) = true := by rw [f32f, geq_val vS_zero vS_zero]; simp
theorem zero_leq : (FloatKind.f32.format.order 0 1065353216 == some .lt || FloatKind.f32.format.order 0 1065353216 == some .eq) = true := by
  rw [f32f, leq_val vS_zero vS_one]; simp
set_option maxHeartbeats 1000000 in
theorem easeMatches_bad (t : Nat) (k k' : Int) (hk : k = 2 ∨ k = 3) (ht : t < 4294967296) (h1 : wiE t 0 1065353216 = k) (h2 : fldE 1 (fun _ => t) = k') 
    (h3 : (k' = k) ∨ (k' = 0 ∧ k = 3 ∧ (FloatKind.f32.format.order t 0 == some .lt) = true) ∨ (k' = 0 ∧ k = 3 ∧ (FloatKind.f32.format.order t 0 == some .lt) = false ∧ (FloatKind.f32.format.order t 1065353216 == some .gt) = true)) (w : World) :
    Calls Try.prog 10 #[.float .f32 t] w fun e w' => e = .returned (.bool true) ∧ Below w.heap.size w w' := by
  have EN := Lib.hid (fun w => easeX_no t k h1 hk w)
  have HT := Lib.hid (fun w => refHeight_one t ht w)
  have ON := Lib.hid (fun b w => one_err b k (by omega) w)
  rw [h2] at HT
  have z1 := zero_geq
  have z2 := zero_leq
  clear h1 h2 ht
  rcases h3 with rfl | ⟨rfl, rfl, c1⟩ | ⟨rfl, rfl, c1, c2⟩
  · rcases hk with rfl | rfl
    all_goals go_enter Try.func10, Try.ntmps10
    all_goals go_wp2_with (first | (go_at_call 14; refine (landed_any _).mono ?_; rintro e w1 ⟨rfl, hb1⟩) | (go_at_call 55; refine (EN.out _).mono ?_; rintro e w' ⟨rfl, rfl⟩) | (go_at_call 26; refine (HT.out _).mono ?_; rintro e w' ⟨rfl, rfl⟩) | (go_at_call 56; refine (refEase_loose _ _).mono ?_; rintro e w' ⟨r, n, rfl, rfl⟩) | (go_at_call 46; refine (ON.out _ _).mono ?_; rintro e w' ⟨rfl, rfl⟩))
    all_goals go_ret
    all_goals exact ⟨rfl, Below.trans hb1 (Below.mono (Go.below_drewN (Below.alloc (Below.refl w1.heap.size w1) (Nat.le_refl _) _) _) (by have := hb1.size; omega))⟩
  all_goals clear hk
  all_goals go_enter Try.func10, Try.ntmps10
  all_goals go_wp2_with (first | (go_at_call 14; refine (landed_any _).mono ?_; rintro e w1 ⟨rfl, hb1⟩) | (go_at_call 55; refine (EN.out _).mono ?_; rintro e w' ⟨rfl, rfl⟩) | (go_at_call 26; refine (HT.out _).mono ?_; rintro e w' ⟨rfl, rfl⟩) | (go_at_call 56; refine (refEase_loose _ _).mono ?_; rintro e w' ⟨r, n, rfl, rfl⟩) | (go_at_call 46; refine (ON.out _ _).mono ?_; rintro e w' ⟨rfl, rfl⟩))
  all_goals go_ret
  all_goals exact ⟨rfl, Below.trans hb1 (Below.mono (Go.below_drewN (Below.alloc (Below.refl w1.heap.size w1) (Nat.le_refl _) _) _) (by have := hb1.size; omega))⟩

set_option maxHeartbeats 1000000 in
theorem easeMatches_good (t p q r v : Nat) (E : EaseAt t p q r v) (ht : t < 4294967296) (h1 : wiE t 0 1065353216 = 0) (h2 : fldE 1 (fun _ => t) = 0)
    (c1 : (FloatKind.f32.format.order t 0 == some .lt) = false) (c2 : (FloatKind.f32.format.order t 1065353216 == some .gt) = false)
    (c3 : (FloatKind.f32.format.order (easeW t) 0 == some .gt || FloatKind.f32.format.order (easeW t) 0 == some .eq) = true) (c4 : (FloatKind.f32.format.order (easeW t) 1065353216 == some .lt || FloatKind.f32.format.order (easeW t) 1065353216 == some .eq) = true) (w : World) :
    Calls Try.prog 10 #[.float .f32 t] w fun e w' => e = .returned (.bool true) ∧ Below w.heap.size w w' := by
  have EN := Lib.hid (fun w => easeX_ok t p q r v E h1 w)
  have RN := Lib.hid (fun w => refEase_any t p q r v E w)
  have HT := Lib.hid (fun w => refHeight_one t ht w)
  rw [h2] at HT
  clear h1 h2 ht E
  go_enter Try.func10, Try.ntmps10
  go_wp2_with (first | (go_at_call 14; refine (landed_any _).mono ?_; rintro e w1 ⟨rfl, hb1⟩) | (go_at_call 55; refine (EN.out _).mono ?_; rintro e w' ⟨rfl, rfl⟩) | (go_at_call 26; refine (HT.out _).mono ?_; rintro e w' ⟨rfl, rfl⟩) | (go_at_call 56; refine (RN.out _).mono ?_; rintro e w' ⟨rfl, rfl⟩) | (go_at_call 46; refine (one_ok _ _).mono ?_; rintro e w' ⟨rfl, rfl⟩))
  go_ret
  exact ⟨rfl, Below.trans hb1 (Below.mono (Below.alloc (Below.refl w1.heap.size w1) (Nat.le_refl _) _) (by have := hb1.size; omega))⟩

theorem easeMatches_any (t : Nat) (ht : t < 4294967296) (w : World) :
    Calls Try.prog 10 #[.float .f32 t] w fun e w' => e = .returned (.bool true) ∧ Below w.heap.size w w' := by
  cases hf : finB t with
  | false => exact easeMatches_bad t 2 2 (.inl rfl) ht (by unfold wiE; rw [if_pos hf]) (by simp [fldE, allB, List.range_succ, hf]) (.inl rfl) w
  | true =>
    obtain ⟨a, ha⟩ := Option.isSome_iff_exists.1 (show (vS t).isSome = true from hf)
    have l0 := lss_val ha vS_zero
    have g1 := gtr_val ha vS_one
    rw [← f32f] at l0 g1
    have hw : ∀ P : Prop, ((FloatKind.f32.format.order t 0 == some .lt) = true ∨ (FloatKind.f32.format.order t 1065353216 == some .gt) = true) → wiE t 0 1065353216 = 3 := fun _ c => by
      unfold wiE; rw [if_neg (by rw [hf]; simp), if_pos c]
    cases hh : hgtB t with
    | false =>
      refine easeMatches_bad t 3 3 (.inr rfl) ht (hw True ?_) (by simp [fldE, hgtE, allB, List.range_succ, hf, hh]) (.inl rfl) w
      have := one_vTop
      have h0 : (0 : Int) < (one : Int) := Int.natCast_pos.2 one_pos
      unfold hgtB at hh
      rw [ha] at hh
      rw [l0, g1]
      simp at hh ⊢
      omega
    | true =>
      have h2 : fldE 1 (fun _ => t) = 0 := fldE_one_ok hh
      cases c1 : (FloatKind.f32.format.order t 0 == some .lt) with
      | true => exact easeMatches_bad t 3 0 (.inr rfl) ht (hw True (.inl c1)) h2 (.inr (.inl ⟨rfl, rfl, c1⟩)) w
      | false =>
        cases c2 : (FloatKind.f32.format.order t 1065353216 == some .gt) with
        | true => exact easeMatches_bad t 3 0 (.inr rfl) ht (hw True (.inr c2)) h2 (.inr (.inr ⟨rfl, rfl, c1, c2⟩)) w
        | false =>
          rw [c1] at l0
          rw [c2] at g1
          have a0 : 0 ≤ a := by have := l0.symm; simp at this; omega
          have a1 : a ≤ (one : Int) := by have := g1.symm; simp at this; omega
          obtain ⟨p, q, r, v, E⟩ := ease_parts (bd_unit ha (by omega) a1)
          obtain ⟨c, hc, b0, b1⟩ := ease_in ha a0 a1
          exact easeMatches_good t p q r v E ht (by unfold wiE; rw [if_neg (by rw [hf]; simp), if_neg (by rw [c1, c2]; simp)]) h2 c1 c2 (by rw [f32f, geq_val hc vS_zero]; simpa using b0) (by rw [f32f, leq_val hc vS_one]; simpa using b1) w
end Go.Proofs.Ytihjemookgnafaa

/- The error of a single that should lie between two others, by the tests of the reference. -/
namespace Go.Proofs.Ytihjemookgnafaa
open Go.RowKit Fl
set_option linter.unusedVariables false

/-- The error of a single that should be from lo to hi, told by the reference's tests. -/
def WithinCases (st lo hi : Nat) : Prop :=
    ((fldE 1 (fun _ => st) = 2 ∨ fldE 1 (fun _ => st) = 3) ∧ wiE st lo hi = fldE 1 (fun _ => st)) ∨
    (fldE 1 (fun _ => st) = 0 ∧ wiE st lo hi = 3 ∧ (FloatKind.f32.format.order st lo == some .lt) = true) ∨
    (fldE 1 (fun _ => st) = 0 ∧ wiE st lo hi = 3 ∧ (FloatKind.f32.format.order st lo == some .lt) = false ∧ (FloatKind.f32.format.order st hi == some .gt) = true) ∨
    (fldE 1 (fun _ => st) = 0 ∧ wiE st lo hi = 0 ∧ (FloatKind.f32.format.order st lo == some .lt) = false ∧ (FloatKind.f32.format.order st hi == some .gt) = false)
theorem within_cases {st lo hi : Nat} {l h : Int} (hl : vS lo = some l) (hh : vS hi = some h) (l1 : -vTop ≤ l) (h1 : h ≤ vTop) : WithinCases st lo hi := by
  unfold WithinCases
  cases hf : finB st with
  | false =>
    have e : fldE 1 (fun _ => st) = 2 := by simp [fldE, allB, List.range_succ, hf]
    exact .inl ⟨.inl e, by rw [e]; unfold wiE; rw [if_pos hf]⟩
  | true =>
    obtain ⟨a, ha⟩ := Option.isSome_iff_exists.1 (show (vS st).isSome = true from hf)
    have l0 := lss_val ha hl
    have g1 := gtr_val ha hh
    rw [← f32f] at l0 g1
    have hw : ((FloatKind.f32.format.order st lo == some .lt) = true ∨ (FloatKind.f32.format.order st hi == some .gt) = true) → wiE st lo hi = 3 := fun c => by
      unfold wiE; rw [if_neg (by rw [hf]; simp), if_pos c]
    cases hgt : hgtB st with
    | false =>
      have e : fldE 1 (fun _ => st) = 3 := by simp [fldE, hgtE, allB, List.range_succ, hf, hgt]
      refine .inl ⟨.inr e, ?_⟩
      rw [e]
      refine hw ?_
      unfold hgtB at hgt
      rw [ha] at hgt
      rw [l0, g1]
      simp at hgt ⊢
      omega
    | true =>
      have e : fldE 1 (fun _ => st) = 0 := fldE_one_ok hgt
      cases c1 : (FloatKind.f32.format.order st lo == some .lt) with
      | true => exact .inr (.inl ⟨e, hw (.inl c1), rfl⟩)
      | false =>
        cases c2 : (FloatKind.f32.format.order st hi == some .gt) with
        | true => exact .inr (.inr (.inl ⟨e, hw (.inr c2), rfl, rfl⟩))
        | false => exact .inr (.inr (.inr ⟨e, by unfold wiE; rw [if_neg (by rw [hf]; simp), if_neg (by rw [c1, c2]; simp)], rfl, rfl⟩))

theorem vTop_one : vTop = 1048576 * (one : Int) := by
  obtain ⟨J, hJ⟩ : ∃ J : Nat, J = 1074 := ⟨_, rfl⟩
  unfold vTop
  rw [one_pow hJ, Nat.one_mul, show ((20 : Int) + 1074).toNat = 20 + J by omega, Nat.pow_add, Int.natCast_mul]; rfl
theorem step_cases (st : Nat) : WithinCases st 981467136 1149239296 := by
  obtain ⟨j, hj⟩ : ∃ j : Nat, j = 1064 := ⟨_, rfl⟩
  have hj' : j + 20 = 1084 := by omega
  have e1 : one = 1024 * 2 ^ j := by rw [one_split (a := 10) (j := j) (by omega)]
  have e2 : 2 ^ (j + 20) = 1048576 * 2 ^ j := by rw [Nat.pow_add, Nat.mul_comm]
  have hp := Nat.two_pow_pos j
  exact within_cases (st := st) (vS_lo hj) (vS_hi hj') (by rw [vTop_one, e1]; generalize 2 ^ j = U at *; omega) (by rw [vTop_one, e1, e2]; generalize 2 ^ j = U at *; omega)

theorem flAt_one_of {w : World} {b x : Nat} (h : w.heap[b]? = some (flObj x)) : FlAt w b 0 1 (fun _ => x) := by
  intro i hi
  have : i = 0 := by omega
  subst this
  exact (blkC h).1 0
theorem refHeight_of (x : Nat) (hx : x < 4294967296) (bb : Nat) (w : World) (h : w.heap[bb]? = some (flObj x)) :
    Calls Try.prog 26 #[.slice (some ⟨bb, 0, none⟩) 1 1] w fun e w' => e = .returned (.int .i64 (fldE 1 (fun _ => x))) ∧ w = w' :=
  refHeight_row bb 0 1 1 (fun _ => x) (by omega) w (flAt_one_of h) (fun _ _ => hx)

end Go.Proofs.Ytihjemookgnafaa

/- Dither of the reference, of a right field. -/
namespace Go.Proofs.Ytihjemookgnafaa
open Go.RowKit Fl
set_option linter.unusedVariables false

set_option maxHeartbeats 2000000 in
theorem rdither_any (X Y : Int) (W H n b cap : Nat) (v : Nat → Nat) (sd : Int) (st : Nat) (w : World) (h0 : checkR X Y W H = 0) (hn : n = W * H) (hc : FlAt w b 0 n v) (hh : allB n (fun i => hgtB (v i)) = true) (hst : st < 4294967296) :
    Calls Try.prog 64 #[fldV X Y W H (.slice (some ⟨b, 0, none⟩) n cap), .int .u32 sd, .float .f32 st] w (ScPost w X Y W H n (dthF v st sd X Y W) (wiE st 981467136 1149239296)) := by
  obtain ⟨b1, b2, b3, b4, b5, b6, b7, b8, b9⟩ := checkR_zero h0
  have en : ((W : Int) * (H : Int)) = (n : Int) := by rw [hn]; simp
  have hn2 : n ≤ 65536 := by omega
  have hnn : n = H * W := by rw [hn]; exact Nat.mul_comm _ _
  have h1 : 1 ≤ n := by
    have := Nat.mul_pos (by omega : 0 < W) (by omega : 0 < H)
    omega
  have hlt : b < w.heap.size := World.block_lt_of_cell? w _ (hc 0 h1)
  have HT := Lib.hid (fun bb w => refHeight_of st hst bb w)
  rcases step_cases st with ⟨hk, he⟩ | ⟨h2, he, c1⟩ | ⟨h2, he, c1, c2⟩ | ⟨h2, he, c1, c2⟩
  · rw [he]
    generalize fldE 1 (fun _ => st) = er at *
    have hzb : (er != 0) = true := by rcases hk with rfl | rfl <;> rfl
    have HZ := Lib.hid (show er ≠ 0 by rcases hk with rfl | rfl <;> decide)
    clear hc hn h0 hh en b5 hnn he hk
    go_enter Try.func64, Try.ntmps64
    go_wp2_with (first | (go_at_call 26; refine (HT.out _ _ (by ((simp only [heap_alloc_get, heap_size_alloc, if_true]) <;> ((repeat' split) <;> first | rfl | omega)))).mono ?_; rintro e w2 ⟨rfl, rfl⟩))
    refine bodyPost_ret (v := .tuple #[fldV 0 0 0 0 (.slice none 0 0), .int .i64 er]) (by simp [results, Try.results64, go_sem]) rfl ?_
    exact .inl ⟨HZ.out, rfl, (by repeat (first | exact Below.refl _ _ | refine Below.alloc ?_ (by first | omega | (simp; done) | (simp; omega)) _ | refine Below.setCell ?_ (by first | omega | (simp; done) | (simp; omega)) _ | refine Below.drew ?_))⟩
  · rw [he]
    rw [h2] at HT
    clear hc hn h0 hh en b5 hnn he h2
    go_enter Try.func64, Try.ntmps64
    go_wp2_with (first | (go_at_call 26; refine (HT.out _ _ (by ((simp only [heap_alloc_get, heap_size_alloc, if_true]) <;> ((repeat' split) <;> first | rfl | omega)))).mono ?_; rintro e w2 ⟨rfl, rfl⟩))
    refine bodyPost_ret (v := .tuple #[fldV 0 0 0 0 (.slice none 0 0), .int .i64 3]) (by simp [results, Try.results64, go_sem]) rfl ?_
    exact .inl ⟨by decide, rfl, (by repeat (first | exact Below.refl _ _ | refine Below.alloc ?_ (by first | omega | (simp; done) | (simp; omega)) _ | refine Below.setCell ?_ (by first | omega | (simp; done) | (simp; omega)) _ | refine Below.drew ?_))⟩
  · rw [he]
    rw [h2] at HT
    clear hc hn h0 hh en b5 hnn he h2
    go_enter Try.func64, Try.ntmps64
    go_wp2_with (first | (go_at_call 26; refine (HT.out _ _ (by ((simp only [heap_alloc_get, heap_size_alloc, if_true]) <;> ((repeat' split) <;> first | rfl | omega)))).mono ?_; rintro e w2 ⟨rfl, rfl⟩))
    refine bodyPost_ret (v := .tuple #[fldV 0 0 0 0 (.slice none 0 0), .int .i64 3]) (by simp [results, Try.results64, go_sem]) rfl ?_
    exact .inl ⟨by decide, rfl, (by repeat (first | exact Below.refl _ _ | refine Below.alloc ?_ (by first | omega | (simp; done) | (simp; omega)) _ | refine Below.setCell ?_ (by first | omega | (simp; done) | (simp; omega)) _ | refine Below.drew ?_))⟩
  · have hs := step_ok he
    have BY := Lib.hid (fun W' p (hk : DCaps W' X Y W H n b cap v p st sd) => made_any X Y W H n 130 _ (dthF v st sd X Y W) W' enters_rDither1 (rdither1_any X Y W H n b cap v p st sd W' hk hn2 hh hs (by omega) (by omega) (by omega) (by omega) (by omega) (by omega) (by omega) hnn) (dth_wf hh hs) (by omega) (by omega) (by omega) (by omega) (by omega) (by omega) (by omega) (by omega) hnn)
    rw [he]
    rw [h2] at HT
    have HC := Lib.hid hc
    clear hc hn h0 hh en b5 hs hnn he h2
    go_enter Try.func64, Try.ntmps64
    go_wp2_with (first | (go_at_call 26; refine (HT.out _ _ (by ((simp only [heap_alloc_get, heap_size_alloc, if_true]) <;> ((repeat' split) <;> first | rfl | omega)))).mono ?_; rintro e w2 ⟨rfl, hw3⟩; have hw2 : Below w.heap.size w w2 := (by rw [← hw3]; exact (by repeat (first | exact Below.refl _ _ | refine Below.alloc ?_ (by first | omega | (simp; done) | (simp; omega)) _ | refine Below.setCell ?_ (by first | omega | (simp; done) | (simp; omega)) _ | refine Below.drew ?_))); have HF2 := Lib.hid (show w2.heap[w.heap.size]? = some (fldO X Y W H (.slice (some ⟨b, 0, none⟩) n cap)) by rw [← hw3]; ((simp only [heap_alloc_get, heap_size_alloc, if_true]) <;> ((repeat' split) <;> first | rfl | omega))); have HM2 := Lib.hid (show w2.heap[w.heap.size + 1]? = some (u32Obj sd) by rw [← hw3]; ((simp only [heap_alloc_get, heap_size_alloc, if_true]) <;> ((repeat' split) <;> first | rfl | omega))); have HC2 := Lib.hid (show w2.heap[w.heap.size + 1 + 1]? = some (flObj st) by rw [← hw3]; ((simp only [heap_alloc_get, heap_size_alloc, if_true]) <;> ((repeat' split) <;> first | rfl | omega))); have HS2 := Lib.hid (show w2.heap[w.heap.size + 1 + 1 + 1]? = some (fldO 0 0 0 0 (.slice none 0 0)) by rw [← hw3]; ((simp only [heap_alloc_get, heap_size_alloc, if_true]) <;> ((repeat' split) <;> first | rfl | omega))); have hB2 := hw2; obtain ⟨cF, fF, zF⟩ := blkC HF2.out; obtain ⟨cC, fC, zC⟩ := blkC HC2.out; obtain ⟨cS, fS, zS⟩ := blkC HS2.out; clear hw3 hw2))
    have K2 : DCaps w2 X Y W H n b cap v w.heap.size st sd := ⟨HF2.out, HM2.out, HC2.out, flAt_congr HC.out (hB2.block _ hlt)⟩
    clear cS fS zS
    refine (BY.out _ w.heap.size (K2.stay h1 (by repeat (first | exact Below.refl _ _ | refine Below.alloc ?_ (by first | omega | (simp; done) | (simp; omega)) _ | refine Below.setCell ?_ (by first | omega | (simp; done) | (simp; omega)) _ | refine Below.drew ?_)))).mono ?_
    intro e w4 hmade
    rcases hmade with ⟨hall, b', cap', rfl, hb', hlt', hrow, hbel⟩ | ⟨hall, rfl, hbel⟩
    · have hb24 : Below w2.heap.size w2 w4 := Below.trans (by repeat (first | exact Below.refl _ _ | refine Below.alloc ?_ (by first | omega | (simp; done) | (simp; omega)) _ | refine Below.setCell ?_ (by first | omega | (simp; done) | (simp; omega)) _ | refine Below.drew ?_)) (Below.mono hbel (by first | exact Nat.le_refl _ | simp))
      obtain ⟨cS, fS, zS⟩ := blkC (blkStay HS2.out hb24)
      go_wp2
      refine bodyPost_ret (v := .tuple #[fldV X Y W H (.slice (some ⟨b', 0, none⟩) n cap'), .int .i64 0]) (by simp [results, Try.results64, go_sem, cS]) rfl ?_
      have z2 := hB2.size
      exact .inr ⟨rfl, .inl ⟨hall, b', cap', rfl, by omega, by rw [set5_size]; exact hlt', flAt_congr hrow (set5_heap w4 _ _ _ _ _ _ _ (by have := HS2.out; have := (blkC this).2.2; omega)), set5_below (hB2.trans (hb24.mono z2)) _ _ _ _ _ _ (by omega)⟩⟩
    · have hb24 : Below w2.heap.size w2 w4 := Below.trans (by repeat (first | exact Below.refl _ _ | refine Below.alloc ?_ (by first | omega | (simp; done) | (simp; omega)) _ | refine Below.setCell ?_ (by first | omega | (simp; done) | (simp; omega)) _ | refine Below.drew ?_)) (Below.mono hbel (by first | exact Nat.le_refl _ | simp))
      obtain ⟨cS, fS, zS⟩ := blkC (blkStay HS2.out hb24)
      go_wp2
      refine bodyPost_ret (v := .tuple #[fldV 0 0 0 0 (.slice none 0 0), .int .i64 3]) (by simp [results, Try.results64, go_sem, cS]) rfl ?_
      have z2 := hB2.size
      exact .inr ⟨rfl, .inr ⟨hall, rfl, set5_below (hB2.trans (hb24.mono z2)) _ _ _ _ _ _ (by omega)⟩⟩
end Go.Proofs.Ytihjemookgnafaa

/- The reference's there, row and bilinear. -/
namespace Go.Proofs.Ytihjemookgnafaa
open Go.RowKit Fl
set_option linter.unusedVariables false

set_option maxHeartbeats 1000000 in
theorem refThere_any (X Y : Int) (W H n b cap : Nat) (x y : Int) (c : Bool) (w : World) (h0 : checkR X Y W H = 0) (x1 : -536871000 ≤ x) (x2 : x ≤ 536871000) (y1 : -536871000 ≤ y) (y2 : y ≤ 536871000) (hc : insideB x y 1 1 X Y W H = c) :
    Calls Try.prog 95 #[fldV X Y W H (.slice (some ⟨b, 0, none⟩) n cap), .int .i64 x, .int .i64 y] w fun e w' => e = .returned (.bool c) ∧ Below w.heap.size w w' := by
  obtain ⟨b1, b2, b3, b4, b5, b6, b7, b8, b9⟩ := checkR_zero h0
  have IN := Lib.hid (fun w => refInside_any x y 1 1 X Y W H w (by omega) (by omega) (by omega) (by omega) (by omega) (by omega) (by omega) (by omega) (by omega) (by omega) (by omega) (by omega) (by omega) (by omega) (by omega) (by omega))
  rw [hc] at IN
  clear h0 b1 b2 b3 b4 b5 b6 b7 b8 b9 hc x1 x2 y1 y2
  go_enter Try.func95, Try.ntmps95
  go_wp2_with (first | (go_at_call 23; refine (IN.out _).mono ?_; rintro e w2 ⟨rfl, hb2⟩))
  go_ret
  exact ⟨rfl, Below.trans (by repeat (first | exact Below.refl _ _ | refine Below.alloc ?_ (by first | omega | (simp; done) | (simp; omega)) _ | refine Below.setCell ?_ (by first | omega | (simp; done) | (simp; omega)) _ | refine Below.drew ?_)) (hb2.mono (by simp))⟩

/-- What row holds: the field, the column, the share. -/
structure RCaps (w : World) (X Y : Int) (W H n b cap : Nat) (v : Nat → Nat) (p : Nat) (i : Int) (s : Nat) : Prop where
  fld : w.heap[p]? = some (fldO X Y W H (.slice (some ⟨b, 0, none⟩) n cap))
  col : w.heap[p + 1]? = some (.cells #[.int .i64 i] 3)
  shr : w.heap[p + 1 + 1]? = some (flObj s)
  row : FlAt w b 0 n v
theorem RCaps.stay {w w' : World} {X Y : Int} {W H n b cap : Nat} {v : Nat → Nat} {p : Nat} {i : Int} {s : Nat} (h : RCaps w X Y W H n b cap v p i s) (hn : 1 ≤ n) (hb : Below w.heap.size w w') : RCaps w' X Y W H n b cap v p i s :=
  ⟨blkStay h.fld hb, blkStay h.col hb, blkStay h.shr hb, flAt_congr h.row (hb.block _ (World.block_lt_of_cell? w _ (h.row 0 hn)))⟩

theorem there_row {X Y W H i y : Int} {cs : Bool} : thereB X Y W H i y cs true = (insideB i y 1 1 X Y W H && (cs || insideB (i + 1) y 1 1 X Y W H)) := by
  rw [Bool.eq_iff_iff]
  unfold thereB
  rw [Bool.and_eq_true, Bool.or_eq_true, insideB_iff, insideB_iff, insideB_iff]
  cases cs <;> simp <;> omega

set_option maxHeartbeats 4000000 in
theorem row_no (X Y : Int) (W H n b cap : Nat) (v : Nat → Nat) (p : Nat) (i y : Int) (s : Nat) (cs : Bool) (w : World) (hk : RCaps w X Y W H n b cap v p i s) (h0 : checkR X Y W H = 0) (i1 : -536870912 ≤ i) (i2 : i ≤ 536870912) (y1 : -536870913 ≤ y) (y2 : y ≤ 536870913)
    (hs : (FloatKind.f32.format.order s 0 == some .eq) = cs) (hth : thereB X Y W H i y cs true = false) :
    Calls Try.prog 148 #[.int .i64 y, .pointer (some ⟨p, 0, none⟩), .pointer (some ⟨p + 1, 0, none⟩), .pointer (some ⟨p + 1 + 1, 0, none⟩)] w fun e w' => e = .returned (.tuple #[.float .f32 0, .bool false]) ∧ Below w.heap.size w w' := by
  rw [there_row] at hth
  have hs' : (FloatKind.f32.format.order s 0 != some .eq) = !cs := by rw [bne, hs]
  have GF := Lib.hid hk.fld
  have GC := Lib.hid hk.col
  have GS := Lib.hid hk.shr
  obtain ⟨cF, fF, zF⟩ := blkC hk.fld
  obtain ⟨cC, fC, zC⟩ := blkC hk.col
  obtain ⟨cS, fS, zS⟩ := blkC hk.shr
  cases h1 : insideB i y 1 1 X Y W H with
  | false =>
    have T1 := Lib.hid (fun w => refThere_any X Y W H n b cap i y false w h0 (by omega) (by omega) (by omega) (by omega) h1)
    clear hk h0 h1 hth
    go_enter Try.func148, Try.ntmps148
    go_wp2_with (first | (go_at_call 95; refine (T1.out _).mono ?_; rintro e w2 ⟨rfl, hb2⟩))
    go_ret2
    exact ⟨rfl, hb2⟩
  | true =>
    rw [h1] at hth
    have T1 := Lib.hid (fun w => refThere_any X Y W H n b cap i y true w h0 (by omega) (by omega) (by omega) (by omega) h1)
    cases cs with
    | true => simp at hth
    | false =>
      have h2 : insideB (i + 1) y 1 1 X Y W H = false := by simpa using hth
      have T2 := Lib.hid (fun w => refThere_any X Y W H n b cap (i + 1) y false w h0 (by omega) (by omega) (by omega) (by omega) h2)
      clear hk h0 h1 hth h2
      simp only [Bool.not_false] at hs'
      go_enter Try.func148, Try.ntmps148
      go_wp2_with fail
      refine (T1.out _).mono ?_
      rintro e w2 ⟨rfl, hb2⟩
      obtain ⟨cF2, fF2, zF2⟩ := blkC (blkStay GF.out hb2)
      obtain ⟨cC2, fC2, zC2⟩ := blkC (blkStay GC.out hb2)
      obtain ⟨cS2, fS2, zS2⟩ := blkC (blkStay GS.out hb2)
      have B2 := Lib.hid hb2
      clear hb2 cF fF cC fC cS fS
      go_wp2_with fail
      refine (T2.out _).mono ?_
      rintro e w3 ⟨rfl, hb3⟩
      have B3 := Lib.hid (B2.out.trans (hb3.mono B2.out.size))
      clear hb3 cF2 fF2 cC2 fC2 cS2 fS2
      go_wp2
      go_ret2
      exact ⟨rfl, B3.out⟩

set_option maxHeartbeats 8000000 in
set_option maxRecDepth 100000 in
theorem row_ok (X Y : Int) (W H n b cap : Nat) (v : Nat → Nat) (p : Nat) (i y : Int) (s : Nat) (cs : Bool) (w : World) (hk : RCaps w X Y W H n b cap v p i s) (h0 : checkR X Y W H = 0) (hn : n = W * H) (hh : allB n (fun i => hgtB (v i)) = true)
    (hs : (FloatKind.f32.format.order s 0 == some .eq) = cs) (hth : thereB X Y W H i y cs true = true) (bs : Bd 1 s) :
    Calls Try.prog 148 #[.int .i64 y, .pointer (some ⟨p, 0, none⟩), .pointer (some ⟨p + 1, 0, none⟩), .pointer (some ⟨p + 1 + 1, 0, none⟩)] w fun e w' => e = .returned (.tuple #[.float .f32 (alongW cs s (v (numC X Y W i y)) (v (numC X Y W i y + 1))), .bool true]) ∧ Below w.heap.size w w' := by
  obtain ⟨b1, b2, b3, b4, b5, b6, b7, b8, b9⟩ := checkR_zero h0
  have hnn : n = H * W := by rw [hn]; exact Nat.mul_comm _ _
  have hn2 : n ≤ 65536 := by
    have : ((W : Int) * (H : Int)) = (n : Int) := by rw [hn]; simp
    omega
  rw [there_row, Bool.and_eq_true, Bool.or_eq_true] at hth
  obtain ⟨h1, h2⟩ := hth
  obtain ⟨t1, t2, t3, t4⟩ := insideB_iff.1 h1
  have hkk : ((numC X Y W i y : Nat) : Int) = (y - Y) * W + (i - X) := by
    unfold numC
    have : 0 ≤ (y - Y) * W := Int.mul_nonneg (by omega) (by omega)
    omega
  generalize numC X Y W i y = k at *
  have hkn : k < n := cell_lt (X := X) (Y := Y) (x := i) (y := y) (by omega) t1 (by omega) (by omega) hkk hnn
  have hs' : (FloatKind.f32.format.order s 0 != some .eq) = !cs := by rw [bne, hs]
  have T1 := Lib.hid (fun w => refThere_any X Y W H n b cap i y true w h0 (by omega) (by omega) (by omega) (by omega) h1)
  have GF := Lib.hid hk.fld
  have GC := Lib.hid hk.col
  have GS := Lib.hid hk.shr
  obtain ⟨cF, fF, zF⟩ := blkC hk.fld
  obtain ⟨cC, fC, zC⟩ := blkC hk.col
  obtain ⟨cS, fS, zS⟩ := blkC hk.shr
  have z := World.block_lt_of_cell? w _ (hk.row 0 (by omega))
  have A1 := Lib.hid (fun W' (hb : Below w.heap.size w W') => refAt_any X Y W H n b cap k v i y W' (by omega) (by omega) (by omega) (by omega) (by omega) (by omega) (by omega) t1 (by omega) t2 (by omega) hkk hkn hn2 (flAt_congr hk.row (hb.block _ z)))
  cases cs with
  | true =>
    simp only [Bool.not_true] at hs'
    clear hk h0 h1 h2 b1 b2 b3 b4 b5 b6 b7 b8 b9 hn hnn hh t1 t2 t3 t4 hkk hkn hn2
    go_enter Try.func148, Try.ntmps148
    go_wp2_with fail
    refine (T1.out _).mono ?_
    rintro e w2 ⟨rfl, hb2⟩
    obtain ⟨cF2, fF2, zF2⟩ := blkC (blkStay GF.out hb2)
    obtain ⟨cC2, fC2, zC2⟩ := blkC (blkStay GC.out hb2)
    obtain ⟨cS2, fS2, zS2⟩ := blkC (blkStay GS.out hb2)
    have B2 := Lib.hid hb2
    clear hb2 cF fF cC fC cS fS
    go_wp2_with (first | (go_at_call 90; refine (A1.out _ B2.out).mono ?_; rintro e w3 ⟨rfl, hw3⟩; have B3 := Lib.hid (B2.out.trans (show Below w.heap.size w2 w3 by (rw [← hw3]; exact (Below.refl _ _).alloc B2.out.size _))); clear hw3))
    go_ret2
    exact ⟨rfl, B3.out⟩
  | false =>
    have h3 : insideB (i + 1) y 1 1 X Y W H = true := by simpa using h2
    obtain ⟨u1, u2, u3, u4⟩ := insideB_iff.1 h3
    have hk1 : k + 1 < n := cell_lt (X := X) (Y := Y) (x := i + 1) (y := y) (by omega) (by omega) (by omega) (by omega) (by omega) hnn
    have T2 := Lib.hid (fun w => refThere_any X Y W H n b cap (i + 1) y true w h0 (by omega) (by omega) (by omega) (by omega) h3)
    have A2 := Lib.hid (fun W' (hb : Below w.heap.size w W') => refAt_any X Y W H n b cap (k + 1) v (i + 1) y W' (by omega) (by omega) (by omega) (by omega) (by omega) (by omega) (by omega) (by omega) (by omega) t2 (by omega) (by omega) hk1 hn2 (flAt_congr hk.row (hb.block _ z)))
    obtain ⟨d, q, r, e1, s1, e2, s2, e3, s3, _, _⟩ := mix_parts (i := 20) (j := 1) (by omega) (by omega) (hgt_bd (allB_iff.1 hh k hkn)) (hgt_bd (allB_iff.1 hh (k + 1) hk1)) bs
    have LP := Lib.hid (fun w => lerp_any _ _ _ (v k) (v (k + 1)) s d q r e1 s1 e2 s2 e3 s3 w)
    have HE := Lib.hid (mix_eq e1 e2 e3)
    have i1 : -16777216 ≤ i := by omega
    have i2 : i ≤ 16777216 := by omega
    simp only [Bool.not_false] at hs'
    clear hk h0 h1 h2 b1 b2 b3 b4 b5 b6 b7 b8 b9 hn hnn hh t1 t2 t3 t4 hkk hkn hn2 h3 u1 u2 u3 u4 hk1 e1 s1 e2 s2 e3 s3
    go_enter Try.func148, Try.ntmps148
    go_wp2_with fail
    refine (T1.out _).mono ?_
    rintro e w2 ⟨rfl, hb2⟩
    obtain ⟨cF2, fF2, zF2⟩ := blkC (blkStay GF.out hb2)
    obtain ⟨cC2, fC2, zC2⟩ := blkC (blkStay GC.out hb2)
    obtain ⟨cS2, fS2, zS2⟩ := blkC (blkStay GS.out hb2)
    have B2 := Lib.hid hb2
    clear hb2 cF fF cC fC cS fS
    go_wp2_with fail
    refine (T2.out _).mono ?_
    rintro e w3 ⟨rfl, hb3⟩
    have B3 := Lib.hid (B2.out.trans (hb3.mono B2.out.size))
    have GF3 := Lib.hid (blkStay GF.out B3.out)
    have GC3 := Lib.hid (blkStay GC.out B3.out)
    have GS3 := Lib.hid (blkStay GS.out B3.out)
    clear hb3 cF2 fF2 cC2 fC2 cS2 fS2
    obtain ⟨cF3, fF3, zF3⟩ := blkC GF3.out
    obtain ⟨cC3, fC3, zC3⟩ := blkC GC3.out
    obtain ⟨cS3, fS3, zS3⟩ := blkC GS3.out
    have D1 := Lib.hid (fun W' (hb : Below w3.heap.size w3 W') => A1.out W' (B3.out.trans (hb.mono B3.out.size)))
    have D2 := Lib.hid (fun W' (hb : Below w3.heap.size w3 W') => A2.out W' (B3.out.trans (hb.mono B3.out.size)))
    have u9 : IntKind.i64.wrap (i + 1) = i + 1 := IntWalk.i64_in _ (by omega)
    go_wp2_with fail
    go_region_held3 (fun w' => (∀ o, w'.cell? ⟨p, o, none⟩ = #[.int .i64 X, .int .i64 Y, .int .i64 W, .int .i64 H, .slice (some ⟨b, 0, none⟩) n cap][o]?) ∧ (∀ o, w'.cell? ⟨p + 1, o, none⟩ = #[.int .i64 i][o]?) ∧ (∀ o, w'.cell? ⟨p + 1 + 1, o, none⟩ = #[.float .f32 s][o]?) ∧ Below w3.heap.size w3 w') (first | exact ⟨(blkC (blkStay GF3.out (by repeat (first | exact Below.refl _ _ | refine Below.alloc ?_ (by first | omega | (simp; done) | (simp; omega)) _ | refine Below.setCell ?_ (by first | omega | (simp; done) | (simp; omega)) _ | refine Below.drew ?_)))).1, (blkC (blkStay GC3.out (by repeat (first | exact Below.refl _ _ | refine Below.alloc ?_ (by first | omega | (simp; done) | (simp; omega)) _ | refine Below.setCell ?_ (by first | omega | (simp; done) | (simp; omega)) _ | refine Below.drew ?_)))).1, (blkC (blkStay GS3.out (by repeat (first | exact Below.refl _ _ | refine Below.alloc ?_ (by first | omega | (simp; done) | (simp; omega)) _ | refine Below.setCell ?_ (by first | omega | (simp; done) | (simp; omega)) _ | refine Below.drew ?_)))).1, (by repeat (first | exact Below.refl _ _ | refine Below.alloc ?_ (by first | omega | (simp; done) | (simp; omega)) _ | refine Below.setCell ?_ (by first | omega | (simp; done) | (simp; omega)) _ | refine Below.drew ?_))⟩) (first | (go_at_call 90; (with_reducible refine Calls.mono (D1.out _ ?_) ?_); exact (by repeat (first | exact Below.refl _ _ | refine Below.alloc ?_ (by first | omega | (simp; done) | (simp; omega)) _ | refine Below.setCell ?_ (by first | omega | (simp; done) | (simp; omega)) _ | refine Below.drew ?_)); rintro e w' ⟨rfl, rfl⟩) | (go_at_call 90; (with_reducible refine Calls.mono (D2.out _ ?_) ?_); exact (by repeat (first | exact Below.refl _ _ | refine Below.alloc ?_ (by first | omega | (simp; done) | (simp; omega)) _ | refine Below.setCell ?_ (by first | omega | (simp; done) | (simp; omega)) _ | refine Below.drew ?_)); rintro e w' ⟨rfl, rfl⟩) | (go_at_call 109; refine (LP.out _).mono ?_; rintro e w' ⟨rfl, rfl⟩))
    rename_i wh hHeld
    go_wp2
    go_ret2
    exact ⟨by rw [← HE.out]; rfl, B3.out.trans (hHeld.2.2.2.mono B3.out.size)⟩
end Go.Proofs.Ytihjemookgnafaa

/- The reference's bilinear. -/
namespace Go.Proofs.Ytihjemookgnafaa
open Go.RowKit Fl
set_option linter.unusedVariables false

theorem there_both {X Y W H i j : Int} {cs ct : Bool} : thereB X Y W H i j cs ct = (thereB X Y W H i j cs true && (ct || thereB X Y W H i (j + 1) cs true)) := by
  rw [Bool.eq_iff_iff]
  unfold thereB
  rw [Bool.and_eq_true, Bool.or_eq_true, insideB_iff, insideB_iff, insideB_iff]
  cases cs <;> cases ct <;> simp <;> omega
theorem num_next {X Y i j : Int} {W : Nat} (h1 : X ≤ i) (h2 : Y ≤ j) : numC X Y W i (j + 1) = numC X Y W i j + W := by
  unfold numC
  have : 0 ≤ (j - Y) * W := Int.mul_nonneg (by omega) (by omega)
  have e : (j + 1 - Y) * (W : Int) = (j - Y) * W + W := by rw [show j + 1 - Y = (j - Y) + 1 by omega, Int.add_mul]; omega
  rw [e]; omega

theorem refOut_of (x : Nat) (hx : x < 4294967296) (bb : Nat) (w : World) (h : w.heap[bb]? = some (flObj x)) :
    Calls Try.prog 142 #[.slice (some ⟨bb, 0, none⟩) 1 1] w fun e w' => e = .returned (.int .i64 (if hgtB x then 0 else 3)) ∧ w = w' := by
  have := refOut_row bb 0 1 1 (fun _ => x) (by omega) w (flAt_one_of h) (fun _ _ => hx)
  rw [show allB 1 (fun i => hgtB ((fun _ => x) i)) = hgtB x by simp [allB, List.range_succ]] at this
  exact this

theorem mixW_lt {i x y s : Nat} (hi : i ≤ 60) (bx : Bd i x) (by' : Bd i y) (bs : Bd 1 s) : mixW x y s < 4294967296 := by
  obtain ⟨d, q, r, e1, _, e2, _, e3, _, lr, _⟩ := mix_parts (i := i) (j := 1) hi (by omega) bx by' bs
  rw [mix_eq e1 e2 e3]; exact lr
theorem alongW_lt {cs : Bool} {x y s : Nat} (hx : x < 4294967296) (bx : Bd 20 x) (by' : cs = false → Bd 20 y) (bs : Bd 1 s) : alongW cs s x y < 4294967296 := by
  cases cs with
  | true => exact hx
  | false => exact mixW_lt (by omega) bx (by' rfl) bs

theorem enters_bil1 : Enters 148 := by intro args W; simp [callFunc, Try.func148, Try.f148]

set_option maxHeartbeats 4000000 in
theorem rbil_no (X Y : Int) (W H n b cap : Nat) (v : Nat → Nat) (i j : Int) (s t : Nat) (cs ct : Bool) (w : World) (h0 : checkR X Y W H = 0) (hn : n = W * H) (hc : FlAt w b 0 n v) (hh : allB n (fun i => hgtB (v i)) = true) (i1 : -536870912 ≤ i) (i2 : i ≤ 536870912) (j1 : -536870912 ≤ j) (j2 : j ≤ 536870912)
    (hs : (FloatKind.f32.format.order s 0 == some .eq) = cs) (ht : (FloatKind.f32.format.order t 0 == some .eq) = ct) (hth : thereB X Y W H i j cs ct = false) (bs : Bd 1 s) :
    Calls Try.prog 116 #[fldV X Y W H (.slice (some ⟨b, 0, none⟩) n cap), .int .i64 i, .int .i64 j, .float .f32 s, .float .f32 t] w fun e w' => e = .returned (.tuple #[.float .f32 0, .int .i64 5]) ∧ Below w.heap.size w w' := by
  have n1 : 1 ≤ n := by
    obtain ⟨b1, b2, b3, b4, b5, _⟩ := checkR_zero h0
    rw [hn]; exact Nat.mul_pos (by omega) (by omega)
  have z : b < w.heap.size := World.block_lt_of_cell? w _ (hc 0 n1)
  have RC := Lib.hid (show RCaps (((w.alloc (fldO X Y W H (.slice (some ⟨b, 0, none⟩) n cap))).alloc (.cells #[.int .i64 i] 3)).alloc (flObj s)) X Y W H n b cap v w.heap.size i s from
    ⟨by ((simp only [heap_alloc_get, heap_size_alloc, if_true]) <;> ((repeat' split) <;> first | rfl | omega)), by ((simp only [heap_alloc_get, heap_size_alloc, if_true]) <;> ((repeat' split) <;> first | rfl | omega)), by ((simp only [heap_alloc_get, heap_size_alloc, if_true]) <;> ((repeat' split) <;> first | rfl | omega)), flAt_congr hc ((show Below w.heap.size w _ from (by repeat (first | exact Below.refl _ _ | refine Below.alloc ?_ (by first | omega | (simp; done) | (simp; omega)) _ | refine Below.setCell ?_ (by first | omega | (simp; done) | (simp; omega)) _ | refine Below.drew ?_))).block b z)⟩)
  have hcall := enters_bil1
  unfold Enters at hcall
  rw [there_both] at hth
  cases h1 : thereB X Y W H i j cs true with
  | false =>
    have R1 := Lib.hid (row_no X Y W H n b cap v w.heap.size i j s cs _ RC.out h0 i1 i2 (by omega) (by omega) hs h1)
    clear hc hh h0 hn RC hth h1
    go_enter Try.func116, Try.ntmps116
    go_wp2_with fail
    refine R1.out.mono ?_
    rintro e w2 ⟨rfl, hb2⟩
    have B2 := Lib.hid (Below.trans (show Below w.heap.size w _ from (by repeat (first | exact Below.refl _ _ | refine Below.alloc ?_ (by first | omega | (simp; done) | (simp; omega)) _ | refine Below.setCell ?_ (by first | omega | (simp; done) | (simp; omega)) _ | refine Below.drew ?_))) (hb2.mono (by simp; omega)))
    clear hb2 R1
    go_wp2
    go_ret2
    exact ⟨rfl, B2.out⟩
  | true =>
    rw [h1] at hth
    cases ct with
    | true => simp at hth
    | false =>
      have h2 : thereB X Y W H i (j + 1) cs true = false := by simpa using hth
      have R1 := Lib.hid (row_ok X Y W H n b cap v w.heap.size i j s cs _ RC.out h0 hn hh hs h1 bs)
      have R2 := Lib.hid (fun W' (hb : Below _ _ W') => row_no X Y W H n b cap v w.heap.size i (j + 1) s cs W' (RC.out.stay n1 hb) h0 i1 i2 (by omega) (by omega) hs h2)
      generalize alongW cs s (v (numC X Y W i j)) (v (numC X Y W i j + 1)) = P at *
      clear hc hh h0 hn RC hth h1 h2
      go_enter Try.func116, Try.ntmps116
      go_wp2_with fail
      refine R1.out.mono ?_
      rintro e w2 ⟨rfl, hb2⟩
      have R3 := Lib.hid (R2.out w2 hb2)
      have B2 := Lib.hid (Below.trans (show Below w.heap.size w _ from (by repeat (first | exact Below.refl _ _ | refine Below.alloc ?_ (by first | omega | (simp; done) | (simp; omega)) _ | refine Below.setCell ?_ (by first | omega | (simp; done) | (simp; omega)) _ | refine Below.drew ?_))) (hb2.mono (by simp; omega)))
      clear hb2 R1 R2
      go_wp2_with fail
      refine R3.out.mono ?_
      rintro e w3 ⟨rfl, hb3⟩
      have B3 := Lib.hid (B2.out.trans (hb3.mono B2.out.size))
      clear hb3 R3
      go_wp2
      go_ret2
      exact ⟨rfl, B3.out⟩

set_option maxHeartbeats 4000000 in
theorem rbil_ok (X Y : Int) (W H n b cap : Nat) (v : Nat → Nat) (i j : Int) (s t : Nat) (cs ct : Bool) (w : World) (h0 : checkR X Y W H = 0) (hn : n = W * H) (hc : FlAt w b 0 n v) (hh : allB n (fun i => hgtB (v i)) = true) (hvw : wf32 n v)
    (hs : (FloatKind.f32.format.order s 0 == some .eq) = cs) (ht : (FloatKind.f32.format.order t 0 == some .eq) = ct) (hth : thereB X Y W H i j cs ct = true) (bs : Bd 1 s) (bt : Bd 1 t) :
    Calls Try.prog 116 #[fldV X Y W H (.slice (some ⟨b, 0, none⟩) n cap), .int .i64 i, .int .i64 j, .float .f32 s, .float .f32 t] w fun e w' => e = .returned (.tuple #[.float .f32 (btwW v W (numC X Y W i j) cs ct s t), .int .i64 (if hgtB (btwW v W (numC X Y W i j) cs ct s t) then 0 else 3)]) ∧ Below w.heap.size w w' := by
  obtain ⟨b1, b2, b3, b4, b5, b6, b7, b8, b9⟩ := checkR_zero h0
  have hnn : n = H * W := by rw [hn]; exact Nat.mul_comm _ _
  have n1 : 1 ≤ n := by rw [hn]; exact Nat.mul_pos (by omega) (by omega)
  have z : b < w.heap.size := World.block_lt_of_cell? w _ (hc 0 n1)
  have RC := Lib.hid (show RCaps (((w.alloc (fldO X Y W H (.slice (some ⟨b, 0, none⟩) n cap))).alloc (.cells #[.int .i64 i] 3)).alloc (flObj s)) X Y W H n b cap v w.heap.size i s from
    ⟨by ((simp only [heap_alloc_get, heap_size_alloc, if_true]) <;> ((repeat' split) <;> first | rfl | omega)), by ((simp only [heap_alloc_get, heap_size_alloc, if_true]) <;> ((repeat' split) <;> first | rfl | omega)), by ((simp only [heap_alloc_get, heap_size_alloc, if_true]) <;> ((repeat' split) <;> first | rfl | omega)), flAt_congr hc ((show Below w.heap.size w _ from (by repeat (first | exact Below.refl _ _ | refine Below.alloc ?_ (by first | omega | (simp; done) | (simp; omega)) _ | refine Below.setCell ?_ (by first | omega | (simp; done) | (simp; omega)) _ | refine Below.drew ?_))).block b z)⟩)
  have hcall := enters_bil1
  unfold Enters at hcall
  have hth' : X ≤ i ∧ Y ≤ j ∧ i + (if cs then 1 else 2) ≤ X + W ∧ j + (if ct then 1 else 2) ≤ Y + H := insideB_iff.1 hth
  obtain ⟨t1, t2, t3, t4⟩ := hth'
  have t5 : i + 1 ≤ X + W := by cases cs <;> simp at t3 <;> omega
  have t6 : j + 1 ≤ Y + H := by cases ct <;> simp at t4 <;> omega
  have hk : ((numC X Y W i j : Nat) : Int) = (j - Y) * W + (i - X) := by
    unfold numC
    have : 0 ≤ (j - Y) * W := Int.mul_nonneg (by omega) (by omega)
    omega
  have hkn : numC X Y W i j < n := cell_lt (X := X) (Y := Y) (x := i) (y := j) (by omega) t1 (by omega) (by omega) hk hnn
  have hk1 : cs = false → numC X Y W i j + 1 < n := fun h => by
    rw [h] at t3; simp at t3
    exact cell_lt (X := X) (Y := Y) (x := i + 1) (y := j) (by omega) (by omega) (by omega) (by omega) (by omega) hnn
  have hb20 : ∀ m, m < n → Bd 20 (v m) := fun m hm => hgt_bd (allB_iff.1 hh m hm)
  have la := alongW_lt (s := s) (hvw _ hkn) (hb20 _ hkn) (fun h => hb20 _ (hk1 h)) bs
  have pa := along_bd (cs := cs) (s := s) (hb20 _ hkn) (fun h => hb20 _ (hk1 h)) bs
  rw [there_both, Bool.and_eq_true, Bool.or_eq_true] at hth
  obtain ⟨h1, h2⟩ := hth
  have R1 := Lib.hid (row_ok X Y W H n b cap v w.heap.size i j s cs _ RC.out h0 hn hh hs h1 bs)
  cases ct with
  | true =>
    show Calls _ _ _ _ fun e w' => e = .returned (.tuple #[.float .f32 (alongW cs s (v (numC X Y W i j)) (v (numC X Y W i j + 1))), .int .i64 (if hgtB (alongW cs s (v (numC X Y W i j)) (v (numC X Y W i j + 1))) then 0 else 3)]) ∧ _
    generalize alongW cs s (v (numC X Y W i j)) (v (numC X Y W i j + 1)) = P at *
    have OT := Lib.hid (fun bb w => refOut_of P la bb w)
    generalize (if hgtB P = true then (0 : Int) else 3) = er at *
    clear hc hh h0 hn RC h1 h2 b1 b2 b3 b4 b5 b6 b7 b8 b9 hnn t1 t2 t3 t4 t5 t6 hk hkn hk1 hb20 pa la
    go_enter Try.func116, Try.ntmps116
    go_wp2_with fail
    refine R1.out.mono ?_
    rintro e w2 ⟨rfl, hb2⟩
    have B2 := Lib.hid (Below.trans (show Below w.heap.size w _ from (by repeat (first | exact Below.refl _ _ | refine Below.alloc ?_ (by first | omega | (simp; done) | (simp; omega)) _ | refine Below.setCell ?_ (by first | omega | (simp; done) | (simp; omega)) _ | refine Below.drew ?_))) (hb2.mono (by simp; omega)))
    clear hb2 R1
    go_wp2_with (first | (go_at_call 142; refine (OT.out _ _ (by ((simp only [heap_alloc_get, if_true]) <;> ((repeat' split) <;> first | rfl | omega)))).mono ?_; rintro e w3 ⟨rfl, rfl⟩))
    go_ret2
    exact ⟨rfl, (B2.out).alloc B2.out.size _⟩
  | false =>
    have h3 : thereB X Y W H i (j + 1) cs true = true := by simpa using h2
    simp at t4
    have hkW : numC X Y W i j + W < n := cell_lt (X := X) (Y := Y) (x := i) (y := j + 1) (by omega) t1 (by omega) (by omega) (by rw [show (j + 1 - Y) = (j - Y) + 1 by omega, Int.add_mul]; omega) hnn
    have hkW1 : cs = false → numC X Y W i j + W + 1 < n := fun h => by
      rw [h] at t3; simp at t3
      exact cell_lt (X := X) (Y := Y) (x := i + 1) (y := j + 1) (by omega) (by omega) (by omega) (by omega) (by rw [show (j + 1 - Y) = (j - Y) + 1 by omega, Int.add_mul]; omega) hnn
    have pb := along_bd (cs := cs) (s := s) (hb20 _ hkW) (fun h => hb20 _ (hkW1 h)) bs
    have R2 := Lib.hid (fun W' (hb : Below _ _ W') => row_ok X Y W H n b cap v w.heap.size i (j + 1) s cs W' (RC.out.stay n1 hb) h0 hn hh hs h3 bs)
    rw [num_next t1 t2] at R2
    show Calls _ _ _ _ fun e w' => e = .returned (.tuple #[.float .f32 (mixW (alongW cs s (v (numC X Y W i j)) (v (numC X Y W i j + 1))) (alongW cs s (v (numC X Y W i j + W)) (v (numC X Y W i j + W + 1))) t), .int .i64 (if hgtB (mixW (alongW cs s (v (numC X Y W i j)) (v (numC X Y W i j + 1))) (alongW cs s (v (numC X Y W i j + W)) (v (numC X Y W i j + W + 1))) t) then 0 else 3)]) ∧ _
    generalize alongW cs s (v (numC X Y W i j)) (v (numC X Y W i j + 1)) = P at *
    generalize alongW cs s (v (numC X Y W i j + W)) (v (numC X Y W i j + W + 1)) = Q at *
    obtain ⟨d, q, r, e1, s1, e2, s2, e3, s3, lr, _⟩ := mix_parts (i := 23) (j := 1) (by omega) (by omega) pa pb bt
    rw [mix_eq e1 e2 e3]
    have LP := Lib.hid (fun w => lerp_any _ _ _ P Q t d q r e1 s1 e2 s2 e3 s3 w)
    have OT := Lib.hid (fun bb w => refOut_of r lr bb w)
    generalize (if hgtB r = true then (0 : Int) else 3) = er at *
    have j1 : -16777216 ≤ j := by omega
    have j2 : j ≤ 16777216 := by omega
    clear hc hh h0 hn RC h1 h2 h3 b1 b2 b3 b4 b5 b6 b7 b8 b9 hnn t1 t2 t3 t4 t5 t6 hk hkn hk1 hkW hkW1 hb20 pa pb la e1 s1 e2 s2 e3 s3 lr
    go_enter Try.func116, Try.ntmps116
    go_wp2_with fail
    refine R1.out.mono ?_
    rintro e w2 ⟨rfl, hb2⟩
    have R3 := Lib.hid (R2.out w2 hb2)
    have B2 := Lib.hid (Below.trans (show Below w.heap.size w _ from (by repeat (first | exact Below.refl _ _ | refine Below.alloc ?_ (by first | omega | (simp; done) | (simp; omega)) _ | refine Below.setCell ?_ (by first | omega | (simp; done) | (simp; omega)) _ | refine Below.drew ?_))) (hb2.mono (by simp; omega)))
    clear hb2 R1 R2
    go_wp2_with fail
    refine R3.out.mono ?_
    rintro e w3 ⟨rfl, hb3⟩
    have B3 := Lib.hid (B2.out.trans (hb3.mono B2.out.size))
    clear hb3 R3
    go_wp2_with (first | (go_at_call 109; refine (LP.out _).mono ?_; rintro e w' ⟨rfl, rfl⟩) | (go_at_call 142; refine (OT.out _ _ (by ((simp only [heap_alloc_get, if_true]) <;> ((repeat' split) <;> first | rfl | omega)))).mono ?_; rintro e w4 ⟨rfl, rfl⟩))
    go_ret2
    exact ⟨rfl, (B3.out).alloc B3.out.size _⟩
end Go.Proofs.Ytihjemookgnafaa

/- Bilinear of the program. -/
namespace Go.Proofs.Ytihjemookgnafaa
open Go.RowKit Fl
set_option linter.unusedVariables false

/-- A place of magnitude 2 ^ 23 at most, its floor, its share. -/
structure NearAt (x : Nat) (g : Int) (s : Nat) (cs : Bool) : Prop where
  fin : finB x = true
  flo : ∀ w, Calls Try.prog 112 #[.float .f32 x] w fun e w' => e = .returned (.float .f32 (flW x)) ∧ w = w'
  rflo : ∀ w, Calls Try.prog 115 #[.float .f32 x] w fun e w' => e = .returned (.float .f32 (flW x)) ∧ w = w'
  int : floatToIntVal .f32 (flW x) .i64 = some g
  sub : floatBits .sub .f32 x (flW x) = some s
  same : Same2 .sub 25 x (flW x)
  cs1 : (FloatKind.f32.format.order s 0 == some .eq) = cs
  bs : Bd 1 s
  lo : -8388608 ≤ g
  hi : g ≤ 8388608

theorem near_parts {x : Nat} {a : Int} (ha : vS x = some a) (hb : a.natAbs ≤ 8388608 * one) : ∃ s cs, NearAt x (a / (one : Int)) s cs := by
  obtain ⟨J, hJ⟩ : ∃ J : Nat, J = 1074 := ⟨_, rfl⟩
  have e23 : 2 ^ (23 + J) = 8388608 * one := by rw [one_pow hJ, Nat.pow_add]
  have bx : Bd 23 x := bd_val' (j := 23 + J) ha (by omega) (by rw [e23]; exact hb)
  obtain ⟨_, _, _, _, _, _, _, _, _, hv⟩ := floor_parts ha bx (by omega)
  have bf := fl_bd bx (by omega)
  have S : Same2 .sub 25 x (flW x) := sub_same (k := 24) (by omega) (bd_up bx (by omega)) bf
  obtain ⟨_, _, _, s, _, _, _, _, es, _⟩ := S.ex
  obtain ⟨n1, n2⟩ := flV_near a
  have hp : (0 : Int) < (one : Int) := Int.natCast_pos.2 one_pos
  have g1 : -8388608 ≤ a / (one : Int) := by
    rw [Int.le_ediv_iff_mul_le hp]; generalize one = O at *; omega
  have g2 : a / (one : Int) ≤ 8388608 := by
    have := Int.ediv_le_ediv hp (show a ≤ 8388608 * (one : Int) by generalize one = O at *; omega)
    rwa [Int.mul_ediv_cancel _ (Int.ne_of_gt hp)] at this
  have hs : vS s = some (rdS (a - flV a)) := by
    obtain ⟨B, hB⟩ : ∃ B : Nat, B = 1100 := ⟨_, rfl⟩
    refine vS_sub (B := B) es ha hv ?_ (by omega)
    refine small_of (n := 0) (by omega) ?_ (by omega)
    rw [Nat.pow_zero]; generalize one = O at *; omega
  have r0 := rdS_nonneg (show 0 ≤ a - flV a by omega)
  have r1 : rdS (a - flV a) ≤ (one : Int) := by
    have := rdS_mono (show a - flV a ≤ (one : Int) by omega)
    rwa [rdS_self vS_one] at this
  have bs : Bd 1 s := bd_up (bd_unit hs (by omega) r1) (by omega)
  refine ⟨s, _, ⟨?_, fun w => floor_any x 23 a ha bx (by omega) w, fun w => refFloor_any x 23 a ha bx (by omega) w, toInt_whole hv (by omega) (by omega), es, S, rfl, bs, g1, g2⟩⟩
  unfold finB; rw [ha]; rfl

/-- isNear as words. -/
def nearB (x : Nat) : Bool := (FloatKind.f32.format.order 3397386240 x == some .lt || FloatKind.f32.format.order 3397386240 x == some .eq) && (FloatKind.f32.format.order x 1249902592 == some .lt || FloatKind.f32.format.order x 1249902592 == some .eq)
theorem vS_p22 : vS 1249902592 = some (4194304 * (one : Int)) := by
  have h : Ieee.single.read 1249902592 = .number false 8388608 (-1) := by decide
  obtain ⟨j, hj⟩ : ∃ j : Nat, j = 1074 := ⟨_, rfl⟩
  rw [vS_lit (t := 4194304) (k := 1) (j := j) h (by decide) (by rw [hj]; decide), one_pow hj]; simp
theorem vS_m22 : vS 3397386240 = some (-(4194304 * (one : Int))) := by
  have h : Ieee.single.read 3397386240 = .number true 8388608 (-1) := by decide
  obtain ⟨j, hj⟩ : ∃ j : Nat, j = 1074 := ⟨_, rfl⟩
  rw [vS_lit (t := 4194304) (k := 1) (j := j) h (by decide) (by rw [hj]; decide), one_pow hj]; simp
theorem vS_p23 : vS 1258291200 = some (8388608 * (one : Int)) := by
  have h : Ieee.single.read 1258291200 = .number false 8388608 0 := by decide
  obtain ⟨j, hj⟩ : ∃ j : Nat, j = 1074 := ⟨_, rfl⟩
  rw [vS_lit (t := 8388608) (k := 0) (j := j) h (by decide) (by rw [hj]; decide), one_pow hj]; simp
theorem near_val {x : Nat} {a : Int} (h : vS x = some a) : nearB x = decide (-(4194304 * (one : Int)) ≤ a ∧ a ≤ 4194304 * (one : Int)) := by
  unfold nearB
  rw [f32f, leq_val vS_m22 h, leq_val h vS_p22]; simp

set_option maxHeartbeats 400000 in
theorem isNear_any (x : Nat) (w : World) :
    Calls Try.prog 111 #[.float .f32 x] w fun e w' => e = .returned (.bool (nearB x)) ∧ w = w' := by
  unfold nearB
  go_enter Try.func111, Try.ntmps111
  go_wp2
  all_goals go_ret
  · exact ⟨rfl, rfl⟩
  · rename_i h
    refine ⟨ret_bool (Eq.symm ?_), rfl⟩
    rw [Bool.and_eq_false_iff]; left
    simpa using h

set_option maxHeartbeats 400000 in
theorem height_any (x : Nat) (w : World) :
    Calls Try.prog 114 #[.float .f32 x] w fun e w' => e = .returned (.tuple #[.float .f32 (if hgtB x then x else 0), .int .i64 (if hgtB x then 0 else 3)]) ∧ w = w' := by
  have IH := Lib.hid (fun w => isHeight_any x w)
  cases h : hgtB x
  all_goals
    rw [h] at IH
    clear h
    go_enter Try.func114, Try.ntmps114
    go_wp2_with (go_at_call 147; refine (IH.out _).mono ?_; rintro e w' ⟨rfl, rfl⟩)
    go_ret2
    exact ⟨rfl, rfl⟩

section
variable (X Y : Int) (W H n b cap : Nat) (v : Nat → Nat) (x y : Nat) (w : World)

set_option maxHeartbeats 2000000 in
theorem bil_form (h0 : checkR X Y W H = 0) (hn : n = W * H) (hc : FlAt w b 0 n v) (hh : allB n (fun i => hgtB (v i)) = true) (hf : finB x = false ∨ finB y = false) :
    Calls Try.prog 44 #[fldV X Y W H (.slice (some ⟨b, 0, none⟩) n cap), .float .f32 x, .float .f32 y] w fun e w' => e = .returned (.tuple #[.float .f32 0, .int .i64 2]) ∧ Below w.heap.size w w' := by
  have hlt : b < w.heap.size := World.block_lt_of_cell? w _ (hc 0 (by
    obtain ⟨b1, b2, b3, b4, b5, _⟩ := checkR_zero h0
    rw [hn]; exact Nat.mul_pos (by omega) (by omega)))
  have CK := Lib.hid (fun W' (hb : Below w.heap.size w W') => check_ok X Y W H n b cap v W' h0 hn (flAt_congr hc (hb.block _ hlt)) hh)
  have F1 := Lib.hid (fun w => isFinite_any x w)
  have F2 := Lib.hid (fun w => isFinite_any y w)
  clear h0 hn hc hh
  cases hx : finB x with
  | false =>
    rw [hx] at F1
    clear hf hx
    go_enter Try.func44, Try.ntmps44
    go_wp2_with (first | (go_at_call 82; refine (CK.out _ (by repeat (first | exact Below.refl _ _ | refine Below.alloc ?_ (by first | omega | (simp; done) | (simp; omega)) _ | refine Below.setCell ?_ (by first | omega | (simp; done) | (simp; omega)) _ | refine Below.drew ?_))).mono ?_; rintro e w2 ⟨rfl, hb2⟩; have B2 := Lib.hid (Below.trans (show Below w.heap.size w _ from (by repeat (first | exact Below.refl _ _ | refine Below.alloc ?_ (by first | omega | (simp; done) | (simp; omega)) _ | refine Below.setCell ?_ (by first | omega | (simp; done) | (simp; omega)) _ | refine Below.drew ?_))) (hb2.mono (by simp))); clear hb2) | (go_at_call 110; refine (F1.out _).mono ?_; rintro e w' ⟨rfl, rfl⟩))
    go_ret2
    exact ⟨rfl, B2.out⟩
  | true =>
    have hy : finB y = false := by rcases hf with h | h; rw [hx] at h; cases h; exact h
    rw [hx] at F1
    rw [hy] at F2
    clear hf hx hy
    go_enter Try.func44, Try.ntmps44
    go_wp2_with (first | (go_at_call 82; refine (CK.out _ (by repeat (first | exact Below.refl _ _ | refine Below.alloc ?_ (by first | omega | (simp; done) | (simp; omega)) _ | refine Below.setCell ?_ (by first | omega | (simp; done) | (simp; omega)) _ | refine Below.drew ?_))).mono ?_; rintro e w2 ⟨rfl, hb2⟩; have B2 := Lib.hid (Below.trans (show Below w.heap.size w _ from (by repeat (first | exact Below.refl _ _ | refine Below.alloc ?_ (by first | omega | (simp; done) | (simp; omega)) _ | refine Below.setCell ?_ (by first | omega | (simp; done) | (simp; omega)) _ | refine Below.drew ?_))) (hb2.mono (by simp))); clear hb2))
    go_wp2_with (first | (go_at_call 110; (with_reducible refine (F1.out _).mono ?_); rintro e w' ⟨rfl, rfl⟩) | (go_at_call 110; (with_reducible refine (F2.out _).mono ?_); rintro e w' ⟨rfl, rfl⟩))
    go_ret2
    exact ⟨rfl, B2.out⟩

set_option maxHeartbeats 2000000 in
theorem bil_far (h0 : checkR X Y W H = 0) (hn : n = W * H) (hc : FlAt w b 0 n v) (hh : allB n (fun i => hgtB (v i)) = true) (hx : finB x = true) (hy : finB y = true) (hf : nearB x = false ∨ nearB y = false) :
    Calls Try.prog 44 #[fldV X Y W H (.slice (some ⟨b, 0, none⟩) n cap), .float .f32 x, .float .f32 y] w fun e w' => e = .returned (.tuple #[.float .f32 0, .int .i64 5]) ∧ Below w.heap.size w w' := by
  have hlt : b < w.heap.size := World.block_lt_of_cell? w _ (hc 0 (by
    obtain ⟨b1, b2, b3, b4, b5, _⟩ := checkR_zero h0
    rw [hn]; exact Nat.mul_pos (by omega) (by omega)))
  have CK := Lib.hid (fun W' (hb : Below w.heap.size w W') => check_ok X Y W H n b cap v W' h0 hn (flAt_congr hc (hb.block _ hlt)) hh)
  have F1 := Lib.hid (fun w => isFinite_any x w)
  have F2 := Lib.hid (fun w => isFinite_any y w)
  have N1 := Lib.hid (fun w => isNear_any x w)
  have N2 := Lib.hid (fun w => isNear_any y w)
  rw [hx] at F1
  rw [hy] at F2
  clear h0 hn hc hh hx hy
  cases hx : nearB x with
  | false =>
    rw [hx] at N1
    clear hf hx
    go_enter Try.func44, Try.ntmps44
    go_wp2_with (first | (go_at_call 82; refine (CK.out _ (by repeat (first | exact Below.refl _ _ | refine Below.alloc ?_ (by first | omega | (simp; done) | (simp; omega)) _ | refine Below.setCell ?_ (by first | omega | (simp; done) | (simp; omega)) _ | refine Below.drew ?_))).mono ?_; rintro e w2 ⟨rfl, hb2⟩; have B2 := Lib.hid (Below.trans (show Below w.heap.size w _ from (by repeat (first | exact Below.refl _ _ | refine Below.alloc ?_ (by first | omega | (simp; done) | (simp; omega)) _ | refine Below.setCell ?_ (by first | omega | (simp; done) | (simp; omega)) _ | refine Below.drew ?_))) (hb2.mono (by simp))); clear hb2) | (go_at_call 110; (with_reducible refine (F1.out _).mono ?_); rintro e w' ⟨rfl, rfl⟩) | (go_at_call 110; (with_reducible refine (F2.out _).mono ?_); rintro e w' ⟨rfl, rfl⟩) | (go_at_call 111; (with_reducible refine (N1.out _).mono ?_); rintro e w' ⟨rfl, rfl⟩))
    go_ret2
    exact ⟨rfl, B2.out⟩
  | true =>
    have hy : nearB y = false := by rcases hf with h | h; rw [hx] at h; cases h; exact h
    rw [hx] at N1
    rw [hy] at N2
    clear hf hx hy
    go_enter Try.func44, Try.ntmps44
    go_wp2_with (first | (go_at_call 82; refine (CK.out _ (by repeat (first | exact Below.refl _ _ | refine Below.alloc ?_ (by first | omega | (simp; done) | (simp; omega)) _ | refine Below.setCell ?_ (by first | omega | (simp; done) | (simp; omega)) _ | refine Below.drew ?_))).mono ?_; rintro e w2 ⟨rfl, hb2⟩; have B2 := Lib.hid (Below.trans (show Below w.heap.size w _ from (by repeat (first | exact Below.refl _ _ | refine Below.alloc ?_ (by first | omega | (simp; done) | (simp; omega)) _ | refine Below.setCell ?_ (by first | omega | (simp; done) | (simp; omega)) _ | refine Below.drew ?_))) (hb2.mono (by simp))); clear hb2) | (go_at_call 110; (with_reducible refine (F1.out _).mono ?_); rintro e w' ⟨rfl, rfl⟩) | (go_at_call 110; (with_reducible refine (F2.out _).mono ?_); rintro e w' ⟨rfl, rfl⟩) | (go_at_call 111; (with_reducible refine (N1.out _).mono ?_); rintro e w' ⟨rfl, rfl⟩) | (go_at_call 111; (with_reducible refine (N2.out _).mono ?_); rintro e w' ⟨rfl, rfl⟩))
    go_ret2
    exact ⟨rfl, B2.out⟩

/-- What Bilinear answers where both coordinates are near. -/
def bilV (g h : Int) (s t : Nat) (cs ct : Bool) : Nat := if thereB X Y W H g h cs ct then (if hgtB (btwW v W (numC X Y W g h) cs ct s t) then btwW v W (numC X Y W g h) cs ct s t else 0) else 0
def bilE (g h : Int) (s t : Nat) (cs ct : Bool) : Int := if thereB X Y W H g h cs ct then (if hgtB (btwW v W (numC X Y W g h) cs ct s t) then 0 else 3) else 5

set_option maxHeartbeats 4000000 in
theorem bil_near (h0 : checkR X Y W H = 0) (hn : n = W * H) (hcap : n ≤ cap) (hc : FlAt w b 0 n v) (hh : allB n (fun i => hgtB (v i)) = true) {g h : Int} {s t : Nat} {cs ct : Bool} (A : NearAt x g s cs) (B : NearAt y h t ct) (nx : nearB x = true) (ny : nearB y = true) :
    Calls Try.prog 44 #[fldV X Y W H (.slice (some ⟨b, 0, none⟩) n cap), .float .f32 x, .float .f32 y] w fun e w' => e = .returned (.tuple #[.float .f32 (bilV X Y W H v g h s t cs ct), .int .i64 (bilE X Y W H v g h s t cs ct)]) ∧ Below w.heap.size w w' := by
  have hlt : b < w.heap.size := World.block_lt_of_cell? w _ (hc 0 (by
    obtain ⟨b1, b2, b3, b4, b5, _⟩ := checkR_zero h0
    rw [hn]; exact Nat.mul_pos (by omega) (by omega)))
  have CK := Lib.hid (fun W' (hb : Below w.heap.size w W') => check_ok X Y W H n b cap v W' h0 hn (flAt_congr hc (hb.block _ hlt)) hh)
  have F1 := Lib.hid (fun w => isFinite_any x w)
  have F2 := Lib.hid (fun w => isFinite_any y w)
  have N1 := Lib.hid (fun w => isNear_any x w)
  have N2 := Lib.hid (fun w => isNear_any y w)
  rw [A.fin] at F1
  rw [B.fin] at F2
  rw [nx] at N1
  rw [ny] at N2
  have FX := Lib.hid A.flo
  have FY := Lib.hid B.flo
  have c1 := fun (W : World) => run_convert_float_int (P := Try.prog) W 37 3 .f32 .i64 (flW x) g (by kernel_rfl) Try.underlying3 A.int
  have c2 := fun (W : World) => run_convert_float_int (P := Try.prog) W 37 3 .f32 .i64 (flW y) h (by kernel_rfl) Try.underlying3 B.int
  have a1 := fun (W : World) => run_float_arith (P := Try.prog) W .sub 37 .f32 x (flW x) s A.sub
  have a2 := fun (W : World) => run_float_arith (P := Try.prog) W .sub 37 .f32 y (flW y) t B.sub
  have g1 := A.lo
  have g2 := A.hi
  have g3 := B.lo
  have g4 := B.hi
  unfold bilV bilE
  cases hth : thereB X Y W H g h cs ct with
  | false =>
    have BT := Lib.hid (fun w => between_no X Y W H n b cap g h s t cs ct w h0 (by omega) (by omega) (by omega) (by omega) A.cs1 B.cs1 hth)
    clear h0 hn hc hh hth A B nx ny
    go_enter Try.func44, Try.ntmps44
    go_wp2_with (first | (go_at_call 82; refine (CK.out _ (by repeat (first | exact Below.refl _ _ | refine Below.alloc ?_ (by first | omega | (simp; done) | (simp; omega)) _ | refine Below.setCell ?_ (by first | omega | (simp; done) | (simp; omega)) _ | refine Below.drew ?_))).mono ?_; rintro e w2 ⟨rfl, hb2⟩; have B2 := Lib.hid (Below.trans (show Below w.heap.size w _ from (by repeat (first | exact Below.refl _ _ | refine Below.alloc ?_ (by first | omega | (simp; done) | (simp; omega)) _ | refine Below.setCell ?_ (by first | omega | (simp; done) | (simp; omega)) _ | refine Below.drew ?_))) (hb2.mono (by simp))); obtain ⟨cA, fA, zA⟩ := blkC (blkStay (b := w.heap.size) (o := fldO X Y W H (.slice (some ⟨b, 0, none⟩) n cap)) (by ((simp only [heap_alloc_get, if_true]) <;> ((repeat' split) <;> first | rfl | omega))) hb2); clear hb2) | (go_at_call 110; (with_reducible refine (F1.out _).mono ?_); rintro e w' ⟨rfl, rfl⟩) | (go_at_call 110; (with_reducible refine (F2.out _).mono ?_); rintro e w' ⟨rfl, rfl⟩) | (go_at_call 111; (with_reducible refine (N1.out _).mono ?_); rintro e w' ⟨rfl, rfl⟩) | (go_at_call 111; (with_reducible refine (N2.out _).mono ?_); rintro e w' ⟨rfl, rfl⟩) | (go_at_call 112; (with_reducible refine (FX.out _).mono ?_); rintro e w' ⟨rfl, rfl⟩) | (go_at_call 112; (with_reducible refine (FY.out _).mono ?_); rintro e w' ⟨rfl, rfl⟩) | (go_at_call 113; refine (BT.out _).mono ?_; rintro e w3 ⟨rfl, hb3⟩; have B3 := Lib.hid (B2.out.trans (hb3.mono B2.out.size)); clear hb3))
    go_ret2
    exact ⟨rfl, B3.out⟩
  | true =>
    have BT := Lib.hid (fun W' (hb : Below w.heap.size w W') => between_ok X Y W H n b cap v g h s t cs ct W' h0 hn hcap (flAt_congr hc (hb.block _ hlt)) hh A.cs1 B.cs1 hth A.bs B.bs)
    have HT := Lib.hid (fun w => height_any (btwW v W (numC X Y W g h) cs ct s t) w)
    simp only [if_true]
    generalize btwW v W (numC X Y W g h) cs ct s t = P at *
    generalize (if hgtB P = true then P else 0) = V at *
    generalize (if hgtB P = true then (0 : Int) else 3) = er at *
    clear h0 hn hc hh hth A B nx ny
    go_enter Try.func44, Try.ntmps44
    go_wp2_with (first | (go_at_call 82; refine (CK.out _ (by repeat (first | exact Below.refl _ _ | refine Below.alloc ?_ (by first | omega | (simp; done) | (simp; omega)) _ | refine Below.setCell ?_ (by first | omega | (simp; done) | (simp; omega)) _ | refine Below.drew ?_))).mono ?_; rintro e w2 ⟨rfl, hb2⟩; have B2 := Lib.hid (Below.trans (show Below w.heap.size w _ from (by repeat (first | exact Below.refl _ _ | refine Below.alloc ?_ (by first | omega | (simp; done) | (simp; omega)) _ | refine Below.setCell ?_ (by first | omega | (simp; done) | (simp; omega)) _ | refine Below.drew ?_))) (hb2.mono (by simp))); obtain ⟨cA, fA, zA⟩ := blkC (blkStay (b := w.heap.size) (o := fldO X Y W H (.slice (some ⟨b, 0, none⟩) n cap)) (by ((simp only [heap_alloc_get, if_true]) <;> ((repeat' split) <;> first | rfl | omega))) hb2); clear hb2) | (go_at_call 110; (with_reducible refine (F1.out _).mono ?_); rintro e w' ⟨rfl, rfl⟩) | (go_at_call 110; (with_reducible refine (F2.out _).mono ?_); rintro e w' ⟨rfl, rfl⟩) | (go_at_call 111; (with_reducible refine (N1.out _).mono ?_); rintro e w' ⟨rfl, rfl⟩) | (go_at_call 111; (with_reducible refine (N2.out _).mono ?_); rintro e w' ⟨rfl, rfl⟩) | (go_at_call 112; (with_reducible refine (FX.out _).mono ?_); rintro e w' ⟨rfl, rfl⟩) | (go_at_call 112; (with_reducible refine (FY.out _).mono ?_); rintro e w' ⟨rfl, rfl⟩) | (go_at_call 113; refine (BT.out _ B2.out).mono ?_; rintro e w3 ⟨rfl, hb3⟩; have B3 := Lib.hid (B2.out.trans (hb3.mono B2.out.size)); clear hb3) | (go_at_call 114; refine (HT.out _).mono ?_; rintro e w' ⟨rfl, rfl⟩))
    go_ret2
    exact ⟨rfl, B3.out⟩
end
end Go.Proofs.Ytihjemookgnafaa

/- Bilinear of the reference. -/
namespace Go.Proofs.Ytihjemookgnafaa
open Go.RowKit Fl
set_option linter.unusedVariables false

theorem abs_gt {x : Nat} {a : Int} (h : vS x = some a) : (FloatKind.f32.format.order (x % 2147483648) 1258291200 == some .gt) = decide (8388608 * (one : Int) < (a.natAbs : Int)) := by
  rw [f32f, gtr_val (abs_val h) vS_p23]
theorem form_no {x : Nat} (h : finB x = true) : (fldE 1 (fun _ => x) == (2 : Int)) = false := by
  cases hg : hgtB x <;> simp [fldE, hgtE, allB, List.range_succ, h, hg]
theorem form_yes {x : Nat} (h : finB x = false) : fldE 1 (fun _ => x) = 2 := by simp [fldE, allB, List.range_succ, h]

section
variable (X Y : Int) (W H n b cap : Nat) (v : Nat → Nat) (x y : Nat) (w : World) (lx : x < 4294967296) (ly : y < 4294967296)
include lx ly

set_option maxHeartbeats 2000000 in
theorem rbil_form (hf : finB x = false ∨ finB y = false) :
    Calls Try.prog 45 #[fldV X Y W H (.slice (some ⟨b, 0, none⟩) n cap), .float .f32 x, .float .f32 y] w fun e w' => e = .returned (.tuple #[.float .f32 0, .int .i64 2]) ∧ Below w.heap.size w w' := by
  have H1 := Lib.hid (fun bb w => refHeight_of x lx bb w)
  have H2 := Lib.hid (fun bb w => refHeight_of y ly bb w)
  cases hx : finB x with
  | false =>
    rw [form_yes hx] at H1
    clear hf hx
    go_enter Try.func45, Try.ntmps45
    go_wp2_with (first | (go_at_call 26; refine (H1.out _ _ (by ((simp only [heap_alloc_get, heap_size_alloc, if_true]) <;> ((repeat' split) <;> first | rfl | omega)))).mono ?_; rintro e w2 ⟨rfl, rfl⟩))
    go_ret2
    exact ⟨rfl, (by repeat (first | exact Below.refl _ _ | refine Below.alloc ?_ (by first | omega | (simp; done) | (simp; omega)) _ | refine Below.setCell ?_ (by first | omega | (simp; done) | (simp; omega)) _ | refine Below.drew ?_))⟩
  | true =>
    have hy : finB y = false := by rcases hf with h | h; rw [hx] at h; cases h; exact h
    rw [form_yes hy] at H2
    have e1 := form_no hx
    generalize fldE 1 (fun _ => x) = ex at *
    clear hf hx hy
    go_enter Try.func45, Try.ntmps45
    go_wp2_with fail
    refine (H1.out _ _ (by ((simp only [heap_alloc_get, heap_size_alloc, if_true]) <;> ((repeat' split) <;> first | rfl | omega)))).mono ?_
    rintro e w2 ⟨rfl, rfl⟩
    go_wp2_with (first | (go_at_call 26; refine (H2.out _ _ (by ((simp only [heap_alloc_get, heap_size_alloc, if_true]) <;> ((repeat' split) <;> first | rfl | omega)))).mono ?_; rintro e w2 ⟨rfl, rfl⟩))
    go_ret2
    exact ⟨rfl, (by repeat (first | exact Below.refl _ _ | refine Below.alloc ?_ (by first | omega | (simp; done) | (simp; omega)) _ | refine Below.setCell ?_ (by first | omega | (simp; done) | (simp; omega)) _ | refine Below.drew ?_))⟩

set_option maxHeartbeats 2000000 in
theorem rbil_far (hx : finB x = true) (hy : finB y = true) (hf : (FloatKind.f32.format.order (x % 2147483648) 1258291200 == some .gt) = true ∨ ((FloatKind.f32.format.order (x % 2147483648) 1258291200 == some .gt) = false ∧ (FloatKind.f32.format.order (y % 2147483648) 1258291200 == some .gt) = true)) :
    Calls Try.prog 45 #[fldV X Y W H (.slice (some ⟨b, 0, none⟩) n cap), .float .f32 x, .float .f32 y] w fun e w' => e = .returned (.tuple #[.float .f32 0, .int .i64 5]) ∧ Below w.heap.size w w' := by
  have H1 := Lib.hid (fun bb w => refHeight_of x lx bb w)
  have H2 := Lib.hid (fun bb w => refHeight_of y ly bb w)
  have A1 := Lib.hid (fun w => refAbs_any x w lx)
  have A2 := Lib.hid (fun w => refAbs_any y w ly)
  have e1 := form_no hx
  have e2 := form_no hy
  generalize fldE 1 (fun _ => x) = ex at *
  generalize fldE 1 (fun _ => y) = ey at *
  generalize x % 2147483648 = ax at *
  generalize y % 2147483648 = ay at *
  clear hx hy lx ly
  rcases hf with hf | ⟨hf, hf2⟩
  all_goals
    go_enter Try.func45, Try.ntmps45
    go_wp2_with fail
    refine (H1.out _ _ (by ((simp only [heap_alloc_get, heap_size_alloc, if_true]) <;> ((repeat' split) <;> first | rfl | omega)))).mono ?_
    rintro e w2 ⟨rfl, rfl⟩
    go_wp2_with fail
    refine (H2.out _ _ (by ((simp only [heap_alloc_get, heap_size_alloc, if_true]) <;> ((repeat' split) <;> first | rfl | omega)))).mono ?_
    rintro e w2 ⟨rfl, rfl⟩
    go_wp2_with (first | (go_at_call 79; (with_reducible refine (A1.out _).mono ?_); rintro e w' ⟨rfl, rfl⟩) | (go_at_call 79; (with_reducible refine (A2.out _).mono ?_); rintro e w' ⟨rfl, rfl⟩))
    go_ret2
    exact ⟨rfl, (by repeat (first | exact Below.refl _ _ | refine Below.alloc ?_ (by first | omega | (simp; done) | (simp; omega)) _ | refine Below.setCell ?_ (by first | omega | (simp; done) | (simp; omega)) _ | refine Below.drew ?_))⟩

set_option maxHeartbeats 4000000 in
set_option maxRecDepth 100000 in
theorem rbil_near (h0 : checkR X Y W H = 0) (hn : n = W * H) (hc : FlAt w b 0 n v) (hh : allB n (fun i => hgtB (v i)) = true) (hvw : wf32 n v) {g h : Int} {s t : Nat} {cs ct : Bool} (A : NearAt x g s cs) (B : NearAt y h t ct)
    (nx : (FloatKind.f32.format.order (x % 2147483648) 1258291200 == some .gt) = false) (ny : (FloatKind.f32.format.order (y % 2147483648) 1258291200 == some .gt) = false) :
    Calls Try.prog 45 #[fldV X Y W H (.slice (some ⟨b, 0, none⟩) n cap), .float .f32 x, .float .f32 y] w fun e w' => e = .returned (.tuple #[.float .f32 (bilV X Y W H v g h s t cs ct), .int .i64 (bilE X Y W H v g h s t cs ct)]) ∧ Below w.heap.size w w' := by
  have hlt : b < w.heap.size := World.block_lt_of_cell? w _ (hc 0 (by
    obtain ⟨b1, b2, b3, b4, b5, _⟩ := checkR_zero h0
    rw [hn]; exact Nat.mul_pos (by omega) (by omega)))
  have H1 := Lib.hid (fun bb w => refHeight_of x lx bb w)
  have H2 := Lib.hid (fun bb w => refHeight_of y ly bb w)
  have A1 := Lib.hid (fun w => refAbs_any x w lx)
  have A2 := Lib.hid (fun w => refAbs_any y w ly)
  have e1 := form_no A.fin
  have e2 := form_no B.fin
  generalize fldE 1 (fun _ => x) = ex at *
  generalize fldE 1 (fun _ => y) = ey at *
  generalize x % 2147483648 = ax at *
  generalize y % 2147483648 = ay at *
  have FX := Lib.hid A.rflo
  have FY := Lib.hid B.rflo
  have SX := Lib.hid (fun w => refSub_any 25 x (flW x) s A.same A.sub w)
  have SY := Lib.hid (fun w => refSub_any 25 y (flW y) t B.same B.sub w)
  have c1 := fun (W : World) => run_convert_float_int (P := Try.prog) W 37 3 .f32 .i64 (flW x) g (by kernel_rfl) Try.underlying3 A.int
  have c2 := fun (W : World) => run_convert_float_int (P := Try.prog) W 37 3 .f32 .i64 (flW y) h (by kernel_rfl) Try.underlying3 B.int
  have g1 := A.lo
  have g2 := A.hi
  have g3 := B.lo
  have g4 := B.hi
  -- bilinear, whatever it answers
  obtain ⟨V, er, hV, hE, BT0⟩ : ∃ V er, bilV X Y W H v g h s t cs ct = (if (er != 0) = true then 0 else V) ∧ bilE X Y W H v g h s t cs ct = er ∧ ∀ W', Below w.heap.size w W' → Calls Try.prog 116 #[fldV X Y W H (.slice (some ⟨b, 0, none⟩) n cap), .int .i64 g, .int .i64 h, .float .f32 s, .float .f32 t] W' fun e w' => e = .returned (.tuple #[.float .f32 V, .int .i64 er]) ∧ Below W'.heap.size W' w' := by
    unfold bilV bilE
    cases hth : thereB X Y W H g h cs ct with
    | false => exact ⟨0, 5, rfl, rfl, fun W' hb => rbil_no X Y W H n b cap v g h s t cs ct W' h0 hn (flAt_congr hc (hb.block _ hlt)) hh (by omega) (by omega) (by omega) (by omega) A.cs1 B.cs1 hth A.bs⟩
    | true =>
      refine ⟨_, _, ?_, rfl, fun W' hb => rbil_ok X Y W H n b cap v g h s t cs ct W' h0 hn (flAt_congr hc (hb.block _ hlt)) hh hvw A.cs1 B.cs1 hth A.bs B.bs⟩
      cases hgtB (btwW v W (numC X Y W g h) cs ct s t) <;> rfl
  have BT := Lib.hid BT0
  rw [hE, hV]
  clear h0 hn hc hh hvw A B lx ly BT0 hV hE
  cases hz : (er != 0)
  all_goals
    go_enter Try.func45, Try.ntmps45
    go_wp2_with fail
    refine (H1.out _ _ (by ((simp only [heap_alloc_get, heap_size_alloc, if_true]) <;> ((repeat' split) <;> first | rfl | omega)))).mono ?_
    rintro e w2 ⟨rfl, hw2⟩
    have hb2 : Below w.heap.size w w2 := by rw [← hw2]; exact (by repeat (first | exact Below.refl _ _ | refine Below.alloc ?_ (by first | omega | (simp; done) | (simp; omega)) _ | refine Below.setCell ?_ (by first | omega | (simp; done) | (simp; omega)) _ | refine Below.drew ?_))
    have GF2 := Lib.hid (show w2.heap[w.heap.size]? = some (fldO X Y W H (.slice (some ⟨b, 0, none⟩) n cap)) by rw [← hw2]; ((simp only [heap_alloc_get, heap_size_alloc, if_true]) <;> ((repeat' split) <;> first | rfl | omega)))
    clear hw2
    go_wp2_with fail
    refine (H2.out _ _ (by ((simp only [heap_alloc_get, if_true]) <;> ((repeat' split) <;> first | rfl | omega)))).mono ?_
    rintro e w3 ⟨rfl, hw3⟩
    have hb3 : Below w.heap.size w w3 := hb2.trans (by rw [← hw3]; exact (Below.refl _ _).alloc hb2.size _)
    have GF := Lib.hid (show w3.heap[w.heap.size]? = some (fldO X Y W H (.slice (some ⟨b, 0, none⟩) n cap)) by rw [← hw3]; rw [heap_alloc_old _ _ (blkC GF2.out).2.2]; exact GF2.out)
    clear hw3 GF2
    have HB3 := Lib.hid hb3
    clear hb2 hb3
    obtain ⟨cF, fF, zF⟩ := blkC GF.out
    have BT3 := Lib.hid (fun W' (hb : Below w3.heap.size w3 W') => BT.out W' (HB3.out.trans (hb.mono HB3.out.size)))
    go_wp2_with (first | (go_at_call 79; (with_reducible refine (A1.out _).mono ?_); rintro e w' ⟨rfl, rfl⟩) | (go_at_call 79; (with_reducible refine (A2.out _).mono ?_); rintro e w' ⟨rfl, rfl⟩) | (go_at_call 115; (with_reducible refine (FX.out _).mono ?_); rintro e w' ⟨rfl, rfl⟩) | (go_at_call 115; (with_reducible refine (FY.out _).mono ?_); rintro e w' ⟨rfl, rfl⟩))
    go_region_held3 (fun w' => (∀ o, w'.cell? ⟨w.heap.size, o, none⟩ = #[.int .i64 X, .int .i64 Y, .int .i64 W, .int .i64 H, .slice (some ⟨b, 0, none⟩) n cap][o]?) ∧ Below w3.heap.size w3 w') (first | exact ⟨(blkC (blkStay GF.out hb9)).1, hb9⟩ | exact ⟨(blkC (blkStay GF.out (by repeat (first | exact Below.refl _ _ | refine Below.alloc ?_ (by first | omega | (simp; done) | (simp; omega)) _ | refine Below.setCell ?_ (by first | omega | (simp; done) | (simp; omega)) _ | refine Below.drew ?_)))).1, (by repeat (first | exact Below.refl _ _ | refine Below.alloc ?_ (by first | omega | (simp; done) | (simp; omega)) _ | refine Below.setCell ?_ (by first | omega | (simp; done) | (simp; omega)) _ | refine Below.drew ?_))⟩) (first | (go_at_call 117; (with_reducible refine (SX.out _).mono ?_); rintro e w' ⟨rfl, rfl⟩) | (go_at_call 117; (with_reducible refine (SY.out _).mono ?_); rintro e w' ⟨rfl, rfl⟩) | (go_at_call 116; (with_reducible refine Calls.mono (BT3.out _ ?_) ?_); exact (by repeat (first | exact Below.refl _ _ | refine Below.alloc ?_ (by first | omega | (simp; done) | (simp; omega)) _ | refine Below.setCell ?_ (by first | omega | (simp; done) | (simp; omega)) _ | refine Below.drew ?_)); rintro e w' ⟨rfl, hb8⟩; have hb9 : Below w3.heap.size w3 w' := ⟨hb8.os, hb8.tape, hb8.output, hb8.size, hb8.block⟩; clear hb8))
    rename_i wh hHeld
    go_wp2
    go_ret2
    first
      | exact ⟨rfl, HB3.out.trans (hHeld.2.mono HB3.out.size)⟩
      | (have ez : er = 0 := by simpa using hz
         exact ⟨by rw [ez]; rfl, HB3.out.trans (hHeld.2.mono HB3.out.size)⟩)
end
end Go.Proofs.Ytihjemookgnafaa
