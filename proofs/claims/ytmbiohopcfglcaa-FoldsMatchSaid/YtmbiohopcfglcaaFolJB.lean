/- Lemmas and contracts for the proof that the last text of this claim holds. -/
import Derived.Test.YtmbiohopcfglcaaFolJA
import Derived.Test.YtmbiohopcfglcaaRows
import Derived.WalkKit
import Derived.WalkSpells
import Derived.WalkLawsBesides
import Derived.BigQuiet
import Derived.Deep.QuietTactic
import Derived.Lib.Hide
import Derived.Deep.RegionHeld3
import Derived.Deep.DeepCutAuto
import Derived.Deep.AppendLies
import Derived.Deep.RegionLaw

/- Contracts of the regions' functions. -/
namespace Go.Proofs.Ytmbiohopcfglcaa
open Go.RowKit

def withinB (n a b : Int) : Bool := decide (a ≤ n) && decide (n ≤ b)
theorem withinB_iff {n a b : Int} : withinB n a b = true ↔ a ≤ n ∧ n ≤ b := by simp [withinB]
theorem withinB_no {n a b : Int} : withinB n a b = false ↔ (n < a ∨ b < n) := by
  rw [← Bool.not_eq_true, withinB_iff]; omega

theorem ret_int {k : IntKind} {a b : Int} (h : a = b) : Ending.returned (.int k a) = .returned (.int k b) := by rw [h]
theorem ret_bool {a b : Bool} (h : a = b) : Ending.returned (.bool a) = .returned (.bool b) := by rw [h]

/-- What CheckRegion answers. -/
def checkR (x y w h : Int) : Int :=
  if w < 1 ∨ 512 < w ∨ h < 1 ∨ 512 < h then 3
  else if 65536 < w * h then 4
  else if x < -4194304 ∨ 4194304 - w < x ∨ y < -4194304 ∨ 4194304 - h < y then 5
  else 0

theorem mul_side {w h : Int} (a : 1 ≤ w) (b : w ≤ 512) (c : 1 ≤ h) (d : h ≤ 512) : 1 ≤ w * h ∧ w * h ≤ 262144 := by
  constructor
  · have := Int.mul_le_mul a c (by omega) (by omega : (0:Int) ≤ w); omega
  · have := Int.mul_le_mul b d (by omega : (0:Int) ≤ h) (by omega : (0:Int) ≤ 512); omega
theorem wrap_side {w h : Int} (a : 1 ≤ w) (b : w ≤ 512) (c : 1 ≤ h) (d : h ≤ 512) : wrap64 (w * h) = w * h := by
  obtain ⟨e, f⟩ := mul_side a b c d
  exact IntWalk.wrap64_in _ ⟨by omega, by omega⟩

theorem checkR_range {x y w h : Int} (a : withinB w 1 512 = false ∨ withinB h 1 512 = false) : checkR x y w h = 3 := by
  simp only [withinB_no] at a
  unfold checkR; rw [if_pos (by omega)]
theorem checkR_large {x y w h : Int} (a : withinB w 1 512 = true) (b : withinB h 1 512 = true) (c : 65536 < wrap64 (w * h)) : checkR x y w h = 4 := by
  simp only [withinB_iff] at a b
  rw [wrap_side a.1 a.2 b.1 b.2] at c
  unfold checkR; rw [if_neg (by omega), if_pos c]
theorem checkR_place {x y w h : Int} (a : withinB w 1 512 = true) (b : withinB h 1 512 = true) (c : wrap64 (w * h) ≤ 65536)
    (d : withinB x (-4194304) (4194304 - w) = false ∨ withinB y (-4194304) (4194304 - h) = false) : checkR x y w h = 5 := by
  simp only [withinB_iff] at a b
  simp only [withinB_no] at d
  rw [wrap_side a.1 a.2 b.1 b.2] at c
  unfold checkR; rw [if_neg (by omega), if_neg (by omega), if_pos (by omega)]
theorem checkR_ok {x y w h : Int} (a : withinB w 1 512 = true) (b : withinB h 1 512 = true) (c : wrap64 (w * h) ≤ 65536)
    (d : withinB x (-4194304) (4194304 - w) = true) (e : withinB y (-4194304) (4194304 - h) = true) : checkR x y w h = 0 := by
  simp only [withinB_iff] at a b d e
  rw [wrap_side a.1 a.2 b.1 b.2] at c
  unfold checkR; rw [if_neg (by omega), if_neg (by omega), if_neg (by omega)]

set_option maxHeartbeats 400000 in
theorem within_any (n a b : Int) (w : World) :
    Calls Try.prog 87 #[.int .i64 n, .int .i64 a, .int .i64 b] w fun e w' => e = .returned (.bool (withinB n a b)) ∧ w = w' := by
  go_enter Try.func87, Try.ntmps87
  go_wp2
  all_goals go_ret
  all_goals exact ⟨ret_bool (by rw [Bool.eq_iff_iff, withinB_iff]; simp; omega), rfl⟩

set_option maxHeartbeats 400000 in
theorem hasPlace_any (x l : Int) (w : World) (h1 : 0 ≤ l) (h2 : l ≤ 512) :
    Calls Try.prog 174 #[.int .i64 x, .int .i64 l] w fun e w' => e = .returned (.bool (withinB x (-4194304) (4194304 - l))) ∧ w = w' := by
  go_enter Try.func174, Try.ntmps174
  go_wp2_with (go_at_call 87; refine (within_any _ _ _ _).mono ?_; rintro e w' ⟨rfl, rfl⟩)
  go_ret
  exact ⟨rfl, rfl⟩

set_option maxHeartbeats 400000 in
theorem checkRegion_any (x y ww hh : Int) (w : World) :
    Calls Try.prog 83 #[.agg #[.int .i64 x, .int .i64 y, .int .i64 ww, .int .i64 hh]] w fun e w' => e = .returned (.int .i64 (checkR x y ww hh)) ∧ w' = w.alloc (.cells #[.int .i64 x, .int .i64 y, .int .i64 ww, .int .i64 hh] 26) := by
  go_enter Try.func83, Try.ntmps83
  go_wp2_with (first | (go_at_call 87; refine (within_any _ _ _ _).mono ?_; rintro e w' ⟨rfl, rfl⟩) | (go_at_call 174; refine (hasPlace_any _ _ _ ?_ ?_).mono ?_; rotate_left 2; rintro e w' ⟨rfl, rfl⟩))
  all_goals simp only [Bool.not_eq_true, Bool.not_eq_true', Bool.not_eq_false'] at *
  all_goals first
    | (simp only [withinB_iff] at *; omega)
    | (go_ret
       refine ⟨ret_int (Eq.symm ?_), rfl⟩
       first
         | exact checkR_range (.inl ‹_›)
         | exact checkR_range (.inr ‹_›)
         | exact checkR_large ‹_› ‹_› ‹_›
         | exact checkR_place ‹_› ‹_› ‹_› (.inl ‹_›)
         | exact checkR_place ‹_› ‹_› ‹_› (.inr ‹_›)
         | exact checkR_ok ‹_› ‹_› ‹_› ‹_› ‹_›)

/-- A region as a value; its cells. -/
abbrev reg (x y w h : Int) : Value := .agg #[.int .i64 x, .int .i64 y, .int .i64 w, .int .i64 h]
abbrev regObj (x y w h : Int) : Obj := .cells #[.int .i64 x, .int .i64 y, .int .i64 w, .int .i64 h] 26

set_option maxHeartbeats 400000 in
theorem refGrown_any (x y ww hh n : Int) (w : World) (a1 : -4194304 ≤ x) (a2 : x ≤ 4194304) (b1 : -4194304 ≤ y) (b2 : y ≤ 4194304) (c1 : 0 ≤ ww) (c2 : ww ≤ 512) (d1 : 0 ≤ hh) (d2 : hh ≤ 512) (n1 : -512 ≤ n) (n2 : n ≤ 512) :
    Calls Try.prog 196 #[reg x y ww hh, .int .i64 n] w fun e w' => e = .returned (reg (x - n) (y - n) (ww + 2 * n) (hh + 2 * n)) ∧ Below w.heap.size w w' := by
  go_enter Try.func196, Try.ntmps196
  go_wp2
  exact bodyPost_ret (v := reg (x - n) (y - n) (ww + 2 * n) (hh + 2 * n)) (by simp [results, Try.results196, go_sem]) rfl ⟨rfl, by repeat (first | exact Below.refl _ _ | refine Below.alloc ?_ (by simp; try omega) _ | refine Below.setCell ?_ (by simp; try omega) _)⟩

end Go.Proofs.Ytmbiohopcfglcaa

/- Contracts of the regions' functions, continued: Grow, Common, Inside. -/
namespace Go.Proofs.Ytmbiohopcfglcaa
open Go.RowKit

/-- What Grow answers. -/
def growE (x y w h n : Int) : Int :=
  if checkR x y w h = 0 then if n < -512 ∨ 512 < n then 3 else checkR (x - n) (y - n) (w + 2 * n) (h + 2 * n) else checkR x y w h
def growR (x y w h n : Int) : Value := if growE x y w h n = 0 then reg (x - n) (y - n) (w + 2 * n) (h + 2 * n) else reg 0 0 0 0
theorem checkR_zero {x y w h : Int} (e : checkR x y w h = 0) : 1 ≤ w ∧ w ≤ 512 ∧ 1 ≤ h ∧ h ≤ 512 ∧ w * h ≤ 65536 ∧ -4194304 ≤ x ∧ x ≤ 4194304 - w ∧ -4194304 ≤ y ∧ y ≤ 4194304 - h := by
  unfold checkR at e
  split at e <;> omega

theorem bcell {W w1 : World} (hb : Below W.heap.size W w1) : (∀ b o, b < W.heap.size → w1.cell? ⟨b, o, none⟩ = W.cell? ⟨b, o, none⟩) ∧ (∀ b o, b < W.heap.size → w1.frozen? ⟨b, o, none⟩ = W.frozen? ⟨b, o, none⟩) :=
  ⟨fun b o h => hb.cell (p := ⟨b, o, none⟩) h, fun b o h => hb.frozen (p := ⟨b, o, none⟩) h⟩

theorem ret2 {a b : Value} {c d : Value} (h1 : a = b) (h2 : c = d) : Ending.returned (.tuple #[a, c]) = .returned (.tuple #[b, d]) := by rw [h1, h2]

end Go.Proofs.Ytmbiohopcfglcaa

/- Contracts: isFinite, isHeight, checkRange, CheckHeights, Check; the reference's abs, Height. -/
namespace Go.Proofs.Ytmbiohopcfglcaa
open Go.RowKit Fl

theorem f32fmt : FloatKind.f32.format = Ieee.single := rfl

set_option maxHeartbeats 400000 in
theorem isFinite_any (x : Nat) (w : World) :
    Calls Try.prog 179 #[.float .f32 x] w fun e w' => e = .returned (.bool (finB x)) ∧ w = w' := by
  rw [← isFinite_eq]
  go_enter Try.func179, Try.ntmps179
  go_wp2
  all_goals go_ret
  · exact ⟨rfl, rfl⟩
  · rename_i h
    refine ⟨ret_bool (Eq.symm ?_), rfl⟩
    rw [f32fmt] at h
    rw [Bool.and_eq_false_iff]; left
    simpa using h

set_option maxHeartbeats 400000 in
theorem isHeight_any (x : Nat) (w : World) :
    Calls Try.prog 216 #[.float .f32 x] w fun e w' => e = .returned (.bool (hgtB x)) ∧ w = w' := by
  rw [← isHeight_eq]
  go_enter Try.func216, Try.ntmps216
  go_wp2
  all_goals go_ret
  · exact ⟨rfl, rfl⟩
  · rename_i h
    refine ⟨ret_bool (Eq.symm ?_), rfl⟩
    rw [f32fmt] at h
    rw [Bool.and_eq_false_iff]; left
    simpa using h

/-- Do all below n have it? -/
def allB (n : Nat) (p : Nat → Bool) : Bool := (List.range n).all p
theorem allB_iff {n : Nat} {p : Nat → Bool} : allB n p = true ↔ ∀ i, i < n → p i = true := by simp [allB]
theorem allB_no {n : Nat} {p : Nat → Bool} {k : Nat} (h : k < n) (h2 : p k = false) : allB n p = false := by
  rw [← Bool.not_eq_true, allB_iff]; intro c; rw [c k h] at h2; cases h2

def hgtE (n : Nat) (v : Nat → Nat) : Int := if allB n (fun i => hgtB (v i)) then 0 else 3
/-- The error of singles that should be heights. -/
def fldE (n : Nat) (v : Nat → Nat) : Int := if allB n (fun i => finB (v i)) then hgtE n v else 2

/-- n cells from b, off on are the singles v. -/
def FlAt (w : World) (b off n : Nat) (v : Nat → Nat) : Prop := ∀ i, i < n → w.cell? ⟨b, off + i, none⟩ = some (.float .f32 (v i))

set_option maxHeartbeats 400000 in
theorem checkRange_nil (a : Option Addr) (cap : Nat) (w : World) :
    Calls Try.prog 180 #[.slice a 0 cap] w fun e w' => e = .returned (.int .i64 0) ∧ w = w' := by
  go_enter Try.func180, Try.ntmps180
  go_wp2
  go_loop [7] (fun i => i = .int .i64 0) (fun _ => 0)
  case atStart => rfl
  case round =>
    subst hrel
    go_wp2
    go_ret
    exact ⟨rfl, rfl⟩

set_option maxHeartbeats 400000 in
theorem checkRange_row (b off cap n : Nat) (v : Nat → Nat) (hl : n ≤ 9223372036854775807) (w : World) (hc : FlAt w b off n v) :
    Calls Try.prog 180 #[.slice (some ⟨b, off, none⟩) n cap] w fun e w' => e = .returned (.int .i64 (hgtE n v)) ∧ w = w' := by
  go_enter Try.func180, Try.ntmps180
  go_wp2
  go_loop [7] (fun i => ∃ k : Nat, k ≤ n ∧ i = .int .i64 k ∧ allB k (fun i => hgtB (v i)) = true) (fun i => n - (intOf i).toNat)
  case atStart => exact ⟨0, Nat.zero_le _, rfl, rfl⟩
  case round =>
    obtain ⟨k, hk, rfl, hall⟩ := hrel
    have HA := Lib.hid hall
    clear hall
    by_cases hlt : k < n
    · have hcell := hc k hlt
      have IH := Lib.hid (fun w => isHeight_any (v k) w)
      cases hb : hgtB (v k) with
      | true =>
        have HB := Lib.hid hb
        rw [hb] at IH
        clear hb
        go_wp2_with (go_at_call 216; refine (IH.out _).mono ?_; rintro e w' ⟨rfl, rfl⟩)
        go_round
        case rel => exact ⟨k + 1, by omega, by go_num, allB_iff.2 fun i hi => by rcases Nat.lt_or_ge i k with c | c; exact allB_iff.1 HA.out i c; rw [show i = k by omega]; exact HB.out⟩
        case measure => simp [intOf]; omega
      | false =>
        have HB := Lib.hid hb
        rw [hb] at IH
        clear hb
        go_wp2_with (go_at_call 216; refine (IH.out _).mono ?_; rintro e w' ⟨rfl, rfl⟩)
        go_ret
        exact ⟨ret_int (by unfold hgtE; rw [allB_no hlt HB.out]; rfl), rfl⟩
    · go_wp2
      go_ret
      have : k = n := by omega
      subst this
      exact ⟨ret_int (by unfold hgtE; rw [HA.out]; rfl), rfl⟩

set_option maxHeartbeats 400000 in
theorem CheckHeights_nil (a : Option Addr) (cap : Nat) (w : World) :
    Calls Try.prog 88 #[.slice a 0 cap] w fun e w' => e = .returned (.int .i64 0) ∧ w = w' := by
  go_enter Try.func88, Try.ntmps88
  go_wp2
  go_loop [7] (fun i => i = .int .i64 0) (fun _ => 0)
  case atStart => rfl
  case round =>
    subst hrel
    go_wp2_with (go_at_call 180; refine (checkRange_nil _ _ _).mono ?_; rintro e w' ⟨rfl, rfl⟩)
    go_ret
    exact ⟨rfl, rfl⟩

set_option maxHeartbeats 400000 in
theorem CheckHeights_row (b off cap n : Nat) (v : Nat → Nat) (hl : n ≤ 9223372036854775807) (w : World) (hc : FlAt w b off n v) :
    Calls Try.prog 88 #[.slice (some ⟨b, off, none⟩) n cap] w fun e w' => e = .returned (.int .i64 (fldE n v)) ∧ w = w' := by
  have CH := Lib.hid (checkRange_row b off cap n v hl w hc)
  go_enter Try.func88, Try.ntmps88
  go_wp2
  go_loop [7] (fun i => ∃ k : Nat, k ≤ n ∧ i = .int .i64 k ∧ allB k (fun i => finB (v i)) = true) (fun i => n - (intOf i).toNat)
  case atStart => exact ⟨0, Nat.zero_le _, rfl, rfl⟩
  case round =>
    obtain ⟨k, hk, rfl, hall⟩ := hrel
    have HA := Lib.hid hall
    clear hall
    by_cases hlt : k < n
    · have hcell := hc k hlt
      have IH := Lib.hid (fun w => isFinite_any (v k) w)
      cases hb : finB (v k) with
      | true =>
        have HB := Lib.hid hb
        rw [hb] at IH
        clear hb
        go_wp2_with (go_at_call 179; refine (IH.out _).mono ?_; rintro e w' ⟨rfl, rfl⟩)
        go_round
        case rel => exact ⟨k + 1, by omega, by go_num, allB_iff.2 fun i hi => by rcases Nat.lt_or_ge i k with c | c; exact allB_iff.1 HA.out i c; rw [show i = k by omega]; exact HB.out⟩
        case measure => simp [intOf]; omega
      | false =>
        have HB := Lib.hid hb
        rw [hb] at IH
        clear hb
        go_wp2_with (go_at_call 179; refine (IH.out _).mono ?_; rintro e w' ⟨rfl, rfl⟩)
        go_ret
        exact ⟨ret_int (by unfold fldE; rw [allB_no hlt HB.out]; rfl), rfl⟩
    · go_wp2_with (go_at_call 180; refine CH.out.mono ?_; rintro e w' ⟨rfl, rfl⟩)
      go_ret
      have : k = n := by omega
      subst this
      exact ⟨ret_int (by unfold fldE; rw [HA.out]; rfl), rfl⟩

end Go.Proofs.Ytmbiohopcfglcaa

/- Contracts: the reference's abs, Height, Out. -/
namespace Go.Proofs.Ytmbiohopcfglcaa
open Go.RowKit Fl

theorem f32bits (b : Nat) (w : World) : (callFunc 99 #[.float .f32 b]).run Try.prog w = .ok (.value (.int .u32 b)) w := by
  rw [run_callFunc_extern Try.func99 (by kernel_rfl) (by kernel_rfl) (by kernel_rfl) (e := Extern.MathFloatBits.float32bits) (by kernel_rfl)]; rfl
theorem f32from (n : Int) (w : World) : (callFunc 215 #[.int .u32 n]).run Try.prog w = .ok (.value (.float .f32 n.toNat)) w := by
  rw [run_callFunc_extern Try.func215 (by kernel_rfl) (by kernel_rfl) (by kernel_rfl) (e := Extern.MathFloatBits.float32frombits) (by kernel_rfl)]; rfl

theorem f64bits (b : Nat) (w : World) : (callFunc 228 #[.float .f64 b]).run Try.prog w = .ok (.value (.int .u64 b)) w := by
  rw [run_callFunc_extern Try.func228 (by kernel_rfl) (by kernel_rfl) (by kernel_rfl) (e := Extern.MathFloatBits.float64bits) (by kernel_rfl)]; rfl
theorem f64from (n : Int) (w : World) : (callFunc 227 #[.int .u64 n]).run Try.prog w = .ok (.value (.float .f64 n.toNat)) w := by
  rw [run_callFunc_extern Try.func227 (by kernel_rfl) (by kernel_rfl) (by kernel_rfl) (e := Extern.MathFloatBits.float64frombits) (by kernel_rfl)]; rfl

theorem andNot32 (x : Nat) (hx : x < 4294967296) : bits BinOp.andNot IntKind.u32 (x : Int) 2147483648 = ((x % 2147483648 : Nat) : Int) := by
  have h := u32_andNot_nat x 2147483648 hx (by omega)
  rw [show ((2147483648 : Nat) : Int) = 2147483648 from rfl] at h
  rw [h]
  have : x &&& (4294967295 - 2147483648) = x % 2147483648 := Nat.and_two_pow_sub_one_eq_mod x 31
  rw [this]
/-- 2 ^ 63 and 2 ^ 64 behind names: no walk sees the numerals. -/
def b63 : Nat := 9223372036854775808
def b64 : Nat := 18446744073709551616
theorem andNot64 (x : Nat) (hx : x < b64) : bits BinOp.andNot IntKind.u64 (x : Int) 9223372036854775808 = ((x % b63 : Nat) : Int) := by
  have h := u64_andNot_nat x 9223372036854775808 hx (by omega)
  rw [show ((9223372036854775808 : Nat) : Int) = 9223372036854775808 from rfl] at h
  rw [h]
  have : x &&& (18446744073709551615 - 9223372036854775808) = x % 9223372036854775808 := Nat.and_two_pow_sub_one_eq_mod x 63
  rw [this]; rfl

set_option maxHeartbeats 400000 in
theorem refAbs_any (x : Nat) (w : World) (hx : x < 4294967296) :
    Calls Try.prog 176 #[.float .f32 x] w fun e w' => e = .returned (.float .f32 (x % 2147483648)) ∧ w = w' := by
  have h1 := f32bits
  have h2 := f32from
  have h3 := andNot32 x hx
  go_enter Try.func176, Try.ntmps176
  go_wp2
  go_ret
  exact ⟨rfl, rfl⟩

set_option maxHeartbeats 400000 in
theorem mathAbs_any (X : Nat) (w : World) (hX : X < b64) :
    Calls Try.prog 214 #[.float .f64 X] w fun e w' => e = .returned (.float .f64 (X % b63)) ∧ w = w' := by
  have h1 := f64bits
  have h2 := f64from
  have h3 := andNot64 X hX
  go_enter Try.func214, Try.ntmps214
  go_wp2
  go_ret
  exact ⟨rfl, rfl⟩

set_option maxHeartbeats 400000 in
theorem isInf_any (X : Nat) (k : Bool) (hX : X < b64) (h : (FloatKind.f64.format.order (X % b63) 9218868437227405311 == some .gt) = k) (w : World) :
    Calls Try.prog 175 #[.float .f64 X, .int .i64 0] w fun e w' => e = .returned (.bool k) ∧ w = w' := by
  go_enter Try.func175, Try.ntmps175
  go_wp2_with (go_at_call 214; refine (mathAbs_any _ _ hX).mono ?_; rintro e w' ⟨rfl, rfl⟩)
  go_ret
  exact ⟨rfl, rfl⟩

end Go.Proofs.Ytmbiohopcfglcaa

/- Contracts: the reference's Height and Out. -/
namespace Go.Proofs.Ytmbiohopcfglcaa
open Go.RowKit Fl

theorem conv32_lt {x X : Nat} (h : floatToFloatBits .f32 x .f64 = some X) : X < b64 := by
  unfold floatToFloatBits at h
  rw [if_neg (by decide)] at h
  split at h
  · cases h
  · cases h; exact Ieee.Format.write_lt _ _
  · split at h
    · cases h
    · cases h; exact Ieee.Format.write_lt _ _

/-- What the first loop asks of one single: a NaN, an infinity, or a finite one. -/
theorem step1 (x : Nat) : (finB x = true ∧ (FloatKind.f32.format.order x x == some .eq) = true ∧ ∃ X, floatToFloatBits .f32 x .f64 = some X ∧ X < b64 ∧ (FloatKind.f64.format.order (X % b63) 9218868437227405311 == some .gt) = false) ∨
    (finB x = false ∧ (FloatKind.f32.format.order x x == some .eq) = false) ∨
    (finB x = false ∧ (FloatKind.f32.format.order x x == some .eq) = true ∧ ∃ X, floatToFloatBits .f32 x .f64 = some X ∧ X < b64 ∧ (FloatKind.f64.format.order (X % b63) 9218868437227405311 == some .gt) = true) := by
  cases hv : vS x with
  | some a =>
    left
    have hr : ∃ s m p, Ieee.single.read x = .number s m p := by
      unfold vS at hv
      split at hv
      · exact ⟨_, _, _, by assumption⟩
      · cases hv
    obtain ⟨s, m, p, hr⟩ := hr
    obtain ⟨X, _, _, c1, _⟩ := toD hr
    exact ⟨by unfold finB; rw [hv]; rfl, self_eq (by rw [hr]; rfl), X, c1, conv32_lt c1, isInf_no (by rw [hv]; simp) c1⟩
  | none =>
    right
    have hf : finB x = false := by unfold finB; rw [hv]; rfl
    rcases vS_none hv with ⟨s, hs⟩ | hn
    · right
      exact ⟨hf, self_eq (by rw [hs]; rfl), _, conv_inf hs, conv32_lt (conv_inf hs), isInf_yes s⟩
    · left
      exact ⟨hf, self_ne hn⟩

def wf32 (n : Nat) (v : Nat → Nat) : Prop := ∀ i, i < n → v i < 4294967296

set_option maxHeartbeats 400000 in
theorem refHeight_nil (a : Option Addr) (cap : Nat) (w : World) :
    Calls Try.prog 84 #[.slice a 0 cap] w fun e w' => e = .returned (.int .i64 0) ∧ w = w' := by
  go_enter Try.func84, Try.ntmps84
  go_wp2
  go_loop [9] (fun i => i = .int .i64 0) (fun _ => 0)
  case atStart => rfl
  case round =>
    subst hrel
    go_wp2
    go_loop [24] (fun i => i = .int .i64 0) (fun _ => 0)
    case atStart => rfl
    case round =>
      subst hrel
      go_wp2
      go_ret
      exact ⟨rfl, rfl⟩

set_option maxHeartbeats 1000000 in
theorem refHeight_row (b off cap n : Nat) (v : Nat → Nat) (hl : n ≤ 9223372036854775807) (w : World) (hc : FlAt w b off n v) (hw : wf32 n v) :
    Calls Try.prog 84 #[.slice (some ⟨b, off, none⟩) n cap] w fun e w' => e = .returned (.int .i64 (fldE n v)) ∧ w = w' := by
  have HW := Lib.hid hw
  clear hw
  go_enter Try.func84, Try.ntmps84
  go_wp2
  go_loop [9] (fun i => ∃ k : Nat, k ≤ n ∧ i = .int .i64 k ∧ allB k (fun i => finB (v i)) = true) (fun i => n - (intOf i).toNat)
  case atStart => exact ⟨0, Nat.zero_le _, rfl, rfl⟩
  case round =>
    obtain ⟨k, hk, rfl, hall⟩ := hrel
    have HA := Lib.hid hall
    clear hall
    by_cases hlt : k < n
    · have hcell := hc k hlt
      rcases step1 (v k) with ⟨hb, h1, X, h2, h3, h4⟩ | ⟨hb, h1⟩ | ⟨hb, h1, X, h2, h3, h4⟩
      · have HB := Lib.hid hb
        have h1' : (FloatKind.f32.format.order (v k) (v k) != some .eq) = false := by rw [bne, h1]; rfl
        have hcv := fun (W : World) => run_convert_float_float (P := Try.prog) W 22 182 .f32 .f64 (v k) X (by kernel_rfl) Try.underlying182 h2
        have IH := Lib.hid (fun w => isInf_any X false h3 h4 w)
        clear hb h1 h2 h3 h4
        go_wp2_with (go_at_call 175; refine (IH.out _).mono ?_; rintro e w' ⟨rfl, rfl⟩)
        go_round
        case rel => exact ⟨k + 1, by omega, by go_num, allB_iff.2 fun i hi => by rcases Nat.lt_or_ge i k with c | c; exact allB_iff.1 HA.out i c; rw [show i = k by omega]; exact HB.out⟩
        case measure => simp [intOf]; omega
      · have HB := Lib.hid hb
        have h1' : (FloatKind.f32.format.order (v k) (v k) != some .eq) = true := by rw [bne, h1]; rfl
        clear hb h1
        go_wp2
        go_ret
        exact ⟨ret_int (by unfold fldE; rw [allB_no hlt HB.out]; rfl), rfl⟩
      · have HB := Lib.hid hb
        have h1' : (FloatKind.f32.format.order (v k) (v k) != some .eq) = false := by rw [bne, h1]; rfl
        have hcv := fun (W : World) => run_convert_float_float (P := Try.prog) W 22 182 .f32 .f64 (v k) X (by kernel_rfl) Try.underlying182 h2
        have IH := Lib.hid (fun w => isInf_any X true h3 h4 w)
        clear hb h1 h2 h3 h4
        go_wp2_with (go_at_call 175; refine (IH.out _).mono ?_; rintro e w' ⟨rfl, rfl⟩)
        go_ret
        exact ⟨ret_int (by unfold fldE; rw [allB_no hlt HB.out]; rfl), rfl⟩
    · have hkn : k = n := by omega
      subst hkn
      go_wp2
      go_loop [24] (fun i => ∃ j : Nat, j ≤ k ∧ i = .int .i64 j ∧ allB j (fun i => hgtB (v i)) = true) (fun i => k - (intOf i).toNat)
      case atStart => exact ⟨0, Nat.zero_le _, rfl, rfl⟩
      case round =>
        obtain ⟨j, hj, rfl, hall2⟩ := hrel
        have HH := Lib.hid hall2
        clear hall2
        by_cases hlt2 : j < k
        · have hcell := hc j hlt2
          have hx := HW.out j hlt2
          have ht := top_abs (allB_iff.1 HA.out j hlt2)
          rw [← f32fmt] at ht
          have AB := Lib.hid (fun w => refAbs_any (v j) w hx)
          clear hx
          cases hb : hgtB (v j) with
          | true =>
            rw [hb] at ht
            have HB := Lib.hid hb
            clear hb
            simp only [Bool.not_true] at ht
            go_wp2_with (go_at_call 176; refine (AB.out _).mono ?_; rintro e w' ⟨rfl, rfl⟩)
            go_round
            case rel => exact ⟨j + 1, by omega, by go_num, allB_iff.2 fun i hi => by rcases Nat.lt_or_ge i j with c | c; exact allB_iff.1 HH.out i c; rw [show i = j by omega]; exact HB.out⟩
            case measure => simp [intOf]; omega
          | false =>
            rw [hb] at ht
            have HB := Lib.hid hb
            clear hb
            simp only [Bool.not_false] at ht
            go_wp2_with (go_at_call 176; refine (AB.out _).mono ?_; rintro e w' ⟨rfl, rfl⟩)
            go_ret
            exact ⟨ret_int (by unfold fldE hgtE; rw [HA.out, allB_no hlt2 HB.out]; rfl), rfl⟩
        · go_wp2
          go_ret
          have : j = k := by omega
          subst this
          exact ⟨ret_int (by unfold fldE hgtE; rw [HA.out, HH.out]; rfl), rfl⟩

theorem fldE_zero {n : Nat} {v : Nat → Nat} : fldE n v = 0 ↔ allB n (fun i => hgtB (v i)) = true := by
  unfold fldE hgtE
  constructor
  · intro h
    split at h
    · split at h
      · assumption
      · cases h
    · cases h
  · intro h
    have f : allB n (fun i => finB (v i)) = true := allB_iff.2 fun i hi => hgt_fin (allB_iff.1 h i hi)
    rw [if_pos f, if_pos h]

set_option maxHeartbeats 400000 in
theorem refOut_row (b off cap n : Nat) (v : Nat → Nat) (hl : n ≤ 9223372036854775807) (w : World) (hc : FlAt w b off n v) (hw : wf32 n v) :
    Calls Try.prog 184 #[.slice (some ⟨b, off, none⟩) n cap] w fun e w' => e = .returned (.int .i64 (if allB n (fun i => hgtB (v i)) then 0 else 3)) ∧ w = w' := by
  have HH := Lib.hid (refHeight_row b off cap n v hl w hc hw)
  clear hc hw
  cases h : allB n (fun i => hgtB (v i)) with
  | true =>
    rw [fldE_zero.2 h] at HH
    clear h
    go_enter Try.func184, Try.ntmps184
    go_wp2_with (go_at_call 84; refine HH.out.mono ?_; rintro e w' ⟨rfl, rfl⟩)
    go_ret
    exact ⟨rfl, rfl⟩
  | false =>
    have hne : (fldE n v != 0) = true := by
      rw [bne_iff_ne]; intro c; rw [fldE_zero.1 c] at h; cases h
    clear h
    go_enter Try.func184, Try.ntmps184
    go_wp2_with (go_at_call 84; refine HH.out.mono ?_; rintro e w' ⟨rfl, rfl⟩)
    go_ret
    exact ⟨rfl, rfl⟩

end Go.Proofs.Ytmbiohopcfglcaa

/- Blocks that are known whole, over calls that leave what was there. -/
namespace Go.Proofs.Ytmbiohopcfglcaa
open Go.RowKit

/-- A block known whole: its cells, its marks, its place. -/
theorem blkC {w : World} {b : Nat} {cs : Array Value} {t : TypeId} (h : w.heap[b]? = some (.cells cs t (0, 0))) :
    (∀ o, w.cell? ⟨b, o, none⟩ = cs[o]?) ∧ (∀ o, w.frozen? ⟨b, o, none⟩ = false) ∧ b < w.heap.size := by
  refine ⟨fun o => by simp [World.cell?, h], fun o => by simp [World.frozen?, h], ?_⟩
  rcases Nat.lt_or_ge b w.heap.size with h' | h'
  · exact h'
  · simp [Array.getElem?_eq_none h'] at h
theorem blkStay {W w' : World} {b : Nat} {o : Obj} (h : W.heap[b]? = some o) (hb : Below W.heap.size W w') : w'.heap[b]? = some o := by
  rw [hb.block b ?_, h]
  rcases Nat.lt_or_ge b W.heap.size with h' | h'
  · exact h'
  · simp [Array.getElem?_eq_none h'] at h
theorem heap_alloc_get (w : World) (o : Obj) (k : Nat) : (w.alloc o).heap[k]? = if k = w.heap.size then some o else w.heap[k]? := by
  show (w.heap.push o)[k]? = _
  rw [Array.getElem?_push]

theorem hold {W w w' : World} {A : Prop} (h : A ∧ Below W.heap.size W w) (hb : Below w.heap.size w w') : Below W.heap.size W w' := h.2.trans (hb.mono h.2.size)
theorem heap_size_alloc (w : World) (o : Obj) : (w.alloc o).heap.size = w.heap.size + 1 := by
  show (w.heap.push o).size = _
  simp

/-- The store of a float into a cell (the kit has none). -/
theorem run_store_float {P : Program} {w : World} {a : Addr} {m : Mode} (k : FloatKind) (b : Nat) : (store a (.float k b) m).run P w = stored P w a (.float k b) m := run_store P w a _ m rfl

end Go.Proofs.Ytmbiohopcfglcaa

/- Contract: fit. -/
namespace Go.Proofs.Ytmbiohopcfglcaa
open Go.RowKit Fl

theorem and15 (x : Int) : ∃ a : Nat, a ≤ 15 ∧ bits BinOp.and IntKind.i64 x 15 = (a : Int) := by
  have h : (BitVec.ofInt 64 x &&& BitVec.ofInt 64 15).toNat ≤ 15 := by
    rw [BitVec.toNat_and]
    exact Nat.le_trans Nat.and_le_right (by decide)
  refine ⟨(BitVec.ofInt 64 x &&& BitVec.ofInt 64 15).toNat, h, ?_⟩
  show IntKind.i64.wrap ((BitVec.ofInt 64 x &&& BitVec.ofInt 64 15).toNat : Int) = _
  rw [IntKind.wrap_i64]
  omega

/-- The made cells of singles. -/
theorem made_f32 (n i : Nat) (h : i < n) : (madeCells #[Value.float .f32 0] n)[i]? = some (.float .f32 0) := by
  simp [madeCells, h, Nat.mod_one]

theorem make_f32 (n : Nat) (hn : n ≤ 65536) (w : World) :
    (Instr.makeSlice 27 (.int .i64 (n : Int)) (.int .i64 (n : Int))).run Try.prog w = .ok (.slice (some ⟨w.heap.size, 0, none⟩) n n) (w.alloc (.cells (madeCells #[Value.float .f32 0] n) 22)) := by
  have h : (Try.prog.info? 22).map (fun i => (i.zero, i.size, i.bytes)) = some (some (.float .f32 0), 1, 4) := by kernel_rfl
  obtain ⟨i0, hi, hz0, hz1, hz2⟩ := info_parts h
  have hr := run_make (P := Try.prog) w 27 22 i0 (.float .f32 0) Try.underlying27 hi hz0 .i64 .i64 n n (by omega) (by omega) (by rw [hz2]; omega) (by omega)
  rw [hz1, Nat.mul_one, Int.toNat_natCast] at hr
  exact hr

/-- A field as a value; the cells of its box. -/
abbrev fldV (x y w h : Int) (sl : Value) : Value := .agg #[.int .i64 x, .int .i64 y, .int .i64 w, .int .i64 h, sl]
abbrev fldO (x y w h : Int) (sl : Value) : Obj := .cells #[.int .i64 x, .int .i64 y, .int .i64 w, .int .i64 h, sl] 29

def cl1 (x : Int) : Int := if x < -5000 then -5000 else x
def clampI (x : Int) : Int := if 5000 < cl1 x then 5000 else cl1 x
theorem clampI_le (x : Int) : -5000 ≤ clampI x ∧ clampI x ≤ 5000 := by unfold clampI cl1; split <;> split <;> omega

/-- Block b is n singles, those below k heights. -/
def FitRow (wr : World) (b n k : Nat) : Prop :=
  ∃ cs : Array Value, wr.heap[b]? = some (.cells cs 22 (0, 0)) ∧ cs.size = n ∧ ∀ j, j < n → ∃ x, cs[j]? = some (.float .f32 x) ∧ x < 4294967296 ∧ (j < k → hgtB x = true)

/-- What fit leaves: a small region near the origin, heights in a new block. -/
def FitPost (w : World) (e : Ending) (w' : World) : Prop :=
  ∃ X Y W H : Int, ∃ b n : Nat, e = .returned (fldV X Y W H (.slice (some ⟨b, 0, none⟩) n n)) ∧ -5000 ≤ X ∧ X ≤ 5000 ∧ -5000 ≤ Y ∧ Y ≤ 5000 ∧ 1 ≤ W ∧ W ≤ 16 ∧ 1 ≤ H ∧ H ≤ 16 ∧ (n : Int) = W * H ∧ 1 ≤ n ∧ n ≤ 256 ∧ w.heap.size ≤ b ∧ FitRow w' b n n ∧ Below w.heap.size w w'

theorem nat_bd {j k T : Nat} (hT : T = 1074) (h : j ≤ 2 ^ k) : j * 2 ^ T ≤ 2 ^ (1074 + k) := by
  rw [← hT, Nat.pow_add, Nat.mul_comm]; exact Nat.mul_le_mul_left _ h
theorem floatOfInt_bd (j k : Nat) (hk : k ≤ 100) (h : j ≤ 2 ^ k) : Bd k (floatOfInt .f32 (j : Int)) := by
  have e : floatOfInt .f32 (j : Int) = Ieee.single.nearest false j 0 := by
    show Ieee.single.nearest (decide ((j : Int) < 0)) (j : Int).natAbs 0 = _
    rw [show decide ((j : Int) < 0) = false by simp, Int.natAbs_natCast]
  rw [e, nearest_val Ieee.single false (-1074) 925 leastS j (p := 0) (by omega)]
  exact bd_word (nat_bd (by omega) h) (by omega)
theorem floatOfInt_lt (j : Int) : floatOfInt .f32 j < 4294967296 := by
  have h := Ieee.Format.write_lt Ieee.single (.number (decide (j < 0)) j.natAbs 0)
  exact h
theorem floatOfInt_small (j : Nat) (h : j ≤ 256) : hgtB (floatOfInt .f32 (j : Int)) = true :=
  bd_hgt (floatOfInt_bd j 20 (by omega) (Nat.le_trans h (by decide)))

theorem fit_keep {wr : World} {b n k x : Nat} (h : FitRow wr b n k) (hk : k < n) (hx : x < 4294967296) (hh : hgtB x = true) : FitRow (wr.setCell ⟨b, k, none⟩ (.float .f32 x)) b n (k + 1) := by
  obtain ⟨cs, h1, h2, h3⟩ := h
  refine ⟨cs.setIfInBounds k (.float .f32 x), heap_setCell_same wr b k cs _ _ h1, by simp [h2], fun j hj => ?_⟩
  by_cases e : k = j
  · subst e
    exact ⟨x, by rw [Array.getElem?_setIfInBounds_self_of_lt (by omega)], hx, fun _ => hh⟩
  · obtain ⟨y, q1, q2, q3⟩ := h3 j hj
    exact ⟨y, by rw [Array.getElem?_setIfInBounds_ne e]; exact q1, q2, fun c => q3 (by omega)⟩

theorem fit_step {wr : World} {b n k x : Nat} (h : FitRow wr b n k) (hk : k < n) (hx : x < 4294967296) : FitRow (wr.setCell ⟨b, k, none⟩ (.float .f32 x)) b n k := by
  obtain ⟨cs, h1, h2, h3⟩ := h
  refine ⟨cs.setIfInBounds k (.float .f32 x), heap_setCell_same wr b k cs _ _ h1, by simp [h2], fun j hj => ?_⟩
  by_cases e : k = j
  · subst e
    exact ⟨x, by rw [Array.getElem?_setIfInBounds_self_of_lt (by omega)], hx, fun c => by omega⟩
  · obtain ⟨y, q1, q2, q3⟩ := h3 j hj
    exact ⟨y, by rw [Array.getElem?_setIfInBounds_ne e]; exact q1, q2, q3⟩

theorem fit_cell {wr : World} {b n k : Nat} (h : FitRow wr b n k) (j : Nat) (hj : j < n) : ∃ x, wr.cell? ⟨b, j, none⟩ = some (.float .f32 x) ∧ x < 4294967296 ∧ (j < k → hgtB x = true) := by
  obtain ⟨cs, h1, h2, h3⟩ := h
  obtain ⟨x, q1, q2, q3⟩ := h3 j hj
  exact ⟨x, by simp [World.cell?, h1, q1], q2, q3⟩

theorem fit_up {wr : World} {b n k x : Nat} (h : FitRow wr b n k) (hc : wr.cell? ⟨b, k, none⟩ = some (.float .f32 x)) (hh : hgtB x = true) : FitRow wr b n (k + 1) := by
  obtain ⟨cs, h1, h2, h3⟩ := h
  refine ⟨cs, h1, h2, fun j hj => ?_⟩
  obtain ⟨y, q1, q2, q3⟩ := h3 j hj
  refine ⟨y, q1, q2, fun c => ?_⟩
  by_cases e : j < k
  · exact q3 e
  · have : j = k := by omega
    subst this
    have : wr.cell? ⟨b, j, none⟩ = some (.float .f32 y) := by simp [World.cell?, h1, q1]
    rw [hc] at this
    cases this
    exact hh

theorem FitRow.congr {w w' : World} {b n k : Nat} (h : FitRow w b n k) (e : w'.heap[b]? = w.heap[b]?) : FitRow w' b n k := by
  obtain ⟨cs, h1, h2⟩ := h
  exact ⟨cs, by rw [e]; exact h1, h2⟩
theorem FitRow.lt {w : World} {b n k : Nat} (h : FitRow w b n k) : b < w.heap.size := by
  obtain ⟨cs, h1, _⟩ := h
  exact (blkC h1).2.2
theorem FitRow.free {w : World} {b n k : Nat} (h : FitRow w b n k) (j : Nat) : w.frozen? ⟨b, j, none⟩ = false := by
  obtain ⟨cs, h1, _⟩ := h
  exact (blkC h1).2.1 j

theorem flAt_one (w : World) (x : Nat) : FlAt (w.alloc (.cells #[.float .f32 x] 22)) w.heap.size 0 1 (fun _ => x) := by
  intro i hi
  have : i = 0 := by omega
  subst this
  have h : (w.alloc (.cells #[Value.float .f32 x] 22)).heap[w.heap.size]? = some (.cells #[.float .f32 x] 22) := by rw [heap_alloc_get, if_pos rfl]
  exact (blkC h).1 0

theorem refHeight_one (x : Nat) (hx : x < 4294967296) (w : World) :
    Calls Try.prog 84 #[.slice (some ⟨w.heap.size, 0, none⟩) 1 1] (w.alloc (.cells #[.float .f32 x] 22)) fun e w' => e = .returned (.int .i64 (fldE 1 (fun _ => x))) ∧ w.alloc (.cells #[.float .f32 x] 22) = w' :=
  refHeight_row _ 0 1 1 (fun _ => x) (by omega) _ (flAt_one w x) (fun _ _ => hx)
theorem fldE_one_ok {x : Nat} (h : hgtB x = true) : fldE 1 (fun _ => x) = 0 := by
  have f := hgt_fin h
  simp [fldE, hgtE, allB, List.range_succ, h, f]
theorem fldE_one_no {x : Nat} (h : hgtB x = false) : fldE 1 (fun _ => x) = 2 ∨ fldE 1 (fun _ => x) = 3 := by
  unfold fldE
  by_cases f : allB 1 (fun _ => finB x) = true
  · right; rw [if_pos f]; unfold hgtE; rw [allB_no (k := 0) (by omega) h]; rfl
  · left; rw [if_neg f]

theorem fit_six (wr : World) (B : Nat) (u0 u1 u2 u3 u4 u5 : Value) :
    ((((((wr.setCell ⟨B, 4, none⟩ u0).setCell ⟨B + 1, 0, none⟩ u1).setCell ⟨B + 1, 1, none⟩ u2).setCell ⟨B + 1, 2, none⟩ u3).setCell ⟨B + 1, 3, none⟩ u4).setCell ⟨B + 1, 4, none⟩ u5).heap[B + 1 + 1]? = wr.heap[B + 1 + 1]? := by
  have n0 : B + 1 + 1 ≠ B := by omega
  have n1 : B + 1 + 1 ≠ B + 1 := by omega
  rw [Below.heap_setCell _ _ _ _ n1, Below.heap_setCell _ _ _ _ n1, Below.heap_setCell _ _ _ _ n1, Below.heap_setCell _ _ _ _ n1, Below.heap_setCell _ _ _ _ n1, Below.heap_setCell _ _ _ _ n0]

set_option maxHeartbeats 2000000 in
theorem fit_some (X Y W H : Int) (sb so len cap : Nat) (v : Nat → Nat) (w : World) (hl : 0 < len) (hl2 : len ≤ 9223372036854775807) (hc : FlAt w sb so len v) (hwf : wf32 len v) :
    Calls Try.prog 19 #[fldV X Y W H (.slice (some ⟨sb, so, none⟩) len cap)] w (FitPost w) := by
  obtain ⟨p, hp, eW⟩ := and15 W
  obtain ⟨q, hq, eH⟩ := and15 H
  obtain ⟨n, hn⟩ : ∃ n : Nat, n = (1 + p) * (1 + q) := ⟨_, rfl⟩
  have hn2 : n ≤ 256 := by rw [hn]; exact Nat.le_trans (Nat.mul_le_mul (by omega : 1 + p ≤ 16) (by omega : 1 + q ≤ 16)) (by omega)
  have hn1 : 1 ≤ n := by rw [hn]; exact Nat.mul_pos (by omega) (by omega)
  have en : wrap64 ((1 + (p : Int)) * (1 + (q : Int))) = (n : Int) := by
    have : ((1 + (p : Int)) * (1 + (q : Int))) = (n : Int) := by rw [hn]; simp
    rw [this]; exact IntWalk.wrap64_in _ ⟨by omega, by omega⟩
  have HN := Lib.hid hn
  clear hn
  have e1 : (if X < -5000 then -5000 else X) = cl1 X := rfl
  have e2 : (if Y < -5000 then -5000 else Y) = cl1 Y := rfl
  have e3 : (if 5000 < cl1 X then 5000 else cl1 X) = clampI X := rfl
  have e4 : (if 5000 < cl1 Y then 5000 else cl1 Y) = clampI Y := rfl
  have hmk := make_f32 n (by omega)
  have hsb : sb < w.heap.size := by
    have := hc 0 hl
    exact World.block_lt_of_cell? w _ this
  have HC := Lib.hid hc
  have HW := Lib.hid hwf
  clear hc hwf
  have hsf := fun (w : World) (a : Addr) (m : Mode) (k : FloatKind) (b : Nat) => run_store_float (P := Try.prog) (w := w) (a := a) (m := m) k b
  go_enter Try.func19, Try.ntmps19
  go_wp2
  clear en e1 e2 e3 e4 eW eH hmk
  go_loopw [43] (fun i wr => ∃ k : Nat, k ≤ n ∧ i = .int .i64 k ∧ FitRow wr (w.heap.size + 1 + 1) n k ∧ wr.heap[w.heap.size]? = some (fldO (clampI X) (clampI Y) (1 + p) (1 + q) (.slice (some ⟨sb, so, none⟩) len cap)) ∧ wr.heap[w.heap.size + 1]? = some (fldO 0 0 0 0 (.slice none 0 0)) ∧ Below w.heap.size w wr) (fun i _ => n - (intOf i).toNat)
  case atStart =>
    refine ⟨0, Nat.zero_le _, rfl, ⟨madeCells #[Value.float .f32 0] n, ?_, size_madeCells _ _, fun j hj => ⟨0, made_f32 n j hj, by omega, fun c => by omega⟩⟩, ?_, ?_, (by repeat (first | exact Below.refl _ _ | refine Below.alloc ?_ (by first | omega | (simp; done) | (simp; omega)) _ | refine Below.setCell ?_ (by first | omega | (simp; done) | (simp; omega)) _ | refine Below.drew ?_))⟩
    · simp only [heap_alloc_get, heap_size_alloc]; simp <;> omega
    · simp only [heap_alloc_get, heap_size_alloc]; simp <;> omega
    · simp only [heap_alloc_get, heap_size_alloc]; simp <;> omega
  case round =>
    obtain ⟨k, hk, rfl, hrow, hbox, hres, hbel⟩ := hrel
    have HR := Lib.hid hrow
    have HB := Lib.hid hbox
    have HS := Lib.hid hres
    obtain ⟨cB, fB, zB⟩ := blkC hbox
    clear hrow hbox hres
    by_cases hlt : k < n
    · obtain ⟨x0, hx0, _, _⟩ := fit_cell HR.out k hlt
      have hfr : wr.frozen? ⟨w.heap.size + 1 + 1, k, none⟩ = false := by
        obtain ⟨cs, h1, _⟩ := HR.out
        exact (blkC h1).2.1 k
      have hm : k % len < len := Nat.mod_lt _ hl
      have hsrc : wr.cell? ⟨sb, so + k % len, none⟩ = some (.float .f32 (v (k % len))) := by
        rw [hbel.cell (p := ⟨sb, so + k % len, none⟩) hsb]; exact HC.out _ hm
      go_wp2
      go_region
      have hx := HW.out _ hm
      generalize v (k % len) = x at *
      have R2 := Lib.hid ((fit_step HR.out hlt hx).congr rfl : FitRow (wr.setCell ⟨w.heap.size + 1 + 1, k, none⟩ (.float .f32 x)).drew (w.heap.size + 1 + 1) n k)
      have B2 : Hid ((wr.setCell ⟨w.heap.size + 1 + 1, k, none⟩ (.float .f32 x)).drew.heap[w.heap.size]? = some (fldO (clampI X) (clampI Y) (1 + p) (1 + q) (.slice (some ⟨sb, so, none⟩) len cap))) := (Below.heap_setCell wr ⟨w.heap.size + 1 + 1, k, none⟩ (.float .f32 x) w.heap.size (show w.heap.size ≠ w.heap.size + 1 + 1 by omega)).trans HB.out
      have S2 : Hid ((wr.setCell ⟨w.heap.size + 1 + 1, k, none⟩ (.float .f32 x)).drew.heap[w.heap.size + 1]? = some (fldO 0 0 0 0 (.slice none 0 0))) := (Below.heap_setCell wr ⟨w.heap.size + 1 + 1, k, none⟩ (.float .f32 x) (w.heap.size + 1) (show w.heap.size + 1 ≠ w.heap.size + 1 + 1 by omega)).trans HS.out
      have L2 : Below w.heap.size w (wr.setCell ⟨w.heap.size + 1 + 1, k, none⟩ (.float .f32 x)).drew := (hbel.setCell (show w.heap.size ≤ w.heap.size + 1 + 1 by omega) _).drew
      have C2 : (wr.setCell ⟨w.heap.size + 1 + 1, k, none⟩ (.float .f32 x)).drew.cell? ⟨w.heap.size + 1 + 1, k, none⟩ = some (.float .f32 x) := by
        obtain ⟨cs, h1, h2, _⟩ := HR.out
        show (wr.setCell ⟨w.heap.size + 1 + 1, k, none⟩ (.float .f32 x)).cell? ⟨w.heap.size + 1 + 1, k, none⟩ = _
        rw [(blkC (heap_setCell_same wr _ k cs _ _ h1)).1 k, Array.getElem?_setIfInBounds_self_of_lt (by omega)]
      generalize (wr.setCell ⟨w.heap.size + 1 + 1, k, none⟩ (.float .f32 x)).drew = w2 at *
      clear hsrc hx0 hfr cB fB zB HR HB HS hbel
      have HX := Lib.hid hx
      have z2 : w.heap.size + 1 + 1 < w2.heap.size := R2.out.lt
      have f2 := R2.out.free k
      cases hh : hgtB x with
      | true =>
        have HG := Lib.hid hh
        clear hh
        have HT := Lib.hid (fun w => refHeight_one x hx w)
        rw [fldE_one_ok HG.out] at HT
        clear hx
        go_wp2_with (go_at_call 84; refine (HT.out _).mono ?_; rintro e w' ⟨rfl, rfl⟩)
        go_roundw
        case rel =>
          exact ⟨k + 1, by omega, by go_num, (fit_up R2.out C2 HG.out).congr (heap_alloc_old _ _ (by omega)), (heap_alloc_old _ _ (by omega)).trans B2.out, (heap_alloc_old _ _ (by omega)).trans S2.out, L2.alloc (by omega) _⟩
        case measure => simp [intOf]; omega
      | false =>
        have HG := Lib.hid hh
        clear hh
        have HT := Lib.hid (fun w => refHeight_one x hx w)
        clear hx
        have hk256 : k ≤ 256 := by omega
        rcases fldE_one_no HG.out with e | e
        all_goals
          rw [e] at HT
          clear e
          go_wp2_with (go_at_call 84; refine (HT.out _).mono ?_; rintro e w' ⟨rfl, rfl⟩)
          go_roundw
          case rel =>
            have sz : ∀ u, (w2.setCell ⟨w.heap.size + 1 + 1, k, none⟩ u).heap.size = w2.heap.size := fun u => by simp
            exact ⟨k + 1, by omega, by go_num, (fit_keep R2.out hlt (floatOfInt_lt _) (floatOfInt_small k hk256)).congr (heap_alloc_old _ _ (by rw [sz]; omega)), (heap_alloc_old _ _ (by rw [sz]; omega)).trans ((Below.heap_setCell _ _ _ _ (show w.heap.size ≠ w.heap.size + 1 + 1 by omega)).trans B2.out), (heap_alloc_old _ _ (by rw [sz]; omega)).trans ((Below.heap_setCell _ _ _ _ (show w.heap.size + 1 ≠ w.heap.size + 1 + 1 by omega)).trans S2.out), (L2.setCell (p := ⟨w.heap.size + 1 + 1, k, none⟩) (show w.heap.size ≤ w.heap.size + 1 + 1 by omega) _).alloc (by rw [sz]; omega) _⟩
          case measure => simp [intOf]; omega
    · obtain ⟨cS, fS, zS⟩ := blkC HS.out
      go_wp2
      have hkn : k = n := by omega
      refine bodyPost_ret (v := fldV (clampI X) (clampI Y) (1 + p) (1 + q) (.slice (some ⟨w.heap.size + 1 + 1, 0, none⟩) n n)) (by simp [results, Try.results19, go_sem, cS]) rfl ?_
      obtain ⟨c1, c2⟩ := clampI_le X
      obtain ⟨c3, c4⟩ := clampI_le Y
      refine ⟨_, _, _, _, _, _, rfl, c1, c2, c3, c4, by omega, by omega, by omega, by omega, ?_, hn1, hn2, by omega, ?_, ?_⟩
      · rw [HN.out]; simp
      · subst hkn
        exact HR.out.congr (fit_six wr _ _ _ _ _ _ _)
      · exact (((((hbel.setCell (p := ⟨w.heap.size, 4, none⟩) (Nat.le_refl _) _).setCell (p := ⟨w.heap.size + 1, 0, none⟩) (Nat.le_succ _) _).setCell (p := ⟨w.heap.size + 1, 1, none⟩) (Nat.le_succ _) _).setCell (p := ⟨w.heap.size + 1, 2, none⟩) (Nat.le_succ _) _).setCell (p := ⟨w.heap.size + 1, 3, none⟩) (Nat.le_succ _) _).setCell (p := ⟨w.heap.size + 1, 4, none⟩) (Nat.le_succ _) _

end Go.Proofs.Ytmbiohopcfglcaa

/- Contract: fit of a field without singles. -/
namespace Go.Proofs.Ytmbiohopcfglcaa
open Go.RowKit Fl

set_option maxHeartbeats 2000000 in
theorem fit_none (X Y W H : Int) (a : Option Addr) (cap : Nat) (w : World) :
    Calls Try.prog 19 #[fldV X Y W H (.slice a 0 cap)] w (FitPost w) := by
  obtain ⟨p, hp, eW⟩ := and15 W
  obtain ⟨q, hq, eH⟩ := and15 H
  obtain ⟨n, hn⟩ : ∃ n : Nat, n = (1 + p) * (1 + q) := ⟨_, rfl⟩
  have hn2 : n ≤ 256 := by rw [hn]; exact Nat.le_trans (Nat.mul_le_mul (by omega : 1 + p ≤ 16) (by omega : 1 + q ≤ 16)) (by omega)
  have hn1 : 1 ≤ n := by rw [hn]; exact Nat.mul_pos (by omega) (by omega)
  have en : wrap64 ((1 + (p : Int)) * (1 + (q : Int))) = (n : Int) := by
    have : ((1 + (p : Int)) * (1 + (q : Int))) = (n : Int) := by rw [hn]; simp
    rw [this]; exact IntWalk.wrap64_in _ ⟨by omega, by omega⟩
  have HN := Lib.hid hn
  clear hn
  have e1 : (if X < -5000 then -5000 else X) = cl1 X := rfl
  have e2 : (if Y < -5000 then -5000 else Y) = cl1 Y := rfl
  have e3 : (if 5000 < cl1 X then 5000 else cl1 X) = clampI X := rfl
  have e4 : (if 5000 < cl1 Y then 5000 else cl1 Y) = clampI Y := rfl
  have hmk := make_f32 n (by omega)
  have hsf := fun (w : World) (a : Addr) (m : Mode) (k : FloatKind) (b : Nat) => run_store_float (P := Try.prog) (w := w) (a := a) (m := m) k b
  go_enter Try.func19, Try.ntmps19
  go_wp2
  clear en e1 e2 e3 e4 eW eH hmk
  go_loopw [43] (fun i wr => ∃ k : Nat, k ≤ n ∧ i = .int .i64 k ∧ FitRow wr (w.heap.size + 1 + 1) n k ∧ wr.heap[w.heap.size]? = some (fldO (clampI X) (clampI Y) (1 + p) (1 + q) (.slice a 0 cap)) ∧ wr.heap[w.heap.size + 1]? = some (fldO 0 0 0 0 (.slice none 0 0)) ∧ Below w.heap.size w wr) (fun i _ => n - (intOf i).toNat)
  case atStart =>
    refine ⟨0, Nat.zero_le _, rfl, ⟨madeCells #[Value.float .f32 0] n, ?_, size_madeCells _ _, fun j hj => ⟨0, made_f32 n j hj, by omega, fun c => by omega⟩⟩, ?_, ?_, (by repeat (first | exact Below.refl _ _ | refine Below.alloc ?_ (by first | omega | (simp; done) | (simp; omega)) _ | refine Below.setCell ?_ (by first | omega | (simp; done) | (simp; omega)) _ | refine Below.drew ?_))⟩
    · simp only [heap_alloc_get, heap_size_alloc]; simp <;> omega
    · simp only [heap_alloc_get, heap_size_alloc]; simp <;> omega
    · simp only [heap_alloc_get, heap_size_alloc]; simp <;> omega
  case round =>
    obtain ⟨k, hk, rfl, hrow, hbox, hres, hbel⟩ := hrel
    have HR := Lib.hid hrow
    have HB := Lib.hid hbox
    have HS := Lib.hid hres
    obtain ⟨cB, fB, zB⟩ := blkC hbox
    clear hrow hbox hres
    by_cases hlt : k < n
    · obtain ⟨x, C2, hx, _⟩ := fit_cell HR.out k hlt
      have hfr : wr.frozen? ⟨w.heap.size + 1 + 1, k, none⟩ = false := by
        obtain ⟨cs, h1, _⟩ := HR.out
        exact (blkC h1).2.1 k
      have R2 := HR
      have B2 := HB
      have S2 := HS
      have L2 := hbel
      obtain ⟨w2, rfl⟩ : ∃ w2, w2 = wr := ⟨_, rfl⟩
      clear HR HB HS hbel hfr
      have HX := Lib.hid hx
      have z2 : w.heap.size + 1 + 1 < w2.heap.size := R2.out.lt
      have f2 := R2.out.free k
      cases hh : hgtB x with
      | true =>
        have HG := Lib.hid hh
        clear hh
        have HT := Lib.hid (fun w => refHeight_one x hx w)
        rw [fldE_one_ok HG.out] at HT
        clear hx
        go_wp2_with (go_at_call 84; refine (HT.out _).mono ?_; rintro e w' ⟨rfl, rfl⟩)
        go_roundw
        case rel =>
          exact ⟨k + 1, by omega, by go_num, (fit_up R2.out C2 HG.out).congr (heap_alloc_old _ _ (by omega)), (heap_alloc_old _ _ (by omega)).trans B2.out, (heap_alloc_old _ _ (by omega)).trans S2.out, L2.alloc (by omega) _⟩
        case measure => simp [intOf]; omega
      | false =>
        have HG := Lib.hid hh
        clear hh
        have HT := Lib.hid (fun w => refHeight_one x hx w)
        clear hx
        have hk256 : k ≤ 256 := by omega
        rcases fldE_one_no HG.out with e | e
        all_goals
          rw [e] at HT
          clear e
          go_wp2_with (go_at_call 84; refine (HT.out _).mono ?_; rintro e w' ⟨rfl, rfl⟩)
          go_roundw
          case rel =>
            have sz : ∀ u, (w2.setCell ⟨w.heap.size + 1 + 1, k, none⟩ u).heap.size = w2.heap.size := fun u => by simp
            exact ⟨k + 1, by omega, by go_num, (fit_keep R2.out hlt (floatOfInt_lt _) (floatOfInt_small k hk256)).congr (heap_alloc_old _ _ (by rw [sz]; omega)), (heap_alloc_old _ _ (by rw [sz]; omega)).trans ((Below.heap_setCell _ _ _ _ (show w.heap.size ≠ w.heap.size + 1 + 1 by omega)).trans B2.out), (heap_alloc_old _ _ (by rw [sz]; omega)).trans ((Below.heap_setCell _ _ _ _ (show w.heap.size + 1 ≠ w.heap.size + 1 + 1 by omega)).trans S2.out), (L2.setCell (p := ⟨w.heap.size + 1 + 1, k, none⟩) (show w.heap.size ≤ w.heap.size + 1 + 1 by omega) _).alloc (by rw [sz]; omega) _⟩
          case measure => simp [intOf]; omega
    · obtain ⟨cS, fS, zS⟩ := blkC HS.out
      go_wp2
      have hkn : k = n := by omega
      refine bodyPost_ret (v := fldV (clampI X) (clampI Y) (1 + p) (1 + q) (.slice (some ⟨w.heap.size + 1 + 1, 0, none⟩) n n)) (by simp [results, Try.results19, go_sem, cS]) rfl ?_
      obtain ⟨c1, c2⟩ := clampI_le X
      obtain ⟨c3, c4⟩ := clampI_le Y
      refine ⟨_, _, _, _, _, _, rfl, c1, c2, c3, c4, by omega, by omega, by omega, by omega, ?_, hn1, hn2, by omega, ?_, ?_⟩
      · rw [HN.out]; simp
      · subst hkn
        exact HR.out.congr (fit_six wr _ _ _ _ _ _ _)
      · exact (((((hbel.setCell (p := ⟨w.heap.size, 4, none⟩) (Nat.le_refl _) _).setCell (p := ⟨w.heap.size + 1, 0, none⟩) (Nat.le_succ _) _).setCell (p := ⟨w.heap.size + 1, 1, none⟩) (Nat.le_succ _) _).setCell (p := ⟨w.heap.size + 1, 2, none⟩) (Nat.le_succ _) _).setCell (p := ⟨w.heap.size + 1, 3, none⟩) (Nat.le_succ _) _).setCell (p := ⟨w.heap.size + 1, 4, none⟩) (Nat.le_succ _) _

end Go.Proofs.Ytmbiohopcfglcaa

/- Contract: byCell, whatever function it is given. -/
namespace Go.Proofs.Ytmbiohopcfglcaa
open Go.RowKit Fl

/-- Block b has at least n singles; the first k are f. -/
def RowPart (wr : World) (b n k : Nat) (f : Nat → Nat) : Prop :=
  ∃ cs : Array Value, wr.heap[b]? = some (.cells cs 22 (0, 0)) ∧ n ≤ cs.size ∧ ∀ j, j < k → cs[j]? = some (.float .f32 (f j))
theorem RowPart.congr {w w' : World} {b n k : Nat} {f : Nat → Nat} (h : RowPart w b n k f) (e : w'.heap[b]? = w.heap[b]?) : RowPart w' b n k f := by
  obtain ⟨cs, h1, h2⟩ := h
  exact ⟨cs, by rw [e]; exact h1, h2⟩
theorem RowPart.lt {w : World} {b n k : Nat} {f : Nat → Nat} (h : RowPart w b n k f) : b < w.heap.size := by
  obtain ⟨cs, h1, _⟩ := h
  exact (blkC h1).2.2
theorem RowPart.free {w : World} {b n k : Nat} {f : Nat → Nat} (h : RowPart w b n k f) (j : Nat) : w.frozen? ⟨b, j, none⟩ = false := by
  obtain ⟨cs, h1, _⟩ := h
  exact (blkC h1).2.1 j
theorem RowPart.cell {w : World} {b n k : Nat} {f : Nat → Nat} (h : RowPart w b n k f) {j : Nat} (hj : j < n) : ∃ x, w.cell? ⟨b, j, none⟩ = some x := by
  obtain ⟨cs, h1, h2, _⟩ := h
  exact ⟨cs[j]'(by omega), by rw [(blkC h1).1 j, Array.getElem?_eq_getElem (by omega)]⟩
theorem RowPart.flAt {w : World} {b n k : Nat} {f : Nat → Nat} (h : RowPart w b n k f) : FlAt w b 0 k f := by
  intro i hi
  obtain ⟨cs, h1, h2, h3⟩ := h
  rw [Nat.zero_add, (blkC h1).1 i]
  exact h3 i hi
theorem RowPart.put {w : World} {b n k : Nat} {f : Nat → Nat} (h : RowPart w b n k f) (hk : k < n) : RowPart (w.setCell ⟨b, k, none⟩ (.float .f32 (f k))) b n (k + 1) f := by
  obtain ⟨cs, h1, h2, h3⟩ := h
  refine ⟨cs.setIfInBounds k (.float .f32 (f k)), heap_setCell_same w b k cs _ _ h1, by simp [h2], fun j hj => ?_⟩
  by_cases e : k = j
  · subst e; rw [Array.getElem?_setIfInBounds_self_of_lt (by omega)]
  · rw [Array.getElem?_setIfInBounds_ne e]; exact h3 j (by omega)

/-- A function of a cell's number, as a closure: in any world that has grown out of w it answers f, and leaves what was there. -/
def Clos1 (g : Nat) (caps : Array Value) (n : Nat) (f : Nat → Nat) (w : World) : Prop :=
  ∀ (i : Nat) (W : World), i < n → Below w.heap.size w W → Calls Try.prog g (#[.int .i64 i] ++ caps) W fun e W' => e = .returned (.float .f32 (f i)) ∧ Below W.heap.size W W'
def Enters (g : Nat) : Prop := ∀ (args : Array Value) (W : World), (callFunc g args).run Try.prog W = .ok (.enter g args) W

/-- A field that is made of f, or the error. -/
def MadePost (w : World) (X Y W H : Int) (n : Nat) (f : Nat → Nat) (e : Ending) (w' : World) : Prop :=
  (allB n (fun i => hgtB (f i)) = true ∧ ∃ b cap, e = .returned (.tuple #[fldV X Y W H (.slice (some ⟨b, 0, none⟩) n cap), .int .i64 0]) ∧ w.heap.size ≤ b ∧ b < w'.heap.size ∧ FlAt w' b 0 n f ∧ Below w.heap.size w w') ∨
  (allB n (fun i => hgtB (f i)) = false ∧ e = .returned (.tuple #[fldV 0 0 0 0 (.slice none 0 0), .int .i64 3]) ∧ Below w.heap.size w w')

/-- A field's five cells stored into block b. -/
abbrev set5 (wr : World) (b : Nat) (u1 u2 u3 u4 u5 : Value) : World :=
  ((((wr.setCell ⟨b, 0, none⟩ u1).setCell ⟨b, 1, none⟩ u2).setCell ⟨b, 2, none⟩ u3).setCell ⟨b, 3, none⟩ u4).setCell ⟨b, 4, none⟩ u5
theorem set5_heap (wr : World) (b k : Nat) (u1 u2 u3 u4 u5 : Value) (h : k ≠ b) : (set5 wr b u1 u2 u3 u4 u5).heap[k]? = wr.heap[k]? := by
  rw [Below.heap_setCell _ _ _ _ h, Below.heap_setCell _ _ _ _ h, Below.heap_setCell _ _ _ _ h, Below.heap_setCell _ _ _ _ h, Below.heap_setCell _ _ _ _ h]
theorem set5_below {w wr : World} {B : Nat} (hb : Below B w wr) (b : Nat) (u1 u2 u3 u4 u5 : Value) (h : B ≤ b) : Below B w (set5 wr b u1 u2 u3 u4 u5) :=
  ((((hb.setCell (p := ⟨b, 0, none⟩) h u1).setCell (p := ⟨b, 1, none⟩) h u2).setCell (p := ⟨b, 2, none⟩) h u3).setCell (p := ⟨b, 3, none⟩) h u4).setCell (p := ⟨b, 4, none⟩) h u5
theorem set5_size (wr : World) (b : Nat) (u1 u2 u3 u4 u5 : Value) : (set5 wr b u1 u2 u3 u4 u5).heap.size = wr.heap.size := by simp [set5]

set_option maxHeartbeats 2000000 in
theorem byCell_any (X Y W H : Int) (n : Nat) (g : Nat) (caps : Array Value) (f : Nat → Nat) (w : World) (hcall : Enters g) (hcl : Clos1 g caps n f w) (hn : (n : Int) = W * H) (hn1 : 1 ≤ n) (hn2 : n ≤ 65536) :
    Calls Try.prog 221 #[reg X Y W H, .func (.func g) #[] caps] w (MadePost w X Y W H n f) := by
  have en : wrap64 (W * H) = (n : Int) := by rw [← hn]; exact IntWalk.wrap64_in _ ⟨by omega, by omega⟩
  have hmk := make_f32 n hn2
  have HCL := Lib.hid hcl
  unfold Enters at hcall
  clear hn hcl
  have hsf := fun (w : World) (a : Addr) (m : Mode) (k : FloatKind) (b : Nat) => run_store_float (P := Try.prog) (w := w) (a := a) (m := m) k b
  go_enter Try.func221, Try.ntmps221
  go_wp2
  clear en hmk
  go_loopw [17] (fun i wr => ∃ k : Nat, k ≤ n ∧ i = .int .i64 k ∧ RowPart wr (w.heap.size + 1 + 1) n k f ∧ wr.heap[w.heap.size]? = some (regObj X Y W H) ∧ wr.heap[w.heap.size + 1]? = some (fldO 0 0 0 0 (.slice none 0 0)) ∧ Below w.heap.size w wr) (fun i _ => n - (intOf i).toNat)
  case atStart =>
    refine ⟨0, Nat.zero_le _, rfl, ⟨madeCells #[Value.float .f32 0] n, ?_, by rw [size_madeCells]; exact Nat.le_refl _, fun j hj => by omega⟩, ?_, ?_, (by repeat (first | exact Below.refl _ _ | refine Below.alloc ?_ (by first | omega | (simp; done) | (simp; omega)) _ | refine Below.setCell ?_ (by first | omega | (simp; done) | (simp; omega)) _ | refine Below.drew ?_))⟩
    · simp only [heap_alloc_get, heap_size_alloc]; simp <;> omega
    · simp only [heap_alloc_get, heap_size_alloc]; simp <;> omega
    · simp only [heap_alloc_get, heap_size_alloc]; simp <;> omega
  case round =>
    obtain ⟨k, hk, rfl, hrow, hbox, hres, hbel⟩ := hrel
    have HR := Lib.hid hrow
    have HB := Lib.hid hbox
    have HS := Lib.hid hres
    clear hrow hbox hres
    by_cases hlt : k < n
    · have CC := Lib.hid (HCL.out k wr hlt hbel)
      go_wp2_with fail
      refine CC.out.mono ?_
      rintro e w2 ⟨rfl, hb2⟩
      have R2 := Lib.hid (HR.out.congr (hb2.block _ HR.out.lt))
      have B2 := Lib.hid (blkStay HB.out hb2)
      have S2 := Lib.hid (blkStay HS.out hb2)
      have L2 : Below w.heap.size w w2 := hbel.trans (hb2.mono hbel.size)
      have z2 := R2.out.lt
      have f2 := R2.out.free k
      obtain ⟨x0, hx0⟩ := R2.out.cell hlt
      clear hb2 CC HR HB HS hbel
      go_wp2
      go_roundw
      case rel =>
        exact ⟨k + 1, by omega, by go_num, R2.out.put hlt, (Below.heap_setCell _ _ _ _ (show w.heap.size ≠ w.heap.size + 1 + 1 by omega)).trans B2.out, (Below.heap_setCell _ _ _ _ (show w.heap.size + 1 ≠ w.heap.size + 1 + 1 by omega)).trans S2.out, L2.setCell (p := ⟨w.heap.size + 1 + 1, k, none⟩) (show w.heap.size ≤ w.heap.size + 1 + 1 by omega) _⟩
      case measure => simp [intOf]; omega
    · have hkn : k = n := by omega
      subst hkn
      obtain ⟨cB, fB, zB⟩ := blkC HB.out
      obtain ⟨cS, fS, zS⟩ := blkC HS.out
      have HF := HR.out.flAt
      have CH := Lib.hid (checkRange_row (w.heap.size + 1 + 1) 0 k k f (by omega) wr HF)
      clear HF
      cases hall : allB k (fun i => hgtB (f i)) with
      | true =>
        have e : hgtE k f = 0 := by unfold hgtE; rw [hall]; rfl
        rw [e] at CH
        clear e
        go_wp2_with (go_at_call 180; refine CH.out.mono ?_; rintro e w' ⟨rfl, rfl⟩)
        refine bodyPost_ret (v := .tuple #[fldV X Y W H (.slice (some ⟨w.heap.size + 1 + 1, 0, none⟩) k k), .int .i64 0]) (by simp [results, Try.results221, go_sem, cS]) rfl ?_
        exact .inl ⟨hall, w.heap.size + 1 + 1, k, rfl, by omega, by rw [set5_size]; exact HR.out.lt, (HR.out.congr (set5_heap wr (w.heap.size + 1) (w.heap.size + 1 + 1) _ _ _ _ _ (by omega))).flAt, set5_below hbel (w.heap.size + 1) _ _ _ _ _ (by omega)⟩
      | false =>
        have e : hgtE k f = 3 := by unfold hgtE; rw [hall]; rfl
        rw [e] at CH
        clear e
        go_wp2_with (go_at_call 180; refine CH.out.mono ?_; rintro e w' ⟨rfl, rfl⟩)
        refine bodyPost_ret (v := .tuple #[fldV 0 0 0 0 (.slice none 0 0), .int .i64 3]) (by simp [results, Try.results221, go_sem, cS]) rfl ?_
        exact .inr ⟨hall, rfl, set5_below hbel (w.heap.size + 1) _ _ _ _ _ (by omega)⟩

end Go.Proofs.Ytmbiohopcfglcaa

/- Contract: the reference's made, whatever function it is given. -/
namespace Go.Proofs.Ytmbiohopcfglcaa
open Go.RowKit Fl
set_option linter.unusedVariables false

def rowL (f : Nat → Nat) (k : Nat) : List Value := (List.range k).map fun i => Value.float .f32 (f i)
theorem rowL_succ (f : Nat → Nat) (k : Nat) : rowL f (k + 1) = rowL f k ++ [.float .f32 (f k)] := by simp [rowL, List.range_succ]
theorem ownsRow_below {w w' : World} {base : Nat} {e : TypeId} {size : Nat} {v : Value} {n : Nat} {xs : List Value} (h : w.ownsRow base e size v n xs) (hb : Below w.heap.size w w') : w'.ownsRow base e size v n xs := by
  obtain ⟨h1, h2⟩ := h
  refine ⟨h1, ?_⟩
  rcases h2 with h2 | ⟨g, cap, cur, hv, hg, hh, r⟩
  · exact .inl h2
  · exact .inr ⟨g, cap, cur, hv, hg, blkStay hh hb, r⟩
theorem ownsRow_far {w : World} {base : Nat} {e : TypeId} {size : Nat} {v : Value} {n : Nat} {xs : List Value} (h : w.ownsRow base e size v n xs) {b : Nat} (hb : b < base) : some b ≠ v.ownBlock := by
  rcases h.2 with ⟨rfl, _⟩ | ⟨g, cap, cur, rfl, hg, _⟩
  · simp [Value.ownBlock]
  · intro c
    have : b = g := by simpa [Value.ownBlock] using c
    omega
theorem ownsRow_flAt {w : World} {base b cap k : Nat} {f : Nat → Nat} (h : w.ownsRow base 22 1 (.slice (some ⟨b, 0, none⟩) k cap) k (rowL f k)) (hk : 0 < k) : FlAt w b 0 k f ∧ b < w.heap.size ∧ base ≤ b := by
  rcases h.2 with ⟨h0, _⟩ | ⟨g, cap', cur, hv, hg, hh, h1, h2, h3, h4⟩
  · cases h0
  · cases hv
    refine ⟨fun i hi => ?_, (blkC hh).2.2, hg⟩
    rw [Nat.zero_add, (blkC hh).1 i]
    have : (cur.toList.take (k * 1))[i]? = some (.float .f32 (f i)) := by rw [h4]; simp [rowL, hi]
    rw [List.getElem?_take, if_pos (by omega)] at this
    simpa using this

/-- A function of a cell's place, as a closure. -/
def Clos2 (g : Nat) (caps : Array Value) (X Y W H : Int) (f : Nat → Nat) (w : World) : Prop :=
  ∀ (x y : Int) (i : Nat) (W' : World), X ≤ x → x < X + W → Y ≤ y → y < Y + H → (i : Int) = (y - Y) * W + (x - X) → Below w.heap.size w W' →
    Calls Try.prog g (#[.int .i64 x, .int .i64 y] ++ caps) W' fun e W'' => e = .returned (.float .f32 (f i)) ∧ Below W'.heap.size W' W''

/-- What holds of the world at each head of made's loops, when k values have been made. -/
def MadeAt (w : World) (X Y W H : Int) (f : Nat → Nat) (k : Nat) (wr : World) : Prop :=
  ∃ ov, wr.ownsRow (w.heap.size + 1 + 1 + 1) 22 1 ov k (rowL f k) ∧ wr.heap[w.heap.size]? = some (regObj X Y W H) ∧ wr.heap[w.heap.size + 1]? = some (fldO 0 0 0 0 (.slice none 0 0)) ∧
    wr.heap[w.heap.size + 1 + 1]? = some (fldO X Y W H ov) ∧ Below w.heap.size w wr

theorem flAt_congr {w w' : World} {b off n : Nat} {f : Nat → Nat} (h : FlAt w b off n f) (e : w'.heap[b]? = w.heap[b]?) : FlAt w' b off n f := fun i hi => by
  rw [← h i hi]; exact World.cell?_of_block (w := w) (a := ⟨b, off + i, none⟩) e

theorem made_step {w wr w2 w3 : World} {X Y W H : Int} {f : Nat → Nat} {k gg cap : Nat} {ov : Value} {o : Obj}
    (HO : wr.ownsRow (w.heap.size + 1 + 1 + 1) 22 1 ov k (rowL f k)) (HB : wr.heap[w.heap.size]? = some (regObj X Y W H)) (HS : wr.heap[w.heap.size + 1]? = some (fldO 0 0 0 0 (.slice none 0 0)))
    (HV : wr.heap[w.heap.size + 1 + 1]? = some (fldO X Y W H ov)) (hbel : Below w.heap.size w wr) (hb2 : Below wr.heap.size wr w2) (hgrow : (w2.alloc o).grownBy w3 ov.ownBlock)
    (hown3 : w3.ownsRow (w.heap.size + 1 + 1 + 1) 22 1 (.slice (some ⟨gg, 0, none⟩) (k + 1) cap) (k + 1) (rowL f k ++ [.float .f32 (f k)])) :
    MadeAt w X Y W H f (k + 1) (w3.setCell ⟨w.heap.size + 1 + 1, 4, none⟩ (.slice (some ⟨gg, 0, none⟩) (k + 1) cap)) := by
  have go : ∀ b o', wr.heap[b]? = some o' → b < w.heap.size + 1 + 1 + 1 → w3.heap[b]? = some o' := by
    intro b o' h hb
    have h2 := blkStay h hb2
    have hlt : b < w2.heap.size := by
      rcases Nat.lt_or_ge b w2.heap.size with x | x
      · exact x
      · rw [Array.getElem?_eq_none x] at h2; cases h2
    rw [hgrow.block b (by rw [heap_size_alloc]; omega) (ownsRow_far HO hb), heap_alloc_old _ _ hlt, h2]
  refine ⟨.slice (some ⟨gg, 0, none⟩) (k + 1) cap, ?_, ?_, ?_, ?_, ?_⟩
  · rw [rowL_succ]; exact ownsRow_setCell_below hown3 (show w.heap.size + 1 + 1 < w.heap.size + 1 + 1 + 1 by omega) _
  · exact (Below.heap_setCell _ _ _ _ (show w.heap.size ≠ w.heap.size + 1 + 1 by omega)).trans (go _ _ HB (by omega))
  · exact (Below.heap_setCell _ _ _ _ (show w.heap.size + 1 ≠ w.heap.size + 1 + 1 by omega)).trans (go _ _ HS (by omega))
  · rw [heap_setCell_same w3 (w.heap.size + 1 + 1) 4 _ _ _ (go _ _ HV (by omega))]; rfl
  · have h2 : Below w.heap.size w w2 := hbel.trans (hb2.mono hbel.size)
    have h3 := (h2.alloc h2.size o).grown hgrow (by rw [heap_size_alloc]; have := h2.size; omega) (fun b hb => by
      rcases HO.2 with ⟨rfl, _⟩ | ⟨g, _, _, rfl, hg, _⟩
      · cases hb
      · have : b = g := by simpa [Value.ownBlock] using hb.symm
        omega)
    exact h3.setCell (p := ⟨w.heap.size + 1 + 1, 4, none⟩) (show w.heap.size ≤ w.heap.size + 1 + 1 by omega) _

set_option maxRecDepth 100000 in
set_option maxHeartbeats 4000000 in
theorem made_any (X Y : Int) (W H n : Nat) (g : Nat) (caps : Array Value) (f : Nat → Nat) (w : World) (hcall : Enters g) (hcl : Clos2 g caps X Y W H f w) (hwf : wf32 n f) (hX1 : -16777216 ≤ X) (hX2 : X ≤ 16777216) (hY1 : -16777216 ≤ Y) (hY2 : Y ≤ 16777216) (hW1 : 1 ≤ W) (hW2 : W ≤ 512) (hH1 : 1 ≤ H) (hH2 : H ≤ 512) (hn : n = H * W) :
    Calls Try.prog 93 #[reg X Y W H, .func (.func g) #[] caps] w (MadePost w X Y W H n f) := by
  have HCL := Lib.hid hcl
  have HWF := Lib.hid hwf
  unfold Enters at hcall
  have HN := Lib.hid hn
  have hinfo : (Try.prog.info? 22).map (fun i => (i.zero, i.size, i.bytes)) = some (some (.float .f32 0), 1, 4) := by kernel_rfl
  obtain ⟨i0, hi, hz0, hz1, hz2⟩ := info_parts hinfo
  clear hcl hn hinfo hwf
  go_enter Try.func93, Try.ntmps93
  go_wp2
  go_loopw [7, 8] (fun y x wr => ∃ j : Nat, j ≤ H ∧ y = .int .i64 (Y + j) ∧ MadeAt w X Y W H f (j * W) wr) (fun y _ _ => (Y + H - intOf y).toNat)
  case atStart =>
    refine ⟨0, by omega, by simp, .slice none 0 0, ⟨by simp [rowL], .inl ⟨rfl, by simp⟩⟩, ?_, ?_, ?_, (by repeat (first | exact Below.refl _ _ | refine Below.alloc ?_ (by first | omega | (simp; done) | (simp; omega)) _ | refine Below.setCell ?_ (by first | omega | (simp; done) | (simp; omega)) _ | refine Below.drew ?_))⟩
    · simp only [heap_alloc_get, heap_size_alloc]; simp <;> omega
    · simp only [heap_alloc_get, heap_size_alloc]; simp <;> omega
    · simp only [heap_alloc_get, heap_size_alloc]; simp <;> omega
  case round =>
    obtain ⟨j, hj, rfl, hmade⟩ := hrel
    have HM := Lib.hid hmade
    obtain ⟨_, _, hbox, _⟩ := hmade
    obtain ⟨cB, fB, zB⟩ := blkC hbox
    clear hbox
    by_cases hlt : j < H
    · go_wp2
      clear cB fB zB
      obtain ⟨w1, rfl⟩ : ∃ w1, w1 = wr := ⟨_, rfl⟩
      go_loopw [8] (fun x wr => ∃ i : Nat, i ≤ W ∧ x = .int .i64 (X + i) ∧ MadeAt w X Y W H f (j * W + i) wr) (fun x _ => (X + W - intOf x).toNat)
      case atStart => exact ⟨0, by omega, by simp, HM.out⟩
      case round =>
        obtain ⟨i, hi1, rfl, hmi⟩ := hrel
        have HMi := Lib.hid hmi
        obtain ⟨ov, hown, hbox, hres, hout, hbel⟩ := hmi
        have HO := Lib.hid hown
        have HB := Lib.hid hbox
        have HS := Lib.hid hres
        have HV := Lib.hid hout
        obtain ⟨cB, fB, zB⟩ := blkC hbox
        obtain ⟨cV, fV, zV⟩ := blkC hout
        clear hbox hown hres hout
        by_cases hlt2 : i < W
        · have CC := Lib.hid (fun W' hb => HCL.out (X + i) (Y + j) (j * W + i) W' (by omega) (by omega) (by omega) (by omega) (by rw [show (Y + (j : Int) - Y) = j by omega, show (X + (i : Int) - X) = i by omega]; simp) hb)
          have hk : j * W + i < 262144 := by
            have : j * W ≤ 511 * 512 := Nat.mul_le_mul (by omega) hW2
            omega
          have hx : f (j * W + i) < 4294967296 := HWF.out _ (by
            rw [HN.out]
            have : (j + 1) * W ≤ H * W := Nat.mul_le_mul_right _ hlt
            rw [Nat.succ_mul] at this; omega)
          obtain ⟨k, hke⟩ : ∃ k, j * W + i = k := ⟨_, rfl⟩
          rw [hke] at CC hk hx HO
          have KE := Lib.hid (show j * W + (i + 1) = k + 1 by omega)
          clear hke
          have hrd : Below w.heap.size w wr.drew := hbel.drew
          have hb1 : k + 1 ≤ maxLen := by unfold maxLen; omega
          have hb2 : (k + 1) * 4 ≤ 140737488355328 := by omega
          have HB1 := Lib.hid hb1
          have HB2 := Lib.hid hb2
          clear hb1 hb2
          go_wp2_with fail
          go_region_law (first
            | (go_simp; (with_reducible refine (CC.out _ hrd).mono ?_); rintro e w2 ⟨rfl, hb2'⟩; have hb2 : Below wr.heap.size wr w2 := ⟨hb2'.os, hb2'.tape, hb2'.output, hb2'.size, hb2'.block⟩; have own2 := Lib.hid (ownsRow_below HO.out hb2); have out2 := Lib.hid (blkStay HV.out hb2); obtain ⟨cV2, fV2, zV2⟩ := blkC out2.out)
            | (refine step_append_lies _ (by rfl) _ _ _ (by rfl) (w.heap.size + 1 + 1 + 1) 22 i0 _ 1 4 Try.underlying27 hi hz0 hz1 hz2 rfl (by omega) ov k (rowL f k) (by rfl) (own2.out.alloc _) ⟨w2.heap.size, 0, none⟩ 1 1 [.float .f32 (f k)] (by rfl) (by rfl) (World.news_of_block (cs := #[.float .f32 (f k)]) (t := 22) (fr := (0, 0)) (heap_alloc_new w2 _)) (by simp [Value.oneCell']) (by omega) HB1.out HB2.out (by simp; omega) (w2.heap.size + 1) (by simp) ?_; intro gg cap w3 hown3 hgrow hat hlt3; have hF := ownsRow_far HO.out (show w.heap.size + 1 + 1 < w.heap.size + 1 + 1 + 1 by omega); have out3 := Lib.hid ((hgrow.block (w.heap.size + 1 + 1) (by rw [heap_size_alloc]; omega) hF).trans ((heap_alloc_old _ _ zV2).trans out2.out)); obtain ⟨cV3, fV3, zV3⟩ := blkC out3.out))
          all_goals
            have HM2 := Lib.hid (made_step HO.out HB.out HS.out HV.out hbel hb2 hgrow hown3)
            clear hown3 hgrow hat hlt3 hF cV3 fV3 zV3 cV2 fV2 zV2 cV fV zV
            go_wp2
            go_roundw
            case rel => exact ⟨i + 1, by omega, by go_num, by rw [KE.out]; exact HM2.out⟩
            case measure => simp [intOf]; omega
        · have hiW : i = W := by omega
          have HM3 : Hid (MadeAt w X Y W H f ((j + 1) * W) wr) := by
            have h := HMi.out
            rw [hiW, ← Nat.succ_mul] at h
            exact h
          have hge : ¬ X + (i : Int) < X + W := by omega
          clear hiW
          go_wp2
          go_roundw
          case rel => exact ⟨j + 1, by omega, by go_num, HM3.out⟩
          case measure => simp [intOf]; omega
    · have hjH : j = H := by omega
      have hn1 : 0 < n := by rw [HN.out]; exact Nat.mul_pos hH1 hW1
      have hn2 : n ≤ 262144 := by rw [HN.out]; exact Nat.le_trans (Nat.mul_le_mul hH2 hW2) (by omega)
      have hm := HM.out
      rw [hjH, ← HN.out] at hm
      obtain ⟨ov, hown, hbox, hres, hout, hbel⟩ := hm
      obtain ⟨gb, cap, rfl, hgb, _⟩ := hown.form hn1
      obtain ⟨hfl, hgl, _⟩ := ownsRow_flAt hown hn1
      obtain ⟨cV, fV, zV⟩ := blkC hout
      obtain ⟨cS, fS, zS⟩ := blkC hres
      have HF := Lib.hid hfl
      have OUT := Lib.hid (refOut_row gb 0 cap n f (by omega) wr hfl HWF.out)
      have HBL := Lib.hid hbel
      clear hjH hown hbox hres hout hfl hbel
      cases hall : allB n (fun i => hgtB (f i)) with
      | true =>
        have HA := Lib.hid hall
        rw [hall] at OUT
        clear hall
        go_wp2_with (go_at_call 184; refine OUT.out.mono ?_; rintro e w' ⟨rfl, rfl⟩)
        refine bodyPost_ret (v := .tuple #[fldV X Y W H (.slice (some ⟨gb, 0, none⟩) n cap), .int .i64 0]) (by simp [results, Try.results93, go_sem, cS]) rfl ?_
        exact .inl ⟨HA.out, gb, cap, rfl, by omega, by rw [set5_size]; exact hgl, flAt_congr HF.out (set5_heap wr (w.heap.size + 1) gb _ _ _ _ _ (by omega)), set5_below HBL.out (w.heap.size + 1) _ _ _ _ _ (by omega)⟩
      | false =>
        have HA := Lib.hid hall
        rw [hall] at OUT
        clear hall
        go_wp2_with (go_at_call 184; refine OUT.out.mono ?_; rintro e w' ⟨rfl, rfl⟩)
        refine bodyPost_ret (v := .tuple #[fldV 0 0 0 0 (.slice none 0 0), .int .i64 3]) (by simp [results, Try.results93, go_sem, cS]) rfl ?_
        exact .inr ⟨HA.out, rfl, set5_below HBL.out (w.heap.size + 1) _ _ _ _ _ (by omega)⟩

end Go.Proofs.Ytmbiohopcfglcaa

/- Sums, products and quotients of singles as words. -/
namespace Go.Proofs.Ytmbiohopcfglcaa
open Go.RowKit Fl
set_option linter.unusedVariables false

/-- What an operation on singles answers stays below 2 ^ 32. -/
theorem opt_lt {d : Option Ieee.Datum} {r : Nat} (h : d.map Ieee.single.write = some r) : r < 4294967296 := by
  cases d with
  | none => cases h
  | some d => cases h; exact Ieee.Format.write_lt Ieee.single d

/-- The lesser, the greater, as words: the first one where they are equal. -/
def lesW (x y : Nat) : Nat := if (FloatKind.f32.format.order y x == some .lt) = true then y else x
def grtW (x y : Nat) : Nat := if (FloatKind.f32.format.order y x == some .gt) = true then y else x

def quoW (a b : Nat) : Nat := (floatBits .quo .f32 a b).getD 0
def subW (a b : Nat) : Nat := (floatBits .sub .f32 a b).getD 0
def addW (a b : Nat) : Nat := (floatBits .add .f32 a b).getD 0
def mulW (a b : Nat) : Nat := (floatBits .mul .f32 a b).getD 0
def ltB (a b : Nat) : Bool := FloatKind.f32.format.order a b == some .lt

theorem same_ex {op : BinOp} {k x y : Nat} (h : Same2 op k x y) : ∃ r, floatBits op .f32 x y = some r ∧ Bd k r := by
  obtain ⟨_, _, _, r, _, _, _, _, e, b⟩ := h.ex
  exact ⟨r, e, b⟩
theorem sub_lt {x y r : Nat} (h : floatBits .sub .f32 x y = some r) : r < 4294967296 := opt_lt (d := (Ieee.single.read x).sum (Ieee.single.read y).opposite) h
theorem mul_lt {x y r : Nat} (h : floatBits .mul .f32 x y = some r) : r < 4294967296 := opt_lt (d := (Ieee.single.read x).product (Ieee.single.read y)) h
theorem add_lt {x y r : Nat} (h : floatBits .add .f32 x y = some r) : r < 4294967296 := opt_lt (d := (Ieee.single.read x).sum (Ieee.single.read y)) h

end Go.Proofs.Ytmbiohopcfglcaa

/- Contracts: the reference's add, sub, mul; scaled, clamped; lesser, greater; At; Check of a right field. -/
namespace Go.Proofs.Ytmbiohopcfglcaa
open Go.RowKit Fl
set_option linter.unusedVariables false

theorem ret_fl {k : FloatKind} {a b : Nat} (h : a = b) : Ending.returned (.float k a) = .returned (.float k b) := by rw [h]

set_option maxHeartbeats 400000 in
theorem refAdd_any (k x y r : Nat) (h : Same2 .add k x y) (hr : floatBits .add .f32 x y = some r) (w : World) :
    Calls Try.prog 95 #[.float .f32 x, .float .f32 y] w fun e w' => e = .returned (.float .f32 r) ∧ w = w' := by
  obtain ⟨X, Y, Z, r', h1, h2, h3, h4, h5, _⟩ := h.ex
  rw [hr] at h5
  have h5 := Option.some.inj h5
  subst h5
  have c1 := fun (W : World) => run_convert_float_float (P := Try.prog) W 22 182 .f32 .f64 x X (by kernel_rfl) Try.underlying182 h1
  have c2 := fun (W : World) => run_convert_float_float (P := Try.prog) W 22 182 .f32 .f64 y Y (by kernel_rfl) Try.underlying182 h2
  have c3 := fun (W : World) => run_float_arith (P := Try.prog) W .add 182 .f64 X Y Z h3
  have c4 := fun (W : World) => run_convert_float_float (P := Try.prog) W 182 22 .f64 .f32 Z r (by kernel_rfl) Try.underlying22 h4
  clear h1 h2 h3 h4 hr h
  go_enter Try.func95, Try.ntmps95
  go_wp2
  go_ret
  exact ⟨rfl, rfl⟩

set_option maxHeartbeats 400000 in
theorem refSub_any (k x y r : Nat) (h : Same2 .sub k x y) (hr : floatBits .sub .f32 x y = some r) (w : World) :
    Calls Try.prog 101 #[.float .f32 x, .float .f32 y] w fun e w' => e = .returned (.float .f32 r) ∧ w = w' := by
  obtain ⟨X, Y, Z, r', h1, h2, h3, h4, h5, _⟩ := h.ex
  rw [hr] at h5
  have h5 := Option.some.inj h5
  subst h5
  have c1 := fun (W : World) => run_convert_float_float (P := Try.prog) W 22 182 .f32 .f64 x X (by kernel_rfl) Try.underlying182 h1
  have c2 := fun (W : World) => run_convert_float_float (P := Try.prog) W 22 182 .f32 .f64 y Y (by kernel_rfl) Try.underlying182 h2
  have c3 := fun (W : World) => run_float_arith (P := Try.prog) W .sub 182 .f64 X Y Z h3
  have c4 := fun (W : World) => run_convert_float_float (P := Try.prog) W 182 22 .f64 .f32 Z r (by kernel_rfl) Try.underlying22 h4
  clear h1 h2 h3 h4 hr h
  go_enter Try.func101, Try.ntmps101
  go_wp2
  go_ret
  exact ⟨rfl, rfl⟩

set_option maxHeartbeats 400000 in
theorem refMul_any (k x y r : Nat) (h : Same2 .mul k x y) (hr : floatBits .mul .f32 x y = some r) (w : World) :
    Calls Try.prog 97 #[.float .f32 x, .float .f32 y] w fun e w' => e = .returned (.float .f32 r) ∧ w = w' := by
  obtain ⟨X, Y, Z, r', h1, h2, h3, h4, h5, _⟩ := h.ex
  rw [hr] at h5
  have h5 := Option.some.inj h5
  subst h5
  have c1 := fun (W : World) => run_convert_float_float (P := Try.prog) W 22 182 .f32 .f64 x X (by kernel_rfl) Try.underlying182 h1
  have c2 := fun (W : World) => run_convert_float_float (P := Try.prog) W 22 182 .f32 .f64 y Y (by kernel_rfl) Try.underlying182 h2
  have c3 := fun (W : World) => run_float_arith (P := Try.prog) W .mul 182 .f64 X Y Z h3
  have c4 := fun (W : World) => run_convert_float_float (P := Try.prog) W 182 22 .f64 .f32 Z r (by kernel_rfl) Try.underlying22 h4
  clear h1 h2 h3 h4 hr h
  go_enter Try.func97, Try.ntmps97
  go_wp2
  go_ret
  exact ⟨rfl, rfl⟩

/-- Clamped, as the reference does it. -/
def clpW (v a b : Nat) : Nat := if (FloatKind.f32.format.order v a == some .lt) = true then a else if (FloatKind.f32.format.order v b == some .gt) = true then b else v

theorem clp_eq {v a b : Nat} (hv : finB v = true) (ha : finB a = true) (hb : finB b = true) (hab : (FloatKind.f32.format.order a b == some .gt) = false) : lesW (grtW v a) b = clpW v a b := by
  rw [show FloatKind.f32.format = Ieee.single from rfl] at hab
  unfold finB at hv ha hb
  obtain ⟨i, hi⟩ := Option.isSome_iff_exists.1 hv
  obtain ⟨j, hj⟩ := Option.isSome_iff_exists.1 ha
  obtain ⟨k, hk⟩ := Option.isSome_iff_exists.1 hb
  rw [gtr_val hj hk] at hab
  unfold lesW grtW clpW
  rw [show FloatKind.f32.format = Ieee.single from rfl, gtr_val hj hi, lss_val hi hj, gtr_val hi hk]
  simp only [decide_eq_true_eq, decide_eq_false_iff_not] at *
  by_cases c : i < j
  · rw [if_pos c, if_pos c, lss_val hk hj]; simp only [decide_eq_true_eq]; rw [if_neg (by omega)]
  · rw [if_neg c, if_neg c, lss_val hk hi]; simp only [decide_eq_true_eq]

set_option maxHeartbeats 1000000 in
theorem refAt_any (X Y : Int) (W H n b cap i : Nat) (v : Nat → Nat) (x y : Int) (w : World) (hX1 : -16777216 ≤ X) (hX2 : X ≤ 16777216) (hY1 : -16777216 ≤ Y) (hY2 : Y ≤ 16777216) (hW1 : 1 ≤ W) (hW2 : W ≤ 512) (hH2 : H ≤ 512)
    (h1 : X ≤ x) (h2 : x < X + W) (h3 : Y ≤ y) (h4 : y < Y + H) (hi : (i : Int) = (y - Y) * W + (x - X)) (hn : i < n) (hn2 : n ≤ 65536) (hc : FlAt w b 0 n v) :
    Calls Try.prog 96 #[fldV X Y W H (.slice (some ⟨b, 0, none⟩) n cap), .int .i64 x, .int .i64 y] w fun e w' => e = .returned (.float .f32 (v i)) ∧ w.alloc (fldO X Y W H (.slice (some ⟨b, 0, none⟩) n cap)) = w' := by
  have hq : 0 ≤ (y - Y) * W := Int.mul_nonneg (by omega) (by omega)
  have e1 : wrap64 (y - Y) = y - Y := IntWalk.wrap64_in _ ⟨by omega, by omega⟩
  have e2 : wrap64 ((y - Y) * W) = (y - Y) * W := IntWalk.wrap64_in _ ⟨by omega, by omega⟩
  have e3 : wrap64 ((y - Y) * W + x) = (y - Y) * W + x := IntWalk.wrap64_in _ ⟨by omega, by omega⟩
  have e4 : wrap64 ((y - Y) * W + x - X) = (i : Int) := by rw [IntWalk.wrap64_in _ ⟨by omega, by omega⟩]; omega
  have hcell := hc i hn
  rw [Nat.zero_add] at hcell
  have hlt : b < w.heap.size := World.block_lt_of_cell? w _ hcell
  clear hi hq hc
  go_enter Try.func96, Try.ntmps96
  go_wp2
  go_ret
  exact ⟨rfl, rfl⟩

set_option maxHeartbeats 1000000 in
theorem check_ok (X Y : Int) (W H n b cap : Nat) (v : Nat → Nat) (w : World) (h0 : checkR X Y W H = 0) (hn : n = W * H) (hc : FlAt w b 0 n v) (hh : allB n (fun i => hgtB (v i)) = true) :
    Calls Try.prog 90 #[fldV X Y W H (.slice (some ⟨b, 0, none⟩) n cap)] w fun e w' => e = .returned (.int .i64 0) ∧ Below w.heap.size w w' := by
  have HH := Lib.hid (fldE_zero.2 hh)
  obtain ⟨b1, b2, b3, b4, b5, _⟩ := checkR_zero h0
  have en : wrap64 ((W : Int) * (H : Int)) = (n : Int) := by
    have : ((W : Int) * (H : Int)) = (n : Int) := by rw [hn]; simp
    rw [this]; rw [this] at b5; exact IntWalk.wrap64_in _ ⟨by omega, by omega⟩
  have hn2 : n ≤ 65536 := by
    have : ((W : Int) * (H : Int)) = (n : Int) := by rw [hn]; simp
    omega
  have h1 : 1 ≤ n := by
    have := Nat.mul_pos (by omega : 0 < W) (by omega : 0 < H)
    omega
  have hlt : b < w.heap.size := World.block_lt_of_cell? w _ (hc 0 h1)
  have CH := Lib.hid (fun W' (hb : Below w.heap.size w W') => CheckHeights_row b 0 cap n v (by omega) W' (flAt_congr hc (hb.block _ hlt)))
  rw [HH.out] at CH
  have RC := Lib.hid (fun w => checkRegion_any X Y W H w)
  rw [h0] at RC
  clear hn hc hh h0 b5
  go_enter Try.func90, Try.ntmps90
  go_wp2_with (first | (go_at_call 83; refine (RC.out _).mono ?_; rintro e w' ⟨rfl, rfl⟩) | (go_at_call 88; refine (CH.out _ (by repeat (first | exact Below.refl _ _ | refine Below.alloc ?_ (by first | omega | (simp; done) | (simp; omega)) _ | refine Below.setCell ?_ (by first | omega | (simp; done) | (simp; omega)) _ | refine Below.drew ?_))).mono ?_; rintro e w' ⟨rfl, rfl⟩))
  go_ret
  exact ⟨rfl, (by repeat (first | exact Below.refl _ _ | refine Below.alloc ?_ (by first | omega | (simp; done) | (simp; omega)) _ | refine Below.setCell ?_ (by first | omega | (simp; done) | (simp; omega)) _ | refine Below.drew ?_))⟩

end Go.Proofs.Ytmbiohopcfglcaa

/- Contracts: Index; byPlace and Make, whatever function they are given. -/
namespace Go.Proofs.Ytmbiohopcfglcaa
open Go.RowKit Fl
set_option linter.unusedVariables false

theorem enters_place1 : Enters 222 := by intro args W; simp [callFunc, Try.func222, Try.f222]

set_option maxHeartbeats 1000000 in
theorem index_any (X Y : Int) (W H : Nat) (i : Nat) (x y : Int) (w : World) (hX1 : -16777216 ≤ X) (hX2 : X ≤ 16777216) (hY1 : -16777216 ≤ Y) (hY2 : Y ≤ 16777216) (hW1 : 1 ≤ W) (hW2 : W ≤ 512) (hH2 : H ≤ 512)
    (h1 : X ≤ x) (h2 : x < X + W) (h3 : Y ≤ y) (h4 : y < Y + H) (hi : (i : Int) = (y - Y) * W + (x - X)) (hn : i ≤ 65536) :
    Calls Try.prog 183 #[reg X Y W H, .int .i64 x, .int .i64 y] w fun e w' => e = .returned (.int .i64 (i : Int)) ∧ w.alloc (regObj X Y W H) = w' := by
  have hq : 0 ≤ (y - Y) * W := Int.mul_nonneg (by omega) (by omega)
  have e2 : wrap64 ((y - Y) * W) = (y - Y) * W := IntWalk.wrap64_in _ ⟨by omega, by omega⟩
  have e3 : wrap64 ((y - Y) * W + x) = (y - Y) * W + x := IntWalk.wrap64_in _ ⟨by omega, by omega⟩
  have e4 : wrap64 ((y - Y) * W + x - X) = (i : Int) := by rw [IntWalk.wrap64_in _ ⟨by omega, by omega⟩]; omega
  clear hi hq
  go_enter Try.func183, Try.ntmps183
  go_wp2
  go_ret
  exact ⟨ret_int e4, rfl⟩

/-- A function value in a box. -/
abbrev fnObj (g : Nat) (caps : Array Value) : Obj := .cells #[.func (.func g) #[] caps] 126

set_option maxHeartbeats 2000000 in
theorem place1_any (X Y : Int) (W H n : Nat) (g : Nat) (caps : Array Value) (f : Nat → Nat) (p q : Nat) (w : World) (hcall : Enters g) (hcl : Clos2 g caps X Y W H f w)
    (hp : w.heap[p]? = some (fnObj g caps)) (hq : w.heap[q]? = some (regObj X Y W H)) (hX1 : -16777216 ≤ X) (hX2 : X ≤ 16777216) (hY1 : -16777216 ≤ Y) (hY2 : Y ≤ 16777216) (hW1 : 1 ≤ W) (hW2 : W ≤ 512) (hH2 : H ≤ 512) (hn : n = H * W) :
    Clos1 222 #[.pointer (some ⟨p, 0, none⟩), .pointer (some ⟨q, 0, none⟩)] n f w := by
  intro i w2 hi hb
  have hdm := Nat.div_add_mod i W
  have hml := Nat.mod_lt i (show 0 < W by omega)
  have hdl : i / W < H := Nat.div_lt_of_lt_mul (by rw [Nat.mul_comm]; omega)
  obtain ⟨a, ha⟩ : ∃ a : Nat, a = i % W := ⟨_, rfl⟩
  obtain ⟨b, hb'⟩ : ∃ b : Nat, b = i / W := ⟨_, rfl⟩
  rw [← ha, ← hb'] at hdm
  rw [← ha] at hml
  rw [← hb'] at hdl
  have ei : (i : Int) = ((Y + b) - Y) * W + ((X + a) - X) := by
    rw [show Y + (b : Int) - Y = b by omega, show X + (a : Int) - X = a by omega, ← hdm]; simp [Int.mul_comm]
  have CC := Lib.hid (fun W' (hB : Below w2.heap.size w2 W') => hcl (X + a) (Y + b) i W' (by omega) (by omega) (by omega) (by omega) ei (hb.trans (hB.mono hb.size)))
  have P := blkStay hp hb
  have Q := blkStay hq hb
  have HP := Lib.hid P
  have HQ := Lib.hid Q
  obtain ⟨cP, fP, zP⟩ := blkC P
  obtain ⟨cQ, fQ, zQ⟩ := blkC Q
  unfold Enters at hcall
  have t1 : (i : Int).tmod (W : Int) = (a : Int) := by rw [ha]; rw [Int.tmod_eq_emod_of_nonneg (by omega)]; simp
  have t2 : (i : Int).tdiv (W : Int) = (b : Int) := by rw [hb']; rw [Int.tdiv_eq_ediv_of_nonneg (by omega)]; simp
  have t3 : (i : Int) % (W : Int) = (a : Int) := by rw [ha]; simp
  have t4 : (i : Int) / (W : Int) = (b : Int) := by rw [hb']; simp
  have u1 : IntKind.i64.wrap (X + (a : Int)) = X + a := IntWalk.i64_in _ (by omega)
  have u2 : IntKind.i64.wrap (Y + (b : Int)) = Y + b := IntWalk.i64_in _ (by omega)
  have u3 : IntKind.i64.wrap (b : Int) = b := IntWalk.i64_in _ (by omega)
  have w0 : ¬ ((W : Int) = 0) := by omega
  have w0' : ¬ (W = 0) := by omega
  have t5 : ((i : Int) % (W : Int)) = (a : Int) := t3
  have t6 : i % W = a := ha.symm
  have t7 : i / W = b := hb'.symm
  have w1 : (1 : Int) ≤ (W : Int) := by omega
  have i0 : (0 : Int) ≤ (i : Int) := by omega
  have b1 : (a : Int) < 512 := by omega
  have b2 : (b : Int) < 512 := by omega
  clear hp hq P Q hb ei hdm hml hdl ha hb' hcl
  go_enter Try.func222, Try.ntmps222
  go_wp2
  go_region_held3 (fun w' => (∀ o, w'.cell? ⟨q, o, none⟩ = #[.int .i64 X, .int .i64 Y, .int .i64 W, .int .i64 H][o]?) ∧ (∀ o, w'.cell? ⟨p, o, none⟩ = #[.func (.func g) #[] caps][o]?) ∧ Below w2.heap.size w2 w') (first | exact ⟨(blkC (blkStay HQ.out hb9)).1, (blkC (blkStay HP.out hb9)).1, hb9⟩ | exact ⟨(blkC (blkStay HQ.out (by repeat (first | exact Below.refl _ _ | refine Below.alloc ?_ (by first | omega | (simp; done) | (simp; omega)) _ | refine Below.setCell ?_ (by first | omega | (simp; done) | (simp; omega)) _ | refine Below.drew ?_)))).1, (blkC (blkStay HP.out (by repeat (first | exact Below.refl _ _ | refine Below.alloc ?_ (by first | omega | (simp; done) | (simp; omega)) _ | refine Below.setCell ?_ (by first | omega | (simp; done) | (simp; omega)) _ | refine Below.drew ?_)))).1, (by repeat (first | exact Below.refl _ _ | refine Below.alloc ?_ (by first | omega | (simp; done) | (simp; omega)) _ | refine Below.setCell ?_ (by first | omega | (simp; done) | (simp; omega)) _ | refine Below.drew ?_))⟩) (first | (go_simp; (with_reducible refine Calls.mono (CC.out _ ?_) ?_); exact (by repeat (first | exact Below.refl _ _ | refine Below.alloc ?_ (by first | omega | (simp; done) | (simp; omega)) _ | refine Below.setCell ?_ (by first | omega | (simp; done) | (simp; omega)) _ | refine Below.drew ?_)); rintro e w' ⟨rfl, hb8⟩; have hb9 : Below w2.heap.size w2 w' := ⟨hb8.os, hb8.tape, hb8.output, hb8.size, hb8.block⟩; clear hb8))
  rename_i hHeld
  go_wp2
  go_ret
  exact ⟨rfl, hHeld.2.2⟩

set_option maxHeartbeats 2000000 in
theorem byPlace_any (X Y : Int) (W H n : Nat) (g : Nat) (caps : Array Value) (f : Nat → Nat) (w : World) (hcall : Enters g) (hcl : Clos2 g caps X Y W H f w)
    (hX1 : -16777216 ≤ X) (hX2 : X ≤ 16777216) (hY1 : -16777216 ≤ Y) (hY2 : Y ≤ 16777216) (hW1 : 1 ≤ W) (hW2 : W ≤ 512) (hH1 : 1 ≤ H) (hH2 : H ≤ 512) (hn : n = H * W) (hn2 : n ≤ 65536) :
    Calls Try.prog 193 #[reg X Y W H, .func (.func g) #[] caps] w (MadePost w X Y W H n f) := by
  have en : (n : Int) = (W : Int) * (H : Int) := by rw [hn, Nat.mul_comm]; simp
  have n1 : 1 ≤ n := by rw [hn]; exact Nat.mul_pos hH1 hW1
  have BC := Lib.hid (byCell_any X Y W H n 222 #[.pointer (some ⟨w.heap.size + 1, 0, none⟩), .pointer (some ⟨w.heap.size, 0, none⟩)] f (((w.alloc (regObj X Y W H)).alloc (fnObj g caps)).alloc (fldO 0 0 0 0 (.slice none 0 0))) enters_place1
    (place1_any X Y W H n g caps f (w.heap.size + 1) w.heap.size _ hcall (fun x y i W' h1 h2 h3 h4 h5 hb => hcl x y i W' h1 h2 h3 h4 h5 (Below.trans (by repeat (first | exact Below.refl _ _ | refine Below.alloc ?_ (by first | omega | (simp; done) | (simp; omega)) _ | refine Below.setCell ?_ (by first | omega | (simp; done) | (simp; omega)) _ | refine Below.drew ?_)) (hb.mono (by simp; omega)))) (by ((simp only [heap_alloc_get, heap_size_alloc, if_true]) <;> ((repeat' split) <;> first | rfl | omega))) (by ((simp only [heap_alloc_get, heap_size_alloc, if_true]) <;> ((repeat' split) <;> first | rfl | omega))) hX1 hX2 hY1 hY2 hW1 hW2 hH2 hn) en n1 hn2)
  clear hcl hcall hn en
  go_enter Try.func193, Try.ntmps193
  go_wp2_with fail
  refine BC.out.mono ?_
  intro e w4 hmade
  rcases hmade with ⟨hall, b', cap', rfl, hb', hlt', hrow, hbel⟩ | ⟨hall, rfl, hbel⟩
  · have hS := Lib.hid (blkStay (b := w.heap.size + 1 + 1) (o := fldO 0 0 0 0 (.slice none 0 0)) (by ((simp only [heap_alloc_get, heap_size_alloc, if_true]) <;> ((repeat' split) <;> first | rfl | omega))) hbel)
    have hB : Below w.heap.size w w4 := Below.trans (by repeat (first | exact Below.refl _ _ | refine Below.alloc ?_ (by first | omega | (simp; done) | (simp; omega)) _ | refine Below.setCell ?_ (by first | omega | (simp; done) | (simp; omega)) _ | refine Below.drew ?_)) (Below.mono hbel (by simp; omega))
    obtain ⟨cS, fS, zS⟩ := blkC hS.out
    have HB := Lib.hid hb'
    clear hb'
    go_wp2
    refine bodyPost_ret (v := .tuple #[fldV X Y W H (.slice (some ⟨b', 0, none⟩) n cap'), .int .i64 0]) (by simp [results, Try.results193, go_sem, cS]) rfl ?_
    have hb' := HB.out
    simp only [heap_size_alloc] at hb'
    exact .inl ⟨hall, b', cap', rfl, by omega, by rw [set5_size]; exact hlt', flAt_congr hrow (set5_heap w4 _ _ _ _ _ _ _ (by omega)), set5_below hB _ _ _ _ _ _ (by omega)⟩
  · have hS := Lib.hid (blkStay (b := w.heap.size + 1 + 1) (o := fldO 0 0 0 0 (.slice none 0 0)) (by ((simp only [heap_alloc_get, heap_size_alloc, if_true]) <;> ((repeat' split) <;> first | rfl | omega))) hbel)
    have hB : Below w.heap.size w w4 := Below.trans (by repeat (first | exact Below.refl _ _ | refine Below.alloc ?_ (by first | omega | (simp; done) | (simp; omega)) _ | refine Below.setCell ?_ (by first | omega | (simp; done) | (simp; omega)) _ | refine Below.drew ?_)) (Below.mono hbel (by simp; omega))
    obtain ⟨cS, fS, zS⟩ := blkC hS.out
    go_wp2
    refine bodyPost_ret (v := .tuple #[fldV 0 0 0 0 (.slice none 0 0), .int .i64 3]) (by simp [results, Try.results193, go_sem, cS]) rfl ?_
    exact .inr ⟨hall, rfl, set5_below hB _ _ _ _ _ _ (by omega)⟩

/-- What Make answers. -/
def MakePost (w : World) (X Y W H : Int) (n : Nat) (f : Nat → Nat) (e : Ending) (w' : World) : Prop :=
  (checkR X Y W H ≠ 0 ∧ e = .returned (.tuple #[fldV 0 0 0 0 (.slice none 0 0), .int .i64 (checkR X Y W H)]) ∧ Below w.heap.size w w') ∨ (checkR X Y W H = 0 ∧ MadePost w X Y W H n f e w')

set_option maxHeartbeats 2000000 in
theorem make_ok (X Y : Int) (W H n : Nat) (g : Nat) (caps : Array Value) (f : Nat → Nat) (w : World) (hcall : Enters g) (hcl : Clos2 g caps X Y W H f w) (h0 : checkR X Y W H = 0) (hn : n = H * W) :
    Calls Try.prog 118 #[reg X Y W H, .func (.func g) #[] caps] w (MadePost w X Y W H n f) := by
  obtain ⟨b1, b2, b3, b4, b5, b6, b7, b8, b9⟩ := checkR_zero h0
  have hn2 : n ≤ 65536 := by
    have : ((W : Int) * (H : Int)) = (n : Int) := by rw [hn, Nat.mul_comm]; simp
    omega
  have RC := Lib.hid (fun w => checkRegion_any X Y W H w)
  rw [h0] at RC
  have BP := Lib.hid (fun W' (hb : Below w.heap.size w W') => byPlace_any X Y W H n g caps f W' hcall (fun x y i W'' h1 h2 h3 h4 h5 hb' => hcl x y i W'' h1 h2 h3 h4 h5 (hb.trans (hb'.mono hb.size))) (by omega) (by omega) (by omega) (by omega) (by omega) (by omega) (by omega) (by omega) hn hn2)
  clear hcl hcall h0 b1 b2 b3 b4 b5 b6 b7 b8 b9 hn hn2
  go_enter Try.func118, Try.ntmps118
  go_wp2_with (first | (go_at_call 83; refine (RC.out _).mono ?_; rintro e w' ⟨rfl, rfl⟩))
  refine (BP.out _ (by repeat (first | exact Below.refl _ _ | refine Below.alloc ?_ (by first | omega | (simp; done) | (simp; omega)) _ | refine Below.setCell ?_ (by first | omega | (simp; done) | (simp; omega)) _ | refine Below.drew ?_))).mono ?_
  intro e w4 hmade
  rcases hmade with ⟨hall, b', cap', rfl, hb', hlt', hrow, hbel⟩ | ⟨hall, rfl, hbel⟩
  · have hS := Lib.hid (blkStay (b := w.heap.size + 1) (o := fldO 0 0 0 0 (.slice none 0 0)) (by ((simp only [heap_alloc_get, heap_size_alloc, if_true]) <;> ((repeat' split) <;> first | rfl | omega))) hbel)
    have hB : Below w.heap.size w w4 := Below.trans (by repeat (first | exact Below.refl _ _ | refine Below.alloc ?_ (by first | omega | (simp; done) | (simp; omega)) _ | refine Below.setCell ?_ (by first | omega | (simp; done) | (simp; omega)) _ | refine Below.drew ?_)) (Below.mono hbel (by simp; omega))
    obtain ⟨cS, fS, zS⟩ := blkC hS.out
    have HB := Lib.hid hb'
    clear hb'
    go_wp2
    refine bodyPost_ret (v := .tuple #[fldV X Y W H (.slice (some ⟨b', 0, none⟩) n cap'), .int .i64 0]) (by simp [results, Try.results118, go_sem, cS]) rfl ?_
    have hb' := HB.out
    simp only [heap_size_alloc] at hb'
    exact .inl ⟨hall, b', cap', rfl, by omega, by rw [set5_size]; exact hlt', flAt_congr hrow (set5_heap w4 _ _ _ _ _ _ _ (by omega)), set5_below hB _ _ _ _ _ _ (by omega)⟩
  · have hS := Lib.hid (blkStay (b := w.heap.size + 1) (o := fldO 0 0 0 0 (.slice none 0 0)) (by ((simp only [heap_alloc_get, heap_size_alloc, if_true]) <;> ((repeat' split) <;> first | rfl | omega))) hbel)
    have hB : Below w.heap.size w w4 := Below.trans (by repeat (first | exact Below.refl _ _ | refine Below.alloc ?_ (by first | omega | (simp; done) | (simp; omega)) _ | refine Below.setCell ?_ (by first | omega | (simp; done) | (simp; omega)) _ | refine Below.drew ?_)) (Below.mono hbel (by simp; omega))
    obtain ⟨cS, fS, zS⟩ := blkC hS.out
    go_wp2
    refine bodyPost_ret (v := .tuple #[fldV 0 0 0 0 (.slice none 0 0), .int .i64 3]) (by simp [results, Try.results118, go_sem, cS]) rfl ?_
    exact .inr ⟨hall, rfl, set5_below hB _ _ _ _ _ _ (by omega)⟩

set_option maxHeartbeats 2000000 in
theorem make_no (X Y W H : Int) (v : Value) (k : Int) (w : World) (hv : ∃ g caps, v = .func (.func g) #[] caps) (h0 : checkR X Y W H = k) (hk : k = 3 ∨ k = 4 ∨ k = 5) :
    Calls Try.prog 118 #[reg X Y W H, v] w fun e w' => e = .returned (.tuple #[fldV 0 0 0 0 (.slice none 0 0), .int .i64 k]) ∧ Below w.heap.size w w' := by
  obtain ⟨g, caps, rfl⟩ := hv
  have RC := Lib.hid (fun w => checkRegion_any X Y W H w)
  rw [h0] at RC
  clear h0
  rcases hk with rfl | rfl | rfl
  all_goals go_enter Try.func118, Try.ntmps118
  all_goals go_wp2_with (first | (go_at_call 83; refine (RC.out _).mono ?_; rintro e w' ⟨rfl, rfl⟩))
  · refine bodyPost_ret (v := .tuple #[fldV 0 0 0 0 (.slice none 0 0), .int .i64 3]) (by simp [results, Try.results118, go_sem]) rfl ⟨rfl, ?_⟩
    exact (by repeat (first | exact Below.refl _ _ | refine Below.alloc ?_ (by first | omega | (simp; done) | (simp; omega)) _ | refine Below.setCell ?_ (by first | omega | (simp; done) | (simp; omega)) _ | refine Below.drew ?_))
  · refine bodyPost_ret (v := .tuple #[fldV 0 0 0 0 (.slice none 0 0), .int .i64 4]) (by simp [results, Try.results118, go_sem]) rfl ⟨rfl, ?_⟩
    exact (by repeat (first | exact Below.refl _ _ | refine Below.alloc ?_ (by first | omega | (simp; done) | (simp; omega)) _ | refine Below.setCell ?_ (by first | omega | (simp; done) | (simp; omega)) _ | refine Below.drew ?_))
  · refine bodyPost_ret (v := .tuple #[fldV 0 0 0 0 (.slice none 0 0), .int .i64 5]) (by simp [results, Try.results118, go_sem]) rfl ⟨rfl, ?_⟩
    exact (by repeat (first | exact Below.refl _ _ | refine Below.alloc ?_ (by first | omega | (simp; done) | (simp; omega)) _ | refine Below.setCell ?_ (by first | omega | (simp; done) | (simp; omega)) _ | refine Below.drew ?_))
end Go.Proofs.Ytmbiohopcfglcaa

/- The floor of a single, by the model's own rounding of a double to a whole number. -/
namespace Go.Proofs.Ytmbiohopcfglcaa.Fl
open Ieee

/-- Down to a whole number: the magnitude. -/
theorem cut_down (s : Bool) (M k : Nat) : Toward.down.cut s M k = M / 2 ^ k + (s && decide (M % 2 ^ k ≠ 0)).toNat := by
  unfold Toward.cut
  simp only [Nat.one_shiftLeft]
  rcases Nat.le_total k (M.log2 + 2) with c | c
  · rw [Nat.min_eq_left c]
    congr 2
    simp [bne, BEq.beq]
  · rw [Nat.min_eq_right c]
    have h : M < 2 ^ (M.log2 + 2) := by
      rcases Nat.eq_zero_or_pos M with z | z
      · subst z; exact Nat.two_pow_pos _
      · exact Nat.lt_trans (Nat.lt_log2_self) (Nat.pow_lt_pow_right (by omega) (by omega))
    have h' : M < 2 ^ k := Nat.lt_of_lt_of_le h (Nat.pow_le_pow_right (by omega) c)
    rw [Nat.div_eq_of_lt h, Nat.div_eq_of_lt h', Nat.mod_eq_of_lt h, Nat.mod_eq_of_lt h']
    congr 2
    simp [bne, BEq.beq]

/-- The whole part of a double's magnitude, rounded down. -/
theorem integral_down {s : Bool} {M : Nat} {I : Int} {A : Nat} (hI : -1074 ≤ I) (hA : M * 2 ^ (I + 1074).toNat = A) :
    (Datum.number s M I).integral .down = .number s (A / one + (s && decide (A % one ≠ 0)).toNat) 0 := by
  show Datum.number s (Toward.down.cut s (M <<< I.toNat) (-I).toNat) 0 = _
  rw [cut_down, Nat.shiftLeft_eq]
  congr 1
  obtain ⟨j, hj⟩ : ∃ j : Nat, j = 1074 := ⟨_, rfl⟩
  rcases Int.le_total 0 I with c | c
  · have e : (I + 1074).toNat = I.toNat + j := by omega
    rw [e, Nat.pow_add, ← Nat.mul_assoc] at hA
    rw [show (-I).toNat = 0 by omega, Nat.pow_zero, Nat.div_one, Nat.mod_one, ← hA, one_pow hj, Nat.mul_div_cancel _ (Nat.two_pow_pos j), Nat.mul_mod_left]
  · obtain ⟨k, hk⟩ : ∃ k : Nat, k = (-I).toNat := ⟨_, rfl⟩
    have eo : one = 2 ^ k * 2 ^ (I + 1074).toNat := one_split (by omega)
    have p : 0 < 2 ^ (I + 1074).toNat := Nat.two_pow_pos _
    have hdec : decide (M % 2 ^ k * 2 ^ (I + 1074).toNat ≠ 0) = decide (M % 2 ^ k ≠ 0) := by
      generalize 2 ^ (I + 1074).toNat = P at *
      rw [decide_eq_decide]
      constructor
      · intro h h'; exact h (by rw [h', Nat.zero_mul])
      · intro h h'
        rcases Nat.mul_eq_zero.1 h' with x | x
        · exact h x
        · omega
    rw [show I.toNat = 0 by omega, Nat.pow_zero, Nat.mul_one, ← hk, ← hA, eo, Nat.mul_div_mul_right _ _ p, Nat.mul_mod_mul_right, hdec]

/-- The floor of a value. -/
def flV (a : Int) : Int := a / (one : Int) * (one : Int)

theorem fl_sign {O A : Nat} (hO : 0 < O) {s : Bool} {a : Int} (ha : a = (if s then -1 else 1) * (A : Int)) : (if s then -1 else 1) * (((A / O + (s && decide (A % O ≠ 0)).toNat) * O : Nat) : Int) = a / (O : Int) * (O : Int) := by
  have hd := Nat.div_add_mod A O
  have hr := Nat.mod_lt A hO
  have key : a / (O : Int) = (if s then -1 else 1) * ((A / O + (s && decide (A % O ≠ 0)).toNat : Nat) : Int) := by
    cases s with
    | false =>
      simp at ha ⊢
      rw [ha]
    | true =>
      generalize A / O = q at *
      generalize A % O = r at *
      simp only [if_true, Bool.true_and] at *
      have e : (A : Int) = (O : Int) * (q : Int) + (r : Int) := by rw [← Int.natCast_mul, ← Int.natCast_add, hd]
      rw [ha, e]
      by_cases z : r = 0
      · subst z
        have : (-1 : Int) * ((O : Int) * (q : Int) + ((0 : Nat) : Int)) = (O : Int) * (-(q : Int)) := by grind
        rw [this, Int.mul_ediv_cancel_left _ (by omega)]; simp
      · have : (-1 : Int) * ((O : Int) * (q : Int) + (r : Int)) = ((O : Int) - r) + (O : Int) * (-((q : Int) + 1)) := by grind
        rw [this, Int.add_mul_ediv_left _ _ (by omega), Int.ediv_eq_zero_of_lt (by omega) (by omega)]
        simp [z]
  rw [key, Int.natCast_mul, Int.mul_assoc]

theorem flV_sign {s : Bool} {A : Nat} {a : Int} (ha : a = (if s then -1 else 1) * (A : Int)) : (if s then -1 else 1) * (((A / one + (s && decide (A % one ≠ 0)).toNat) * one : Nat) : Int) = flV a := fl_sign one_pos ha

theorem whole_small {O A c : Nat} (hO : 0 < O) (h : c = A / O ∨ c = A / O + 1) : c * O ≤ A + O := by
  have hd := Nat.div_add_mod A O
  rcases h with rfl | rfl
  · rw [Nat.mul_comm]; omega
  · rw [Nat.succ_mul, Nat.mul_comm]; omega

/-- The word of a floor. -/
def flW (x : Nat) : Nat := ((Go.floatToFloatBits .f32 x .f64).bind fun X => Go.floatToFloatBits .f64 (double.write ((double.read X).integral .down)) .f32).getD 0

theorem floor_parts2 {x : Nat} {a : Int} {k : Nat} (h : vS x = some a) (hb : Bd k x) (hk : k ≤ 124) :
    ∃ X s M I F, Go.floatToFloatBits .f32 x .f64 = some X ∧ double.read X = .number s M I ∧ double.write ((double.read X).integral .down) = F ∧ Go.floatToFloatBits .f64 F .f32 = some (flW x) ∧ vS (flW x) = some (flV a) := by
  obtain ⟨s, m, p, e, rfl⟩ := vS_some h
  obtain ⟨X, M, I, c1, c2, c3, c4, _⟩ := toD e
  obtain ⟨A, hA⟩ : ∃ A, A = m * 2 ^ (p + 1074).toNat := ⟨_, rfl⟩
  have hv : vOf s m p = (if s then -1 else 1) * (A : Int) := by unfold vOf; rw [signed_eq, hA]
  have hbA : A ≤ 2 ^ (1074 + k) := by
    obtain ⟨s', m', p', e', b'⟩ := hb
    rw [e] at e'; cases e'
    rw [hA]; exact b'
  obtain ⟨t, j, ht, hj, hform⟩ := vS_form h
  have hAf : A = t.natAbs * 2 ^ j := by
    have := congrArg Int.natAbs hform
    rw [hv, Int.natAbs_mul, Int.natAbs_mul, Int.natAbs_natCast, Int.natAbs_natCast] at this
    cases s <;> simpa using this
  rw [← hA] at c4
  have hi := integral_down (s := s) c3 c4
  obtain ⟨c, hc⟩ : ∃ c, c = A / one + (s && decide (A % one ≠ 0)).toNat := ⟨_, rfl⟩
  rw [← hc] at hi
  obtain ⟨J, hJ⟩ : ∃ J : Nat, J = 1074 := ⟨_, rfl⟩
  have hw : double.write ((double.read X).integral .down) = wordAt double 0 s (c * one) := by
    rw [c2, hi]
    show double.nearest s c 0 = _
    rw [nearest_val double s (-1074) 0 leastD c (p := 0) (by omega), one_pow hJ, show ((0 : Int) - (-1074)).toNat = J by omega]
  -- the magnitude of the floor is a single's
  have hrep : ∃ u i, u < 16777216 ∧ 925 ≤ i ∧ c * one = u * 2 ^ i := by
    by_cases z : A % one = 0
    · refine ⟨t.natAbs, j, ht, hj, ?_⟩
      rw [← hAf, hc, z]
      have := Nat.div_add_mod A one
      rw [z, Nat.add_zero, Nat.mul_comm] at this
      simp [this]
    · have hj2 : j < J := by
        rcases Nat.lt_or_ge j J with q | q
        · exact q
        · exfalso; apply z
          have : A = t.natAbs * 2 ^ (j - J) * one := by rw [hAf, one_pow hJ, Nat.mul_assoc, ← Nat.pow_add, Nat.sub_add_cancel q]
          rw [this, Nat.mul_mod_left]
      have hlt : A < 8388608 * one := by
        have e1 : one = 2 * 2 ^ (J - 1) := by rw [one_pow hJ, ← Nat.pow_succ']; congr 1; omega
        rw [hAf, e1]
        have e2 : 2 ^ j ≤ 2 ^ (J - 1) := Nat.pow_le_pow_right (by omega) (by omega)
        have p1 : 0 < 2 ^ (J - 1) := Nat.two_pow_pos _
        calc t.natAbs * 2 ^ j ≤ t.natAbs * 2 ^ (J - 1) := Nat.mul_le_mul_left _ e2
          _ < 16777216 * 2 ^ (J - 1) := Nat.mul_lt_mul_of_pos_right ht p1
          _ = 8388608 * (2 * 2 ^ (J - 1)) := by rw [← Nat.mul_assoc]
      refine ⟨c, J, ?_, by omega, by rw [one_pow hJ]⟩
      have hq : A / one < 8388608 := Nat.div_lt_of_lt_mul (by rw [Nat.mul_comm]; exact hlt)
      have hb1 : (s && decide (A % one ≠ 0)).toNat ≤ 1 := Bool.toNat_le _
      generalize A / one = Q at *
      generalize (s && decide (A % one ≠ 0)).toNat = B1 at *
      omega
  obtain ⟨u, i, hu, hi2, hcu⟩ := hrep
  have hV : c * one < 2 ^ (1074 + k + 1 + 1) := by
    have hb1 : c = A / one ∨ c = A / one + 1 := by
      rw [hc]; cases (s && decide (A % one ≠ 0)) <;> simp
    have h1 := whole_small one_pos hb1
    have h2 : one ≤ 2 ^ (1074 + k) := by rw [one_pow hJ]; exact Nat.pow_le_pow_right (by omega) (by omega)
    rw [Nat.pow_succ, Nat.pow_succ]
    have p1 : 0 < 2 ^ (1074 + k) := Nat.two_pow_pos _
    generalize 2 ^ (1074 + k) = T at *
    generalize c * one = CO at *
    generalize one = O at *
    omega
  have hround : sRung (dVal (c * one)) = sRung (c * one) := by
    rw [hcu]; exact exact_round (Nat.lt_of_lt_of_le hu (by decide))
  have hback := back (sg := s) hV (by omega) hround
  have hfl : flW x = wordAt single 925 s (c * one) := by
    unfold flW
    rw [c1]
    show (Go.floatToFloatBits .f64 (double.write ((double.read X).integral .down)) .f32).getD 0 = _
    rw [hw, hback]; rfl
  refine ⟨X, s, M, I, _, c1, c2, rfl, by rw [hw, hback, hfl], ?_⟩
  rw [hfl, vS_word hV (by omega), hcu, rd_exact single 925 u i (by rw [fbS]; exact hu) hi2, ← hcu, hc, flV_sign hv]

theorem floor_parts {x : Nat} {a : Int} {k : Nat} (h : vS x = some a) (hb : Bd k x) (hk : k ≤ 50) :
    ∃ X s M I F, Go.floatToFloatBits .f32 x .f64 = some X ∧ double.read X = .number s M I ∧ double.write ((double.read X).integral .down) = F ∧ Go.floatToFloatBits .f64 F .f32 = some (flW x) ∧ vS (flW x) = some (flV a) := floor_parts2 h hb (by omega)

end Go.Proofs.Ytmbiohopcfglcaa.Fl

/- Contracts: math.Floor, and the floors of both sides. -/
namespace Go.Proofs.Ytmbiohopcfglcaa
open Go.RowKit Fl
set_option linter.unusedVariables false

theorem toIntegral_num (X : Nat) (d : Ieee.Datum) (h : FloatKind.f64.decode X = d) (hd : ∃ s M I, d = .number s M I) :
    Extern.MathFloor.toIntegral "math.archFloor" .down #[.float .f64 X] = pure (.float .f64 (FloatKind.f64.encode (d.integral .down))) := by
  obtain ⟨s, M, I, rfl⟩ := hd
  conv => lhs; whnf
  rw [h]

theorem archFloor_num (X : Nat) (s : Bool) (M : Nat) (I : Int) (h : Ieee.double.read X = .number s M I) (w : World) :
    (callFunc 219 #[.float .f64 X]).run Try.prog w = .ok (.value (.float .f64 (Ieee.double.write ((Ieee.double.read X).integral .down)))) w := by
  rw [run_callFunc_extern Try.func219 (by kernel_rfl) (by kernel_rfl) (by kernel_rfl) (e := Extern.MathFloor.toIntegral "math.archFloor" .down) (by kernel_rfl), toIntegral_num X _ rfl ⟨s, M, I, h⟩]
  rfl

set_option maxHeartbeats 400000 in
theorem mathFloor_num (X F : Nat) (s : Bool) (M : Nat) (I : Int) (h : Ieee.double.read X = .number s M I) (hF : Ieee.double.write ((Ieee.double.read X).integral .down) = F) (w : World) :
    Calls Try.prog 190 #[.float .f64 X] w fun e w' => e = .returned (.float .f64 F) ∧ w = w' := by
  have a1 := archFloor_num X s M I h
  rw [hF] at a1
  clear h hF
  go_enter Try.func190, Try.ntmps190
  go_wp2
  go_ret
  exact ⟨rfl, rfl⟩

set_option maxHeartbeats 400000 in
theorem floor_any (x k : Nat) (a : Int) (h : vS x = some a) (hb : Bd k x) (hk : k ≤ 50) (w : World) :
    Calls Try.prog 111 #[.float .f32 x] w fun e w' => e = .returned (.float .f32 (flW x)) ∧ w = w' := by
  obtain ⟨X, s, M, I, F, c1, c2, c3, c4, _⟩ := floor_parts h hb hk
  have d1 := fun (W : World) => run_convert_float_float (P := Try.prog) W 22 182 .f32 .f64 x X (by kernel_rfl) Try.underlying182 c1
  have d2 := fun (W : World) => run_convert_float_float (P := Try.prog) W 182 22 .f64 .f32 F (flW x) (by kernel_rfl) Try.underlying22 c4
  have MF := Lib.hid (fun w => mathFloor_num X F s M I c2 c3 w)
  clear c1 c2 c3 c4 h hb
  go_enter Try.func111, Try.ntmps111
  go_wp2_with (go_at_call 190; refine (MF.out _).mono ?_; rintro e w' ⟨rfl, rfl⟩)
  go_ret
  exact ⟨rfl, rfl⟩

set_option maxHeartbeats 400000 in
theorem refFloor_any (x k : Nat) (a : Int) (h : vS x = some a) (hb : Bd k x) (hk : k ≤ 50) (w : World) :
    Calls Try.prog 191 #[.float .f32 x] w fun e w' => e = .returned (.float .f32 (flW x)) ∧ w = w' := by
  obtain ⟨X, s, M, I, F, c1, c2, c3, c4, _⟩ := floor_parts h hb hk
  have d1 := fun (W : World) => run_convert_float_float (P := Try.prog) W 22 182 .f32 .f64 x X (by kernel_rfl) Try.underlying182 c1
  have d2 := fun (W : World) => run_convert_float_float (P := Try.prog) W 182 22 .f64 .f32 F (flW x) (by kernel_rfl) Try.underlying22 c4
  have MF := Lib.hid (fun w => mathFloor_num X F s M I c2 c3 w)
  clear c1 c2 c3 c4 h hb
  go_enter Try.func191, Try.ntmps191
  go_wp2_with (go_at_call 190; refine (MF.out _).mono ?_; rintro e w' ⟨rfl, rfl⟩)
  go_ret
  exact ⟨rfl, rfl⟩
end Go.Proofs.Ytmbiohopcfglcaa

/- Contracts: Hash, Unit, Signed of both sides. -/
namespace Go.Proofs.Ytmbiohopcfglcaa
open Go.RowKit Fl
set_option linter.unusedVariables false

/-- Exclusive or of two words of 32 bits. -/
def xorU (a b : Int) : Int := bits .xor .u32 a b
theorem xorU_in (a b : Int) : 0 ≤ xorU a b ∧ xorU a b < 4294967296 := by
  unfold xorU bits; simp only [IntKind.wrap_u32]; omega
def stA (h : Int) : Int := xorU h (h / 65536) * 2246822507 % 4294967296
def stB (h : Int) : Int := xorU h (h / 8192) * 3266489909 % 4294967296
def stC (h : Int) : Int := xorU h (h / 65536)
/-- Stirred once. -/
def stirI (h : Int) : Int := stC (stB (stA h))
theorem stirI_in (h : Int) : 0 ≤ stirI h ∧ stirI h < 4294967296 := xorU_in _ _
/-- The state behind one more whole number. -/
def stepI (h n : Int) : Int := stirI (xorU h (n % 4294967296))
theorem stepI_in (h n : Int) : 0 ≤ stepI h n ∧ stepI h n < 4294967296 := stirI_in _
def hashI (s x y n : Int) : Int := stepI (stepI (stepI s x) y) n
theorem hashI_in (s x y n : Int) : 0 ≤ hashI s x y n ∧ hashI s x y n < 4294967296 := stepI_in _ _

set_option maxHeartbeats 400000 in
theorem refConv_any (n : Int) (w : World) :
    Calls Try.prog 104 #[.int .i64 n] w fun e w' => e = .returned (.float .f32 (floatOfInt .f32 n)) ∧ w = w' := by
  go_enter Try.func104, Try.ntmps104
  go_wp2
  go_ret
  exact ⟨rfl, rfl⟩

/-- The reference's rounds: the place and the state. -/
inductive HashAt (s x y n : Int) : Value → Value → Prop where
  | z : HashAt s x y n (.int .u32 s) (.int .i64 0)
  | a : HashAt s x y n (.int .u32 (stepI s x)) (.int .i64 1)
  | b : HashAt s x y n (.int .u32 (stepI (stepI s x) y)) (.int .i64 2)
  | c : HashAt s x y n (.int .u32 (hashI s x y n)) (.int .i64 3)

end Go.Proofs.Ytmbiohopcfglcaa

/- Contracts: CheckWithin; Ease of both sides; the reference's operations of any words at all. -/
namespace Go.Proofs.Ytmbiohopcfglcaa
open Go.RowKit Fl
set_option linter.unusedVariables false

/-- The error of a single that should be from a to b. -/
def wiE (x a b : Nat) : Int := if finB x = false then 2 else if (FloatKind.f32.format.order x a == some .lt) = true ∨ (FloatKind.f32.format.order x b == some .gt) = true then 3 else 0

set_option maxHeartbeats 400000 in
theorem checkWithin_any (x a b : Nat) (w : World) :
    Calls Try.prog 158 #[.float .f32 x, .float .f32 a, .float .f32 b] w fun e w' => e = .returned (.int .i64 (wiE x a b)) ∧ w = w' := by
  have IH := Lib.hid (fun w => isFinite_any x w)
  unfold wiE
  cases hf : finB x with
  | false =>
    rw [hf] at IH
    clear hf
    go_enter Try.func158, Try.ntmps158
    go_wp2_with (go_at_call 179; refine (IH.out _).mono ?_; rintro e w' ⟨rfl, rfl⟩)
    go_ret
    exact ⟨ret_int rfl, rfl⟩
  | true =>
    rw [hf] at IH
    clear hf
    cases h1 : (FloatKind.f32.format.order x a == some .lt) with
    | true =>
      go_enter Try.func158, Try.ntmps158
      go_wp2_with (go_at_call 179; refine (IH.out _).mono ?_; rintro e w' ⟨rfl, rfl⟩)
      go_ret
      exact ⟨ret_int rfl, rfl⟩
    | false =>
      cases h2 : (FloatKind.f32.format.order x b == some .gt) with
      | true =>
        go_enter Try.func158, Try.ntmps158
        go_wp2_with (go_at_call 179; refine (IH.out _).mono ?_; rintro e w' ⟨rfl, rfl⟩)
        go_ret
        exact ⟨ret_int rfl, rfl⟩
      | false =>
        go_enter Try.func158, Try.ntmps158
        go_wp2_with (go_at_call 179; refine (IH.out _).mono ?_; rintro e w' ⟨rfl, rfl⟩)
        go_ret
        exact ⟨ret_int rfl, rfl⟩

set_option maxHeartbeats 400000 in
theorem ease_any (t p q r v : Nat) (E : EaseAt t p q r v) (w : World) :
    Calls Try.prog 229 #[.float .f32 t] w fun e w' => e = .returned (.float .f32 (easeW t)) ∧ w = w' := by
  have a1 := fun (W : World) => run_float_arith (P := Try.prog) W .mul 22 .f32 t t p E.p1
  have a2 := fun (W : World) => run_float_arith (P := Try.prog) W .mul 22 .f32 1073741824 t q E.q1
  have a3 := fun (W : World) => run_float_arith (P := Try.prog) W .sub 22 .f32 1077936128 q r E.r1
  have a4 := fun (W : World) => run_float_arith (P := Try.prog) W .mul 22 .f32 p r v E.v1
  rw [E.w]
  clear E
  go_enter Try.func229, Try.ntmps229
  go_wp2
  go_ret
  exact ⟨rfl, rfl⟩

set_option maxHeartbeats 400000 in
theorem refEase_any (t p q r v : Nat) (E : EaseAt t p q r v) (w : World) :
    Calls Try.prog 189 #[.float .f32 t] w fun e w' => e = .returned (.float .f32 (easeW t)) ∧ w = w' := by
  have A := Lib.hid (fun w => refMul_any 0 t t p E.p2 E.p1 w)
  have B := Lib.hid (fun w => refMul_any 2 1073741824 t q E.q2 E.q1 w)
  have C := Lib.hid (fun w => refSub_any 3 1077936128 q r E.r2 E.r1 w)
  have D := Lib.hid (fun w => refMul_any 3 p r v E.v2 E.v1 w)
  rw [E.w]
  clear E
  go_enter Try.func189, Try.ntmps189
  go_wp2_with (first | (go_at_call 97; with_reducible refine (A.out _).mono ?_; rintro e w' ⟨rfl, rfl⟩) | (go_at_call 97; with_reducible refine (B.out _).mono ?_; rintro e w' ⟨rfl, rfl⟩) | (go_at_call 97; with_reducible refine (D.out _).mono ?_; rintro e w' ⟨rfl, rfl⟩) | (go_at_call 101; refine (C.out _).mono ?_; rintro e w' ⟨rfl, rfl⟩))
  go_ret
  exact ⟨rfl, rfl⟩

theorem choose_loose (q : Question) (k : FloatKind) (w : World) : ∃ r n, ((do pure (Value.float k (← choose q))) : Sem Value).run Try.prog w = .ok (.float k r) (w.drewN n) := by
  by_cases h : q.forced = true
  · exact ⟨0, 0, by simp [h, World.drewN]⟩
  · exact ⟨q.cut (w.tape w.drawn q), 1, by simp [h]; rfl⟩

theorem conv_loose (src dst : TypeId) (s k : FloatKind) (b : Nat) (hs : (Try.prog.underlying src).isSome = true) (hd : Try.prog.underlying dst = some (.float k)) (w : World) :
    ∃ r n, (convert src dst (.float s b)).run Try.prog w = .ok (.float k r) (w.drewN n) := by
  obtain ⟨u, hs'⟩ := Option.isSome_iff_exists.1 hs
  have key : ∃ r n, (Conv.floatToFloat s b k).run Try.prog w = .ok (.float k r) (w.drewN n) := by
    unfold Conv.floatToFloat
    by_cases e : s = k
    · exact ⟨b, 0, by simp [e, World.drewN]⟩
    · rw [if_neg e]
      cases hd : s.decode b with
      | nan g f => exact choose_loose _ k w
      | infinity g => exact ⟨_, 0, rfl⟩
      | number g m i =>
        simp only
        split
        · exact choose_loose _ k w
        · exact ⟨_, 0, rfl⟩
  obtain ⟨r, n, h⟩ := key
  refine ⟨r, n, ?_⟩
  rw [← h]
  cases u <;> simp [convert, run_underlying hs', run_underlying hd]

theorem arith_loose (op : BinOp) (t : TypeId) (k : FloatKind) (x y : Nat) (ho : op = .add ∨ op = .sub ∨ op = .mul) (w : World) :
    ∃ r n, (binOp op t (.float k x) (.float k y)).run Try.prog w = .ok (.float k r) (w.drewN n) := by
  cases h : floatBits op k x y with
  | some r => exact ⟨r, 0, run_float_arith w op t k x y r h⟩
  | none =>
    obtain ⟨r, n, c⟩ := choose_loose (.nanBits k x y) k w
    refine ⟨r, n, ?_⟩
    rw [← c]
    unfold floatBits at h
    rcases ho with rfl | rfl | rfl
    all_goals simp only at h
    all_goals simp [binOp, Op.floatArith, h]

/-- Some single; the world has drawn at most. -/
def LooseF (w : World) (e : Ending) (w' : World) : Prop := ∃ r n, e = .returned (.float .f32 r) ∧ w' = w.drewN n

theorem drewN_two (w : World) (a b : Nat) : (w.drewN a).drewN b = w.drewN (a + b) := by simp [World.drewN, Nat.add_assoc]

set_option maxHeartbeats 400000 in
theorem refMul_loose (x y : Nat) (w : World) : Calls Try.prog 97 #[.float .f32 x, .float .f32 y] w (LooseF w) := by
  obtain ⟨X, n1, c1⟩ := conv_loose 22 182 .f32 .f64 x (by kernel_rfl) Try.underlying182 w
  obtain ⟨Y, n2, c2⟩ := conv_loose 22 182 .f32 .f64 y (by kernel_rfl) Try.underlying182 (w.drewN n1)
  obtain ⟨Z, n3, c3⟩ := arith_loose .mul 182 .f64 X Y (by simp) (w.drewN (n1 + n2))
  obtain ⟨r, n4, c4⟩ := conv_loose 182 22 .f64 .f32 Z (by kernel_rfl) Try.underlying22 (w.drewN (n1 + n2 + n3))
  go_enter Try.func97, Try.ntmps97
  go_wp2
  go_ret
  exact ⟨r, n1 + n2 + n3 + n4, rfl, rfl⟩

set_option maxHeartbeats 400000 in
theorem refSub_loose (x y : Nat) (w : World) : Calls Try.prog 101 #[.float .f32 x, .float .f32 y] w (LooseF w) := by
  obtain ⟨X, n1, c1⟩ := conv_loose 22 182 .f32 .f64 x (by kernel_rfl) Try.underlying182 w
  obtain ⟨Y, n2, c2⟩ := conv_loose 22 182 .f32 .f64 y (by kernel_rfl) Try.underlying182 (w.drewN n1)
  obtain ⟨Z, n3, c3⟩ := arith_loose .sub 182 .f64 X Y (by simp) (w.drewN (n1 + n2))
  obtain ⟨r, n4, c4⟩ := conv_loose 182 22 .f64 .f32 Z (by kernel_rfl) Try.underlying22 (w.drewN (n1 + n2 + n3))
  go_enter Try.func101, Try.ntmps101
  go_wp2
  go_ret
  exact ⟨r, n1 + n2 + n3 + n4, rfl, rfl⟩

set_option maxHeartbeats 400000 in
theorem refEase_loose (t : Nat) (w : World) : Calls Try.prog 189 #[.float .f32 t] w (LooseF w) := by
  go_enter Try.func189, Try.ntmps189
  go_wp2_with (first | (go_at_call 97; refine (refMul_loose _ _ _).mono ?_; rintro e w' ⟨r, n, rfl, rfl⟩) | (go_at_call 101; refine (refSub_loose _ _ _).mono ?_; rintro e w' ⟨r, n, rfl, rfl⟩))
  go_ret
  exact ⟨_, _, rfl, rfl⟩

set_option maxHeartbeats 400000 in
theorem easeX_ok (t p q r v : Nat) (E : EaseAt t p q r v) (h : wiE t 0 1065353216 = 0) (w : World) :
    Calls Try.prog 218 #[.float .f32 t] w fun e w' => e = .returned (.tuple #[.float .f32 (easeW t), .int .i64 0]) ∧ w = w' := by
  have CW := Lib.hid (fun w => checkWithin_any t 0 1065353216 w)
  rw [h] at CW
  have EA := Lib.hid (fun w => ease_any t p q r v E w)
  clear E h
  go_enter Try.func218, Try.ntmps218
  go_wp2_with (first | (go_at_call 158; refine (CW.out _).mono ?_; rintro e w' ⟨rfl, rfl⟩) | (go_at_call 229; refine (EA.out _).mono ?_; rintro e w' ⟨rfl, rfl⟩))
  go_ret2
  exact ⟨rfl, rfl⟩

set_option maxHeartbeats 400000 in
theorem easeX_no (t : Nat) (k : Int) (h : wiE t 0 1065353216 = k) (hk : k = 2 ∨ k = 3) (w : World) :
    Calls Try.prog 218 #[.float .f32 t] w fun e w' => e = .returned (.tuple #[.float .f32 0, .int .i64 k]) ∧ w = w' := by
  have CW := Lib.hid (fun w => checkWithin_any t 0 1065353216 w)
  rw [h] at CW
  clear h
  rcases hk with rfl | rfl
  all_goals go_enter Try.func218, Try.ntmps218
  all_goals go_wp2_with (first | (go_at_call 158; refine (CW.out _).mono ?_; rintro e w' ⟨rfl, rfl⟩))
  all_goals go_ret2
  all_goals exact ⟨rfl, rfl⟩
end Go.Proofs.Ytmbiohopcfglcaa

/- Dither and Speckle of one cell, as words; what the steps come to. -/
namespace Go.Proofs.Ytmbiohopcfglcaa
open Go.RowKit Fl
set_option linter.unusedVariables false

theorem div_val {x y k : Nat} {a b : Int} (hx : vS x = some a) (hy : vS y = some b) (hb : b ≠ 0) (hk : k ≤ 120) (h : a.natAbs ≤ b.natAbs * 2 ^ k) : Same2 .quo k x y := by
  obtain ⟨s, m, i, e1, rfl⟩ := vS_some hx
  obtain ⟨t, n, j, e2, rfl⟩ := vS_some hy
  have n1 : (vOf s m i).natAbs = m * 2 ^ (i + 1074).toNat := by unfold vOf; rw [signed_eq, Int.natAbs_mul, Int.natAbs_natCast]; cases s <;> simp
  have n2 : (vOf t n j).natAbs = n * 2 ^ (j + 1074).toNat := by unfold vOf; rw [signed_eq, Int.natAbs_mul, Int.natAbs_natCast]; cases t <;> simp
  refine div_same hk e1 e2 ?_ (by rw [← n1, ← n2]; exact h)
  rcases Nat.eq_zero_or_pos n with z | z
  · exfalso; apply hb; subst z
    have : (vOf t 0 j).natAbs = 0 := by rw [n2]; simp
    omega
  · exact z

theorem vS_lo {j : Nat} (hj : j = 1064) : vS 981467136 = some ((2 ^ j : Nat) : Int) := by
  have h : Ieee.single.read 981467136 = .number false 8388608 (-33) := by decide
  rw [vS_lit (t := 1) (k := 23) (j := j) h (by decide) (by rw [hj]; decide)]; simp
theorem vS_hi {j : Nat} (hj : j = 1084) : vS 1149239296 = some ((2 ^ j : Nat) : Int) := by
  have h : Ieee.single.read 1149239296 = .number false 8388608 (-13) := by decide
  rw [vS_lit (t := 1) (k := 23) (j := j) h (by decide) (by rw [hj]; decide)]; simp

/-- A right step: its value is from 2 ^ -10 to 2 ^ 10. -/
def StepOk (st : Nat) : Prop := ∃ b, vS st = some b ∧ (one : Int) ≤ 1024 * b ∧ b ≤ 1024 * (one : Int)
theorem step_ok {st : Nat} (h : wiE st 981467136 1149239296 = 0) : StepOk st := by
  unfold wiE at h
  by_cases hf : finB st = false
  · rw [if_pos hf] at h; cases h
  · rw [if_neg hf] at h
    split at h
    · cases h
    · rename_i c
      obtain ⟨a, ha⟩ := Option.isSome_iff_exists.1 (show (vS st).isSome = true by simpa [finB, Option.isSome_iff_ne_none] using hf)
      obtain ⟨j, hj⟩ : ∃ j : Nat, j = 1064 := ⟨_, rfl⟩
      have hj' : j + 20 = 1084 := by omega
      rw [show FloatKind.f32.format = Ieee.single from rfl, lss_val ha (vS_lo hj), gtr_val ha (vS_hi hj')] at c
      refine ⟨a, ha, ?_⟩
      have e1 : one = 1024 * 2 ^ j := by rw [one_split (a := 10) (j := j) (by omega)]
      have e2 : 2 ^ (j + 20) = 1048576 * 2 ^ j := by rw [Nat.pow_add, Nat.mul_comm]
      rw [e2] at c
      rw [e1]
      generalize 2 ^ j = U at *
      simp at c
      omega
theorem step_bd {st : Nat} (h : StepOk st) : Bd 11 st := by
  obtain ⟨b, hb, h1, h2⟩ := h
  obtain ⟨J, hJ⟩ : ∃ J : Nat, J = 1074 := ⟨_, rfl⟩
  refine bd_val' (j := 11 + J) hb (by omega) ?_
  have e : 2 ^ (11 + J) = 2048 * one := by rw [one_pow hJ, Nat.pow_add]
  have := one_pos
  rw [e]
  generalize one = O at *
  omega

theorem hgt_val {x : Nat} (h : hgtB x = true) : ∃ a, vS x = some a ∧ a.natAbs ≤ 1048576 * one := by
  obtain ⟨a, ha, hb⟩ := val_bd (hgt_bd h)
  refine ⟨a, ha, ?_⟩
  obtain ⟨J, hJ⟩ : ∃ J : Nat, J = 1074 := ⟨_, rfl⟩
  have e : 2 ^ (1074 + 20) = 1048576 * one := by
    rw [one_pow hJ, show 1074 + 20 = 20 + J by omega, Nat.pow_add]
  rwa [e] at hb

theorem flV_near (a : Int) : flV a ≤ a ∧ a < flV a + (one : Int) := by
  have hp : (0 : Int) < (one : Int) := Int.natCast_pos.2 one_pos
  unfold flV
  have h1 := Int.ediv_mul_le a (Int.ne_of_gt hp)
  have h2 := Int.lt_ediv_add_one_mul_self a hp
  rw [Int.add_mul, Int.one_mul] at h2
  exact ⟨h1, h2⟩

/-- The quotient that Dither makes. -/
def dthQ (v st : Nat) : Nat := (floatBits .quo .f32 v st).getD 0
/-- What Dither makes of a cell, by the word of its hash. -/
def dthW (v st : Nat) (h : Int) : Nat :=
  (floatBits .mul .f32 (if (FloatKind.f32.format.order (unitW h) ((floatBits .sub .f32 (dthQ v st) (flW (dthQ v st))).getD 0) == some .lt) = true then (floatBits .add .f32 (flW (dthQ v st)) 1065353216).getD 0 else flW (dthQ v st)) st).getD 0

structure DthAt (v st : Nat) (h : Int) (q d : Nat) (c : Bool) (j r : Nat) : Prop where
  q1 : floatBits .quo .f32 v st = some q
  q2 : Same2 .quo 30 v st
  fq : ∃ a, vS q = some a
  bq : Bd 30 q
  d1 : floatBits .sub .f32 q (flW q) = some d
  d2 : Same2 .sub 32 q (flW q)
  c1 : (FloatKind.f32.format.order (unitW h) d == some .lt) = c
  j1 : c = true → floatBits .add .f32 (flW q) 1065353216 = some j
  j2 : c = true → Same2 .add 32 (flW q) 1065353216
  j3 : c = false → j = flW q
  r1 : floatBits .mul .f32 j st = some r
  r2 : Same2 .mul 43 j st
  w : dthW v st h = r
  lt : r < 4294967296

theorem fl_bd {q k : Nat} (h : Bd k q) (hk : k ≤ 50) : Bd (k + 1) (flW q) := by
  obtain ⟨a, ha, hb⟩ := val_bd h
  obtain ⟨_, _, _, _, _, _, _, _, _, hv⟩ := floor_parts ha h hk
  refine bd_val hv ?_
  obtain ⟨h1, h2⟩ := flV_near a
  obtain ⟨J, hJ⟩ : ∃ J : Nat, J = 1074 := ⟨_, rfl⟩
  have e : one ≤ 2 ^ (1074 + k) := by rw [one_pow hJ]; exact Nat.pow_le_pow_right (by omega) (by omega)
  rw [show 1074 + (k + 1) = 1074 + k + 1 by omega, Nat.pow_succ]
  generalize 2 ^ (1074 + k) = T at *
  generalize one = O at *
  omega

theorem bd_one (k : Nat) : Bd k 1065353216 := by
  obtain ⟨J, hJ⟩ : ∃ J : Nat, J = 1074 := ⟨_, rfl⟩
  refine bd_val vS_one ?_
  rw [Int.natAbs_natCast, one_pow hJ]; exact Nat.pow_le_pow_right (by omega) (by omega)

theorem dth_parts {v st : Nat} (h : Int) (hv : hgtB v = true) (hs : StepOk st) : ∃ q d c j r, DthAt v st h q d c j r := by
  obtain ⟨a, ha, hab⟩ := hgt_val hv
  have hs' := hs
  obtain ⟨b, hb, hb1, hb2⟩ := hs'
  have op := one_pos
  have q2 : Same2 .quo 30 v st := by
    refine div_val ha hb ?_ (by omega) ?_
    · generalize one = O at *; omega
    · rw [show (2 : Nat) ^ 30 = 1073741824 by decide]; generalize one = O at *; omega
  obtain ⟨_, _, _, q, _, _, _, _, q1, bq⟩ := q2.ex
  obtain ⟨aq, haq, _⟩ := val_bd bq
  have bf := fl_bd bq (by omega)
  have d2 : Same2 .sub 32 q (flW q) := sub_same (k := 31) (by omega) (bd_up bq (by omega)) bf
  obtain ⟨_, _, _, d, _, _, _, _, d1, _⟩ := d2.ex
  have j2 : Same2 .add 32 (flW q) 1065353216 := add_same (k := 31) (by omega) bf (bd_one 31)
  obtain ⟨_, _, _, j, _, _, _, _, j1, bj⟩ := j2.ex
  have eq : dthQ v st = q := by unfold dthQ; rw [q1]; rfl
  cases hc : (FloatKind.f32.format.order (unitW h) d == some .lt) with
  | true =>
    have r2 : Same2 .mul (32 + 11) j st := mul_same (by omega) bj (step_bd hs)
    obtain ⟨_, _, _, r, _, _, _, _, r1, _⟩ := r2.ex
    refine ⟨q, d, true, j, r, q1, q2, ⟨aq, haq⟩, bq, d1, d2, hc, fun _ => j1, fun _ => j2, (fun h => by cases h), r1, r2, ?_, opt_lt (d := (Ieee.single.read j).product (Ieee.single.read st)) r1⟩
    unfold dthW
    rw [eq, d1]
    show (floatBits .mul .f32 (if (FloatKind.f32.format.order (unitW h) d == some .lt) = true then (floatBits .add .f32 (flW q) 1065353216).getD 0 else flW q) st).getD 0 = r
    rw [if_pos hc, j1]
    show (floatBits .mul .f32 j st).getD 0 = r
    rw [r1]; rfl
  | false =>
    have r2 : Same2 .mul (32 + 11) (flW q) st := mul_same (by omega) (bd_up bf (by omega)) (step_bd hs)
    obtain ⟨_, _, _, r, _, _, _, _, r1, _⟩ := r2.ex
    refine ⟨q, d, false, flW q, r, q1, q2, ⟨aq, haq⟩, bq, d1, d2, hc, (fun h => by cases h), (fun h => by cases h), fun _ => rfl, r1, r2, ?_, opt_lt (d := (Ieee.single.read (flW q)).product (Ieee.single.read st)) r1⟩
    unfold dthW
    rw [eq, d1]
    show (floatBits .mul .f32 (if (FloatKind.f32.format.order (unitW h) d == some .lt) = true then (floatBits .add .f32 (flW q) 1065353216).getD 0 else flW q) st).getD 0 = r
    rw [if_neg (by rw [hc]; simp), r1]; rfl

/-- What Speckle makes of a cell. -/
def spkW (st : Nat) (h : Int) : Nat := if (FloatKind.f32.format.order (unitW h) st == some .lt) = true then 1065353216 else 0

/-- The place of a cell by its number. -/
theorem place_of {X Y x y : Int} {W i : Nat} (hW : 1 ≤ W) (h1 : X ≤ x) (h2 : x < X + W) (h3 : Y ≤ y) (hi : (i : Int) = (y - Y) * W + (x - X)) : X + ((i % W : Nat) : Int) = x ∧ Y + ((i / W : Nat) : Int) = y := by
  obtain ⟨a, ha⟩ := Int.eq_ofNat_of_zero_le (show 0 ≤ x - X by omega)
  obtain ⟨b, hb⟩ := Int.eq_ofNat_of_zero_le (show 0 ≤ y - Y by omega)
  rw [ha, hb, ← Int.natCast_mul, ← Int.natCast_add] at hi
  have hi' : i = b * W + a := Int.ofNat.inj hi
  have ha' : a < W := by omega
  have e1 : i % W = a := by rw [hi', Nat.mul_comm, Nat.mul_add_mod, Nat.mod_eq_of_lt ha']
  have e2 : i / W = b := by rw [hi', Nat.mul_comm, Nat.mul_add_div (by omega), Nat.div_eq_of_lt ha']; rfl
  rw [e1, e2]; omega

set_option maxHeartbeats 400000 in
theorem refDiv_any (k x y r : Nat) (h : Same2 .quo k x y) (hr : floatBits .quo .f32 x y = some r) (w : World) :
    Calls Try.prog 102 #[.float .f32 x, .float .f32 y] w fun e w' => e = .returned (.float .f32 r) ∧ w = w' := by
  obtain ⟨X, Y, Z, r', h1, h2, h3, h4, h5, _⟩ := h.ex
  rw [hr] at h5
  have h5 := Option.some.inj h5
  subst h5
  have c1 := fun (W : World) => run_convert_float_float (P := Try.prog) W 22 182 .f32 .f64 x X (by kernel_rfl) Try.underlying182 h1
  have c2 := fun (W : World) => run_convert_float_float (P := Try.prog) W 22 182 .f32 .f64 y Y (by kernel_rfl) Try.underlying182 h2
  have c3 := fun (W : World) => run_float_arith (P := Try.prog) W .quo 182 .f64 X Y Z h3
  have c4 := fun (W : World) => run_convert_float_float (P := Try.prog) W 182 22 .f64 .f32 Z r (by kernel_rfl) Try.underlying22 h4
  clear h1 h2 h3 h4 hr h
  go_enter Try.func102, Try.ntmps102
  go_wp2
  go_ret
  exact ⟨rfl, rfl⟩

end Go.Proofs.Ytmbiohopcfglcaa

/- What many laws want: two singles as a list, what a function that makes a field answers, the number of a cell. -/
namespace Go.Proofs.Ytmbiohopcfglcaa
open Go.RowKit Fl
set_option linter.unusedVariables false

theorem heap_alloc_new (w : World) (o : Obj) : (w.alloc o).heap[w.heap.size]? = some o := by rw [heap_alloc_get, if_pos rfl]

/-- A single in a block of its own. -/
abbrev flObj (x : Nat) : Obj := .cells #[.float .f32 x] 22

theorem below_drewN (w : World) (k : Nat) : Below w.heap.size w (w.drewN k) := by
  induction k with
  | zero => exact Below.refl _ _
  | succ k ih => exact ih.drew

/-- Two singles, as a list. -/
def two (m c : Nat) (i : Nat) : Nat := if i = 0 then m else c
theorem flAt_two {w : World} {b m c : Nat} (h : w.heap[b]? = some (.cells #[.float .f32 m, .float .f32 c] 22)) : FlAt w b 0 2 (two m c) := by
  intro i hi
  rw [Nat.zero_add, (blkC h).1 i]
  have : i = 0 ∨ i = 1 := by omega
  rcases this with rfl | rfl <;> rfl
theorem two_hgt {m c : Nat} (h : fldE 2 (two m c) = 0) : hgtB m = true ∧ hgtB c = true := by
  have := allB_iff.1 (fldE_zero.1 h)
  exact ⟨this 0 (by omega), this 1 (by omega)⟩

/-- What Scale and Clamp answer: the error of their singles, another error, or a field that is made. -/
def ScPost (w : World) (X Y W H : Int) (n : Nat) (f : Nat → Nat) (er : Int) (e : Ending) (w' : World) : Prop :=
  (er ≠ 0 ∧ e = .returned (.tuple #[fldV 0 0 0 0 (.slice none 0 0), .int .i64 er]) ∧ Below w.heap.size w w') ∨ (er = 0 ∧ MadePost w X Y W H n f e w')

theorem num_lt {X Y x y : Int} {W H n i : Nat} (hW1 : 1 ≤ W) (h1 : X ≤ x) (h2 : x < X + W) (h4 : y < Y + H) (h5 : (i : Int) = (y - Y) * W + (x - X)) (hnn : n = H * W) : i < n := by
  have a : (y - Y) * W ≤ ((H : Int) - 1) * W := Int.mul_le_mul_of_nonneg_right (by omega) (by omega)
  have b : ((H : Int) - 1) * W = (n : Int) - W := by rw [hnn, Int.sub_mul]; simp
  omega

theorem f32f : FloatKind.f32.format = Ieee.single := rfl
theorem one_vTop : (one : Int) ≤ vTop := by
  obtain ⟨J, hJ⟩ : ∃ J : Nat, J = 1074 := ⟨_, rfl⟩
  rw [one_pow hJ]; unfold vTop
  rw [Nat.one_mul]
  exact Int.ofNat_le.2 (Nat.pow_le_pow_right (by omega) (by omega))

end Go.Proofs.Ytmbiohopcfglcaa

/- The error of a single that should lie between two others, by the tests of the reference. -/
namespace Go.Proofs.Ytmbiohopcfglcaa
open Go.RowKit Fl
set_option linter.unusedVariables false

/-- The error of a single that should be from lo to hi, told by the reference's tests. -/
def WithinCases (st lo hi : Nat) : Prop :=
    ((fldE 1 (fun _ => st) = 2 ∨ fldE 1 (fun _ => st) = 3) ∧ wiE st lo hi = fldE 1 (fun _ => st)) ∨
    (fldE 1 (fun _ => st) = 0 ∧ wiE st lo hi = 3 ∧ (FloatKind.f32.format.order st lo == some .lt) = true) ∨
    (fldE 1 (fun _ => st) = 0 ∧ wiE st lo hi = 3 ∧ (FloatKind.f32.format.order st lo == some .lt) = false ∧ (FloatKind.f32.format.order st hi == some .gt) = true) ∨
    (fldE 1 (fun _ => st) = 0 ∧ wiE st lo hi = 0 ∧ (FloatKind.f32.format.order st lo == some .lt) = false ∧ (FloatKind.f32.format.order st hi == some .gt) = false)
theorem within_cases {st lo hi : Nat} {l h : Int} (hl : vS lo = some l) (hh : vS hi = some h) (l1 : -vTop ≤ l) (h1 : h ≤ vTop) : WithinCases st lo hi := by
  unfold WithinCases
  cases hf : finB st with
  | false =>
    have e : fldE 1 (fun _ => st) = 2 := by simp [fldE, allB, List.range_succ, hf]
    exact .inl ⟨.inl e, by rw [e]; unfold wiE; rw [if_pos hf]⟩
  | true =>
    obtain ⟨a, ha⟩ := Option.isSome_iff_exists.1 (show (vS st).isSome = true from hf)
    have l0 := lss_val ha hl
    have g1 := gtr_val ha hh
    rw [← f32f] at l0 g1
    have hw : ((FloatKind.f32.format.order st lo == some .lt) = true ∨ (FloatKind.f32.format.order st hi == some .gt) = true) → wiE st lo hi = 3 := fun c => by
      unfold wiE; rw [if_neg (by rw [hf]; simp), if_pos c]
    cases hgt : hgtB st with
    | false =>
      have e : fldE 1 (fun _ => st) = 3 := by simp [fldE, hgtE, allB, List.range_succ, hf, hgt]
      refine .inl ⟨.inr e, ?_⟩
      rw [e]
      refine hw ?_
      unfold hgtB at hgt
      rw [ha] at hgt
      rw [l0, g1]
      simp at hgt ⊢
      omega
    | true =>
      have e : fldE 1 (fun _ => st) = 0 := fldE_one_ok hgt
      cases c1 : (FloatKind.f32.format.order st lo == some .lt) with
      | true => exact .inr (.inl ⟨e, hw (.inl c1), rfl⟩)
      | false =>
        cases c2 : (FloatKind.f32.format.order st hi == some .gt) with
        | true => exact .inr (.inr (.inl ⟨e, hw (.inr c2), rfl, rfl⟩))
        | false => exact .inr (.inr (.inr ⟨e, by unfold wiE; rw [if_neg (by rw [hf]; simp), if_neg (by rw [c1, c2]; simp)], rfl, rfl⟩))

theorem vTop_one : vTop = 1048576 * (one : Int) := by
  obtain ⟨J, hJ⟩ : ∃ J : Nat, J = 1074 := ⟨_, rfl⟩
  unfold vTop
  rw [one_pow hJ, Nat.one_mul, show ((20 : Int) + 1074).toNat = 20 + J by omega, Nat.pow_add, Int.natCast_mul]; rfl
theorem step_cases (st : Nat) : WithinCases st 981467136 1149239296 := by
  obtain ⟨j, hj⟩ : ∃ j : Nat, j = 1064 := ⟨_, rfl⟩
  have hj' : j + 20 = 1084 := by omega
  have e1 : one = 1024 * 2 ^ j := by rw [one_split (a := 10) (j := j) (by omega)]
  have e2 : 2 ^ (j + 20) = 1048576 * 2 ^ j := by rw [Nat.pow_add, Nat.mul_comm]
  have hp := Nat.two_pow_pos j
  exact within_cases (st := st) (vS_lo hj) (vS_hi hj') (by rw [vTop_one, e1]; generalize 2 ^ j = U at *; omega) (by rw [vTop_one, e1, e2]; generalize 2 ^ j = U at *; omega)

theorem flAt_one_of {w : World} {b x : Nat} (h : w.heap[b]? = some (flObj x)) : FlAt w b 0 1 (fun _ => x) := by
  intro i hi
  have : i = 0 := by omega
  subst this
  exact (blkC h).1 0
theorem refHeight_of (x : Nat) (hx : x < 4294967296) (bb : Nat) (w : World) (h : w.heap[bb]? = some (flObj x)) :
    Calls Try.prog 84 #[.slice (some ⟨bb, 0, none⟩) 1 1] w fun e w' => e = .returned (.int .i64 (fldE 1 (fun _ => x))) ∧ w = w' :=
  refHeight_row bb 0 1 1 (fun _ => x) (by omega) w (flAt_one_of h) (fun _ _ => hx)

end Go.Proofs.Ytmbiohopcfglcaa

/- Select and Terrace of one cell, as words; what their steps come to. -/
namespace Go.Proofs.Ytmbiohopcfglcaa
open Go.RowKit Fl
set_option linter.unusedVariables false

theorem wi_unit {t : Nat} {c : Int} (h : vS t = some c) (c0 : 0 ≤ c) (c1 : c ≤ (one : Int)) : wiE t 0 1065353216 = 0 := by
  unfold wiE
  rw [if_neg (by unfold finB; rw [h]; simp), if_neg]
  rw [f32f, lss_val h vS_zero, gtr_val h vS_one]
  simp; omega

/-- What is left at the distance d of what fades over so. -/
def fadeW (d so : Nat) : Nat := if ltB d so = true then subW 1065353216 (easeW (quoW d so)) else 0
structure FadeAt (d so q p1 q1 r1 e r : Nat) : Prop where
  q1' : floatBits .quo .f32 d so = some q
  q2' : Same2 .quo 0 d so
  ea : EaseAt q p1 q1 r1 e
  wi : wiE q 0 1065353216 = 0
  r1' : floatBits .sub .f32 1065353216 e = some r
  r2' : Same2 .sub 4 1065353216 e
  lt : r < 4294967296
  w : subW 1065353216 (easeW (quoW d so)) = r

theorem fade_parts {d so : Nat} {a b : Int} (hd : vS d = some a) (hs : vS so = some b) (a0 : 0 ≤ a) (hab : a < b) : ∃ q p1 q1 r1 e r, FadeAt d so q p1 q1 r1 e r := by
  have q2 : Same2 .quo 0 d so := div_val hd hs (by omega) (by omega) (by omega)
  obtain ⟨q, q1, bq⟩ := same_ex q2
  obtain ⟨c, hc, hcb⟩ := val_bd bq
  have c0 := quo_sign q1 hd hs hc a0 (by omega)
  obtain ⟨J, hJ⟩ : ∃ J : Nat, J = 1074 := ⟨_, rfl⟩
  have c1 : c ≤ (one : Int) := by
    rw [one_pow hJ]; rw [Nat.add_zero, ← hJ] at hcb; omega
  obtain ⟨p, q', r', e, E⟩ := ease_parts (bd_unit hc (by omega) c1)
  obtain ⟨_, e1, be⟩ := same_ex E.v2
  rw [E.v1] at e1
  have e1' := Option.some.inj e1
  rw [← e1'] at be
  have r2 : Same2 .sub 4 1065353216 e := sub_same (k := 3) (by omega) (bd_one 3) be
  obtain ⟨r, r1, _⟩ := same_ex r2
  refine ⟨q, p, q', r', e, r, q1, q2, E, wi_unit hc c0 c1, r1, r2, sub_lt r1, ?_⟩
  unfold subW quoW
  rw [q1]
  show (floatBits .sub .f32 1065353216 (easeW q)).getD 0 = r
  rw [E.w, r1]; rfl

/-- Select of one value. -/
def selW (v lo hi so : Nat) : Nat := if ltB v lo = true then fadeW (subW lo v) so else if (FloatKind.f32.format.order v hi == some .gt) = true then fadeW (subW v hi) so else 1065353216

theorem diff_pos {x y : Nat} (hx : hgtB x = true) (hy : hgtB y = true) (h : ltB x y = true) : ∃ d a, floatBits .sub .f32 y x = some d ∧ Same2 .sub 21 y x ∧ vS d = some a ∧ 0 ≤ a ∧ d < 4294967296 := by
  obtain ⟨a, ha, xa⟩ := hgt_val hx
  obtain ⟨b, hb, xb⟩ := hgt_val hy
  unfold ltB at h
  rw [f32f, lss_val ha hb] at h
  have s : Same2 .sub 21 y x := sub_same (k := 20) (by omega) (hgt_bd hy) (hgt_bd hx)
  obtain ⟨d, e, bd⟩ := same_ex s
  obtain ⟨c, hc, _⟩ := val_bd bd
  obtain ⟨B, hB⟩ : ∃ B : Nat, B = 1100 := ⟨_, rfl⟩
  have hv : vS d = some (rdS (b - a)) := by
    have h' : a < b := by simpa using h
    refine vS_sub (B := B) e hb ha (small_of (n := 21) (by omega) ?_ (by omega)) (by omega)
    rw [show ((2 ^ 21 : Nat) : Int) = 2097152 by decide]
    generalize one = O at *
    omega
  exact ⟨d, rdS (b - a), e, s, hv, rdS_nonneg (by simp at h; omega), sub_lt e⟩

theorem sel_lt {v lo hi so : Nat} (hv : hgtB v = true) (hl : hgtB lo = true) (hh : hgtB hi = true) (hs : hgtB so = true) : selW v lo hi so < 4294967296 := by
  have F : ∀ {x y : Nat}, hgtB x = true → hgtB y = true → ltB x y = true → fadeW (subW y x) so < 4294967296 := by
    intro x y hx hy h
    obtain ⟨d, a, e, _, hd, a0, _⟩ := diff_pos hx hy h
    obtain ⟨b, hb, _⟩ := hgt_val hs
    have ed : subW y x = d := by unfold subW; rw [e]; rfl
    unfold fadeW
    rw [ed]
    split
    · rename_i c
      unfold ltB at c
      rw [f32f, lss_val hd hb] at c
      obtain ⟨q, p1, q1, r1, e, r, A⟩ := fade_parts hd hb a0 (by simpa using c)
      rw [A.w]; exact A.lt
    · decide
  unfold selW
  split
  · rename_i c; exact F hv hl c
  · split
    · rename_i c
      refine F hh hv ?_
      obtain ⟨a, ha, _⟩ := hgt_val hv
      obtain ⟨b, hb, _⟩ := hgt_val hh
      rw [f32f, gtr_val ha hb] at c
      unfold ltB; rw [f32f, lss_val hb ha]; simpa using c
    · decide

/-- A right sharpness: its value is from 0 to below 1. -/
def ShOk (sh : Nat) : Prop := ∃ b, vS sh = some b ∧ 0 ≤ b ∧ b < (one : Int)

/-- Terrace of one value. -/
def terW (v st sh : Nat) : Nat :=
  if ltB (subW (quoW v st) (flW (quoW v st))) sh = true then mulW (flW (quoW v st)) st
  else mulW (addW (flW (quoW v st)) (quoW (subW (subW (quoW v st) (flW (quoW v st))) sh) (subW 1065353216 sh))) st

structure TerAt (v st sh q d : Nat) (c : Bool) (u x y j r : Nat) : Prop where
  q1 : floatBits .quo .f32 v st = some q
  q2 : Same2 .quo 30 v st
  fq : ∃ a, vS q = some a
  bq : Bd 30 q
  d1 : floatBits .sub .f32 q (flW q) = some d
  d2 : Same2 .sub 32 q (flW q)
  c1 : ltB d sh = c
  u1 : floatBits .sub .f32 d sh = some u
  u2 : Same2 .sub 33 d sh
  x1 : floatBits .sub .f32 1065353216 sh = some x
  x2 : Same2 .sub 1 1065353216 sh
  y1 : floatBits .quo .f32 u x = some y
  y2 : Same2 .quo 60 u x
  j1 : c = false → floatBits .add .f32 (flW q) y = some j
  j2 : c = false → Same2 .add 61 (flW q) y
  j3 : c = true → j = flW q
  r1 : floatBits .mul .f32 j st = some r
  r2 : Same2 .mul 72 j st
  w : terW v st sh = r
  lt : r < 4294967296

theorem below_one {e : Int} {sh j : Nat} (h : vS sh = some e) (e0 : 0 ≤ e) (e1 : e < (one : Int)) (hj : j = 1050) : ((2 ^ j : Nat) : Int) ≤ (one : Int) - e := by
  obtain ⟨t, i, ht, hi, he⟩ := vS_form h
  have p := Nat.two_pow_pos i
  have t0 : 0 ≤ t := by
    rcases Int.lt_or_le t 0 with c | c
    · have : t * ((2 ^ i : Nat) : Int) < 0 := Int.mul_neg_of_neg_of_pos c (Int.natCast_pos.2 p)
      omega
    · exact c
  obtain ⟨u, rfl⟩ := Int.eq_ofNat_of_zero_le t0
  have he' : e = ((u * 2 ^ i : Nat) : Int) := by rw [he, Int.natCast_mul]
  have hu : u < 16777216 := by simpa using ht
  have e24 : one = 16777216 * 2 ^ j := by rw [one_split (a := 24) (j := j) (by omega)]
  have hlt : u * 2 ^ i < one := by omega
  have goal : 2 ^ j + u * 2 ^ i ≤ one := by
    rcases Nat.le_total j i with c | c
    · have e2 : 2 ^ i = 2 ^ (i - j) * 2 ^ j := by rw [← Nat.pow_add, Nat.sub_add_cancel c]
      rw [e2, ← Nat.mul_assoc] at hlt ⊢
      rw [e24] at hlt ⊢
      have := Nat.lt_of_mul_lt_mul_right hlt
      rw [show 2 ^ j + u * 2 ^ (i - j) * 2 ^ j = (1 + u * 2 ^ (i - j)) * 2 ^ j by rw [Nat.add_mul, Nat.one_mul]]
      exact Nat.mul_le_mul_right _ (by omega)
    · rcases Nat.eq_or_lt_of_le c with z | z
      · subst z
        rw [e24]
        rw [show 2 ^ i + u * 2 ^ i = (1 + u) * 2 ^ i by rw [Nat.add_mul, Nat.one_mul]]
        exact Nat.mul_le_mul_right _ (by omega)
      · obtain ⟨J, hJ⟩ : ∃ J, j = J + 1 := ⟨j - 1, by omega⟩
        have e3 : 2 ^ i ≤ 2 ^ J := Nat.pow_le_pow_right (by omega) (by omega)
        have e5 : u * 2 ^ i ≤ 16777215 * 2 ^ J := Nat.mul_le_mul (by omega) e3
        have e4 : 2 ^ j = 2 * 2 ^ J := by rw [hJ]; exact Nat.pow_succ'
        rw [e24, e4]
        generalize 2 ^ J = U at *
        generalize u * 2 ^ i = V at *
        omega
  rw [he']; omega

theorem ter_parts {v st sh : Nat} (hv : hgtB v = true) (hs : StepOk st) (hsh : ShOk sh) : ∃ q d c u x y j r, TerAt v st sh q d c u x y j r := by
  obtain ⟨a, ha, hab⟩ := hgt_val hv
  have hs' := hs
  obtain ⟨b, hb, hb1, hb2⟩ := hs'
  obtain ⟨e, he, e0, e1⟩ := hsh
  have op := one_pos
  have q2 : Same2 .quo 30 v st := by
    refine div_val ha hb ?_ (by omega) ?_
    · generalize one = O at *; omega
    · rw [show (2 : Nat) ^ 30 = 1073741824 by decide]; generalize one = O at *; omega
  obtain ⟨q, q1, bq⟩ := same_ex q2
  obtain ⟨aq, haq, _⟩ := val_bd bq
  have bf := fl_bd bq (by omega)
  have d2 : Same2 .sub 32 q (flW q) := sub_same (k := 31) (by omega) (bd_up bq (by omega)) bf
  obtain ⟨d, d1, bd⟩ := same_ex d2
  have bsh : Bd 0 sh := bd_unit he (by omega) (by omega)
  have u2 : Same2 .sub 33 d sh := sub_same (k := 32) (by omega) bd (bd_up bsh (by omega))
  obtain ⟨u, u1, bu⟩ := same_ex u2
  have x2 : Same2 .sub 1 1065353216 sh := sub_same (k := 0) (by omega) (bd_one 0) bsh
  obtain ⟨x, x1, bx⟩ := same_ex x2
  obtain ⟨J, hJ⟩ : ∃ J : Nat, J = 1050 := ⟨_, rfl⟩
  obtain ⟨B, hB⟩ : ∃ B : Nat, B = 1100 := ⟨_, rfl⟩
  have vx : vS x = some (rdS ((one : Int) - e)) := vS_sub (B := B) x1 vS_one he (by
    have : one < 2 ^ B := one_lt (by omega)
    omega) (by omega)
  have lx : ((2 ^ J : Nat) : Int) ≤ rdS ((one : Int) - e) := by
    have := rdS_mono (below_one he e0 e1 hJ)
    rwa [rdS_exact (c := ((2 ^ J : Nat) : Int)) 1 J (by decide) (by omega) (by simp)] at this
  obtain ⟨au, hau, hub⟩ := val_bd bu
  have y2 : Same2 .quo 60 u x := by
    have pj := Nat.two_pow_pos J
    refine div_val hau vx (by omega) (by omega) (Nat.le_trans hub ?_)
    rw [show 1074 + 33 = J + 57 by omega, Nat.pow_add]
    refine Nat.mul_le_mul (by omega) (Nat.pow_le_pow_right (by omega) (by omega))
  obtain ⟨y, y1, by'⟩ := same_ex y2
  have j2 : Same2 .add 61 (flW q) y := add_same (k := 60) (by omega) (bd_up bf (by omega)) by'
  obtain ⟨j, j1, bj⟩ := same_ex j2
  have eq : quoW v st = q := by unfold quoW; rw [q1]; rfl
  have ed : subW q (flW q) = d := by unfold subW; rw [d1]; rfl
  have eu : subW d sh = u := by unfold subW; rw [u1]; rfl
  have ex : subW 1065353216 sh = x := by unfold subW; rw [x1]; rfl
  have ey : quoW u x = y := by unfold quoW; rw [y1]; rfl
  have ej : addW (flW q) y = j := by unfold addW; rw [j1]; rfl
  cases hc : ltB d sh with
  | true =>
    have r2 : Same2 .mul (61 + 11) (flW q) st := mul_same (by omega) (bd_up bf (by omega)) (step_bd hs)
    obtain ⟨r, r1, _⟩ := same_ex r2
    refine ⟨q, d, true, u, x, y, flW q, r, q1, q2, ⟨aq, haq⟩, bq, d1, d2, hc, u1, u2, x1, x2, y1, y2, (fun h => by cases h), (fun h => by cases h), fun _ => rfl, r1, r2, ?_, mul_lt r1⟩
    unfold terW
    rw [eq, ed, if_pos hc]; unfold mulW; rw [r1]; rfl
  | false =>
    have r2 : Same2 .mul (61 + 11) j st := mul_same (by omega) bj (step_bd hs)
    obtain ⟨r, r1, _⟩ := same_ex r2
    refine ⟨q, d, false, u, x, y, j, r, q1, q2, ⟨aq, haq⟩, bq, d1, d2, hc, u1, u2, x1, x2, y1, y2, fun _ => j1, fun _ => j2, (fun h => by cases h), r1, r2, ?_, mul_lt r1⟩
    unfold terW
    rw [eq, ed, if_neg (by rw [hc]; simp), eu, ex, ey, ej]; unfold mulW; rw [r1]; rfl
end Go.Proofs.Ytmbiohopcfglcaa
