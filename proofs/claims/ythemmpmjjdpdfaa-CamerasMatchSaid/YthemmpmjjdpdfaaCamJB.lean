/- Lemmas and contracts for the proof that the last text of this claim holds. -/
import Derived.Test.YthemmpmjjdpdfaaCamJA
import Derived.Test.YthemmpmjjdpdfaaRows
import Derived.WalkKit
import Derived.WalkSpells
import Derived.WalkLawsBesides
import Derived.BigQuiet
import Derived.Deep.QuietTactic
import Derived.Lib.Hide
import Derived.Deep.RegionHeld3
import Derived.Deep.DeepCutAuto
import Derived.Deep.AppendLies
import Derived.Deep.RegionLaw
import Derived.RegionTactic
import Derived.ChangeAlike
import Derived.StillTailTactics

/- A single with its sign turned; magnitudes of quotients by what is at least 1. -/
namespace Go.Proofs.Ythemmpmjjdpdfaa.Fl
open Ieee

theorem xor_add {r : Nat} (h : r < 2147483648) : r ^^^ 2147483648 = r + 2147483648 := by
  have e : 2 ^ 31 * 1 + r = 2 ^ 31 * 1 ||| r := Nat.two_pow_add_eq_or_of_lt h 1
  have e' : r + 2147483648 = 2147483648 ||| r := by
    rw [Nat.add_comm]; simpa using e
  rw [e']
  apply Nat.eq_of_testBit_eq
  intro i
  rw [Nat.testBit_xor, Nat.testBit_or]
  have t : (2147483648 : Nat) = 2 ^ 31 := by decide
  rw [t, Nat.testBit_two_pow]
  by_cases c : 31 = i
  · subst c
    have : r.testBit 31 = false := Nat.testBit_lt_two_pow (by rw [← t]; exact h)
    rw [this]; simp
  · simp [c]

theorem xor31 {b : Nat} (h : b < 4294967296) : b ^^^ 2147483648 = if b < 2147483648 then b + 2147483648 else b - 2147483648 := by
  split
  · rename_i c; exact xor_add c
  · rename_i c
    have e := xor_add (r := b - 2147483648) (by omega)
    have e2 : b = (b - 2147483648) ^^^ 2147483648 := by rw [e]; omega
    have e3 : b ^^^ 2147483648 = ((b - 2147483648) ^^^ 2147483648) ^^^ 2147483648 := congrArg (· ^^^ 2147483648) e2
    rw [e3, Nat.xor_assoc, Nat.xor_self, Nat.xor_zero]

theorem read_opp {b : Nat} (h : b < 4294967296) : single.read (b ^^^ 2147483648) = (single.read b).opposite := by
  rw [xor31 h]
  by_cases c : b < 2147483648
  · rw [if_pos c]
    have d1 : (b + 2147483648) / 2147483648 = 1 := by omega
    have d2 : (b + 2147483648) % 2147483648 = b := by omega
    have d3 : b / 2147483648 = 0 := by omega
    have d4 : b % 2147483648 = b := by omega
    unfold Format.read
    simp only [swS, d1, d2, d3, d4]
    repeat' split
    all_goals simp_all [Datum.opposite]
  · rw [if_neg c]
    have d1 : (b - 2147483648) / 2147483648 = 0 := by omega
    have d2 : (b - 2147483648) % 2147483648 = b - 2147483648 := by omega
    have d3 : b / 2147483648 = 1 := by omega
    have d4 : b % 2147483648 = b - 2147483648 := by omega
    unfold Format.read
    simp only [swS, d1, d2, d3, d4]
    repeat' split
    all_goals simp_all [Datum.opposite]

/-- A single, its sign turned. -/
def negW (b : Nat) : Nat := b ^^^ 2147483648
theorem neg_val {b : Nat} {a : Int} (h : b < 4294967296) (hv : vS b = some a) : vS (negW b) = some (-a) := by
  obtain ⟨s, m, p, e, rfl⟩ := vS_some hv
  have r : single.read (negW b) = .number (!s) m p := by unfold negW; rw [read_opp h, e]; rfl
  rw [vS_num r, vOf_opp]
theorem neg_bd {b k : Nat} (h : b < 4294967296) (hb : Bd k b) : Bd k (negW b) := by
  obtain ⟨s, m, p, e, l⟩ := hb
  exact ⟨!s, m, p, by unfold negW; rw [read_opp h, e]; rfl, l⟩
theorem negFloat_eq (b : Nat) : Go.Op.negFloat .f32 b = negW b := rfl
end Go.Proofs.Ythemmpmjjdpdfaa.Fl

/- Contracts of the regions' functions. -/
namespace Go.Proofs.Ythemmpmjjdpdfaa
open Go.RowKit

def withinB (n a b : Int) : Bool := decide (a ≤ n) && decide (n ≤ b)
theorem withinB_iff {n a b : Int} : withinB n a b = true ↔ a ≤ n ∧ n ≤ b := by simp [withinB]
theorem withinB_no {n a b : Int} : withinB n a b = false ↔ (n < a ∨ b < n) := by
  rw [← Bool.not_eq_true, withinB_iff]; omega

theorem ret_int {k : IntKind} {a b : Int} (h : a = b) : Ending.returned (.int k a) = .returned (.int k b) := by rw [h]
theorem ret_bool {a b : Bool} (h : a = b) : Ending.returned (.bool a) = .returned (.bool b) := by rw [h]

/-- What CheckRegion answers. -/
def checkR (x y w h : Int) : Int :=
  if w < 1 ∨ 512 < w ∨ h < 1 ∨ 512 < h then 3
  else if 65536 < w * h then 4
  else if x < -4194304 ∨ 4194304 - w < x ∨ y < -4194304 ∨ 4194304 - h < y then 5
  else 0

theorem mul_side {w h : Int} (a : 1 ≤ w) (b : w ≤ 512) (c : 1 ≤ h) (d : h ≤ 512) : 1 ≤ w * h ∧ w * h ≤ 262144 := by
  constructor
  · have := Int.mul_le_mul a c (by omega) (by omega : (0:Int) ≤ w); omega
  · have := Int.mul_le_mul b d (by omega : (0:Int) ≤ h) (by omega : (0:Int) ≤ 512); omega
theorem wrap_side {w h : Int} (a : 1 ≤ w) (b : w ≤ 512) (c : 1 ≤ h) (d : h ≤ 512) : wrap64 (w * h) = w * h := by
  obtain ⟨e, f⟩ := mul_side a b c d
  exact IntWalk.wrap64_in _ ⟨by omega, by omega⟩

theorem checkR_range {x y w h : Int} (a : withinB w 1 512 = false ∨ withinB h 1 512 = false) : checkR x y w h = 3 := by
  simp only [withinB_no] at a
  unfold checkR; rw [if_pos (by omega)]
theorem checkR_large {x y w h : Int} (a : withinB w 1 512 = true) (b : withinB h 1 512 = true) (c : 65536 < wrap64 (w * h)) : checkR x y w h = 4 := by
  simp only [withinB_iff] at a b
  rw [wrap_side a.1 a.2 b.1 b.2] at c
  unfold checkR; rw [if_neg (by omega), if_pos c]
theorem checkR_place {x y w h : Int} (a : withinB w 1 512 = true) (b : withinB h 1 512 = true) (c : wrap64 (w * h) ≤ 65536)
    (d : withinB x (-4194304) (4194304 - w) = false ∨ withinB y (-4194304) (4194304 - h) = false) : checkR x y w h = 5 := by
  simp only [withinB_iff] at a b
  simp only [withinB_no] at d
  rw [wrap_side a.1 a.2 b.1 b.2] at c
  unfold checkR; rw [if_neg (by omega), if_neg (by omega), if_pos (by omega)]
theorem checkR_ok {x y w h : Int} (a : withinB w 1 512 = true) (b : withinB h 1 512 = true) (c : wrap64 (w * h) ≤ 65536)
    (d : withinB x (-4194304) (4194304 - w) = true) (e : withinB y (-4194304) (4194304 - h) = true) : checkR x y w h = 0 := by
  simp only [withinB_iff] at a b d e
  rw [wrap_side a.1 a.2 b.1 b.2] at c
  unfold checkR; rw [if_neg (by omega), if_neg (by omega), if_neg (by omega)]

set_option maxHeartbeats 400000 in
theorem within_any (n a b : Int) (w : World) :
    Calls Try.prog 91 #[.int .i64 n, .int .i64 a, .int .i64 b] w fun e w' => e = .returned (.bool (withinB n a b)) ∧ w = w' := by
  go_enter Try.func91, Try.ntmps91
  go_wp2
  all_goals go_ret
  all_goals exact ⟨ret_bool (by rw [Bool.eq_iff_iff, withinB_iff]; simp; omega), rfl⟩

set_option maxHeartbeats 400000 in
theorem hasPlace_any (x l : Int) (w : World) (h1 : 0 ≤ l) (h2 : l ≤ 512) :
    Calls Try.prog 162 #[.int .i64 x, .int .i64 l] w fun e w' => e = .returned (.bool (withinB x (-4194304) (4194304 - l))) ∧ w = w' := by
  go_enter Try.func162, Try.ntmps162
  go_wp2_with (go_at_call 91; refine (within_any _ _ _ _).mono ?_; rintro e w' ⟨rfl, rfl⟩)
  go_ret
  exact ⟨rfl, rfl⟩

set_option maxHeartbeats 400000 in
theorem checkRegion_any (x y ww hh : Int) (w : World) :
    Calls Try.prog 105 #[.agg #[.int .i64 x, .int .i64 y, .int .i64 ww, .int .i64 hh]] w fun e w' => e = .returned (.int .i64 (checkR x y ww hh)) ∧ w' = w.alloc (.cells #[.int .i64 x, .int .i64 y, .int .i64 ww, .int .i64 hh] 23) := by
  go_enter Try.func105, Try.ntmps105
  go_wp2_with (first | (go_at_call 91; refine (within_any _ _ _ _).mono ?_; rintro e w' ⟨rfl, rfl⟩) | (go_at_call 162; refine (hasPlace_any _ _ _ ?_ ?_).mono ?_; rotate_left 2; rintro e w' ⟨rfl, rfl⟩))
  all_goals simp only [Bool.not_eq_true, Bool.not_eq_true', Bool.not_eq_false'] at *
  all_goals first
    | (simp only [withinB_iff] at *; omega)
    | (go_ret
       refine ⟨ret_int (Eq.symm ?_), rfl⟩
       first
         | exact checkR_range (.inl ‹_›)
         | exact checkR_range (.inr ‹_›)
         | exact checkR_large ‹_› ‹_› ‹_›
         | exact checkR_place ‹_› ‹_› ‹_› (.inl ‹_›)
         | exact checkR_place ‹_› ‹_› ‹_› (.inr ‹_›)
         | exact checkR_ok ‹_› ‹_› ‹_› ‹_› ‹_›)

/-- A region as a value; its cells. -/
abbrev reg (x y w h : Int) : Value := .agg #[.int .i64 x, .int .i64 y, .int .i64 w, .int .i64 h]
abbrev regObj (x y w h : Int) : Obj := .cells #[.int .i64 x, .int .i64 y, .int .i64 w, .int .i64 h] 23

end Go.Proofs.Ythemmpmjjdpdfaa

/- Contracts of the regions' functions, continued: Grow, Common, Inside. -/
namespace Go.Proofs.Ythemmpmjjdpdfaa
open Go.RowKit

/-- What Grow answers. -/
def growE (x y w h n : Int) : Int :=
  if checkR x y w h = 0 then if n < -512 ∨ 512 < n then 3 else checkR (x - n) (y - n) (w + 2 * n) (h + 2 * n) else checkR x y w h
def growR (x y w h n : Int) : Value := if growE x y w h n = 0 then reg (x - n) (y - n) (w + 2 * n) (h + 2 * n) else reg 0 0 0 0
theorem checkR_zero {x y w h : Int} (e : checkR x y w h = 0) : 1 ≤ w ∧ w ≤ 512 ∧ 1 ≤ h ∧ h ≤ 512 ∧ w * h ≤ 65536 ∧ -4194304 ≤ x ∧ x ≤ 4194304 - w ∧ -4194304 ≤ y ∧ y ≤ 4194304 - h := by
  unfold checkR at e
  split at e <;> omega

theorem bcell {W w1 : World} (hb : Below W.heap.size W w1) : (∀ b o, b < W.heap.size → w1.cell? ⟨b, o, none⟩ = W.cell? ⟨b, o, none⟩) ∧ (∀ b o, b < W.heap.size → w1.frozen? ⟨b, o, none⟩ = W.frozen? ⟨b, o, none⟩) :=
  ⟨fun b o h => hb.cell (p := ⟨b, o, none⟩) h, fun b o h => hb.frozen (p := ⟨b, o, none⟩) h⟩

theorem ret2 {a b : Value} {c d : Value} (h1 : a = b) (h2 : c = d) : Ending.returned (.tuple #[a, c]) = .returned (.tuple #[b, d]) := by rw [h1, h2]

end Go.Proofs.Ythemmpmjjdpdfaa

/- Contracts: isFinite, isHeight, checkRange, CheckHeights, Check; the reference's abs, Height. -/
namespace Go.Proofs.Ythemmpmjjdpdfaa
open Go.RowKit Fl

theorem f32fmt : FloatKind.f32.format = Ieee.single := rfl

set_option maxHeartbeats 400000 in
theorem isFinite_any (x : Nat) (w : World) :
    Calls Try.prog 158 #[.float .f32 x] w fun e w' => e = .returned (.bool (finB x)) ∧ w = w' := by
  rw [← isFinite_eq]
  go_enter Try.func158, Try.ntmps158
  go_wp2
  all_goals go_ret
  · exact ⟨rfl, rfl⟩
  · rename_i h
    refine ⟨ret_bool (Eq.symm ?_), rfl⟩
    rw [f32fmt] at h
    rw [Bool.and_eq_false_iff]; left
    simpa using h

set_option maxHeartbeats 400000 in
theorem isHeight_any (x : Nat) (w : World) :
    Calls Try.prog 182 #[.float .f32 x] w fun e w' => e = .returned (.bool (hgtB x)) ∧ w = w' := by
  rw [← isHeight_eq]
  go_enter Try.func182, Try.ntmps182
  go_wp2
  all_goals go_ret
  · exact ⟨rfl, rfl⟩
  · rename_i h
    refine ⟨ret_bool (Eq.symm ?_), rfl⟩
    rw [f32fmt] at h
    rw [Bool.and_eq_false_iff]; left
    simpa using h

/-- Do all below n have it? -/
def allB (n : Nat) (p : Nat → Bool) : Bool := (List.range n).all p
theorem allB_iff {n : Nat} {p : Nat → Bool} : allB n p = true ↔ ∀ i, i < n → p i = true := by simp [allB]
theorem allB_no {n : Nat} {p : Nat → Bool} {k : Nat} (h : k < n) (h2 : p k = false) : allB n p = false := by
  rw [← Bool.not_eq_true, allB_iff]; intro c; rw [c k h] at h2; cases h2

def hgtE (n : Nat) (v : Nat → Nat) : Int := if allB n (fun i => hgtB (v i)) then 0 else 3
/-- The error of singles that should be heights. -/
def fldE (n : Nat) (v : Nat → Nat) : Int := if allB n (fun i => finB (v i)) then hgtE n v else 2

/-- n cells from b, off on are the singles v. -/
def FlAt (w : World) (b off n : Nat) (v : Nat → Nat) : Prop := ∀ i, i < n → w.cell? ⟨b, off + i, none⟩ = some (.float .f32 (v i))

set_option maxHeartbeats 400000 in
theorem checkRange_nil (a : Option Addr) (cap : Nat) (w : World) :
    Calls Try.prog 159 #[.slice a 0 cap] w fun e w' => e = .returned (.int .i64 0) ∧ w = w' := by
  go_enter Try.func159, Try.ntmps159
  go_wp2
  go_loop [7] (fun i => i = .int .i64 0) (fun _ => 0)
  case atStart => rfl
  case round =>
    subst hrel
    go_wp2
    go_ret
    exact ⟨rfl, rfl⟩

set_option maxHeartbeats 400000 in
theorem checkRange_row (b off cap n : Nat) (v : Nat → Nat) (hl : n ≤ 9223372036854775807) (w : World) (hc : FlAt w b off n v) :
    Calls Try.prog 159 #[.slice (some ⟨b, off, none⟩) n cap] w fun e w' => e = .returned (.int .i64 (hgtE n v)) ∧ w = w' := by
  go_enter Try.func159, Try.ntmps159
  go_wp2
  go_loop [7] (fun i => ∃ k : Nat, k ≤ n ∧ i = .int .i64 k ∧ allB k (fun i => hgtB (v i)) = true) (fun i => n - (intOf i).toNat)
  case atStart => exact ⟨0, Nat.zero_le _, rfl, rfl⟩
  case round =>
    obtain ⟨k, hk, rfl, hall⟩ := hrel
    have HA := Lib.hid hall
    clear hall
    by_cases hlt : k < n
    · have hcell := hc k hlt
      have IH := Lib.hid (fun w => isHeight_any (v k) w)
      cases hb : hgtB (v k) with
      | true =>
        have HB := Lib.hid hb
        rw [hb] at IH
        clear hb
        go_wp2_with (go_at_call 182; refine (IH.out _).mono ?_; rintro e w' ⟨rfl, rfl⟩)
        go_round
        case rel => exact ⟨k + 1, by omega, by go_num, allB_iff.2 fun i hi => by rcases Nat.lt_or_ge i k with c | c; exact allB_iff.1 HA.out i c; rw [show i = k by omega]; exact HB.out⟩
        case measure => simp [intOf]; omega
      | false =>
        have HB := Lib.hid hb
        rw [hb] at IH
        clear hb
        go_wp2_with (go_at_call 182; refine (IH.out _).mono ?_; rintro e w' ⟨rfl, rfl⟩)
        go_ret
        exact ⟨ret_int (by unfold hgtE; rw [allB_no hlt HB.out]; rfl), rfl⟩
    · go_wp2
      go_ret
      have : k = n := by omega
      subst this
      exact ⟨ret_int (by unfold hgtE; rw [HA.out]; rfl), rfl⟩

set_option maxHeartbeats 400000 in
theorem CheckHeights_nil (a : Option Addr) (cap : Nat) (w : World) :
    Calls Try.prog 95 #[.slice a 0 cap] w fun e w' => e = .returned (.int .i64 0) ∧ w = w' := by
  go_enter Try.func95, Try.ntmps95
  go_wp2
  go_loop [7] (fun i => i = .int .i64 0) (fun _ => 0)
  case atStart => rfl
  case round =>
    subst hrel
    go_wp2_with (go_at_call 159; refine (checkRange_nil _ _ _).mono ?_; rintro e w' ⟨rfl, rfl⟩)
    go_ret
    exact ⟨rfl, rfl⟩

set_option maxHeartbeats 400000 in
theorem CheckHeights_row (b off cap n : Nat) (v : Nat → Nat) (hl : n ≤ 9223372036854775807) (w : World) (hc : FlAt w b off n v) :
    Calls Try.prog 95 #[.slice (some ⟨b, off, none⟩) n cap] w fun e w' => e = .returned (.int .i64 (fldE n v)) ∧ w = w' := by
  have CH := Lib.hid (checkRange_row b off cap n v hl w hc)
  go_enter Try.func95, Try.ntmps95
  go_wp2
  go_loop [7] (fun i => ∃ k : Nat, k ≤ n ∧ i = .int .i64 k ∧ allB k (fun i => finB (v i)) = true) (fun i => n - (intOf i).toNat)
  case atStart => exact ⟨0, Nat.zero_le _, rfl, rfl⟩
  case round =>
    obtain ⟨k, hk, rfl, hall⟩ := hrel
    have HA := Lib.hid hall
    clear hall
    by_cases hlt : k < n
    · have hcell := hc k hlt
      have IH := Lib.hid (fun w => isFinite_any (v k) w)
      cases hb : finB (v k) with
      | true =>
        have HB := Lib.hid hb
        rw [hb] at IH
        clear hb
        go_wp2_with (go_at_call 158; refine (IH.out _).mono ?_; rintro e w' ⟨rfl, rfl⟩)
        go_round
        case rel => exact ⟨k + 1, by omega, by go_num, allB_iff.2 fun i hi => by rcases Nat.lt_or_ge i k with c | c; exact allB_iff.1 HA.out i c; rw [show i = k by omega]; exact HB.out⟩
        case measure => simp [intOf]; omega
      | false =>
        have HB := Lib.hid hb
        rw [hb] at IH
        clear hb
        go_wp2_with (go_at_call 158; refine (IH.out _).mono ?_; rintro e w' ⟨rfl, rfl⟩)
        go_ret
        exact ⟨ret_int (by unfold fldE; rw [allB_no hlt HB.out]; rfl), rfl⟩
    · go_wp2_with (go_at_call 159; refine CH.out.mono ?_; rintro e w' ⟨rfl, rfl⟩)
      go_ret
      have : k = n := by omega
      subst this
      exact ⟨ret_int (by unfold fldE; rw [HA.out]; rfl), rfl⟩

end Go.Proofs.Ythemmpmjjdpdfaa

/- Contracts: the reference's abs, Height, Out. -/
namespace Go.Proofs.Ythemmpmjjdpdfaa
open Go.RowKit Fl

theorem f32bits (b : Nat) (w : World) : (callFunc 101 #[.float .f32 b]).run Try.prog w = .ok (.value (.int .u32 b)) w := by
  rw [run_callFunc_extern Try.func101 (by kernel_rfl) (by kernel_rfl) (by kernel_rfl) (e := Extern.MathFloatBits.float32bits) (by kernel_rfl)]; rfl
theorem f32from (n : Int) (w : World) : (callFunc 127 #[.int .u32 n]).run Try.prog w = .ok (.value (.float .f32 n.toNat)) w := by
  rw [run_callFunc_extern Try.func127 (by kernel_rfl) (by kernel_rfl) (by kernel_rfl) (e := Extern.MathFloatBits.float32frombits) (by kernel_rfl)]; rfl

theorem f64bits (b : Nat) (w : World) : (callFunc 132 #[.float .f64 b]).run Try.prog w = .ok (.value (.int .u64 b)) w := by
  rw [run_callFunc_extern Try.func132 (by kernel_rfl) (by kernel_rfl) (by kernel_rfl) (e := Extern.MathFloatBits.float64bits) (by kernel_rfl)]; rfl
theorem f64from (n : Int) (w : World) : (callFunc 131 #[.int .u64 n]).run Try.prog w = .ok (.value (.float .f64 n.toNat)) w := by
  rw [run_callFunc_extern Try.func131 (by kernel_rfl) (by kernel_rfl) (by kernel_rfl) (e := Extern.MathFloatBits.float64frombits) (by kernel_rfl)]; rfl

theorem andNot32 (x : Nat) (hx : x < 4294967296) : bits BinOp.andNot IntKind.u32 (x : Int) 2147483648 = ((x % 2147483648 : Nat) : Int) := by
  have h := u32_andNot_nat x 2147483648 hx (by omega)
  rw [show ((2147483648 : Nat) : Int) = 2147483648 from rfl] at h
  rw [h]
  have : x &&& (4294967295 - 2147483648) = x % 2147483648 := Nat.and_two_pow_sub_one_eq_mod x 31
  rw [this]
/-- 2 ^ 63 and 2 ^ 64 behind names: no walk sees the numerals. -/
def b63 : Nat := 9223372036854775808
def b64 : Nat := 18446744073709551616
theorem andNot64 (x : Nat) (hx : x < b64) : bits BinOp.andNot IntKind.u64 (x : Int) 9223372036854775808 = ((x % b63 : Nat) : Int) := by
  have h := u64_andNot_nat x 9223372036854775808 hx (by omega)
  rw [show ((9223372036854775808 : Nat) : Int) = 9223372036854775808 from rfl] at h
  rw [h]
  have : x &&& (18446744073709551615 - 9223372036854775808) = x % 9223372036854775808 := Nat.and_two_pow_sub_one_eq_mod x 63
  rw [this]; rfl

set_option maxHeartbeats 400000 in
theorem mathAbs_any (X : Nat) (w : World) (hX : X < b64) :
    Calls Try.prog 58 #[.float .f64 X] w fun e w' => e = .returned (.float .f64 (X % b63)) ∧ w = w' := by
  have h1 := f64bits
  have h2 := f64from
  have h3 := andNot64 X hX
  go_enter Try.func58, Try.ntmps58
  go_wp2
  go_ret
  exact ⟨rfl, rfl⟩

set_option maxHeartbeats 400000 in
theorem isInf_any (X : Nat) (k : Bool) (hX : X < b64) (h : (FloatKind.f64.format.order (X % b63) 9218868437227405311 == some .gt) = k) (w : World) :
    Calls Try.prog 124 #[.float .f64 X, .int .i64 0] w fun e w' => e = .returned (.bool k) ∧ w = w' := by
  go_enter Try.func124, Try.ntmps124
  go_wp2_with (go_at_call 58; refine (mathAbs_any _ _ hX).mono ?_; rintro e w' ⟨rfl, rfl⟩)
  go_ret
  exact ⟨rfl, rfl⟩

end Go.Proofs.Ythemmpmjjdpdfaa

/- Contracts: the reference's Height and Out. -/
namespace Go.Proofs.Ythemmpmjjdpdfaa
open Go.RowKit Fl

theorem conv32_lt {x X : Nat} (h : floatToFloatBits .f32 x .f64 = some X) : X < b64 := by
  unfold floatToFloatBits at h
  rw [if_neg (by decide)] at h
  split at h
  · cases h
  · cases h; exact Ieee.Format.write_lt _ _
  · split at h
    · cases h
    · cases h; exact Ieee.Format.write_lt _ _

/-- What the first loop asks of one single: a NaN, an infinity, or a finite one. -/
theorem step1 (x : Nat) : (finB x = true ∧ (FloatKind.f32.format.order x x == some .eq) = true ∧ ∃ X, floatToFloatBits .f32 x .f64 = some X ∧ X < b64 ∧ (FloatKind.f64.format.order (X % b63) 9218868437227405311 == some .gt) = false) ∨
    (finB x = false ∧ (FloatKind.f32.format.order x x == some .eq) = false) ∨
    (finB x = false ∧ (FloatKind.f32.format.order x x == some .eq) = true ∧ ∃ X, floatToFloatBits .f32 x .f64 = some X ∧ X < b64 ∧ (FloatKind.f64.format.order (X % b63) 9218868437227405311 == some .gt) = true) := by
  cases hv : vS x with
  | some a =>
    left
    have hr : ∃ s m p, Ieee.single.read x = .number s m p := by
      unfold vS at hv
      split at hv
      · exact ⟨_, _, _, by assumption⟩
      · cases hv
    obtain ⟨s, m, p, hr⟩ := hr
    obtain ⟨X, _, _, c1, _⟩ := toD hr
    exact ⟨by unfold finB; rw [hv]; rfl, self_eq (by rw [hr]; rfl), X, c1, conv32_lt c1, isInf_no (by rw [hv]; simp) c1⟩
  | none =>
    right
    have hf : finB x = false := by unfold finB; rw [hv]; rfl
    rcases vS_none hv with ⟨s, hs⟩ | hn
    · right
      exact ⟨hf, self_eq (by rw [hs]; rfl), _, conv_inf hs, conv32_lt (conv_inf hs), isInf_yes s⟩
    · left
      exact ⟨hf, self_ne hn⟩

def wf32 (n : Nat) (v : Nat → Nat) : Prop := ∀ i, i < n → v i < 4294967296

theorem fldE_zero {n : Nat} {v : Nat → Nat} : fldE n v = 0 ↔ allB n (fun i => hgtB (v i)) = true := by
  unfold fldE hgtE
  constructor
  · intro h
    split at h
    · split at h
      · assumption
      · cases h
    · cases h
  · intro h
    have f : allB n (fun i => finB (v i)) = true := allB_iff.2 fun i hi => hgt_fin (allB_iff.1 h i hi)
    rw [if_pos f, if_pos h]

end Go.Proofs.Ythemmpmjjdpdfaa

/- Blocks that are known whole, over calls that leave what was there. -/
namespace Go.Proofs.Ythemmpmjjdpdfaa
open Go.RowKit

/-- A block known whole: its cells, its marks, its place. -/
theorem blkC {w : World} {b : Nat} {cs : Array Value} {t : TypeId} (h : w.heap[b]? = some (.cells cs t (0, 0))) :
    (∀ o, w.cell? ⟨b, o, none⟩ = cs[o]?) ∧ (∀ o, w.frozen? ⟨b, o, none⟩ = false) ∧ b < w.heap.size := by
  refine ⟨fun o => by simp [World.cell?, h], fun o => by simp [World.frozen?, h], ?_⟩
  rcases Nat.lt_or_ge b w.heap.size with h' | h'
  · exact h'
  · simp [Array.getElem?_eq_none h'] at h
theorem blkStay {W w' : World} {b : Nat} {o : Obj} (h : W.heap[b]? = some o) (hb : Below W.heap.size W w') : w'.heap[b]? = some o := by
  rw [hb.block b ?_, h]
  rcases Nat.lt_or_ge b W.heap.size with h' | h'
  · exact h'
  · simp [Array.getElem?_eq_none h'] at h
theorem heap_alloc_get (w : World) (o : Obj) (k : Nat) : (w.alloc o).heap[k]? = if k = w.heap.size then some o else w.heap[k]? := by
  show (w.heap.push o)[k]? = _
  rw [Array.getElem?_push]

theorem hold {W w w' : World} {A : Prop} (h : A ∧ Below W.heap.size W w) (hb : Below w.heap.size w w') : Below W.heap.size W w' := h.2.trans (hb.mono h.2.size)
theorem heap_size_alloc (w : World) (o : Obj) : (w.alloc o).heap.size = w.heap.size + 1 := by
  show (w.heap.push o).size = _
  simp

/-- The store of a float into a cell (the kit has none). -/
theorem run_store_float {P : Program} {w : World} {a : Addr} {m : Mode} (k : FloatKind) (b : Nat) : (store a (.float k b) m).run P w = stored P w a (.float k b) m := run_store P w a _ m rfl

end Go.Proofs.Ythemmpmjjdpdfaa

/- Contract: fit. -/
namespace Go.Proofs.Ythemmpmjjdpdfaa
open Go.RowKit Fl

theorem and15 (x : Int) : ∃ a : Nat, a ≤ 15 ∧ bits BinOp.and IntKind.i64 x 15 = (a : Int) := by
  have h : (BitVec.ofInt 64 x &&& BitVec.ofInt 64 15).toNat ≤ 15 := by
    rw [BitVec.toNat_and]
    exact Nat.le_trans Nat.and_le_right (by decide)
  refine ⟨(BitVec.ofInt 64 x &&& BitVec.ofInt 64 15).toNat, h, ?_⟩
  show IntKind.i64.wrap ((BitVec.ofInt 64 x &&& BitVec.ofInt 64 15).toNat : Int) = _
  rw [IntKind.wrap_i64]
  omega

/-- The made cells of singles. -/
theorem made_f32 (n i : Nat) (h : i < n) : (madeCells #[Value.float .f32 0] n)[i]? = some (.float .f32 0) := by
  simp [madeCells, h, Nat.mod_one]

theorem make_f32 (n : Nat) (hn : n ≤ 65536) (w : World) :
    (Instr.makeSlice 24 (.int .i64 (n : Int)) (.int .i64 (n : Int))).run Try.prog w = .ok (.slice (some ⟨w.heap.size, 0, none⟩) n n) (w.alloc (.cells (madeCells #[Value.float .f32 0] n) 27)) := by
  have h : (Try.prog.info? 27).map (fun i => (i.zero, i.size, i.bytes)) = some (some (.float .f32 0), 1, 4) := by kernel_rfl
  obtain ⟨i0, hi, hz0, hz1, hz2⟩ := info_parts h
  have hr := run_make (P := Try.prog) w 24 27 i0 (.float .f32 0) Try.underlying24 hi hz0 .i64 .i64 n n (by omega) (by omega) (by rw [hz2]; omega) (by omega)
  rw [hz1, Nat.mul_one, Int.toNat_natCast] at hr
  exact hr

/-- A field as a value; the cells of its box. -/
abbrev fldV (x y w h : Int) (sl : Value) : Value := .agg #[.int .i64 x, .int .i64 y, .int .i64 w, .int .i64 h, sl]
abbrev fldO (x y w h : Int) (sl : Value) : Obj := .cells #[.int .i64 x, .int .i64 y, .int .i64 w, .int .i64 h, sl] 26

def cl1 (x : Int) : Int := if x < -5000 then -5000 else x
def clampI (x : Int) : Int := if 5000 < cl1 x then 5000 else cl1 x
theorem clampI_le (x : Int) : -5000 ≤ clampI x ∧ clampI x ≤ 5000 := by unfold clampI cl1; split <;> split <;> omega

/-- Block b is n singles, those below k heights. -/
def FitRow (wr : World) (b n k : Nat) : Prop :=
  ∃ cs : Array Value, wr.heap[b]? = some (.cells cs 27 (0, 0)) ∧ cs.size = n ∧ ∀ j, j < n → ∃ x, cs[j]? = some (.float .f32 x) ∧ x < 4294967296 ∧ (j < k → hgtB x = true)

/-- What fit leaves: a small region near the origin, heights in a new block. -/
def FitPost (w : World) (e : Ending) (w' : World) : Prop :=
  ∃ X Y W H : Int, ∃ b n : Nat, e = .returned (fldV X Y W H (.slice (some ⟨b, 0, none⟩) n n)) ∧ -5000 ≤ X ∧ X ≤ 5000 ∧ -5000 ≤ Y ∧ Y ≤ 5000 ∧ 1 ≤ W ∧ W ≤ 16 ∧ 1 ≤ H ∧ H ≤ 16 ∧ (n : Int) = W * H ∧ 1 ≤ n ∧ n ≤ 256 ∧ w.heap.size ≤ b ∧ FitRow w' b n n ∧ Below w.heap.size w w'

theorem nat_bd {j k T : Nat} (hT : T = 1074) (h : j ≤ 2 ^ k) : j * 2 ^ T ≤ 2 ^ (1074 + k) := by
  rw [← hT, Nat.pow_add, Nat.mul_comm]; exact Nat.mul_le_mul_left _ h
theorem floatOfInt_bd (j k : Nat) (hk : k ≤ 100) (h : j ≤ 2 ^ k) : Bd k (floatOfInt .f32 (j : Int)) := by
  have e : floatOfInt .f32 (j : Int) = Ieee.single.nearest false j 0 := by
    show Ieee.single.nearest (decide ((j : Int) < 0)) (j : Int).natAbs 0 = _
    rw [show decide ((j : Int) < 0) = false by simp, Int.natAbs_natCast]
  rw [e, nearest_val Ieee.single false (-1074) 925 leastS j (p := 0) (by omega)]
  exact bd_word (nat_bd (by omega) h) (by omega)
theorem floatOfInt_lt (j : Int) : floatOfInt .f32 j < 4294967296 := by
  have h := Ieee.Format.write_lt Ieee.single (.number (decide (j < 0)) j.natAbs 0)
  exact h
theorem floatOfInt_small (j : Nat) (h : j ≤ 256) : hgtB (floatOfInt .f32 (j : Int)) = true :=
  bd_hgt (floatOfInt_bd j 20 (by omega) (Nat.le_trans h (by decide)))

theorem fit_keep {wr : World} {b n k x : Nat} (h : FitRow wr b n k) (hk : k < n) (hx : x < 4294967296) (hh : hgtB x = true) : FitRow (wr.setCell ⟨b, k, none⟩ (.float .f32 x)) b n (k + 1) := by
  obtain ⟨cs, h1, h2, h3⟩ := h
  refine ⟨cs.setIfInBounds k (.float .f32 x), heap_setCell_same wr b k cs _ _ h1, by simp [h2], fun j hj => ?_⟩
  by_cases e : k = j
  · subst e
    exact ⟨x, by rw [Array.getElem?_setIfInBounds_self_of_lt (by omega)], hx, fun _ => hh⟩
  · obtain ⟨y, q1, q2, q3⟩ := h3 j hj
    exact ⟨y, by rw [Array.getElem?_setIfInBounds_ne e]; exact q1, q2, fun c => q3 (by omega)⟩

theorem fit_step {wr : World} {b n k x : Nat} (h : FitRow wr b n k) (hk : k < n) (hx : x < 4294967296) : FitRow (wr.setCell ⟨b, k, none⟩ (.float .f32 x)) b n k := by
  obtain ⟨cs, h1, h2, h3⟩ := h
  refine ⟨cs.setIfInBounds k (.float .f32 x), heap_setCell_same wr b k cs _ _ h1, by simp [h2], fun j hj => ?_⟩
  by_cases e : k = j
  · subst e
    exact ⟨x, by rw [Array.getElem?_setIfInBounds_self_of_lt (by omega)], hx, fun c => by omega⟩
  · obtain ⟨y, q1, q2, q3⟩ := h3 j hj
    exact ⟨y, by rw [Array.getElem?_setIfInBounds_ne e]; exact q1, q2, q3⟩

theorem fit_cell {wr : World} {b n k : Nat} (h : FitRow wr b n k) (j : Nat) (hj : j < n) : ∃ x, wr.cell? ⟨b, j, none⟩ = some (.float .f32 x) ∧ x < 4294967296 ∧ (j < k → hgtB x = true) := by
  obtain ⟨cs, h1, h2, h3⟩ := h
  obtain ⟨x, q1, q2, q3⟩ := h3 j hj
  exact ⟨x, by simp [World.cell?, h1, q1], q2, q3⟩

theorem fit_up {wr : World} {b n k x : Nat} (h : FitRow wr b n k) (hc : wr.cell? ⟨b, k, none⟩ = some (.float .f32 x)) (hh : hgtB x = true) : FitRow wr b n (k + 1) := by
  obtain ⟨cs, h1, h2, h3⟩ := h
  refine ⟨cs, h1, h2, fun j hj => ?_⟩
  obtain ⟨y, q1, q2, q3⟩ := h3 j hj
  refine ⟨y, q1, q2, fun c => ?_⟩
  by_cases e : j < k
  · exact q3 e
  · have : j = k := by omega
    subst this
    have : wr.cell? ⟨b, j, none⟩ = some (.float .f32 y) := by simp [World.cell?, h1, q1]
    rw [hc] at this
    cases this
    exact hh

theorem FitRow.congr {w w' : World} {b n k : Nat} (h : FitRow w b n k) (e : w'.heap[b]? = w.heap[b]?) : FitRow w' b n k := by
  obtain ⟨cs, h1, h2⟩ := h
  exact ⟨cs, by rw [e]; exact h1, h2⟩
theorem FitRow.lt {w : World} {b n k : Nat} (h : FitRow w b n k) : b < w.heap.size := by
  obtain ⟨cs, h1, _⟩ := h
  exact (blkC h1).2.2
theorem FitRow.free {w : World} {b n k : Nat} (h : FitRow w b n k) (j : Nat) : w.frozen? ⟨b, j, none⟩ = false := by
  obtain ⟨cs, h1, _⟩ := h
  exact (blkC h1).2.1 j

theorem flAt_one (w : World) (x : Nat) : FlAt (w.alloc (.cells #[.float .f32 x] 27)) w.heap.size 0 1 (fun _ => x) := by
  intro i hi
  have : i = 0 := by omega
  subst this
  have h : (w.alloc (.cells #[Value.float .f32 x] 27)).heap[w.heap.size]? = some (.cells #[.float .f32 x] 27) := by rw [heap_alloc_get, if_pos rfl]
  exact (blkC h).1 0

theorem fldE_one_ok {x : Nat} (h : hgtB x = true) : fldE 1 (fun _ => x) = 0 := by
  have f := hgt_fin h
  simp [fldE, hgtE, allB, List.range_succ, h, f]
theorem fldE_one_no {x : Nat} (h : hgtB x = false) : fldE 1 (fun _ => x) = 2 ∨ fldE 1 (fun _ => x) = 3 := by
  unfold fldE
  by_cases f : allB 1 (fun _ => finB x) = true
  · right; rw [if_pos f]; unfold hgtE; rw [allB_no (k := 0) (by omega) h]; rfl
  · left; rw [if_neg f]

theorem fit_six (wr : World) (B : Nat) (u0 u1 u2 u3 u4 u5 : Value) :
    ((((((wr.setCell ⟨B, 4, none⟩ u0).setCell ⟨B + 1, 0, none⟩ u1).setCell ⟨B + 1, 1, none⟩ u2).setCell ⟨B + 1, 2, none⟩ u3).setCell ⟨B + 1, 3, none⟩ u4).setCell ⟨B + 1, 4, none⟩ u5).heap[B + 1 + 1]? = wr.heap[B + 1 + 1]? := by
  have n0 : B + 1 + 1 ≠ B := by omega
  have n1 : B + 1 + 1 ≠ B + 1 := by omega
  rw [Below.heap_setCell _ _ _ _ n1, Below.heap_setCell _ _ _ _ n1, Below.heap_setCell _ _ _ _ n1, Below.heap_setCell _ _ _ _ n1, Below.heap_setCell _ _ _ _ n1, Below.heap_setCell _ _ _ _ n0]

end Go.Proofs.Ythemmpmjjdpdfaa

/- Contract: fit of a field without singles. -/
namespace Go.Proofs.Ythemmpmjjdpdfaa
open Go.RowKit Fl

end Go.Proofs.Ythemmpmjjdpdfaa

/- Contract: byCell, whatever function it is given. -/
namespace Go.Proofs.Ythemmpmjjdpdfaa
open Go.RowKit Fl

/-- Block b has at least n singles; the first k are f. -/
def RowPart (wr : World) (b n k : Nat) (f : Nat → Nat) : Prop :=
  ∃ cs : Array Value, wr.heap[b]? = some (.cells cs 27 (0, 0)) ∧ n ≤ cs.size ∧ ∀ j, j < k → cs[j]? = some (.float .f32 (f j))
theorem RowPart.congr {w w' : World} {b n k : Nat} {f : Nat → Nat} (h : RowPart w b n k f) (e : w'.heap[b]? = w.heap[b]?) : RowPart w' b n k f := by
  obtain ⟨cs, h1, h2⟩ := h
  exact ⟨cs, by rw [e]; exact h1, h2⟩
theorem RowPart.lt {w : World} {b n k : Nat} {f : Nat → Nat} (h : RowPart w b n k f) : b < w.heap.size := by
  obtain ⟨cs, h1, _⟩ := h
  exact (blkC h1).2.2
theorem RowPart.free {w : World} {b n k : Nat} {f : Nat → Nat} (h : RowPart w b n k f) (j : Nat) : w.frozen? ⟨b, j, none⟩ = false := by
  obtain ⟨cs, h1, _⟩ := h
  exact (blkC h1).2.1 j
theorem RowPart.cell {w : World} {b n k : Nat} {f : Nat → Nat} (h : RowPart w b n k f) {j : Nat} (hj : j < n) : ∃ x, w.cell? ⟨b, j, none⟩ = some x := by
  obtain ⟨cs, h1, h2, _⟩ := h
  exact ⟨cs[j]'(by omega), by rw [(blkC h1).1 j, Array.getElem?_eq_getElem (by omega)]⟩
theorem RowPart.flAt {w : World} {b n k : Nat} {f : Nat → Nat} (h : RowPart w b n k f) : FlAt w b 0 k f := by
  intro i hi
  obtain ⟨cs, h1, h2, h3⟩ := h
  rw [Nat.zero_add, (blkC h1).1 i]
  exact h3 i hi
theorem RowPart.put {w : World} {b n k : Nat} {f : Nat → Nat} (h : RowPart w b n k f) (hk : k < n) : RowPart (w.setCell ⟨b, k, none⟩ (.float .f32 (f k))) b n (k + 1) f := by
  obtain ⟨cs, h1, h2, h3⟩ := h
  refine ⟨cs.setIfInBounds k (.float .f32 (f k)), heap_setCell_same w b k cs _ _ h1, by simp [h2], fun j hj => ?_⟩
  by_cases e : k = j
  · subst e; rw [Array.getElem?_setIfInBounds_self_of_lt (by omega)]
  · rw [Array.getElem?_setIfInBounds_ne e]; exact h3 j (by omega)

/-- A function of a cell's number, as a closure: in any world that has grown out of w it answers f, and leaves what was there. -/
def Clos1 (g : Nat) (caps : Array Value) (n : Nat) (f : Nat → Nat) (w : World) : Prop :=
  ∀ (i : Nat) (W : World), i < n → Below w.heap.size w W → Calls Try.prog g (#[.int .i64 i] ++ caps) W fun e W' => e = .returned (.float .f32 (f i)) ∧ Below W.heap.size W W'
def Enters (g : Nat) : Prop := ∀ (args : Array Value) (W : World), (callFunc g args).run Try.prog W = .ok (.enter g args) W

/-- A field that is made of f, or the error. -/
def MadePost (w : World) (X Y W H : Int) (n : Nat) (f : Nat → Nat) (e : Ending) (w' : World) : Prop :=
  (allB n (fun i => hgtB (f i)) = true ∧ ∃ b cap, e = .returned (.tuple #[fldV X Y W H (.slice (some ⟨b, 0, none⟩) n cap), .int .i64 0]) ∧ w.heap.size ≤ b ∧ b < w'.heap.size ∧ FlAt w' b 0 n f ∧ Below w.heap.size w w') ∨
  (allB n (fun i => hgtB (f i)) = false ∧ e = .returned (.tuple #[fldV 0 0 0 0 (.slice none 0 0), .int .i64 3]) ∧ Below w.heap.size w w')

/-- A field's five cells stored into block b. -/
abbrev set5 (wr : World) (b : Nat) (u1 u2 u3 u4 u5 : Value) : World :=
  ((((wr.setCell ⟨b, 0, none⟩ u1).setCell ⟨b, 1, none⟩ u2).setCell ⟨b, 2, none⟩ u3).setCell ⟨b, 3, none⟩ u4).setCell ⟨b, 4, none⟩ u5
theorem set5_heap (wr : World) (b k : Nat) (u1 u2 u3 u4 u5 : Value) (h : k ≠ b) : (set5 wr b u1 u2 u3 u4 u5).heap[k]? = wr.heap[k]? := by
  rw [Below.heap_setCell _ _ _ _ h, Below.heap_setCell _ _ _ _ h, Below.heap_setCell _ _ _ _ h, Below.heap_setCell _ _ _ _ h, Below.heap_setCell _ _ _ _ h]
theorem set5_below {w wr : World} {B : Nat} (hb : Below B w wr) (b : Nat) (u1 u2 u3 u4 u5 : Value) (h : B ≤ b) : Below B w (set5 wr b u1 u2 u3 u4 u5) :=
  ((((hb.setCell (p := ⟨b, 0, none⟩) h u1).setCell (p := ⟨b, 1, none⟩) h u2).setCell (p := ⟨b, 2, none⟩) h u3).setCell (p := ⟨b, 3, none⟩) h u4).setCell (p := ⟨b, 4, none⟩) h u5
theorem set5_size (wr : World) (b : Nat) (u1 u2 u3 u4 u5 : Value) : (set5 wr b u1 u2 u3 u4 u5).heap.size = wr.heap.size := by simp [set5]

set_option maxHeartbeats 2000000 in
theorem byCell_any (X Y W H : Int) (n : Nat) (g : Nat) (caps : Array Value) (f : Nat → Nat) (w : World) (hcall : Enters g) (hcl : Clos1 g caps n f w) (hn : (n : Int) = W * H) (hn1 : 1 ≤ n) (hn2 : n ≤ 65536) :
    Calls Try.prog 180 #[reg X Y W H, .func (.func g) #[] caps] w (MadePost w X Y W H n f) := by
  have en : wrap64 (W * H) = (n : Int) := by rw [← hn]; exact IntWalk.wrap64_in _ ⟨by omega, by omega⟩
  have hmk := make_f32 n hn2
  have HCL := Lib.hid hcl
  unfold Enters at hcall
  clear hn hcl
  have hsf := fun (w : World) (a : Addr) (m : Mode) (k : FloatKind) (b : Nat) => run_store_float (P := Try.prog) (w := w) (a := a) (m := m) k b
  go_enter Try.func180, Try.ntmps180
  go_wp2
  clear en hmk
  go_loopw [17] (fun i wr => ∃ k : Nat, k ≤ n ∧ i = .int .i64 k ∧ RowPart wr (w.heap.size + 1 + 1) n k f ∧ wr.heap[w.heap.size]? = some (regObj X Y W H) ∧ wr.heap[w.heap.size + 1]? = some (fldO 0 0 0 0 (.slice none 0 0)) ∧ Below w.heap.size w wr) (fun i _ => n - (intOf i).toNat)
  case atStart =>
    refine ⟨0, Nat.zero_le _, rfl, ⟨madeCells #[Value.float .f32 0] n, ?_, by rw [size_madeCells]; exact Nat.le_refl _, fun j hj => by omega⟩, ?_, ?_, (by repeat (first | exact Below.refl _ _ | refine Below.alloc ?_ (by first | omega | (simp; done) | (simp; omega)) _ | refine Below.setCell ?_ (by first | omega | (simp; done) | (simp; omega)) _ | refine Below.drew ?_))⟩
    · simp only [heap_alloc_get, heap_size_alloc]; simp <;> omega
    · simp only [heap_alloc_get, heap_size_alloc]; simp <;> omega
    · simp only [heap_alloc_get, heap_size_alloc]; simp <;> omega
  case round =>
    obtain ⟨k, hk, rfl, hrow, hbox, hres, hbel⟩ := hrel
    have HR := Lib.hid hrow
    have HB := Lib.hid hbox
    have HS := Lib.hid hres
    clear hrow hbox hres
    by_cases hlt : k < n
    · have CC := Lib.hid (HCL.out k wr hlt hbel)
      go_wp2_with fail
      refine CC.out.mono ?_
      rintro e w2 ⟨rfl, hb2⟩
      have R2 := Lib.hid (HR.out.congr (hb2.block _ HR.out.lt))
      have B2 := Lib.hid (blkStay HB.out hb2)
      have S2 := Lib.hid (blkStay HS.out hb2)
      have L2 : Below w.heap.size w w2 := hbel.trans (hb2.mono hbel.size)
      have z2 := R2.out.lt
      have f2 := R2.out.free k
      obtain ⟨x0, hx0⟩ := R2.out.cell hlt
      clear hb2 CC HR HB HS hbel
      go_wp2
      go_roundw
      case rel =>
        exact ⟨k + 1, by omega, by go_num, R2.out.put hlt, (Below.heap_setCell _ _ _ _ (show w.heap.size ≠ w.heap.size + 1 + 1 by omega)).trans B2.out, (Below.heap_setCell _ _ _ _ (show w.heap.size + 1 ≠ w.heap.size + 1 + 1 by omega)).trans S2.out, L2.setCell (p := ⟨w.heap.size + 1 + 1, k, none⟩) (show w.heap.size ≤ w.heap.size + 1 + 1 by omega) _⟩
      case measure => simp [intOf]; omega
    · have hkn : k = n := by omega
      subst hkn
      obtain ⟨cB, fB, zB⟩ := blkC HB.out
      obtain ⟨cS, fS, zS⟩ := blkC HS.out
      have HF := HR.out.flAt
      have CH := Lib.hid (checkRange_row (w.heap.size + 1 + 1) 0 k k f (by omega) wr HF)
      clear HF
      cases hall : allB k (fun i => hgtB (f i)) with
      | true =>
        have e : hgtE k f = 0 := by unfold hgtE; rw [hall]; rfl
        rw [e] at CH
        clear e
        go_wp2_with (go_at_call 159; refine CH.out.mono ?_; rintro e w' ⟨rfl, rfl⟩)
        refine bodyPost_ret (v := .tuple #[fldV X Y W H (.slice (some ⟨w.heap.size + 1 + 1, 0, none⟩) k k), .int .i64 0]) (by simp [results, Try.results180, go_sem, cS]) rfl ?_
        exact .inl ⟨hall, w.heap.size + 1 + 1, k, rfl, by omega, by rw [set5_size]; exact HR.out.lt, (HR.out.congr (set5_heap wr (w.heap.size + 1) (w.heap.size + 1 + 1) _ _ _ _ _ (by omega))).flAt, set5_below hbel (w.heap.size + 1) _ _ _ _ _ (by omega)⟩
      | false =>
        have e : hgtE k f = 3 := by unfold hgtE; rw [hall]; rfl
        rw [e] at CH
        clear e
        go_wp2_with (go_at_call 159; refine CH.out.mono ?_; rintro e w' ⟨rfl, rfl⟩)
        refine bodyPost_ret (v := .tuple #[fldV 0 0 0 0 (.slice none 0 0), .int .i64 3]) (by simp [results, Try.results180, go_sem, cS]) rfl ?_
        exact .inr ⟨hall, rfl, set5_below hbel (w.heap.size + 1) _ _ _ _ _ (by omega)⟩

end Go.Proofs.Ythemmpmjjdpdfaa

/- Contract: the reference's made, whatever function it is given. -/
namespace Go.Proofs.Ythemmpmjjdpdfaa
open Go.RowKit Fl
set_option linter.unusedVariables false

def rowL (f : Nat → Nat) (k : Nat) : List Value := (List.range k).map fun i => Value.float .f32 (f i)
theorem rowL_succ (f : Nat → Nat) (k : Nat) : rowL f (k + 1) = rowL f k ++ [.float .f32 (f k)] := by simp [rowL, List.range_succ]
theorem ownsRow_below {w w' : World} {base : Nat} {e : TypeId} {size : Nat} {v : Value} {n : Nat} {xs : List Value} (h : w.ownsRow base e size v n xs) (hb : Below w.heap.size w w') : w'.ownsRow base e size v n xs := by
  obtain ⟨h1, h2⟩ := h
  refine ⟨h1, ?_⟩
  rcases h2 with h2 | ⟨g, cap, cur, hv, hg, hh, r⟩
  · exact .inl h2
  · exact .inr ⟨g, cap, cur, hv, hg, blkStay hh hb, r⟩
theorem ownsRow_far {w : World} {base : Nat} {e : TypeId} {size : Nat} {v : Value} {n : Nat} {xs : List Value} (h : w.ownsRow base e size v n xs) {b : Nat} (hb : b < base) : some b ≠ v.ownBlock := by
  rcases h.2 with ⟨rfl, _⟩ | ⟨g, cap, cur, rfl, hg, _⟩
  · simp [Value.ownBlock]
  · intro c
    have : b = g := by simpa [Value.ownBlock] using c
    omega
theorem ownsRow_flAt {w : World} {base b cap k : Nat} {f : Nat → Nat} (h : w.ownsRow base 27 1 (.slice (some ⟨b, 0, none⟩) k cap) k (rowL f k)) (hk : 0 < k) : FlAt w b 0 k f ∧ b < w.heap.size ∧ base ≤ b := by
  rcases h.2 with ⟨h0, _⟩ | ⟨g, cap', cur, hv, hg, hh, h1, h2, h3, h4⟩
  · cases h0
  · cases hv
    refine ⟨fun i hi => ?_, (blkC hh).2.2, hg⟩
    rw [Nat.zero_add, (blkC hh).1 i]
    have : (cur.toList.take (k * 1))[i]? = some (.float .f32 (f i)) := by rw [h4]; simp [rowL, hi]
    rw [List.getElem?_take, if_pos (by omega)] at this
    simpa using this

/-- A function of a cell's place, as a closure. -/
def Clos2 (g : Nat) (caps : Array Value) (X Y W H : Int) (f : Nat → Nat) (w : World) : Prop :=
  ∀ (x y : Int) (i : Nat) (W' : World), X ≤ x → x < X + W → Y ≤ y → y < Y + H → (i : Int) = (y - Y) * W + (x - X) → Below w.heap.size w W' →
    Calls Try.prog g (#[.int .i64 x, .int .i64 y] ++ caps) W' fun e W'' => e = .returned (.float .f32 (f i)) ∧ Below W'.heap.size W' W''

/-- What holds of the world at each head of made's loops, when k values have been made. -/
def MadeAt (w : World) (X Y W H : Int) (f : Nat → Nat) (k : Nat) (wr : World) : Prop :=
  ∃ ov, wr.ownsRow (w.heap.size + 1 + 1 + 1) 27 1 ov k (rowL f k) ∧ wr.heap[w.heap.size]? = some (regObj X Y W H) ∧ wr.heap[w.heap.size + 1]? = some (fldO 0 0 0 0 (.slice none 0 0)) ∧
    wr.heap[w.heap.size + 1 + 1]? = some (fldO X Y W H ov) ∧ Below w.heap.size w wr

theorem flAt_congr {w w' : World} {b off n : Nat} {f : Nat → Nat} (h : FlAt w b off n f) (e : w'.heap[b]? = w.heap[b]?) : FlAt w' b off n f := fun i hi => by
  rw [← h i hi]; exact World.cell?_of_block (w := w) (a := ⟨b, off + i, none⟩) e

theorem made_step {w wr w2 w3 : World} {X Y W H : Int} {f : Nat → Nat} {k gg cap : Nat} {ov : Value} {o : Obj}
    (HO : wr.ownsRow (w.heap.size + 1 + 1 + 1) 27 1 ov k (rowL f k)) (HB : wr.heap[w.heap.size]? = some (regObj X Y W H)) (HS : wr.heap[w.heap.size + 1]? = some (fldO 0 0 0 0 (.slice none 0 0)))
    (HV : wr.heap[w.heap.size + 1 + 1]? = some (fldO X Y W H ov)) (hbel : Below w.heap.size w wr) (hb2 : Below wr.heap.size wr w2) (hgrow : (w2.alloc o).grownBy w3 ov.ownBlock)
    (hown3 : w3.ownsRow (w.heap.size + 1 + 1 + 1) 27 1 (.slice (some ⟨gg, 0, none⟩) (k + 1) cap) (k + 1) (rowL f k ++ [.float .f32 (f k)])) :
    MadeAt w X Y W H f (k + 1) (w3.setCell ⟨w.heap.size + 1 + 1, 4, none⟩ (.slice (some ⟨gg, 0, none⟩) (k + 1) cap)) := by
  have go : ∀ b o', wr.heap[b]? = some o' → b < w.heap.size + 1 + 1 + 1 → w3.heap[b]? = some o' := by
    intro b o' h hb
    have h2 := blkStay h hb2
    have hlt : b < w2.heap.size := by
      rcases Nat.lt_or_ge b w2.heap.size with x | x
      · exact x
      · rw [Array.getElem?_eq_none x] at h2; cases h2
    rw [hgrow.block b (by rw [heap_size_alloc]; omega) (ownsRow_far HO hb), heap_alloc_old _ _ hlt, h2]
  refine ⟨.slice (some ⟨gg, 0, none⟩) (k + 1) cap, ?_, ?_, ?_, ?_, ?_⟩
  · rw [rowL_succ]; exact ownsRow_setCell_below hown3 (show w.heap.size + 1 + 1 < w.heap.size + 1 + 1 + 1 by omega) _
  · exact (Below.heap_setCell _ _ _ _ (show w.heap.size ≠ w.heap.size + 1 + 1 by omega)).trans (go _ _ HB (by omega))
  · exact (Below.heap_setCell _ _ _ _ (show w.heap.size + 1 ≠ w.heap.size + 1 + 1 by omega)).trans (go _ _ HS (by omega))
  · rw [heap_setCell_same w3 (w.heap.size + 1 + 1) 4 _ _ _ (go _ _ HV (by omega))]; rfl
  · have h2 : Below w.heap.size w w2 := hbel.trans (hb2.mono hbel.size)
    have h3 := (h2.alloc h2.size o).grown hgrow (by rw [heap_size_alloc]; have := h2.size; omega) (fun b hb => by
      rcases HO.2 with ⟨rfl, _⟩ | ⟨g, _, _, rfl, hg, _⟩
      · cases hb
      · have : b = g := by simpa [Value.ownBlock] using hb.symm
        omega)
    exact h3.setCell (p := ⟨w.heap.size + 1 + 1, 4, none⟩) (show w.heap.size ≤ w.heap.size + 1 + 1 by omega) _

end Go.Proofs.Ythemmpmjjdpdfaa

/- Contracts: the reference's add, sub, mul; scaled, clamped; lesser, greater; At; Check of a right field. -/
namespace Go.Proofs.Ythemmpmjjdpdfaa
open Go.RowKit Fl
set_option linter.unusedVariables false

theorem ret_fl {k : FloatKind} {a b : Nat} (h : a = b) : Ending.returned (.float k a) = .returned (.float k b) := by rw [h]

/-- Clamped, as the reference does it. -/
def clpW (v a b : Nat) : Nat := if (FloatKind.f32.format.order v a == some .lt) = true then a else if (FloatKind.f32.format.order v b == some .gt) = true then b else v

set_option maxHeartbeats 400000 in
theorem lesser_any (x y : Nat) (w : World) :
    Calls Try.prog 150 #[.float .f32 x, .float .f32 y] w fun e w' => e = .returned (.float .f32 (lesW x y)) ∧ w = w' := by
  unfold lesW
  go_enter Try.func150, Try.ntmps150
  go_wp2
  all_goals go_ret
  all_goals refine ⟨ret_fl ?_, rfl⟩
  all_goals simp_all

set_option maxHeartbeats 400000 in
theorem greater_any (x y : Nat) (w : World) :
    Calls Try.prog 139 #[.float .f32 x, .float .f32 y] w fun e w' => e = .returned (.float .f32 (grtW x y)) ∧ w = w' := by
  unfold grtW
  go_enter Try.func139, Try.ntmps139
  go_wp2
  all_goals go_ret
  all_goals refine ⟨ret_fl ?_, rfl⟩
  all_goals simp_all

theorem clp_eq {v a b : Nat} (hv : finB v = true) (ha : finB a = true) (hb : finB b = true) (hab : (FloatKind.f32.format.order a b == some .gt) = false) : lesW (grtW v a) b = clpW v a b := by
  rw [show FloatKind.f32.format = Ieee.single from rfl] at hab
  unfold finB at hv ha hb
  obtain ⟨i, hi⟩ := Option.isSome_iff_exists.1 hv
  obtain ⟨j, hj⟩ := Option.isSome_iff_exists.1 ha
  obtain ⟨k, hk⟩ := Option.isSome_iff_exists.1 hb
  rw [gtr_val hj hk] at hab
  unfold lesW grtW clpW
  rw [show FloatKind.f32.format = Ieee.single from rfl, gtr_val hj hi, lss_val hi hj, gtr_val hi hk]
  simp only [decide_eq_true_eq, decide_eq_false_iff_not] at *
  by_cases c : i < j
  · rw [if_pos c, if_pos c, lss_val hk hj]; simp only [decide_eq_true_eq]; rw [if_neg (by omega)]
  · rw [if_neg c, if_neg c, lss_val hk hi]; simp only [decide_eq_true_eq]

set_option maxHeartbeats 1000000 in
theorem check_ok (X Y : Int) (W H n b cap : Nat) (v : Nat → Nat) (w : World) (h0 : checkR X Y W H = 0) (hn : n = W * H) (hc : FlAt w b 0 n v) (hh : allB n (fun i => hgtB (v i)) = true) :
    Calls Try.prog 85 #[fldV X Y W H (.slice (some ⟨b, 0, none⟩) n cap)] w fun e w' => e = .returned (.int .i64 0) ∧ Below w.heap.size w w' := by
  have HH := Lib.hid (fldE_zero.2 hh)
  obtain ⟨b1, b2, b3, b4, b5, _⟩ := checkR_zero h0
  have en : wrap64 ((W : Int) * (H : Int)) = (n : Int) := by
    have : ((W : Int) * (H : Int)) = (n : Int) := by rw [hn]; simp
    rw [this]; rw [this] at b5; exact IntWalk.wrap64_in _ ⟨by omega, by omega⟩
  have hn2 : n ≤ 65536 := by
    have : ((W : Int) * (H : Int)) = (n : Int) := by rw [hn]; simp
    omega
  have h1 : 1 ≤ n := by
    have := Nat.mul_pos (by omega : 0 < W) (by omega : 0 < H)
    omega
  have hlt : b < w.heap.size := World.block_lt_of_cell? w _ (hc 0 h1)
  have CH := Lib.hid (fun W' (hb : Below w.heap.size w W') => CheckHeights_row b 0 cap n v (by omega) W' (flAt_congr hc (hb.block _ hlt)))
  rw [HH.out] at CH
  have RC := Lib.hid (fun w => checkRegion_any X Y W H w)
  rw [h0] at RC
  clear hn hc hh h0 b5
  go_enter Try.func85, Try.ntmps85
  go_wp2_with (first | (go_at_call 105; refine (RC.out _).mono ?_; rintro e w' ⟨rfl, rfl⟩) | (go_at_call 95; refine (CH.out _ (by repeat (first | exact Below.refl _ _ | refine Below.alloc ?_ (by first | omega | (simp; done) | (simp; omega)) _ | refine Below.setCell ?_ (by first | omega | (simp; done) | (simp; omega)) _ | refine Below.drew ?_))).mono ?_; rintro e w' ⟨rfl, rfl⟩))
  go_ret
  exact ⟨rfl, (by repeat (first | exact Below.refl _ _ | refine Below.alloc ?_ (by first | omega | (simp; done) | (simp; omega)) _ | refine Below.setCell ?_ (by first | omega | (simp; done) | (simp; omega)) _ | refine Below.drew ?_))⟩

end Go.Proofs.Ythemmpmjjdpdfaa

/- What many laws want: two singles as a list, what a function that makes a field answers, the number of a cell. -/
namespace Go.Proofs.Ythemmpmjjdpdfaa
open Go.RowKit Fl
set_option linter.unusedVariables false

theorem heap_alloc_new (w : World) (o : Obj) : (w.alloc o).heap[w.heap.size]? = some o := by rw [heap_alloc_get, if_pos rfl]

/-- A single in a block of its own. -/
abbrev flObj (x : Nat) : Obj := .cells #[.float .f32 x] 27

theorem below_drewN (w : World) (k : Nat) : Below w.heap.size w (w.drewN k) := by
  induction k with
  | zero => exact Below.refl _ _
  | succ k ih => exact ih.drew

/-- Two singles, as a list. -/
def two (m c : Nat) (i : Nat) : Nat := if i = 0 then m else c
theorem flAt_two {w : World} {b m c : Nat} (h : w.heap[b]? = some (.cells #[.float .f32 m, .float .f32 c] 27)) : FlAt w b 0 2 (two m c) := by
  intro i hi
  rw [Nat.zero_add, (blkC h).1 i]
  have : i = 0 ∨ i = 1 := by omega
  rcases this with rfl | rfl <;> rfl
theorem two_hgt {m c : Nat} (h : fldE 2 (two m c) = 0) : hgtB m = true ∧ hgtB c = true := by
  have := allB_iff.1 (fldE_zero.1 h)
  exact ⟨this 0 (by omega), this 1 (by omega)⟩

/-- What Scale and Clamp answer: the error of their singles, another error, or a field that is made. -/
def ScPost (w : World) (X Y W H : Int) (n : Nat) (f : Nat → Nat) (er : Int) (e : Ending) (w' : World) : Prop :=
  (er ≠ 0 ∧ e = .returned (.tuple #[fldV 0 0 0 0 (.slice none 0 0), .int .i64 er]) ∧ Below w.heap.size w w') ∨ (er = 0 ∧ MadePost w X Y W H n f e w')

theorem num_lt {X Y x y : Int} {W H n i : Nat} (hW1 : 1 ≤ W) (h1 : X ≤ x) (h2 : x < X + W) (h4 : y < Y + H) (h5 : (i : Int) = (y - Y) * W + (x - X)) (hnn : n = H * W) : i < n := by
  have a : (y - Y) * W ≤ ((H : Int) - 1) * W := Int.mul_le_mul_of_nonneg_right (by omega) (by omega)
  have b : ((H : Int) - 1) * W = (n : Int) - W := by rw [hnn, Int.sub_mul]; simp
  omega

theorem f32f : FloatKind.f32.format = Ieee.single := rfl
theorem one_vTop : (one : Int) ≤ vTop := by
  obtain ⟨J, hJ⟩ : ∃ J : Nat, J = 1074 := ⟨_, rfl⟩
  rw [one_pow hJ]; unfold vTop
  rw [Nat.one_mul]
  exact Int.ofNat_le.2 (Nat.pow_le_pow_right (by omega) (by omega))

end Go.Proofs.Ythemmpmjjdpdfaa

/- Cameras: what their words come to (pure). -/
namespace Go.Proofs.Ythemmpmjjdpdfaa
open Go.RowKit Fl
set_option linter.unusedVariables false

/-- A camera. -/
structure Cam where
  x : Nat
  y : Nat
  h : Nat
  dx : Nat
  dy : Nat
  dh : Nat
  z : Nat
abbrev Cam.vs (c : Cam) : Array Value := #[.float .f32 c.x, .float .f32 c.y, .float .f32 c.h, .float .f32 c.dx, .float .f32 c.dy, .float .f32 c.dh, .float .f32 c.z]
def Cam.at (c : Cam) (i : Nat) : Nat := if i = 0 then c.x else if i = 1 then c.y else if i = 2 then c.h else if i = 3 then c.dx else if i = 4 then c.dy else if i = 5 then c.dh else c.z

/-- The quotient by what is not too small. -/
theorem div_low {x y k j J : Nat} {b : Int} (hJ : J + j = 1074) (hx : Bd k x) (hy : vS y = some b) (hb : ((2 ^ J : Nat) : Int) ≤ b) (hk : k + j ≤ 120) : Same2 .quo (k + j) x y := by
  obtain ⟨s, m, p, r1, b1⟩ := hx
  obtain ⟨t, n, q, r2, rfl⟩ := vS_some hy
  rw [vOf_mag] at hb
  have p2 : 0 < 2 ^ J := Nat.two_pow_pos _
  have hn : 2 ^ J ≤ n * 2 ^ (q + 1074).toNat := by
    generalize n * 2 ^ (q + 1074).toNat = N at *
    generalize 2 ^ J = P at *
    cases t with
    | true => simp only [if_true] at hb; omega
    | false => simp only [Bool.false_eq_true, if_false] at hb; omega
  have hn0 : 0 < n := by
    rcases Nat.eq_zero_or_pos n with z | z
    · subst z; rw [Nat.zero_mul] at hn; omega
    · exact z
  refine div_same hk r1 r2 hn0 (Nat.le_trans b1 ?_)
  calc 2 ^ (1074 + k) = 2 ^ J * 2 ^ (k + j) := by rw [← Nat.pow_add]; exact congrArg (2 ^ ·) (by omega)
    _ ≤ n * 2 ^ (q + 1074).toNat * 2 ^ (k + j) := Nat.mul_le_mul_right _ hn

theorem sqr_pos {x p k : Nat} {B : Nat} (hx : Bd k x) (hk : k + k + 2 ≤ 126) (h : floatBits .mul .f32 x x = some p) (hB : B = 1200) : ∃ a, vS p = some a ∧ 0 ≤ a := by
  obtain ⟨a, ha, hb⟩ := val_bd hx
  obtain ⟨c, hc⟩ := mul_unit ha ha
  have c0 : 0 ≤ c := by
    have p1 : 0 ≤ a * a := by rcases Int.le_total 0 a with l | l; exact Int.mul_nonneg l l; exact Int.mul_nonneg_of_nonpos_of_nonpos l l
    rw [hc] at p1
    have := one_pos
    rcases Int.lt_or_le c 0 with l | l
    · have := Int.mul_neg_of_neg_of_pos l (show (0 : Int) < (one : Int) by omega)
      omega
    · exact l
  refine ⟨rdS c, vS_mul (B := B) h ha ha hc ?_ (by omega), rdS_nonneg c0⟩
  obtain ⟨J, hJ⟩ : ∃ J : Nat, J = 1074 := ⟨_, rfl⟩
  rw [← hJ] at hb
  have e1 : c.natAbs * one = a.natAbs * a.natAbs := by
    have := congrArg Int.natAbs hc
    rw [Int.natAbs_mul, Int.natAbs_mul] at this
    simpa using this.symm
  have e2 : a.natAbs * a.natAbs ≤ 2 ^ (J + k) * 2 ^ (J + k) := Nat.mul_le_mul hb hb
  rw [← e1, one_pow hJ, show 2 ^ (J + k) * 2 ^ (J + k) = 2 ^ (J + k + k) * 2 ^ J by rw [← Nat.pow_add, ← Nat.pow_add]; exact congrArg (2 ^ ·) (by omega)] at e2
  exact Nat.lt_of_le_of_lt (Nat.le_of_mul_le_mul_right e2 (Nat.two_pow_pos J)) (Nat.pow_lt_pow_right (by omega) (by omega))

/-- The length of a direction. -/
structure LenAt (dx dy p q s : Nat) (a : Int) (X Z : Nat) (k : Int) : Prop where
  p1 : floatBits .mul .f32 dx dx = some p
  q1 : floatBits .mul .f32 dy dy = some q
  s1 : floatBits .add .f32 p q = some s
  rt : RootAt s a X Z k
theorem len_parts {dx dy : Nat} (hx : Bd 20 dx) (hy : Bd 20 dy) : ∃ p q s a X Z k, LenAt dx dy p q s a X Z k := by
  obtain ⟨p, p1, bp⟩ := same_ex (mul_same (a := 20) (b := 20) (by omega) hx hx)
  obtain ⟨q, q1, bq⟩ := same_ex (mul_same (a := 20) (b := 20) (by omega) hy hy)
  obtain ⟨s, s1, bs⟩ := same_ex (add_same (k := 40) (by omega) bp bq)
  obtain ⟨B, hB⟩ : ∃ B : Nat, B = 1200 := ⟨_, rfl⟩
  obtain ⟨ap, vp, p0⟩ := sqr_pos (B := B) hx (by omega) p1 hB
  obtain ⟨aq, vq, q0⟩ := sqr_pos (B := B) hy (by omega) q1 hB
  obtain ⟨J, hJ⟩ : ∃ J : Nat, J = 1074 := ⟨_, rfl⟩
  have up : ∀ {x : Nat} {a : Int}, Bd 40 x → vS x = some a → a.natAbs ≤ 2 ^ (J + 40) := by
    intro x a hb hv
    obtain ⟨a', h', l'⟩ := val_bd hb
    rw [hv] at h'
    rw [Option.some.inj h', hJ]; exact l'
  have l1 := up bp vp
  have l2 := up bq vq
  have vs : vS s = some (rdS (ap + aq)) := vS_add (B := B) s1 vp vq (by
    have : 2 ^ (J + 40) + 2 ^ (J + 40) < 2 ^ B := by
      rw [← Nat.two_mul, Nat.mul_comm, ← Nat.pow_succ]; exact Nat.pow_lt_pow_right (by omega) (by omega)
    generalize 2 ^ (J + 40) = T at *
    generalize 2 ^ B = U at *
    omega) (by omega)
  obtain ⟨X, Z, k, RT⟩ := root_parts vs (rdS_nonneg (by omega)) bs (by omega)
  exact ⟨p, q, s, _, X, Z, k, p1, q1, s1, RT⟩

/-- The directions of a camera. -/
structure VwAt (c : Cam) (s fx fy e : Nat) : Prop where
  f1 : floatBits .quo .f32 c.dx (rootW s) = some fx
  f2 : floatBits .quo .f32 c.dy (rootW s) = some fy
  f3 : floatBits .quo .f32 c.dh (rootW s) = some e
  b1 : Bd 30 fx
  b2 : Bd 30 fy
  b3 : Bd 30 e
  l2 : fy < 4294967296
theorem vS_ten {J : Nat} (hJ : J = 1064) : vS 981467136 = some ((2 ^ J : Nat) : Int) := by
  have := vS_lit (x := 981467136) (m := 8388608) (t := 1) (k := 23) (j := J) (s := false) (p := -33) (by decide) (by decide) (by omega)
  simpa using this
theorem quo_lt {x y r : Nat} (h : floatBits .quo .f32 x y = some r) : r < 4294967296 := opt_lt (d := (Ieee.single.read x).quotient (Ieee.single.fractionBits + 2) (Ieee.single.read y)) h
theorem vw_parts {c : Cam} {p q s X Z : Nat} {a k : Int} (L : LenAt c.dx c.dy p q s a X Z k) (h1 : Bd 20 c.dx) (h2 : Bd 20 c.dy) (h3 : Bd 20 c.dh) (hm : (FloatKind.f32.format.order (rootW s) 981467136 == some .lt) = false) :
    ∃ fx fy e, VwAt c s fx fy e := by
  obtain ⟨J, hJ⟩ : ∃ J : Nat, J = 1064 := ⟨_, rfl⟩
  rw [f32f, lss_val L.rt.val (vS_ten hJ)] at hm
  have hk : ((2 ^ J : Nat) : Int) ≤ k := by have := of_decide_eq_false hm; omega
  obtain ⟨fx, f1, b1⟩ := same_ex (div_low (j := 10) (by omega) h1 L.rt.val hk (by omega))
  obtain ⟨fy, f2, b2⟩ := same_ex (div_low (j := 10) (by omega) h2 L.rt.val hk (by omega))
  obtain ⟨e, f3, b3⟩ := same_ex (div_low (j := 10) (by omega) h3 L.rt.val hk (by omega))
  exact ⟨fx, fy, e, f1, f2, f3, b1, b2, b3, quo_lt f2⟩

/-- Where a point is seen: ahead, to the right, up. -/
structure PrAt (c : Cam) (x y h fx fy e px py pz t1 t2 a t3 t4 b t5 u : Nat) : Prop where
  epx : floatBits .sub .f32 x c.x = some px
  epy : floatBits .sub .f32 y c.y = some py
  epz : floatBits .sub .f32 h c.h = some pz
  et1 : floatBits .mul .f32 px fx = some t1
  et2 : floatBits .mul .f32 py fy = some t2
  ea : floatBits .add .f32 t1 t2 = some a
  et3 : floatBits .mul .f32 px (negW fy) = some t3
  et4 : floatBits .mul .f32 py fx = some t4
  eb : floatBits .add .f32 t3 t4 = some b
  et5 : floatBits .mul .f32 e a = some t5
  eu : floatBits .sub .f32 pz t5 = some u
  ba : Bd 52 a
  bb : Bd 52 b
  bu : Bd 83 u
theorem pr_parts {c : Cam} {x y h s fx fy e : Nat} (V : VwAt c s fx fy e) (h1 : Bd 20 c.x) (h2 : Bd 20 c.y) (h3 : Bd 20 c.h) (g1 : Bd 20 x) (g2 : Bd 20 y) (g3 : Bd 20 h) :
    ∃ px py pz t1 t2 a t3 t4 b t5 u, PrAt c x y h fx fy e px py pz t1 t2 a t3 t4 b t5 u := by
  obtain ⟨px, e1, B1⟩ := same_ex (sub_same (k := 20) (by omega) g1 h1)
  obtain ⟨py, e2, B2⟩ := same_ex (sub_same (k := 20) (by omega) g2 h2)
  obtain ⟨pz, e3, B3⟩ := same_ex (sub_same (k := 20) (by omega) g3 h3)
  obtain ⟨t1, e4, B4⟩ := same_ex (mul_same (a := 21) (b := 30) (by omega) B1 V.b1)
  obtain ⟨t2, e5, B5⟩ := same_ex (mul_same (a := 21) (b := 30) (by omega) B2 V.b2)
  obtain ⟨a, e6, B6⟩ := same_ex (add_same (k := 51) (by omega) B4 B5)
  obtain ⟨t3, e7, B7⟩ := same_ex (mul_same (a := 21) (b := 30) (by omega) B1 (neg_bd V.l2 V.b2))
  obtain ⟨t4, e8, B8⟩ := same_ex (mul_same (a := 21) (b := 30) (by omega) B2 V.b1)
  obtain ⟨b, e9, B9⟩ := same_ex (add_same (k := 51) (by omega) B7 B8)
  obtain ⟨t5, e10, B10⟩ := same_ex (mul_same (a := 30) (b := 52) (by omega) V.b3 B6)
  obtain ⟨u, e11, B11⟩ := same_ex (sub_same (k := 82) (by omega) (bd_up B3 (by omega)) B10)
  exact ⟨px, py, pz, t1, t2, a, t3, t4, b, t5, u, e1, e2, e3, e4, e5, e6, e7, e8, e9, e10, e11, B6, B9, B11⟩

/-- The spot. -/
structure SpAt (a b u z q1 q2 sx sy : Nat) : Prop where
  eq1 : floatBits .quo .f32 b a = some q1
  eq2 : floatBits .quo .f32 u a = some q2
  esx : floatBits .mul .f32 q1 z = some sx
  esy : floatBits .mul .f32 q2 z = some sy
  fx : (FloatKind.f32.format.order sx sx == some .eq) = true
  fy : (FloatKind.f32.format.order sy sy == some .eq) = true
theorem self_bd {k x : Nat} (h : Bd k x) : (FloatKind.f32.format.order x x == some .eq) = true := by
  obtain ⟨a, ha, _⟩ := val_bd h
  rw [f32f, eql_val ha ha]; simp
theorem sp_parts {a b u z : Nat} (ha : Bd 52 a) (hb : Bd 52 b) (hu : Bd 83 u) (hz : Bd 20 z) (h : (FloatKind.f32.format.order a 1065353216 == some .lt) = false) : ∃ q1 q2 sx sy, SpAt a b u z q1 q2 sx sy := by
  obtain ⟨v, hv, _⟩ := val_bd ha
  rw [f32f, lss_val hv vS_one] at h
  have h1 : (one : Int) ≤ v := by have := of_decide_eq_false h; omega
  obtain ⟨J, hJ⟩ : ∃ J : Nat, J = 1074 := ⟨_, rfl⟩
  rw [one_pow hJ] at h1
  obtain ⟨q1, e1, B1⟩ := same_ex (div_low (j := 0) (by omega) hb hv h1 (by omega))
  obtain ⟨q2, e2, B2⟩ := same_ex (div_low (j := 0) (by omega) hu hv h1 (by omega))
  obtain ⟨sx, e3, B3⟩ := same_ex (mul_same (a := 52 + 0) (b := 20) (by omega) B1 hz)
  obtain ⟨sy, e4, B4⟩ := same_ex (mul_same (a := 83 + 0) (b := 20) (by omega) B2 hz)
  exact ⟨q1, q2, sx, sy, e1, e2, e3, e4, self_bd B3, self_bd B4⟩
end Go.Proofs.Ythemmpmjjdpdfaa

/- Contracts: math.Sqrt, and the roots of both sides. -/
namespace Go.Proofs.Ythemmpmjjdpdfaa
open Go.RowKit Fl
set_option linter.unusedVariables false

theorem extSqrt (X Z : Nat) (h : FloatKind.f64.format.sqrt X = some Z) : Extern.MathSqrt.sqrt #[.float .f64 X] = pure (.float .f64 Z) := by
  conv => lhs; whnf
  rw [h]

theorem sqrt_num (X Z : Nat) (h : Ieee.double.sqrt X = some Z) (w : World) :
    (callFunc 198 #[.float .f64 X]).run Try.prog w = .ok (.value (.float .f64 Z)) w := by
  rw [run_callFunc_extern Try.func198 (by kernel_rfl) (by kernel_rfl) (by kernel_rfl) (e := Extern.MathSqrt.sqrt) (by kernel_rfl), extSqrt X Z h]
  rfl

set_option maxHeartbeats 400000 in
theorem mathSqrt_num (X Z : Nat) (h : Ieee.double.sqrt X = some Z) (w : World) :
    Calls Try.prog 178 #[.float .f64 X] w fun e w' => e = .returned (.float .f64 Z) ∧ w = w' := by
  have a1 := sqrt_num X Z h
  clear h
  go_enter Try.func178, Try.ntmps178
  go_wp2
  go_ret
  exact ⟨rfl, rfl⟩

set_option maxHeartbeats 400000 in
theorem root_any {x : Nat} {a c : Int} {X Z : Nat} (R : RootAt x a X Z c) (w : World) :
    Calls Try.prog 177 #[.float .f32 x] w fun e w' => e = .returned (.float .f32 (rootW x)) ∧ w = w' := by
  have d1 := fun (W : World) => run_convert_float_float (P := Try.prog) W 27 97 .f32 .f64 x X (by kernel_rfl) Try.underlying97 R.up
  have d2 := fun (W : World) => run_convert_float_float (P := Try.prog) W 97 27 .f64 .f32 Z (rootW x) (by kernel_rfl) Try.underlying27 R.dn
  have MS := Lib.hid (fun w => mathSqrt_num X Z R.sq w)
  generalize rootW x = r at *
  clear R
  go_enter Try.func177, Try.ntmps177
  go_wp2_with (go_at_call 178; refine (MS.out _).mono ?_; rintro e w' ⟨rfl, rfl⟩)
  go_ret
  exact ⟨rfl, rfl⟩

end Go.Proofs.Ythemmpmjjdpdfaa

/- Whether a single is finite, whether it is a height, as the references of chapters 4 to 10 ask it: by comparisons. -/
namespace Go.Proofs.Ythemmpmjjdpdfaa.Fl
open Ieee

/-- A finite single passes all three tests. -/
theorem num_fin {x : Nat} (h : finB x = true) : (single.order x x == some .eq) = true ∧ (single.order x 2139095039 == some .gt) = false ∧ (single.order x 4286578687 == some .lt) = false := by
  unfold finB at h
  cases hv : vS x with
  | none => rw [hv] at h; cases h
  | some a =>
    obtain ⟨h1, h2⟩ := vS_le hv
    refine ⟨by rw [eql_val hv hv]; simp, by rw [gtr_val hv vS_max]; simp; omega, by rw [lss_val hv vS_min]; simp; omega⟩
/-- Any other falls at one of them. -/
theorem num_inf {x : Nat} (h : finB x = false) : (single.order x x == some .eq) = false ∨ ((single.order x x == some .eq) = true ∧ (single.order x 2139095039 == some .gt) = true) ∨
    ((single.order x x == some .eq) = true ∧ (single.order x 2139095039 == some .gt) = false ∧ (single.order x 4286578687 == some .lt) = true) := by
  unfold finB at h
  cases hv : vS x with
  | some a => rw [hv] at h; cases h
  | none =>
    rcases vS_none hv with ⟨s, hs⟩ | hn
    · right
      have e := self_eq (x := x) (by rw [hs]; rfl)
      cases s with
      | false => exact .inl ⟨e, by unfold Format.order; rw [hs, readMax]; rfl⟩
      | true => exact .inr ⟨e, by unfold Format.order; rw [hs, readMax]; rfl, by unfold Format.order; rw [hs, readMin]; rfl⟩
    · exact .inl (self_ne hn)
/-- A height passes both tests. -/
theorem num_hgt {x : Nat} (h : hgtB x = true) : (single.order x 1233125376 == some .gt) = false ∧ (single.order x 3380609024 == some .lt) = false := by
  unfold hgtB at h
  cases hv : vS x with
  | none => rw [hv] at h; cases h
  | some a =>
    rw [hv] at h
    simp at h
    refine ⟨by rw [gtr_val hv vS_top]; simp; omega, by rw [lss_val hv vS_bot]; simp; omega⟩
/-- A finite single that is none falls at one. -/
theorem num_out {x : Nat} (f : finB x = true) (h : hgtB x = false) : (single.order x 1233125376 == some .gt) = true ∨ ((single.order x 1233125376 == some .gt) = false ∧ (single.order x 3380609024 == some .lt) = true) := by
  unfold finB at f
  unfold hgtB at h
  cases hv : vS x with
  | none => rw [hv] at f; cases f
  | some a =>
    rw [hv] at h
    simp at h
    rw [gtr_val hv vS_top, lss_val hv vS_bot]
    by_cases c : vTop < a
    · exact .inl (by simp [c])
    · exact .inr ⟨by simp [c], by simp; by_cases d : -vTop ≤ a; have := h d; omega; omega⟩
end Go.Proofs.Ythemmpmjjdpdfaa.Fl

/- Contract: the references' NumberError over a list of singles that is known cell by cell. -/
namespace Go.Proofs.Ythemmpmjjdpdfaa
open Go.RowKit Fl
set_option linter.unusedVariables false

set_option maxHeartbeats 2000000 in
theorem qNumberError_row (b off cap n : Nat) (v : Nat → Nat) (hl : n ≤ 9223372036854775807) (w : World) (hc : FlAt w b off n v) :
    Calls Try.prog 33 #[.slice (some ⟨b, off, none⟩) n cap] w fun e w' => e = .returned (.int .i64 (fldE n v)) ∧ w = w' := by
  go_enter Try.func33, Try.ntmps33
  go_wp2
  go_loop [9] (fun i => ∃ k : Nat, k ≤ n ∧ i = .int .i64 k ∧ allB k (fun i => finB (v i)) = true) (fun i => n - (intOf i).toNat)
  case atStart => exact ⟨0, Nat.zero_le _, rfl, rfl⟩
  case round =>
    obtain ⟨k, hk, rfl, hall⟩ := hrel
    have HA := Lib.hid hall
    clear hall
    by_cases hlt : k < n
    · have hcell := hc k hlt
      cases hf : finB (v k) with
      | true =>
        have HB := Lib.hid hf
        obtain ⟨t1, t2, t3⟩ := num_fin hf
        rw [← f32fmt] at t1 t2 t3
        have t1' : (FloatKind.f32.format.order (v k) (v k) != some .eq) = false := by rw [bne, t1]; rfl
        clear hf t1
        go_wp2
        go_round
        case rel => exact ⟨k + 1, by omega, by go_num, allB_iff.2 fun i hi => by rcases Nat.lt_or_ge i k with c | c; exact allB_iff.1 HA.out i c; rw [show i = k by omega]; exact HB.out⟩
        case measure => simp [intOf]; omega
      | false =>
        have HB := Lib.hid hf
        rcases num_inf hf with t1 | ⟨t1, t2⟩ | ⟨t1, t2, t3⟩
        · rw [← f32fmt] at t1
          have t1' : (FloatKind.f32.format.order (v k) (v k) != some .eq) = true := by rw [bne, t1]; rfl
          clear hf t1
          go_wp2
          go_ret
          exact ⟨ret_int (by unfold fldE; rw [allB_no hlt HB.out]; rfl), rfl⟩
        · rw [← f32fmt] at t1 t2
          have t1' : (FloatKind.f32.format.order (v k) (v k) != some .eq) = false := by rw [bne, t1]; rfl
          clear hf t1
          go_wp2
          go_ret
          exact ⟨ret_int (by unfold fldE; rw [allB_no hlt HB.out]; rfl), rfl⟩
        · rw [← f32fmt] at t1 t2 t3
          have t1' : (FloatKind.f32.format.order (v k) (v k) != some .eq) = false := by rw [bne, t1]; rfl
          clear hf t1
          go_wp2
          go_ret
          exact ⟨ret_int (by unfold fldE; rw [allB_no hlt HB.out]; rfl), rfl⟩
    · have hkn : k = n := by omega
      subst hkn
      go_wp2
      go_loop [27] (fun i => ∃ j : Nat, j ≤ k ∧ i = .int .i64 j ∧ allB j (fun i => hgtB (v i)) = true) (fun i => k - (intOf i).toNat)
      case atStart => exact ⟨0, Nat.zero_le _, rfl, rfl⟩
      case round =>
        obtain ⟨j, hj, rfl, hall2⟩ := hrel
        have HH := Lib.hid hall2
        clear hall2
        by_cases hlt2 : j < k
        · have hcell := hc j hlt2
          cases hb : hgtB (v j) with
          | true =>
            have HB := Lib.hid hb
            obtain ⟨t1, t2⟩ := num_hgt hb
            rw [← f32fmt] at t1 t2
            clear hb
            go_wp2
            go_round
            case rel => exact ⟨j + 1, by omega, by go_num, allB_iff.2 fun i hi => by rcases Nat.lt_or_ge i j with c | c; exact allB_iff.1 HH.out i c; rw [show i = j by omega]; exact HB.out⟩
            case measure => simp [intOf]; omega
          | false =>
            have HB := Lib.hid hb
            rcases num_out (allB_iff.1 HA.out j hlt2) hb with t1 | ⟨t1, t2⟩
            · rw [← f32fmt] at t1
              clear hb
              go_wp2
              go_ret
              exact ⟨ret_int (by unfold fldE hgtE; rw [HA.out, allB_no hlt2 HB.out]; rfl), rfl⟩
            · rw [← f32fmt] at t1 t2
              clear hb
              go_wp2
              go_ret
              exact ⟨ret_int (by unfold fldE hgtE; rw [HA.out, allB_no hlt2 HB.out]; rfl), rfl⟩
        · go_wp2
          go_ret
          have : j = k := by omega
          subst this
          exact ⟨ret_int (by unfold fldE hgtE; rw [HA.out, HH.out]; rfl), rfl⟩
end Go.Proofs.Ythemmpmjjdpdfaa

/- How deep water cuts, as words: the products, the half: they are numbers. -/
namespace Go.Proofs.Ythemmpmjjdpdfaa.Fl
open Ieee

/-- A whole number from 0 to 2 ^ 40 as a single. -/
theorem amt_val {n : Int} (h0 : 0 ≤ n) (h1 : n ≤ 1099511627776) : ∃ a, vS (Go.floatOfInt .f32 n) = some a ∧ 0 ≤ a ∧ a ≤ 1099511627776 * (one : Int) := by
  obtain ⟨j, hj⟩ : ∃ j : Nat, j = 1074 := ⟨_, rfl⟩
  have e40 : (2 : Nat) ^ 41 = 2199023255552 := by decide
  have e : 2 ^ (41 + j) = 2199023255552 * one := by rw [one_pow hj, Nat.pow_add, e40]
  have hn : (n * (one : Int)).natAbs < 2 ^ (41 + j) := by
    rw [Int.natAbs_mul, Int.natAbs_natCast, e]
    exact Nat.mul_lt_mul_of_pos_right (by omega) one_pos
  have v := vS_int hn (by omega)
  refine ⟨_, v, rdS_nonneg (Int.mul_nonneg h0 (Int.natCast_nonneg _)), ?_⟩
  have m := rdS_mono (Int.mul_le_mul_of_nonneg_right h1 (Int.natCast_nonneg one))
  have f40 : (2 : Nat) ^ 40 = 1099511627776 := by decide
  rwa [rdS_exact (c := 1099511627776 * (one : Int)) 1 (40 + j) (by decide) (by omega) (by rw [one_pow hj, Nat.pow_add, f40, Int.natCast_mul, Int.one_mul]; rfl)] at m

theorem amt_root {n : Int} (h0 : 0 ≤ n) (h1 : n ≤ 1099511627776) : ∃ a X Z c, RootAt (Go.floatOfInt .f32 n) a X Z c ∧ c ≤ 1048576 * (one : Int) := by
  obtain ⟨a, v, a0, a1⟩ := amt_val h0 h1
  obtain ⟨j, hj⟩ : ∃ j : Nat, j = 1074 := ⟨_, rfl⟩
  have f40 : (2 : Nat) ^ 40 = 1099511627776 := by decide
  have b : Bd 40 (Go.floatOfInt .f32 n) := bd_val' (j := 40 + j) v (by omega) (by rw [Nat.pow_add, f40, ← one_pow hj]; omega)
  obtain ⟨X, Z, c, R⟩ := root_parts v a0 b (by omega)
  exact ⟨a, X, Z, c, R, by simpa using R.hi 1048576 (by omega) (by simpa using a1)⟩
theorem root_bd {x X Z : Nat} {a c : Int} (R : RootAt x a X Z c) (h : c ≤ 1048576 * (one : Int)) : Bd 20 (rootW x) := by
  obtain ⟨j, hj⟩ : ∃ j : Nat, j = 1074 := ⟨_, rfl⟩
  have f20 : (2 : Nat) ^ 20 = 1048576 := by decide
  have := R.nn
  exact bd_val' (j := 20 + j) R.val (by omega) (by rw [Nat.pow_add, f20, ← one_pow hj]; omega)

def cutA (rate : Nat) (amount : Int) : Nat := (Go.floatBits .mul .f32 rate (rootW (Go.floatOfInt .f32 amount))).getD 0
def cutD (rate : Nat) (amount : Int) (drop : Nat) : Nat := (Go.floatBits .mul .f32 (cutA rate amount) drop).getD 0
def halfW (drop : Nat) : Nat := (Go.floatBits .mul .f32 drop 1056964608).getD 0
/-- The products of a cut. -/
structure CutAt (rate : Nat) (amount : Int) (drop : Nat) : Prop where
  m1 : Go.floatBits .mul .f32 rate (rootW (Go.floatOfInt .f32 amount)) = some (cutA rate amount)
  m2 : Go.floatBits .mul .f32 (cutA rate amount) drop = some (cutD rate amount drop)
  m3 : Go.floatBits .mul .f32 drop 1056964608 = some (halfW drop)

theorem vS_half {j : Nat} (hj : j = 1073) : vS 1056964608 = some ((2 ^ j : Nat) : Int) := by
  have h : single.read 1056964608 = .number false 8388608 (-24) := by decide
  rw [vS_lit (t := 1) (k := 23) (j := j) h (by decide) (by rw [hj]; decide)]; simp
theorem bd_half : Bd 0 1056964608 := by
  obtain ⟨j, hj⟩ : ∃ j : Nat, j = 1073 := ⟨_, rfl⟩
  exact bd_val' (j := j + 1) (vS_half hj) (by omega) (by rw [Int.natAbs_natCast]; exact Nat.pow_le_pow_right (by omega) (by omega))

theorem cut_parts {rate drop : Nat} {n : Int} (hr : Bd 20 rate) (hd : Bd 21 drop) (h0 : 0 ≤ n) (h1 : n ≤ 1099511627776) : CutAt rate n drop := by
  obtain ⟨a, X, Z, c, R, hc⟩ := amt_root h0 h1
  obtain ⟨_, _, _, p, _, _, _, _, e1, bp⟩ := (mul_same (a := 20) (b := 20) (by omega) hr (root_bd R hc)).ex
  obtain ⟨_, _, _, d, _, _, _, _, e2, bd⟩ := (mul_same (a := 40) (b := 21) (by omega) bp hd).ex
  obtain ⟨_, _, _, h, _, _, _, _, e3, bh⟩ := (mul_same (a := 21) (b := 0) (by omega) hd bd_half).ex
  have q1 : cutA rate n = p := by unfold cutA; rw [e1]; rfl
  have q2 : cutD rate n drop = d := by unfold cutD; rw [q1, e2]; rfl
  have q3 : halfW drop = h := by unfold halfW; rw [e3]; rfl
  exact ⟨by rw [q1]; exact e1, by rw [q1, q2]; exact e2, by rw [q3]; exact e3⟩
end Go.Proofs.Ythemmpmjjdpdfaa.Fl

/- Contracts: Index; byPlace and Make, whatever function they are given. -/
namespace Go.Proofs.Ythemmpmjjdpdfaa
open Go.RowKit Fl
set_option linter.unusedVariables false

theorem enters_place1 : Enters 181 := by intro args W; simp [callFunc, Try.func181, Try.f181]

set_option maxHeartbeats 1000000 in
theorem index_any (X Y : Int) (W H : Nat) (i : Nat) (x y : Int) (w : World) (hX1 : -16777216 ≤ X) (hX2 : X ≤ 16777216) (hY1 : -16777216 ≤ Y) (hY2 : Y ≤ 16777216) (hW1 : 1 ≤ W) (hW2 : W ≤ 512) (hH2 : H ≤ 512)
    (h1 : X ≤ x) (h2 : x < X + W) (h3 : Y ≤ y) (h4 : y < Y + H) (hi : (i : Int) = (y - Y) * W + (x - X)) (hn : i ≤ 65536) :
    Calls Try.prog 89 #[reg X Y W H, .int .i64 x, .int .i64 y] w fun e w' => e = .returned (.int .i64 (i : Int)) ∧ w.alloc (regObj X Y W H) = w' := by
  have hq : 0 ≤ (y - Y) * W := Int.mul_nonneg (by omega) (by omega)
  have e2 : wrap64 ((y - Y) * W) = (y - Y) * W := IntWalk.wrap64_in _ ⟨by omega, by omega⟩
  have e3 : wrap64 ((y - Y) * W + x) = (y - Y) * W + x := IntWalk.wrap64_in _ ⟨by omega, by omega⟩
  have e4 : wrap64 ((y - Y) * W + x - X) = (i : Int) := by rw [IntWalk.wrap64_in _ ⟨by omega, by omega⟩]; omega
  clear hi hq
  go_enter Try.func89, Try.ntmps89
  go_wp2
  go_ret
  exact ⟨ret_int e4, rfl⟩

/-- A function value in a box. -/
abbrev fnObj (g : Nat) (caps : Array Value) : Obj := .cells #[.func (.func g) #[] caps] 147

set_option maxHeartbeats 2000000 in
theorem place1_any (X Y : Int) (W H n : Nat) (g : Nat) (caps : Array Value) (f : Nat → Nat) (p q : Nat) (w : World) (hcall : Enters g) (hcl : Clos2 g caps X Y W H f w)
    (hp : w.heap[p]? = some (fnObj g caps)) (hq : w.heap[q]? = some (regObj X Y W H)) (hX1 : -16777216 ≤ X) (hX2 : X ≤ 16777216) (hY1 : -16777216 ≤ Y) (hY2 : Y ≤ 16777216) (hW1 : 1 ≤ W) (hW2 : W ≤ 512) (hH2 : H ≤ 512) (hn : n = H * W) :
    Clos1 181 #[.pointer (some ⟨p, 0, none⟩), .pointer (some ⟨q, 0, none⟩)] n f w := by
  intro i w2 hi hb
  have hdm := Nat.div_add_mod i W
  have hml := Nat.mod_lt i (show 0 < W by omega)
  have hdl : i / W < H := Nat.div_lt_of_lt_mul (by rw [Nat.mul_comm]; omega)
  obtain ⟨a, ha⟩ : ∃ a : Nat, a = i % W := ⟨_, rfl⟩
  obtain ⟨b, hb'⟩ : ∃ b : Nat, b = i / W := ⟨_, rfl⟩
  rw [← ha, ← hb'] at hdm
  rw [← ha] at hml
  rw [← hb'] at hdl
  have ei : (i : Int) = ((Y + b) - Y) * W + ((X + a) - X) := by
    rw [show Y + (b : Int) - Y = b by omega, show X + (a : Int) - X = a by omega, ← hdm]; simp [Int.mul_comm]
  have CC := Lib.hid (fun W' (hB : Below w2.heap.size w2 W') => hcl (X + a) (Y + b) i W' (by omega) (by omega) (by omega) (by omega) ei (hb.trans (hB.mono hb.size)))
  have P := blkStay hp hb
  have Q := blkStay hq hb
  have HP := Lib.hid P
  have HQ := Lib.hid Q
  obtain ⟨cP, fP, zP⟩ := blkC P
  obtain ⟨cQ, fQ, zQ⟩ := blkC Q
  unfold Enters at hcall
  have t1 : (i : Int).tmod (W : Int) = (a : Int) := by rw [ha]; rw [Int.tmod_eq_emod_of_nonneg (by omega)]; simp
  have t2 : (i : Int).tdiv (W : Int) = (b : Int) := by rw [hb']; rw [Int.tdiv_eq_ediv_of_nonneg (by omega)]; simp
  have t3 : (i : Int) % (W : Int) = (a : Int) := by rw [ha]; simp
  have t4 : (i : Int) / (W : Int) = (b : Int) := by rw [hb']; simp
  have u1 : IntKind.i64.wrap (X + (a : Int)) = X + a := IntWalk.i64_in _ (by omega)
  have u2 : IntKind.i64.wrap (Y + (b : Int)) = Y + b := IntWalk.i64_in _ (by omega)
  have u3 : IntKind.i64.wrap (b : Int) = b := IntWalk.i64_in _ (by omega)
  have w0 : ¬ ((W : Int) = 0) := by omega
  have w0' : ¬ (W = 0) := by omega
  have t5 : ((i : Int) % (W : Int)) = (a : Int) := t3
  have t6 : i % W = a := ha.symm
  have t7 : i / W = b := hb'.symm
  have w1 : (1 : Int) ≤ (W : Int) := by omega
  have i0 : (0 : Int) ≤ (i : Int) := by omega
  have b1 : (a : Int) < 512 := by omega
  have b2 : (b : Int) < 512 := by omega
  clear hp hq P Q hb ei hdm hml hdl ha hb' hcl
  go_enter Try.func181, Try.ntmps181
  go_wp2
  go_region_held3 (fun w' => (∀ o, w'.cell? ⟨q, o, none⟩ = #[.int .i64 X, .int .i64 Y, .int .i64 W, .int .i64 H][o]?) ∧ (∀ o, w'.cell? ⟨p, o, none⟩ = #[.func (.func g) #[] caps][o]?) ∧ Below w2.heap.size w2 w') (first | exact ⟨(blkC (blkStay HQ.out hb9)).1, (blkC (blkStay HP.out hb9)).1, hb9⟩ | exact ⟨(blkC (blkStay HQ.out (by repeat (first | exact Below.refl _ _ | refine Below.alloc ?_ (by first | omega | (simp; done) | (simp; omega)) _ | refine Below.setCell ?_ (by first | omega | (simp; done) | (simp; omega)) _ | refine Below.drew ?_)))).1, (blkC (blkStay HP.out (by repeat (first | exact Below.refl _ _ | refine Below.alloc ?_ (by first | omega | (simp; done) | (simp; omega)) _ | refine Below.setCell ?_ (by first | omega | (simp; done) | (simp; omega)) _ | refine Below.drew ?_)))).1, (by repeat (first | exact Below.refl _ _ | refine Below.alloc ?_ (by first | omega | (simp; done) | (simp; omega)) _ | refine Below.setCell ?_ (by first | omega | (simp; done) | (simp; omega)) _ | refine Below.drew ?_))⟩) (first | (go_simp; (with_reducible refine Calls.mono (CC.out _ ?_) ?_); exact (by repeat (first | exact Below.refl _ _ | refine Below.alloc ?_ (by first | omega | (simp; done) | (simp; omega)) _ | refine Below.setCell ?_ (by first | omega | (simp; done) | (simp; omega)) _ | refine Below.drew ?_)); rintro e w' ⟨rfl, hb8⟩; have hb9 : Below w2.heap.size w2 w' := ⟨hb8.os, hb8.tape, hb8.output, hb8.size, hb8.block⟩; clear hb8))
  rename_i hHeld
  go_wp2
  go_ret
  exact ⟨rfl, hHeld.2.2⟩

set_option maxHeartbeats 2000000 in
theorem byPlace_any (X Y : Int) (W H n : Nat) (g : Nat) (caps : Array Value) (f : Nat → Nat) (w : World) (hcall : Enters g) (hcl : Clos2 g caps X Y W H f w)
    (hX1 : -16777216 ≤ X) (hX2 : X ≤ 16777216) (hY1 : -16777216 ≤ Y) (hY2 : Y ≤ 16777216) (hW1 : 1 ≤ W) (hW2 : W ≤ 512) (hH1 : 1 ≤ H) (hH2 : H ≤ 512) (hn : n = H * W) (hn2 : n ≤ 65536) :
    Calls Try.prog 154 #[reg X Y W H, .func (.func g) #[] caps] w (MadePost w X Y W H n f) := by
  have en : (n : Int) = (W : Int) * (H : Int) := by rw [hn, Nat.mul_comm]; simp
  have n1 : 1 ≤ n := by rw [hn]; exact Nat.mul_pos hH1 hW1
  have BC := Lib.hid (byCell_any X Y W H n 181 #[.pointer (some ⟨w.heap.size + 1, 0, none⟩), .pointer (some ⟨w.heap.size, 0, none⟩)] f (((w.alloc (regObj X Y W H)).alloc (fnObj g caps)).alloc (fldO 0 0 0 0 (.slice none 0 0))) enters_place1
    (place1_any X Y W H n g caps f (w.heap.size + 1) w.heap.size _ hcall (fun x y i W' h1 h2 h3 h4 h5 hb => hcl x y i W' h1 h2 h3 h4 h5 (Below.trans (by repeat (first | exact Below.refl _ _ | refine Below.alloc ?_ (by first | omega | (simp; done) | (simp; omega)) _ | refine Below.setCell ?_ (by first | omega | (simp; done) | (simp; omega)) _ | refine Below.drew ?_)) (hb.mono (by simp; omega)))) (by ((simp only [heap_alloc_get, heap_size_alloc, if_true]) <;> ((repeat' split) <;> first | rfl | omega))) (by ((simp only [heap_alloc_get, heap_size_alloc, if_true]) <;> ((repeat' split) <;> first | rfl | omega))) hX1 hX2 hY1 hY2 hW1 hW2 hH2 hn) en n1 hn2)
  clear hcl hcall hn en
  go_enter Try.func154, Try.ntmps154
  go_wp2_with fail
  refine BC.out.mono ?_
  intro e w4 hmade
  rcases hmade with ⟨hall, b', cap', rfl, hb', hlt', hrow, hbel⟩ | ⟨hall, rfl, hbel⟩
  · have hS := Lib.hid (blkStay (b := w.heap.size + 1 + 1) (o := fldO 0 0 0 0 (.slice none 0 0)) (by ((simp only [heap_alloc_get, heap_size_alloc, if_true]) <;> ((repeat' split) <;> first | rfl | omega))) hbel)
    have hB : Below w.heap.size w w4 := Below.trans (by repeat (first | exact Below.refl _ _ | refine Below.alloc ?_ (by first | omega | (simp; done) | (simp; omega)) _ | refine Below.setCell ?_ (by first | omega | (simp; done) | (simp; omega)) _ | refine Below.drew ?_)) (Below.mono hbel (by simp; omega))
    obtain ⟨cS, fS, zS⟩ := blkC hS.out
    have HB := Lib.hid hb'
    clear hb'
    go_wp2
    refine bodyPost_ret (v := .tuple #[fldV X Y W H (.slice (some ⟨b', 0, none⟩) n cap'), .int .i64 0]) (by simp [results, Try.results154, go_sem, cS]) rfl ?_
    have hb' := HB.out
    simp only [heap_size_alloc] at hb'
    exact .inl ⟨hall, b', cap', rfl, by omega, by rw [set5_size]; exact hlt', flAt_congr hrow (set5_heap w4 _ _ _ _ _ _ _ (by omega)), set5_below hB _ _ _ _ _ _ (by omega)⟩
  · have hS := Lib.hid (blkStay (b := w.heap.size + 1 + 1) (o := fldO 0 0 0 0 (.slice none 0 0)) (by ((simp only [heap_alloc_get, heap_size_alloc, if_true]) <;> ((repeat' split) <;> first | rfl | omega))) hbel)
    have hB : Below w.heap.size w w4 := Below.trans (by repeat (first | exact Below.refl _ _ | refine Below.alloc ?_ (by first | omega | (simp; done) | (simp; omega)) _ | refine Below.setCell ?_ (by first | omega | (simp; done) | (simp; omega)) _ | refine Below.drew ?_)) (Below.mono hbel (by simp; omega))
    obtain ⟨cS, fS, zS⟩ := blkC hS.out
    go_wp2
    refine bodyPost_ret (v := .tuple #[fldV 0 0 0 0 (.slice none 0 0), .int .i64 3]) (by simp [results, Try.results154, go_sem, cS]) rfl ?_
    exact .inr ⟨hall, rfl, set5_below hB _ _ _ _ _ _ (by omega)⟩

/-- What Make answers. -/
def MakePost (w : World) (X Y W H : Int) (n : Nat) (f : Nat → Nat) (e : Ending) (w' : World) : Prop :=
  (checkR X Y W H ≠ 0 ∧ e = .returned (.tuple #[fldV 0 0 0 0 (.slice none 0 0), .int .i64 (checkR X Y W H)]) ∧ Below w.heap.size w w') ∨ (checkR X Y W H = 0 ∧ MadePost w X Y W H n f e w')

set_option maxHeartbeats 2000000 in
theorem make_ok (X Y : Int) (W H n : Nat) (g : Nat) (caps : Array Value) (f : Nat → Nat) (w : World) (hcall : Enters g) (hcl : Clos2 g caps X Y W H f w) (h0 : checkR X Y W H = 0) (hn : n = H * W) :
    Calls Try.prog 86 #[reg X Y W H, .func (.func g) #[] caps] w (MadePost w X Y W H n f) := by
  obtain ⟨b1, b2, b3, b4, b5, b6, b7, b8, b9⟩ := checkR_zero h0
  have hn2 : n ≤ 65536 := by
    have : ((W : Int) * (H : Int)) = (n : Int) := by rw [hn, Nat.mul_comm]; simp
    omega
  have RC := Lib.hid (fun w => checkRegion_any X Y W H w)
  rw [h0] at RC
  have BP := Lib.hid (fun W' (hb : Below w.heap.size w W') => byPlace_any X Y W H n g caps f W' hcall (fun x y i W'' h1 h2 h3 h4 h5 hb' => hcl x y i W'' h1 h2 h3 h4 h5 (hb.trans (hb'.mono hb.size))) (by omega) (by omega) (by omega) (by omega) (by omega) (by omega) (by omega) (by omega) hn hn2)
  clear hcl hcall h0 b1 b2 b3 b4 b5 b6 b7 b8 b9 hn hn2
  go_enter Try.func86, Try.ntmps86
  go_wp2_with (first | (go_at_call 105; refine (RC.out _).mono ?_; rintro e w' ⟨rfl, rfl⟩))
  refine (BP.out _ (by repeat (first | exact Below.refl _ _ | refine Below.alloc ?_ (by first | omega | (simp; done) | (simp; omega)) _ | refine Below.setCell ?_ (by first | omega | (simp; done) | (simp; omega)) _ | refine Below.drew ?_))).mono ?_
  intro e w4 hmade
  rcases hmade with ⟨hall, b', cap', rfl, hb', hlt', hrow, hbel⟩ | ⟨hall, rfl, hbel⟩
  · have hS := Lib.hid (blkStay (b := w.heap.size + 1) (o := fldO 0 0 0 0 (.slice none 0 0)) (by ((simp only [heap_alloc_get, heap_size_alloc, if_true]) <;> ((repeat' split) <;> first | rfl | omega))) hbel)
    have hB : Below w.heap.size w w4 := Below.trans (by repeat (first | exact Below.refl _ _ | refine Below.alloc ?_ (by first | omega | (simp; done) | (simp; omega)) _ | refine Below.setCell ?_ (by first | omega | (simp; done) | (simp; omega)) _ | refine Below.drew ?_)) (Below.mono hbel (by simp; omega))
    obtain ⟨cS, fS, zS⟩ := blkC hS.out
    have HB := Lib.hid hb'
    clear hb'
    go_wp2
    refine bodyPost_ret (v := .tuple #[fldV X Y W H (.slice (some ⟨b', 0, none⟩) n cap'), .int .i64 0]) (by simp [results, Try.results86, go_sem, cS]) rfl ?_
    have hb' := HB.out
    simp only [heap_size_alloc] at hb'
    exact .inl ⟨hall, b', cap', rfl, by omega, by rw [set5_size]; exact hlt', flAt_congr hrow (set5_heap w4 _ _ _ _ _ _ _ (by omega)), set5_below hB _ _ _ _ _ _ (by omega)⟩
  · have hS := Lib.hid (blkStay (b := w.heap.size + 1) (o := fldO 0 0 0 0 (.slice none 0 0)) (by ((simp only [heap_alloc_get, heap_size_alloc, if_true]) <;> ((repeat' split) <;> first | rfl | omega))) hbel)
    have hB : Below w.heap.size w w4 := Below.trans (by repeat (first | exact Below.refl _ _ | refine Below.alloc ?_ (by first | omega | (simp; done) | (simp; omega)) _ | refine Below.setCell ?_ (by first | omega | (simp; done) | (simp; omega)) _ | refine Below.drew ?_)) (Below.mono hbel (by simp; omega))
    obtain ⟨cS, fS, zS⟩ := blkC hS.out
    go_wp2
    refine bodyPost_ret (v := .tuple #[fldV 0 0 0 0 (.slice none 0 0), .int .i64 3]) (by simp [results, Try.results86, go_sem, cS]) rfl ?_
    exact .inr ⟨hall, rfl, set5_below hB _ _ _ _ _ _ (by omega)⟩

set_option maxHeartbeats 2000000 in
theorem make_no (X Y W H : Int) (v : Value) (k : Int) (w : World) (hv : ∃ g caps, v = .func (.func g) #[] caps) (h0 : checkR X Y W H = k) (hk : k = 3 ∨ k = 4 ∨ k = 5) :
    Calls Try.prog 86 #[reg X Y W H, v] w fun e w' => e = .returned (.tuple #[fldV 0 0 0 0 (.slice none 0 0), .int .i64 k]) ∧ Below w.heap.size w w' := by
  obtain ⟨g, caps, rfl⟩ := hv
  have RC := Lib.hid (fun w => checkRegion_any X Y W H w)
  rw [h0] at RC
  clear h0
  rcases hk with rfl | rfl | rfl
  all_goals go_enter Try.func86, Try.ntmps86
  all_goals go_wp2_with (first | (go_at_call 105; refine (RC.out _).mono ?_; rintro e w' ⟨rfl, rfl⟩))
  · refine bodyPost_ret (v := .tuple #[fldV 0 0 0 0 (.slice none 0 0), .int .i64 3]) (by simp [results, Try.results86, go_sem]) rfl ⟨rfl, ?_⟩
    exact (by repeat (first | exact Below.refl _ _ | refine Below.alloc ?_ (by first | omega | (simp; done) | (simp; omega)) _ | refine Below.setCell ?_ (by first | omega | (simp; done) | (simp; omega)) _ | refine Below.drew ?_))
  · refine bodyPost_ret (v := .tuple #[fldV 0 0 0 0 (.slice none 0 0), .int .i64 4]) (by simp [results, Try.results86, go_sem]) rfl ⟨rfl, ?_⟩
    exact (by repeat (first | exact Below.refl _ _ | refine Below.alloc ?_ (by first | omega | (simp; done) | (simp; omega)) _ | refine Below.setCell ?_ (by first | omega | (simp; done) | (simp; omega)) _ | refine Below.drew ?_))
  · refine bodyPost_ret (v := .tuple #[fldV 0 0 0 0 (.slice none 0 0), .int .i64 5]) (by simp [results, Try.results86, go_sem]) rfl ⟨rfl, ?_⟩
    exact (by repeat (first | exact Below.refl _ _ | refine Below.alloc ?_ (by first | omega | (simp; done) | (simp; omega)) _ | refine Below.setCell ?_ (by first | omega | (simp; done) | (simp; omega)) _ | refine Below.drew ?_))
end Go.Proofs.Ythemmpmjjdpdfaa

/- Plain mathematics of binary heaps: what one exchange on the way up or down leaves. -/
namespace Go.Proofs.Ythemmpmjjdpdfaa
set_option linter.unusedVariables false

/-- Two places exchanged. -/
def swp (c : Nat → Nat) (i j : Nat) : Nat → Nat := fun k => if k = i then c j else if k = j then c i else c k
theorem swp_i (c : Nat → Nat) (i j : Nat) : swp c i j i = c j := by unfold swp; rw [if_pos rfl]
theorem swp_j (c : Nat → Nat) (i j : Nat) : swp c i j j = c i := by
  unfold swp
  by_cases h : j = i
  · rw [if_pos h, h]
  · rw [if_neg h, if_pos rfl]
theorem swp_o (c : Nat → Nat) {i j k : Nat} (h1 : k ≠ i) (h2 : k ≠ j) : swp c i j k = c k := by unfold swp; rw [if_neg h1, if_neg h2]

/-- The same cells at the first m places. -/
def SameSet (m : Nat) (c d : Nat → Nat) : Prop := ∀ x, (∃ i, i < m ∧ c i = x) ↔ (∃ i, i < m ∧ d i = x)
theorem SameSet.rfl' {m : Nat} {c : Nat → Nat} : SameSet m c c := fun _ => Iff.rfl
theorem SameSet.trans {m : Nat} {a b c : Nat → Nat} (h : SameSet m a b) (g : SameSet m b c) : SameSet m a c := fun x => (h x).trans (g x)
theorem same_swp {m i j : Nat} {c : Nat → Nat} (hi : i < m) (hj : j < m) : SameSet m c (swp c i j) := by
  intro x
  constructor
  · rintro ⟨k, hk, rfl⟩
    by_cases h1 : k = i
    · exact ⟨j, hj, by rw [swp_j, h1]⟩
    · by_cases h2 : k = j
      · exact ⟨i, hi, by rw [swp_i, h2]⟩
      · exact ⟨k, hk, swp_o c h1 h2⟩
  · rintro ⟨k, hk, rfl⟩
    by_cases h1 : k = i
    · exact ⟨j, hj, by rw [h1, swp_i]⟩
    · by_cases h2 : k = j
      · exact ⟨i, hi, by rw [h2, swp_j]⟩
      · exact ⟨k, hk, (swp_o c h1 h2).symm⟩
theorem SameSet.all {m : Nat} {c d : Nat → Nat} {P : Nat → Prop} (h : SameSet m c d) (hp : ∀ i, i < m → P (c i)) : ∀ i, i < m → P (d i) := fun i hi => by
  obtain ⟨k, hk, e⟩ := (h (d i)).2 ⟨i, hi, rfl⟩
  rw [← e]; exact hp k hk

/-- A heap of m places. -/
def Heap (m : Nat) (K : Nat → Int) (c : Nat → Nat) : Prop := ∀ i, 0 < i → i < m → K (c ((i - 1) / 2)) ≤ K (c i)
/-- A heap but for the place j, which may be too low. -/
def HeapUp (m : Nat) (K : Nat → Int) (c : Nat → Nat) (j : Nat) : Prop :=
  (∀ i, 0 < i → i < m → i ≠ j → K (c ((i - 1) / 2)) ≤ K (c i)) ∧ ∀ i, 0 < i → i < m → (i - 1) / 2 = j → 0 < j → K (c ((j - 1) / 2)) ≤ K (c i)

theorem up_start {m : Nat} {K : Nat → Int} {c d : Nat → Nat} (h : Heap m K c) (e : ∀ i, i < m → d i = c i) : HeapUp (m + 1) K d m :=
  ⟨fun i h0 h1 h2 => by rw [e i (by omega), e _ (by omega)]; exact h i h0 (by omega), fun i h0 h1 h2 => by omega⟩
theorem up_done {m : Nat} {K : Nat → Int} {c : Nat → Nat} {j : Nat} (h : HeapUp m K c j) (hd : j = 0 ∨ ¬ K (c j) < K (c ((j - 1) / 2))) : Heap m K c := by
  intro i h0 h1
  by_cases e : i = j
  · subst e
    rcases hd with hd | hd <;> omega
  · exact h.1 i h0 h1 e
theorem up_swap {m : Nat} {K : Nat → Int} {c : Nat → Nat} {j : Nat} (h : HeapUp m K c j) (h0 : 0 < j) (hl : K (c j) < K (c ((j - 1) / 2))) : HeapUp m K (swp c ((j - 1) / 2) j) ((j - 1) / 2) := by
  obtain ⟨p, hp⟩ : ∃ p, (j - 1) / 2 = p := ⟨_, rfl⟩
  rw [hp] at hl ⊢
  constructor
  · intro i i0 i1 i2
    by_cases e1 : i = j
    · subst e1; rw [hp, swp_i, swp_j]; omega
    · rw [swp_o c i2 e1]
      by_cases e2 : (i - 1) / 2 = p
      · rw [e2, swp_i]
        have := h.1 i i0 i1 e1
        rw [e2] at this; omega
      · by_cases e3 : (i - 1) / 2 = j
        · rw [e3, swp_j]
          have := h.2 i i0 i1 e3 h0
          rwa [hp] at this
        · rw [swp_o c e2 e3]; exact h.1 i i0 i1 e1
  · intro i i0 i1 i2 p0
    have q1 : (p - 1) / 2 ≠ p := by omega
    have q2 : (p - 1) / 2 ≠ j := by omega
    rw [swp_o c q1 q2]
    have a := h.1 p p0 (by omega) (by omega)
    by_cases e1 : i = j
    · subst e1; rw [swp_j]; exact a
    · have e2 : i ≠ p := by omega
      rw [swp_o c e2 e1]
      have b := h.1 i i0 i1 e1
      rw [i2] at b; omega

/-- A heap from the place L on. -/
def HeapFrom (L n : Nat) (K : Nat → Int) (c : Nat → Nat) : Prop := ∀ i, 0 < i → i < n → L ≤ (i - 1) / 2 → K (c ((i - 1) / 2)) ≤ K (c i)
/-- A heap from L on but for the place j, which may be too high. -/
def HeapDown (L n : Nat) (K : Nat → Int) (c : Nat → Nat) (j : Nat) : Prop :=
  (∀ i, 0 < i → i < n → L ≤ (i - 1) / 2 → (i - 1) / 2 ≠ j → K (c ((i - 1) / 2)) ≤ K (c i)) ∧ ∀ i, 0 < i → i < n → (i - 1) / 2 = j → 0 < j → L ≤ (j - 1) / 2 → K (c ((j - 1) / 2)) ≤ K (c i)

theorem down_start {L n : Nat} {K : Nat → Int} {c : Nat → Nat} (h : HeapFrom (L + 1) n K c) : HeapDown L n K c L :=
  ⟨fun i h0 h1 h2 h3 => h i h0 h1 (by omega), fun i _ _ _ _ _ => by omega⟩
theorem down_swap {L n : Nat} {K : Nat → Int} {c : Nat → Nat} {p j : Nat} (h : HeapDown L n K c p) (hL : L ≤ p) (hj0 : 0 < j) (hj : j < n) (hp : (j - 1) / 2 = p) (hl : K (c j) < K (c p))
    (hs : ∀ i, 0 < i → i < n → (i - 1) / 2 = p → K (c j) ≤ K (c i)) : HeapDown L n K (swp c p j) j := by
  have pj : p ≠ j := by omega
  constructor
  · intro i i0 i1 i2 i3
    by_cases e1 : i = j
    · subst e1; rw [hp, swp_i, swp_j]; omega
    · by_cases e2 : (i - 1) / 2 = p
      · have e3 : i ≠ p := by omega
        rw [e2, swp_i, swp_o c e3 e1]; exact hs i i0 i1 e2
      · rw [swp_o c e2 i3]
        by_cases e4 : i = p
        · subst e4
          rw [swp_i]
          exact h.2 j hj0 hj hp (by omega) i2
        · rw [swp_o c e4 e1]; exact h.1 i i0 i1 i2 e2
  · intro i i0 i1 i2 j0 i3
    have e1 : i ≠ j := by omega
    have e2 : i ≠ p := by omega
    rw [hp, swp_i, swp_o c e2 e1]
    have := h.1 i i0 i1 (by omega) (by omega)
    rwa [i2] at this
theorem down_done {L n : Nat} {K : Nat → Int} {c : Nat → Nat} {p : Nat} (h : HeapDown L n K c p) (hs : ∀ i, 0 < i → i < n → (i - 1) / 2 = p → K (c p) ≤ K (c i)) : HeapFrom L n K c := by
  intro i i0 i1 i2
  by_cases e : (i - 1) / 2 = p
  · rw [e]; exact hs i i0 i1 e
  · exact h.1 i i0 i1 i2 e
theorem heap_from {n : Nat} {K : Nat → Int} {c : Nat → Nat} (h : HeapFrom 0 n K c) : Heap n K c := fun i a b => h i a b (Nat.zero_le _)
theorem heap_all {n : Nat} {K : Nat → Int} {c : Nat → Nat} : HeapFrom (n / 2) n K c := fun i a b h => by omega
/-- The children of a place: the lesser one of them is at most as high as both. -/
theorem kids {n p j : Nat} {K : Nat → Int} {c : Nat → Nat} (hj : j = 2 * p + 1 ∨ j = 2 * p + 2) (h1 : j = 2 * p + 1 → 2 * p + 2 < n → K (c (2 * p + 1)) ≤ K (c (2 * p + 2))) (h2 : j = 2 * p + 2 → K (c (2 * p + 2)) ≤ K (c (2 * p + 1))) :
    ∀ i, 0 < i → i < n → (i - 1) / 2 = p → K (c j) ≤ K (c i) := by
  intro i i0 i1 i2
  have hi : i = 2 * p + 1 ∨ i = 2 * p + 2 := by omega
  rcases hj with rfl | rfl <;> rcases hi with rfl | rfl
  · exact Int.le_refl _
  · exact h1 rfl i1
  · exact h2 rfl
  · exact Int.le_refl _
theorem heap_min {m : Nat} {K : Nat → Int} {c : Nat → Nat} (h : Heap m K c) : ∀ i, i < m → K (c 0) ≤ K (c i) := by
  intro i
  induction i using Nat.strongRecOn with
  | ind i ih =>
    intro hi
    by_cases e : i = 0
    · subst e; exact Int.le_refl _
    · have a := h i (by omega) hi
      have b := ih ((i - 1) / 2) (by omega) (by omega)
      omega
/-- The root exchanged with the last place: a heap from 1 on, of one place less. -/
theorem pop_start {m : Nat} {K : Nat → Int} {c : Nat → Nat} (h : Heap (m + 1) K c) : HeapFrom 1 m K (swp c 0 m) := by
  intro i i0 i1 i2
  rw [swp_o c (show i ≠ 0 by omega) (show i ≠ m by omega), swp_o c (show (i - 1) / 2 ≠ 0 by omega) (show (i - 1) / 2 ≠ m by omega)]
  exact h i i0 (by omega)
end Go.Proofs.Ythemmpmjjdpdfaa

/- Plain mathematics of filling: a spill, one step farther; what is known while the lowest cell that has been reached is taken, and goes on. -/
namespace Go.Proofs.Ythemmpmjjdpdfaa
open Go.RowKit Fl
set_option linter.unusedVariables false

/-- The value of a word, 0 where it has none. -/
def vI (x : Nat) : Int := (vS x).getD 0
theorem vI_of {x : Nat} {a : Int} (h : vS x = some a) : vI x = a := by unfold vI; rw [h]; rfl
theorem f32f' : FloatKind.f32.format = Ieee.single := rfl
theorem top_one : vTop = 1048576 * (one : Int) := by
  obtain ⟨J, hJ⟩ : ∃ J : Nat, J = 1074 := ⟨_, rfl⟩
  unfold vTop
  rw [one_pow hJ, Nat.one_mul, show (20 + 1074 : Int).toNat = 20 + J by omega, Nat.pow_add]
  simp

/-- A spill of the rank q. -/
def OkW (q x : Nat) : Prop := ∃ a, vS x = some a ∧ -vTop ≤ a ∧ a ≤ ((4096 * (256 + q) : Nat) : Int) * (one : Int)
/-- A slope. -/
def SlW (sl : Nat) : Prop := ∃ v, vS sl = some v ∧ 0 ≤ v ∧ v ≤ 1024 * (one : Int)
/-- The spill at a cell of the height h, from a spill. -/
def stepW (sl a h : Nat) : Nat := grtW h (addW a sl)

theorem OkW.mono {q r x : Nat} (h : OkW q x) (hq : q ≤ r) : OkW r x := by
  obtain ⟨a, h1, h2, h3⟩ := h
  refine ⟨a, h1, h2, Int.le_trans h3 (Int.mul_le_mul_of_nonneg_right (by omega) (Int.natCast_nonneg _))⟩
theorem OkW.val {q x : Nat} (h : OkW q x) : vS x = some (vI x) := by
  obtain ⟨a, h1, _⟩ := h
  rw [vI_of h1, h1]
theorem hgt_vT {x : Nat} (h : hgtB x = true) : ∃ a, vS x = some a ∧ -vTop ≤ a ∧ a ≤ vTop := by
  unfold hgtB at h
  split at h
  · rename_i a ha
    simp at h
    exact ⟨a, ha, h.1, h.2⟩
  · cases h
theorem hgt_ok {x : Nat} (h : hgtB x = true) : OkW 0 x := by
  obtain ⟨a, ha, h1, h2⟩ := hgt_vT h
  refine ⟨a, ha, h1, Int.le_trans h2 (Int.le_of_eq ?_)⟩
  rw [top_one]; simp
theorem OkW.bd {q x : Nat} (h : OkW q x) (hq : q ≤ 1048576) : Bd 33 x := by
  obtain ⟨a, ha, h1, h2⟩ := h
  obtain ⟨J, hJ⟩ : ∃ J : Nat, J = 1074 := ⟨_, rfl⟩
  refine bd_val' (j := 1074 + 33) ha rfl ?_
  rw [top_one, one_pow hJ] at h1
  rw [one_pow hJ] at h2
  rw [show 1074 + 33 = J + 33 by omega, Nat.pow_add]
  have h3 : ((4096 * (256 + q) : Nat) : Int) * ((2 ^ J : Nat) : Int) ≤ 8589934592 * ((2 ^ J : Nat) : Int) := Int.mul_le_mul_of_nonneg_right (by omega) (Int.natCast_nonneg _)
  generalize 2 ^ J = T at *
  omega
theorem SlW.bd {sl : Nat} (h : SlW sl) : Bd 33 sl := by
  obtain ⟨a, ha, h1, h2⟩ := h
  obtain ⟨J, hJ⟩ : ∃ J : Nat, J = 1074 := ⟨_, rfl⟩
  refine bd_val' (j := 1074 + 33) ha rfl ?_
  rw [one_pow hJ] at h2
  rw [show 1074 + 33 = J + 33 by omega, Nat.pow_add]
  generalize 2 ^ J = T at *
  omega

theorem step_parts {sl a h q : Nat} (ha : OkW q a) (hs : SlW sl) (hh : hgtB h = true) (hq : q ≤ 1048576) :
    ∃ r, floatBits .add .f32 a sl = some r ∧ addW a sl = r ∧ Same2 .add 34 a sl ∧ vS r = some (rdS (vI a + vI sl)) ∧ OkW (q + 1) (stepW sl a h) ∧
      vI h ≤ vI (stepW sl a h) ∧ rdS (vI a + vI sl) ≤ vI (stepW sl a h) ∧ (vI (stepW sl a h) = vI h ∨ vI (stepW sl a h) = rdS (vI a + vI sl)) ∧ vI a ≤ vI (stepW sl a h) := by
  have r2 : Same2 .add (33 + 1) a sl := add_same (by omega) (ha.bd hq) hs.bd
  obtain ⟨r, r1, br⟩ := same_ex r2
  have hw : addW a sl = r := by unfold addW; rw [r1]; rfl
  obtain ⟨av, va, a1, a2⟩ := ha
  obtain ⟨sv, vs, s1, s2⟩ := hs
  obtain ⟨hv, vh, h1, h2⟩ := hgt_vT hh
  obtain ⟨J, hJ⟩ : ∃ J : Nat, J = 1074 := ⟨_, rfl⟩
  have up : av + sv ≤ ((4096 * (256 + (q + 1)) : Nat) : Int) * (one : Int) := by
    have e : ((4096 * (256 + (q + 1)) : Nat) : Int) * (one : Int) = ((4096 * (256 + q) : Nat) : Int) * (one : Int) + 4096 * (one : Int) := by
      rw [← Int.add_mul]; exact congrArg (· * (one : Int)) (by omega)
    rw [e]; omega
  have nb : (av + sv).natAbs < 2 ^ (J + 34) := by
    rw [top_one] at a1
    have h3 : ((4096 * (256 + (q + 1)) : Nat) : Int) * (one : Int) ≤ 8589934592 * (one : Int) := Int.mul_le_mul_of_nonneg_right (by omega) (Int.natCast_nonneg _)
    rw [one_pow hJ] at *
    rw [Nat.pow_add]
    have := Nat.two_pow_pos J
    generalize 2 ^ J = T at *
    omega
  have vr := vS_add (B := J + 34) r1 va vs nb (by omega)
  have rup : rdS (av + sv) ≤ ((4096 * (256 + (q + 1)) : Nat) : Int) * (one : Int) := by
    have h := rdS_mono up
    have e : rdS (((4096 * (256 + (q + 1)) : Nat) : Int) * (one : Int)) = ((4096 * (256 + (q + 1)) : Nat) : Int) * (one : Int) := by
      refine rdS_exact (((256 + (q + 1) : Nat)) : Int) (J + 12) (by omega) (by omega) ?_
      rw [one_pow hJ, Nat.pow_add, show (2 : Nat) ^ 12 = 4096 from rfl]
      generalize 2 ^ J = T
      generalize 256 + (q + 1) = z
      simp only [Int.natCast_mul]
      grind
    rwa [e] at h
  have rlo : av ≤ rdS (av + sv) := by
    have := rdS_mono (show av ≤ av + sv by omega)
    rwa [rdS_self va] at this
  have hup : hv ≤ ((4096 * (256 + (q + 1)) : Nat) : Int) * (one : Int) := by
    refine Int.le_trans h2 ?_
    rw [top_one]
    exact Int.mul_le_mul_of_nonneg_right (by omega) (Int.natCast_nonneg _)
  refine ⟨r, r1, hw, r2, by rw [vI_of va, vI_of vs]; exact vr, ?_⟩
  rw [vI_of va, vI_of vs, vI_of vh]
  unfold stepW grtW
  rw [hw, f32f', gtr_val vr vh]
  by_cases c : hv < rdS (av + sv)
  · rw [if_pos (by simpa using c), vI_of vr]
    exact ⟨⟨_, vr, by omega, rup⟩, by omega, by omega, .inr rfl, by omega⟩
  · rw [if_neg (by simpa using c), vI_of vh]
    exact ⟨⟨_, vh, h1, hup⟩, by omega, by omega, .inl rfl, by omega⟩
/-- A greater spill comes to no lesser one. -/
theorem step_mono {sl a b h q : Nat} (ha : OkW q a) (hb : OkW q b) (hs : SlW sl) (hh : hgtB h = true) (hq : q ≤ 1048576) (hab : vI a ≤ vI b) : vI (stepW sl a h) ≤ vI (stepW sl b h) := by
  obtain ⟨_, _, _, _, _, _, a1, a2, a3, _⟩ := step_parts ha hs hh hq
  obtain ⟨_, _, _, _, _, _, b1, b2, b3, _⟩ := step_parts hb hs hh hq
  have := rdS_mono (show vI a + vI sl ≤ vI b + vI sl by omega)
  omega

/-- How many cells have not been reached. -/
def unr (n : Nat) (R : Nat → Bool) : Nat := ((List.range n).filter fun k => !R k).length
def updB (R : Nat → Bool) (k : Nat) : Nat → Bool := fun i => if i = k then true else R i
def updW (s : Nat → Nat) (k x : Nat) : Nat → Nat := fun i => if i = k then x else s i
theorem updB_same (R : Nat → Bool) (k : Nat) : updB R k k = true := by unfold updB; rw [if_pos rfl]
theorem updB_other (R : Nat → Bool) {i k : Nat} (h : i ≠ k) : updB R k i = R i := by unfold updB; rw [if_neg h]
theorem updW_same (s : Nat → Nat) (k x : Nat) : updW s k x k = x := by unfold updW; rw [if_pos rfl]
theorem updW_other (s : Nat → Nat) {i k x : Nat} (h : i ≠ k) : updW s k x i = s i := by unfold updW; rw [if_neg h]
theorem updB_mono {R : Nat → Bool} {i k : Nat} (h : R i = true) : updB R k i = true := by unfold updB; split <;> first | rfl | exact h
theorem unr_upd {n : Nat} {R : Nat → Bool} {k : Nat} (hk : k < n) (h : R k = false) : unr n (updB R k) + 1 = unr n R := by
  unfold unr
  induction n with
  | zero => omega
  | succ n ih =>
    rw [List.range_succ, List.filter_append, List.filter_append, List.length_append, List.length_append]
    by_cases e : k = n
    · subst e
      have e1 : ((List.range k).filter fun i => !updB R k i) = ((List.range k).filter fun i => !R i) := by
        apply List.filter_congr
        intro i hi
        rw [updB_other R (by have := List.mem_range.1 hi; omega)]
      rw [e1]
      simp [updB_same, h]
    · have := ih (by omega)
      have e2 : ([n].filter fun i => !updB R k i) = ([n].filter fun i => !R i) := by
        apply List.filter_congr
        intro i hi
        rw [updB_other R (by simp at hi; omega)]
      rw [e2]
      omega
theorem unr_le (n : Nat) (R : Nat → Bool) : unr n R ≤ n := by
  unfold unr
  exact Nat.le_trans (List.length_filter_le _ _) (by simp)
end Go.Proofs.Ythemmpmjjdpdfaa

/- Plain mathematics of filling: what is known at each head of the loop, and behind it. -/
namespace Go.Proofs.Ythemmpmjjdpdfaa
open Go.RowKit Fl
set_option linter.unusedVariables false

/-- Where the cells lie: the neighbour in a direction, the border, the heights, the slope. -/
structure Gnd where
  n : Nat
  nb : Nat → Nat → Option Nat
  bd : Nat → Bool
  h : Nat → Nat
  sl : Nat
/-- What holds of the ground. -/
structure GndOk (g : Gnd) : Prop where
  n1 : 1 ≤ g.n
  n2 : g.n ≤ 65536
  lt : ∀ x d k, g.nb x d = some k → k < g.n
  hgt : ∀ k, k < g.n → hgtB (g.h k) = true
  slo : SlW g.sl
  back : ∀ x d k, x < g.n → d < 8 → g.nb x d = some k → ∃ e, e < 8 ∧ g.nb k e = some x

def gnb (g : Gnd) (x k : Nat) : Prop := ∃ d, d < 8 ∧ g.nb x d = some k

/-- The lowest cells first: s spills, R reached, c the heap of m places; D: done, E: done or being done; rk: ranks, t: how many were reached on the way. -/
structure Fil (g : Gnd) (s : Nat → Nat) (R : Nat → Bool) (c : Nat → Nat) (m : Nat) (D E : Nat → Prop) (rk : Nat → Nat) (t : Nat) : Prop where
  cells : ∀ i, i < m → c i < g.n ∧ R (c i) = true
  bor : ∀ k, k < g.n → g.bd k = true → R k = true ∧ s k = g.h k
  fin : ∀ k, k < g.n → R k = true → OkW (rk k) (s k) ∧ rk k ≤ t
  par : ∀ k, k < g.n → R k = true → g.bd k = false → ∃ p, p < g.n ∧ gnb g p k ∧ E p ∧ rk p < rk k ∧ s k = stepW g.sl (s p) (g.h k)
  reach : ∀ x, x < g.n → E x → R x = true
  don : ∀ x, x < g.n → D x → ∀ k, gnb g x k → R k = true ∧ (g.bd k = false → vI (s k) ≤ vI (stepW g.sl (s x) (g.h k)))
  seen : ∀ x, x < g.n → R x = true → E x ∨ ∃ i, i < m ∧ c i = x
  low : ∀ x, x < g.n → E x → ∀ i, i < m → vI (s x) ≤ vI (s (c i))
  heap : Heap m (fun x => vI (s x)) c
  cnt : t + unr g.n R ≤ g.n

/-- The cell x is being done: its directions of P are. -/
structure Doing (g : Gnd) (s : Nat → Nat) (R : Nat → Bool) (c : Nat → Nat) (m : Nat) (D : Nat → Prop) (rk : Nat → Nat) (t x : Nat) (P : Nat → Prop) : Prop where
  f : Fil g s R c m D (fun y => D y ∨ y = x) rk t
  x1 : x < g.n
  x2 : ∀ y, y < g.n → D y → vI (s y) ≤ vI (s x)
  upto : ∀ e, P e → ∀ k, g.nb x e = some k → R k = true ∧ (g.bd k = false → vI (s k) ≤ vI (stepW g.sl (s x) (g.h k)))

theorem Fil.okc {g : Gnd} {s : Nat → Nat} {R : Nat → Bool} {c : Nat → Nat} {m : Nat} {D E : Nat → Prop} {rk : Nat → Nat} {t : Nat} (F : Fil g s R c m D E rk t) : ∀ i, i < m → c i < g.n ∧ vS (s (c i)) = some (vI (s (c i))) := fun i hi => by
  obtain ⟨a, b⟩ := F.cells i hi
  exact ⟨a, (F.fin _ a b).1.val⟩

/-- The lowest cell is taken. -/
theorem fil_pop {g : Gnd} {s : Nat → Nat} {R : Nat → Bool} {c c' : Nat → Nat} {m : Nat} {D : Nat → Prop} {rk : Nat → Nat} {t : Nat} (F : Fil g s R c (m + 1) D D rk t)
    (hs : SameSet m (swp c 0 m) c') (hh : Heap m (fun x => vI (s x)) c') : Doing g s R c' m D rk t (c 0) (fun _ => False) := by
  have mem : ∀ i, i < m → ∃ j, j < m + 1 ∧ c j = c' i := fun i hi => by
    obtain ⟨j, hj, e⟩ := (hs (c' i)).2 ⟨i, hi, rfl⟩
    by_cases e0 : j = 0
    · subst e0; rw [swp_i] at e; exact ⟨m, by omega, e⟩
    · rw [swp_o c e0 (by omega)] at e; exact ⟨j, by omega, e⟩
  have mem' : ∀ j, j < m + 1 → c j = c 0 ∨ ∃ i, i < m ∧ c' i = c j := fun j hj => by
    by_cases e0 : j = 0
    · left; rw [e0]
    · right
      by_cases e1 : j = m
      · subst e1; exact (hs (c j)).1 ⟨0, by omega, swp_i c 0 j⟩
      · exact (hs (c j)).1 ⟨j, by omega, swp_o c e0 e1⟩
  have x1 := (F.cells 0 (by omega)).1
  refine ⟨⟨fun i hi => ?_, F.bor, F.fin, fun k h1 h2 h3 => ?_, fun x h1 h2 => ?_, F.don, fun x h1 h2 => ?_, fun x h1 h2 i hi => ?_, hh, F.cnt⟩, x1, fun y h1 h2 => F.low y h1 h2 0 (by omega), fun e he => he.elim⟩
  · obtain ⟨j, hj, e⟩ := mem i hi; rw [← e]; exact F.cells j hj
  · obtain ⟨p, a, b, c0, d, e⟩ := F.par k h1 h2 h3; exact ⟨p, a, b, .inl c0, d, e⟩
  · rcases h2 with h2 | rfl
    · exact F.reach x h1 h2
    · exact (F.cells 0 (by omega)).2
  · rcases F.seen x h1 h2 with a | ⟨j, hj, e⟩
    · exact .inl (.inl a)
    · rcases mem' j hj with q | ⟨i, hi, q⟩
      · exact .inl (.inr (by rw [← e]; exact q))
      · exact .inr ⟨i, hi, by rw [q]; exact e⟩
  · obtain ⟨j, hj, e⟩ := mem i hi
    rw [← e]
    rcases h2 with h2 | rfl
    · exact F.low x h1 h2 j hj
    · exact heap_min F.heap j hj

theorem rk_le {g : Gnd} (G : GndOk g) {s : Nat → Nat} {R : Nat → Bool} {c : Nat → Nat} {m : Nat} {D E : Nat → Prop} {rk : Nat → Nat} {t : Nat} (F : Fil g s R c m D E rk t) {k : Nat} (h1 : k < g.n) (h2 : R k = true) : rk k ≤ 1048575 := by
  have := (F.fin k h1 h2).2; have := F.cnt; have := G.n2; omega
/-- A neighbour that has been reached already. -/
theorem doing_old {g : Gnd} (G : GndOk g) {s : Nat → Nat} {R : Nat → Bool} {c : Nat → Nat} {m : Nat} {D : Nat → Prop} {rk : Nat → Nat} {t x d k : Nat} {P : Nat → Prop} (F : Doing g s R c m D rk t x P) (h : g.nb x d = some k) (hr : R k = true) : Doing g s R c m D rk t x (fun e => P e ∨ e = d) :=
  ⟨F.f, F.x1, F.x2, fun e he k' hk => by
    by_cases q : e = d
    · subst q
      rw [h] at hk
      have := Option.some.inj hk
      subst this
      have k1 := G.lt _ _ _ h
      refine ⟨hr, fun hb => ?_⟩
      obtain ⟨p, p1, p2, p3, p4, p5⟩ := F.f.par k k1 hr hb
      rw [p5]
      have xr : R x = true := F.f.reach x F.x1 (.inr rfl)
      have pr : R p = true := F.f.reach p p1 p3
      have hv : vI (s p) ≤ vI (s x) := by
        rcases p3 with p3 | rfl
        · exact F.x2 p p1 p3
        · exact Int.le_refl _
      exact step_mono (q := 1048576) ((F.f.fin p p1 pr).1.mono (by have := rk_le G F.f p1 pr; omega)) ((F.f.fin x F.x1 xr).1.mono (by have := rk_le G F.f F.x1 xr; omega)) G.slo (G.hgt k k1) (by omega) hv
    · exact F.upto e (he.resolve_right q) k' hk⟩

/-- A neighbour that is reached now. -/
theorem doing_new {g : Gnd} (G : GndOk g) {s : Nat → Nat} {R : Nat → Bool} {c c' : Nat → Nat} {m : Nat} {D : Nat → Prop} {rk : Nat → Nat} {t x d k : Nat} {P : Nat → Prop} (F : Doing g s R c m D rk t x P) (hd : d < 8) (h : g.nb x d = some k) (hr : R k = false)
    (hs : SameSet (m + 1) (updW c m k) c') (hh : Heap (m + 1) (fun y => vI (updW s k (stepW g.sl (s x) (g.h k)) y)) c') :
    Doing g (updW s k (stepW g.sl (s x) (g.h k))) (updB R k) c' (m + 1) D (updW rk k (rk x + 1)) (t + 1) x (fun e => P e ∨ e = d) := by
  have k1 := G.lt _ _ _ h
  have xr : R x = true := F.f.reach x F.x1 (.inr rfl)
  have xk : x ≠ k := fun e => by subst e; rw [hr] at xr; cases xr
  have ne : ∀ {y}, R y = true → y ≠ k := fun hy e => by subst e; rw [hr] at hy; cases hy
  have hb : g.bd k = false := by
    cases e : g.bd k with
    | false => rfl
    | true => have := (F.f.bor k k1 e).1; rw [hr] at this; cases this
  have rx := rk_le G F.f F.x1 xr
  obtain ⟨_, _, _, _, _, okN, n1, n2, n3, n4⟩ := step_parts (F.f.fin x F.x1 xr).1 G.slo (G.hgt k k1) (by omega : rk x ≤ 1048576)
  obtain ⟨N, hN⟩ : ∃ N, stepW g.sl (s x) (g.h k) = N := ⟨_, rfl⟩
  have mem : ∀ i, i < m + 1 → c' i = k ∨ ∃ j, j < m ∧ c j = c' i := fun i hi => by
    obtain ⟨j, hj, e⟩ := (hs (c' i)).2 ⟨i, hi, rfl⟩
    by_cases e0 : j = m
    · subst e0; rw [updW_same] at e; exact .inl e.symm
    · rw [updW_other c e0] at e; exact .inr ⟨j, by omega, e⟩
  have keep : ∀ y, y < g.n → (y ≠ k) → updB R k y = true → R y = true := fun y _ h1 h2 => by rwa [updB_other R h1] at h2
  have up : ∀ x', x' < g.n → R x' = true → ∀ k', R k' = true ∧ (g.bd k' = false → vI (s k') ≤ vI (stepW g.sl (s x') (g.h k'))) →
      updB R k k' = true ∧ (g.bd k' = false → vI (updW s k (stepW g.sl (s x) (g.h k)) k') ≤ vI (stepW g.sl (updW s k (stepW g.sl (s x) (g.h k)) x') (g.h k'))) := fun x' _ hx' k' q => by
    refine ⟨updB_mono q.1, fun hb' => ?_⟩
    rw [updW_other s (ne q.1), updW_other s (ne hx')]
    exact q.2 hb'
  refine ⟨⟨fun i hi => ?_, fun y h1 h2 => ?_, fun y h1 h2 => ?_, fun y h1 h2 h3 => ?_, fun y h1 h2 => updB_mono (F.f.reach y h1 h2), fun y h1 h2 k' hk => ?_, fun y h1 h2 => ?_, fun y h1 h2 i hi => ?_, hh, ?_⟩, F.x1, fun y h1 h2 => ?_, fun e he k' hk => ?_⟩
  · rcases mem i hi with e | ⟨j, hj, e⟩
    · rw [e]; exact ⟨k1, updB_same R k⟩
    · rw [← e]; exact ⟨(F.f.cells j hj).1, updB_mono (F.f.cells j hj).2⟩
  · obtain ⟨a, b⟩ := F.f.bor y h1 h2
    exact ⟨updB_mono a, by rw [updW_other s (ne a)]; exact b⟩
  · by_cases e : y = k
    · subst e
      rw [updW_same, updW_same]
      exact ⟨okN, by have := (F.f.fin x F.x1 xr).2; omega⟩
    · have a := keep y h1 e h2
      rw [updW_other s e, updW_other rk e]
      exact ⟨(F.f.fin y h1 a).1, by have := (F.f.fin y h1 a).2; omega⟩
  · by_cases e : y = k
    · subst e
      exact ⟨x, F.x1, ⟨d, hd, h⟩, .inr rfl, by rw [updW_same, updW_other rk xk]; omega, by rw [updW_same, updW_other s xk]⟩
    · obtain ⟨p, p1, p2, p3, p4, p5⟩ := F.f.par y h1 (keep y h1 e h2) h3
      have pr := F.f.reach p p1 p3
      exact ⟨p, p1, p2, p3, by rw [updW_other rk e, updW_other rk (ne pr)]; exact p4, by rw [updW_other s e, updW_other s (ne pr)]; exact p5⟩
  · exact up y h1 (F.f.reach y h1 (.inl h2)) k' (F.f.don y h1 h2 k' hk)
  · by_cases e : y = k
    · subst e
      right
      exact (hs y).1 ⟨m, by omega, updW_same c m y⟩
    · rcases F.f.seen y h1 (keep y h1 e h2) with a | ⟨j, hj, q⟩
      · exact .inl a
      · right
        obtain ⟨i, hi, w⟩ := (hs (c j)).1 ⟨j, by omega, updW_other c (by omega)⟩
        exact ⟨i, hi, by rw [w]; exact q⟩
  · have yr := F.f.reach y h1 h2
    rw [updW_other s (ne yr)]
    have yx : vI (s y) ≤ vI (s x) := by
      rcases h2 with h2 | rfl
      · exact F.x2 y h1 h2
      · exact Int.le_refl _
    rcases mem i hi with e | ⟨j, hj, e⟩
    · rw [e, updW_same]; omega
    · rw [← e, updW_other s (ne (F.f.cells j hj).2)]
      exact F.f.low y h1 h2 j hj
  · have a := unr_upd k1 hr
    have b := F.f.cnt
    omega
  · rw [updW_other s (ne (F.f.reach y h1 (.inl h2))), updW_other s xk]; exact F.x2 y h1 h2
  · by_cases q : e = d
    · subst q
      rw [h] at hk
      have := Option.some.inj hk
      subst this
      exact ⟨updB_same R k, fun _ => by rw [updW_same, updW_other s xk]; exact Int.le_refl _⟩
    · exact up x F.x1 xr k' (F.upto e (he.resolve_right q) k' hk)

/-- A cell that has been done. -/
theorem doing_done {g : Gnd} {s : Nat → Nat} {R : Nat → Bool} {c : Nat → Nat} {m : Nat} {D : Nat → Prop} {rk : Nat → Nat} {t x : Nat} {P : Nat → Prop} (F : Doing g s R c m D rk t x P) (hP : ∀ e, e < 8 → ∀ k, g.nb x e = some k → P e) : Fil g s R c m (fun y => D y ∨ y = x) (fun y => D y ∨ y = x) rk t :=
  ⟨F.f.cells, F.f.bor, F.f.fin, F.f.par, F.f.reach, fun y h1 h2 k hk => by
    rcases h2 with h2 | rfl
    · exact F.f.don y h1 h2 k hk
    · obtain ⟨d, hd, e⟩ := hk
      exact F.upto d (hP d hd k e) k e, F.f.seen, F.f.low, F.f.heap, F.f.cnt⟩

/-- What filling comes to. -/
structure Spills (g : Gnd) (s : Nat → Nat) : Prop where
  bor : ∀ k, k < g.n → g.bd k = true → s k = g.h k
  fin : ∀ k, k < g.n → OkW 65536 (s k)
  par : ∃ rk : Nat → Nat, ∀ k, k < g.n → g.bd k = false → ∃ p, p < g.n ∧ gnb g p k ∧ rk p < rk k ∧ s k = stepW g.sl (s p) (g.h k)
  least : ∀ x, x < g.n → ∀ k, gnb g x k → g.bd k = false → vI (s k) ≤ vI (stepW g.sl (s x) (g.h k))

/-- From each cell a way leads to the border. -/
def Joined (g : Gnd) : Prop := ∃ far : Nat → Nat, ∀ k, k < g.n → g.bd k = false → ∃ p, p < g.n ∧ gnb g p k ∧ far p < far k

theorem fil_end {g : Gnd} (G : GndOk g) (J : Joined g) {s : Nat → Nat} {R : Nat → Bool} {c : Nat → Nat} {D : Nat → Prop} {rk : Nat → Nat} {t : Nat} (F : Fil g s R c 0 D D rk t) : Spills g s := by
  obtain ⟨far, hf⟩ := J
  have all : ∀ f k, k < g.n → far k ≤ f → R k = true := by
    intro f
    induction f with
    | zero =>
      intro k hk h0
      cases e : g.bd k with
      | true => exact (F.bor k hk e).1
      | false => obtain ⟨p, _, _, p3⟩ := hf k hk e; omega
    | succ f ih =>
      intro k hk h0
      cases e : g.bd k with
      | true => exact (F.bor k hk e).1
      | false =>
        obtain ⟨p, p1, p2, p3⟩ := hf k hk e
        have pr := ih p p1 (by omega)
        rcases F.seen p p1 pr with a | ⟨i, hi, _⟩
        · exact (F.don p p1 a k p2).1
        · omega
  have allD : ∀ k, k < g.n → D k := fun k hk => by
    rcases F.seen k hk (all _ k hk (Nat.le_refl _)) with a | ⟨i, hi, _⟩
    · exact a
    · omega
  refine ⟨fun k h1 h2 => (F.bor k h1 h2).2, fun k h1 => ?_, ⟨rk, fun k h1 h2 => ?_⟩, fun x h1 k h2 h3 => (F.don x h1 (allD x h1) k h2).2 h3⟩
  · obtain ⟨a, b⟩ := F.fin k h1 (all _ k h1 (Nat.le_refl _))
    exact a.mono (by have := F.cnt; have := G.n2; omega)
  · obtain ⟨p, p1, p2, _, p4, p5⟩ := F.par k h1 (all _ k h1 (Nat.le_refl _)) h2
    exact ⟨p, p1, p2, p4, p5⟩
end Go.Proofs.Ythemmpmjjdpdfaa

/- Plain mathematics of a region's cells: numbers, directions, neighbours, the border. -/
namespace Go.Proofs.Ythemmpmjjdpdfaa
open Go.RowKit Fl
set_option linter.unusedVariables false

/-- The step of a direction. -/
def dxI (d : Nat) : Int := if d = 0 ∨ d = 1 ∨ d = 7 then 1 else if d = 3 ∨ d = 4 ∨ d = 5 then -1 else 0
def dyI (d : Nat) : Int := if d = 1 ∨ d = 2 ∨ d = 3 then 1 else if d = 5 ∨ d = 6 ∨ d = 7 then -1 else 0
theorem dx_in (d : Nat) : -1 ≤ dxI d ∧ dxI d ≤ 1 := by unfold dxI; split <;> (try split) <;> omega
theorem dy_in (d : Nat) : -1 ≤ dyI d ∧ dyI d ≤ 1 := by unfold dyI; split <;> (try split) <;> omega

/-- The neighbour of the cell k in the direction d. -/
def nbI (W H : Nat) (k d : Nat) : Option Nat :=
  if 0 ≤ ((k % W : Nat) : Int) + dxI d ∧ ((k % W : Nat) : Int) + dxI d < W ∧ 0 ≤ ((k / W : Nat) : Int) + dyI d ∧ ((k / W : Nat) : Int) + dyI d < H
  then some ((((k / W : Nat) : Int) + dyI d) * W + (((k % W : Nat) : Int) + dxI d)).toNat else none
def bdB (W H : Nat) (k : Nat) : Bool := decide (k % W = 0 ∨ k / W = 0 ∨ k % W + 1 = W ∨ k / W + 1 = H)

theorem cell_parts {W H k : Nat} (hk : k < W * H) : 1 ≤ W ∧ k % W < W ∧ k / W < H ∧ k = k / W * W + k % W := by
  have hW : 0 < W := by
    rcases Nat.eq_zero_or_pos W with e | e
    · subst e; rw [Nat.zero_mul] at hk; omega
    · exact e
  refine ⟨hW, Nat.mod_lt _ hW, Nat.div_lt_of_lt_mul hk, ?_⟩
  have := Nat.div_add_mod k W
  rw [Nat.mul_comm] at this; omega
theorem cell_mk {W x y : Nat} (hx : x < W) : (y * W + x) % W = x ∧ (y * W + x) / W = y := by
  constructor
  · rw [Nat.mul_comm, Nat.mul_add_mod, Nat.mod_eq_of_lt hx]
  · rw [Nat.mul_comm, Nat.mul_add_div (by omega), Nat.div_eq_of_lt hx, Nat.add_zero]
theorem cell_lt {W H x y : Nat} (hx : x < W) (hy : y < H) : y * W + x < W * H := by
  have : (y + 1) * W ≤ H * W := Nat.mul_le_mul_right _ hy
  rw [Nat.succ_mul, Nat.mul_comm H W] at this; omega

/-- A neighbour, by its column and its row. -/
theorem nbI_some {W H k d m : Nat} (h : nbI W H k d = some m) : ∃ x y : Nat, (x : Int) = ((k % W : Nat) : Int) + dxI d ∧ (y : Int) = ((k / W : Nat) : Int) + dyI d ∧ x < W ∧ y < H ∧ m = y * W + x := by
  unfold nbI at h
  split at h
  · rename_i c
    obtain ⟨c1, c2, c3, c4⟩ := c
    have e := Option.some.inj h
    obtain ⟨x, hx⟩ : ∃ x : Nat, (x : Int) = ((k % W : Nat) : Int) + dxI d := ⟨_, Int.toNat_of_nonneg c1⟩
    obtain ⟨y, hy⟩ : ∃ y : Nat, (y : Int) = ((k / W : Nat) : Int) + dyI d := ⟨_, Int.toNat_of_nonneg c3⟩
    refine ⟨x, y, hx, hy, by omega, by omega, ?_⟩
    rw [← hx, ← hy] at e
    rw [← e, show ((y : Int) * (W : Int) + (x : Int)) = ((y * W + x : Nat) : Int) by simp]
    rfl
  · cases h
theorem nbI_mk {W H k d x y : Nat} (hx : (x : Int) = ((k % W : Nat) : Int) + dxI d) (hy : (y : Int) = ((k / W : Nat) : Int) + dyI d) (h1 : x < W) (h2 : y < H) : nbI W H k d = some (y * W + x) := by
  unfold nbI
  rw [← hx, ← hy, if_pos ⟨by omega, by omega, by omega, by omega⟩, show ((y : Int) * (W : Int) + (x : Int)) = ((y * W + x : Nat) : Int) by simp]
  rfl
theorem nbI_lt {W H k d m : Nat} (h : nbI W H k d = some m) : m < W * H := by
  obtain ⟨x, y, _, _, h1, h2, rfl⟩ := nbI_some h
  exact cell_lt h1 h2
theorem nbI_back {W H k d m : Nat} (hk : k < W * H) (hd : d < 8) (h : nbI W H k d = some m) : ∃ e, e < 8 ∧ nbI W H m e = some k := by
  obtain ⟨x, y, hx, hy, h1, h2, rfl⟩ := nbI_some h
  obtain ⟨_, a, b, c⟩ := cell_parts hk
  obtain ⟨q1, q2⟩ := cell_mk (y := y) h1
  have opp : ∃ e, e < 8 ∧ dxI e = - dxI d ∧ dyI e = - dyI d := by
    have : d = 0 ∨ d = 1 ∨ d = 2 ∨ d = 3 ∨ d = 4 ∨ d = 5 ∨ d = 6 ∨ d = 7 := by omega
    rcases this with rfl | rfl | rfl | rfl | rfl | rfl | rfl | rfl
    · exact ⟨4, by decide, by decide, by decide⟩
    · exact ⟨5, by decide, by decide, by decide⟩
    · exact ⟨6, by decide, by decide, by decide⟩
    · exact ⟨7, by decide, by decide, by decide⟩
    · exact ⟨0, by decide, by decide, by decide⟩
    · exact ⟨1, by decide, by decide, by decide⟩
    · exact ⟨2, by decide, by decide, by decide⟩
    · exact ⟨3, by decide, by decide, by decide⟩
  obtain ⟨e, e8, ex, ey⟩ := opp
  refine ⟨e, e8, ?_⟩
  have := nbI_mk (W := W) (H := H) (k := y * W + x) (d := e) (x := k % W) (y := k / W) (by rw [q1, ex]; omega) (by rw [q2, ey]; omega) a b
  rw [this, ← c]
theorem bdB_iff {W H k : Nat} : bdB W H k = true ↔ (k % W = 0 ∨ k / W = 0 ∨ k % W + 1 = W ∨ k / W + 1 = H) := by unfold bdB; simp
/-- A cell that is not of the border has all eight neighbours. -/
theorem nbI_inner {W H k d : Nat} (hk : k < W * H) (hb : bdB W H k = false) : ∃ m, nbI W H k d = some m := by
  obtain ⟨_, a, b, c⟩ := cell_parts hk
  have nb : ¬ (k % W = 0 ∨ k / W = 0 ∨ k % W + 1 = W ∨ k / W + 1 = H) := fun h => by rw [bdB_iff.2 h] at hb; cases hb
  obtain ⟨x1, x2⟩ := dx_in d
  obtain ⟨y1, y2⟩ := dy_in d
  have mk := fun x y => nbI_mk (W := W) (H := H) (k := k) (d := d) (x := x) (y := y)
  clear c
  generalize k % W = p at *
  generalize k / W = q at *
  exact ⟨_, mk ((p : Int) + dxI d).toNat ((q : Int) + dyI d).toNat (by omega) (by omega) (by omega) (by omega)⟩

/-- The ground of a field. -/
def gndOf (W H : Nat) (v : Nat → Nat) (sl : Nat) : Gnd := ⟨W * H, nbI W H, bdB W H, v, sl⟩
theorem gnd_ok {W H sl : Nat} {v : Nat → Nat} (h1 : 1 ≤ W * H) (h2 : W * H ≤ 65536) (hv : ∀ k, k < W * H → hgtB (v k) = true) (hs : SlW sl) : GndOk (gndOf W H v sl) :=
  ⟨h1, h2, fun _ _ _ h => nbI_lt h, hv, hs, fun _ _ _ hx hd h => nbI_back hx hd h⟩
theorem gnd_joined (W H sl : Nat) (v : Nat → Nat) : Joined (gndOf W H v sl) := by
  refine ⟨fun k => k % W, fun k hk hb => ?_⟩
  have hk' : k < W * H := hk
  obtain ⟨_, a, b, c⟩ := cell_parts hk'
  have nb : ¬ (k % W = 0 ∨ k / W = 0 ∨ k % W + 1 = W ∨ k / W + 1 = H) := fun h => by
    have : bdB W H k = true := bdB_iff.2 h
    have hb' : bdB W H k = false := hb
    rw [this] at hb'; cases hb'
  have hx : k % W - 1 < W := by omega
  obtain ⟨q1, q2⟩ := cell_mk (y := k / W) hx
  refine ⟨k / W * W + (k % W - 1), cell_lt hx b, ⟨0, by omega, ?_⟩, ?_⟩
  · show nbI W H (k / W * W + (k % W - 1)) 0 = some k
    rw [nbI_mk (x := k % W) (y := k / W) (by rw [q1]; have : dxI 0 = 1 := rfl; omega) (by rw [q2]; have : dyI 0 = 0 := rfl; omega) a b, ← c]
  · show (k / W * W + (k % W - 1)) % W < k % W
    rw [q1]; omega
end Go.Proofs.Ythemmpmjjdpdfaa

/- Contracts: the places and the neighbours of cells, as water reckons them. -/
namespace Go.Proofs.Ythemmpmjjdpdfaa
open Go.RowKit Fl
set_option linter.unusedVariables false

abbrev ptV (x y : Int) : Value := .agg #[.int .i64 x, .int .i64 y]
abbrev ptO (x y : Int) : Obj := .cells #[.int .i64 x, .int .i64 y] 40

set_option maxHeartbeats 1000000 in
theorem place_any (X Y : Int) (W H i : Nat) (w : World) (hX1 : -4194304 ≤ X) (hX2 : X ≤ 4194304) (hY1 : -4194304 ≤ Y) (hY2 : Y ≤ 4194304) (hW1 : 1 ≤ W) (hW2 : W ≤ 512) (hi : i < 65536) :
    Calls Try.prog 106 #[reg X Y W H, .int .i64 i] w fun e w' => e = .returned (ptV (X + ((i % W : Nat) : Int)) (Y + ((i / W : Nat) : Int))) ∧ Below w.heap.size w w' := by
  obtain ⟨a, ha⟩ : ∃ a : Nat, a = i % W := ⟨_, rfl⟩
  obtain ⟨b, hb'⟩ : ∃ b : Nat, b = i / W := ⟨_, rfl⟩
  have b1 : (a : Int) < 512 := by have := Nat.mod_lt i (show 0 < W by omega); omega
  have b2 : (b : Int) < 65536 := by have := Nat.div_le_self i W; omega
  have t1 : (i : Int).tmod (W : Int) = (a : Int) := by rw [ha]; rw [Int.tmod_eq_emod_of_nonneg (by omega)]; simp
  have t2 : (i : Int).tdiv (W : Int) = (b : Int) := by rw [hb']; rw [Int.tdiv_eq_ediv_of_nonneg (by omega)]; simp
  have t3 : (i : Int) % (W : Int) = (a : Int) := by rw [ha]; simp
  have t4 : (i : Int) / (W : Int) = (b : Int) := by rw [hb']; simp
  have u1 : IntKind.i64.wrap (X + (a : Int)) = X + a := IntWalk.i64_in _ (by omega)
  have u2 : IntKind.i64.wrap (Y + (b : Int)) = Y + b := IntWalk.i64_in _ (by omega)
  have u3 : IntKind.i64.wrap (b : Int) = b := IntWalk.i64_in _ (by omega)
  have w0 : ¬ ((W : Int) = 0) := by omega
  have w0' : ¬ (W = 0) := by omega
  have t6 : i % W = a := ha.symm
  have t7 : i / W = b := hb'.symm
  have w1 : (1 : Int) ≤ (W : Int) := by omega
  have i0 : (0 : Int) ≤ (i : Int) := by omega
  rw [t6, t7]
  clear ha hb'
  go_enter Try.func106, Try.ntmps106
  go_wp2
  go_region
  all_goals go_wp2
  all_goals refine bodyPost_ret (v := ptV (X + (a : Int)) (Y + (b : Int))) (by simp [results, Try.results106, go_sem]) rfl ?_
  all_goals exact ⟨rfl, by repeat (first | exact Below.refl _ _ | refine Below.drew ?_ | refine Below.alloc ?_ (by simp; try omega) _ | refine Below.setCell ?_ (by simp; try omega) _)⟩

/-- Whether a region has a place. -/
def hasB (X Y W H x y : Int) : Bool := withinB x X (X + W - 1) && withinB y Y (Y + H - 1)

set_option maxHeartbeats 1000000 in
theorem has_any (X Y W H x y : Int) (w : World) (hX1 : -16777216 ≤ X) (hX2 : X ≤ 16777216) (hY1 : -16777216 ≤ Y) (hY2 : Y ≤ 16777216) (hW1 : 0 ≤ W) (hW2 : W ≤ 512) (hH1 : 0 ≤ H) (hH2 : H ≤ 512) :
    Calls Try.prog 183 #[reg X Y W H, .int .i64 x, .int .i64 y] w fun e w' => e = .returned (.bool (hasB X Y W H x y)) ∧ w.alloc (regObj X Y W H) = w' := by
  unfold hasB
  have W1 := Lib.hid (fun w => within_any x X (X + W - 1) w)
  have W2 := Lib.hid (fun w => within_any y Y (Y + H - 1) w)
  generalize withinB x X (X + W - 1) = a at *
  generalize withinB y Y (Y + H - 1) = b at *
  cases a with
  | false =>
    go_enter Try.func183, Try.ntmps183
    go_wp2_with (first | (go_at_call 91; (with_reducible refine (W1.out _).mono ?_); rintro e w' ⟨rfl, rfl⟩) | (go_at_call 91; (with_reducible refine (W2.out _).mono ?_); rintro e w' ⟨rfl, rfl⟩))
    go_ret
    exact ⟨by simp, rfl⟩
  | true =>
    go_enter Try.func183, Try.ntmps183
    go_wp2_with (first | (go_at_call 91; (with_reducible refine (W1.out _).mono ?_); rintro e w' ⟨rfl, rfl⟩) | (go_at_call 91; (with_reducible refine (W2.out _).mono ?_); rintro e w' ⟨rfl, rfl⟩))
    go_ret
    exact ⟨by simp, rfl⟩

set_option maxHeartbeats 1000000 in
theorem indexI_any (X Y W H x y : Int) (w : World) (hX1 : -16777216 ≤ X) (hX2 : X ≤ 16777216) (hY1 : -16777216 ≤ Y) (hY2 : Y ≤ 16777216) (hW1 : 0 ≤ W) (hW2 : W ≤ 512)
    (h1 : -16777216 ≤ x) (h2 : x ≤ 16777216) (h3 : -16777216 ≤ y) (h4 : y ≤ 16777216) :
    Calls Try.prog 89 #[reg X Y W H, .int .i64 x, .int .i64 y] w fun e w' => e = .returned (.int .i64 ((y - Y) * W + (x - X))) ∧ w.alloc (regObj X Y W H) = w' := by
  have q1 : (y - Y) * W ≤ 33554432 * W := Int.mul_le_mul_of_nonneg_right (by omega) hW1
  have q2 : (-33554432) * W ≤ (y - Y) * W := Int.mul_le_mul_of_nonneg_right (by omega) hW1
  have e2 : wrap64 ((y - Y) * W) = (y - Y) * W := IntWalk.wrap64_in _ ⟨by omega, by omega⟩
  have e3 : wrap64 ((y - Y) * W + x) = (y - Y) * W + x := IntWalk.wrap64_in _ ⟨by omega, by omega⟩
  have e4 : wrap64 ((y - Y) * W + x - X) = (y - Y) * W + (x - X) := by rw [IntWalk.wrap64_in _ ⟨by omega, by omega⟩]; omega
  clear q1 q2
  go_enter Try.func89, Try.ntmps89
  go_wp2
  go_ret
  exact ⟨ret_int e4, rfl⟩

/-- A neighbour of the cell k, as water reckons it. -/
theorem bes_some {X Y : Int} {W H k d m : Nat} (hk : k < W * H) (h : nbI W H k d = some m) :
    (Y + ((k / W : Nat) : Int) + dyI d - Y) * (W : Int) + (X + ((k % W : Nat) : Int) + dxI d - X) = (m : Int) ∧ hasB X Y W H (X + ((k % W : Nat) : Int) + dxI d) (Y + ((k / W : Nat) : Int) + dyI d) = true := by
  obtain ⟨x, y, hx, hy, h1, h2, rfl⟩ := nbI_some h
  constructor
  · rw [show Y + ((k / W : Nat) : Int) + dyI d - Y = (y : Int) by omega, show X + ((k % W : Nat) : Int) + dxI d - X = (x : Int) by omega]; simp
  · unfold hasB; rw [Bool.and_eq_true, withinB_iff, withinB_iff]; omega
theorem bes_none {X Y : Int} {W H k d : Nat} (h : nbI W H k d = none) : hasB X Y W H (X + ((k % W : Nat) : Int) + dxI d) (Y + ((k / W : Nat) : Int) + dyI d) = false := by
  cases e : hasB X Y W H (X + ((k % W : Nat) : Int) + dxI d) (Y + ((k / W : Nat) : Int) + dyI d) with
  | false => rfl
  | true =>
    unfold hasB at e
    rw [Bool.and_eq_true, withinB_iff, withinB_iff] at e
    generalize hp : k % W = p at *
    generalize hq : k / W = q at *
    have := nbI_mk (W := W) (H := H) (k := k) (d := d) (x := ((p : Int) + dxI d).toNat) (y := ((q : Int) + dyI d).toNat) (by rw [hp]; omega) (by rw [hq]; omega) (by omega) (by omega)
    rw [h] at this; cases this
end Go.Proofs.Ythemmpmjjdpdfaa

/- Contracts: Hash, Unit, Signed of both sides. -/
namespace Go.Proofs.Ythemmpmjjdpdfaa
open Go.RowKit Fl
set_option linter.unusedVariables false

/-- Exclusive or of two words of 32 bits. -/
def xorU (a b : Int) : Int := bits .xor .u32 a b
theorem xorU_in (a b : Int) : 0 ≤ xorU a b ∧ xorU a b < 4294967296 := by
  unfold xorU bits; simp only [IntKind.wrap_u32]; omega
def stA (h : Int) : Int := xorU h (h / 65536) * 2246822507 % 4294967296
def stB (h : Int) : Int := xorU h (h / 8192) * 3266489909 % 4294967296
def stC (h : Int) : Int := xorU h (h / 65536)
/-- Stirred once. -/
def stirI (h : Int) : Int := stC (stB (stA h))
theorem stirI_in (h : Int) : 0 ≤ stirI h ∧ stirI h < 4294967296 := xorU_in _ _
/-- The state behind one more whole number. -/
def stepI (h n : Int) : Int := stirI (xorU h (n % 4294967296))
theorem stepI_in (h n : Int) : 0 ≤ stepI h n ∧ stepI h n < 4294967296 := stirI_in _
def hashI (s x y n : Int) : Int := stepI (stepI (stepI s x) y) n
theorem hashI_in (s x y n : Int) : 0 ≤ hashI s x y n ∧ hashI s x y n < 4294967296 := stepI_in _ _

/-- The reference's rounds: the place and the state. -/
inductive HashAt (s x y n : Int) : Value → Value → Prop where
  | z : HashAt s x y n (.int .u32 s) (.int .i64 0)
  | a : HashAt s x y n (.int .u32 (stepI s x)) (.int .i64 1)
  | b : HashAt s x y n (.int .u32 (stepI (stepI s x) y)) (.int .i64 2)
  | c : HashAt s x y n (.int .u32 (hashI s x y n)) (.int .i64 3)

end Go.Proofs.Ythemmpmjjdpdfaa

/- Contracts: the laws' within, when, first (of two, of three). -/
namespace Go.Proofs.Ythemmpmjjdpdfaa
open Go.RowKit
set_option linter.unusedVariables false

set_option maxHeartbeats 400000 in
theorem mWithin_any (n a b : Int) (w : World) :
    Calls Try.prog 29 #[.int .i64 n, .int .i64 a, .int .i64 b] w fun e w' => e = .returned (.bool (withinB n a b)) ∧ w = w' := by
  go_enter Try.func29, Try.ntmps29
  go_wp2
  all_goals go_ret
  all_goals exact ⟨ret_bool (by rw [Bool.eq_iff_iff, withinB_iff]; simp; omega), rfl⟩

def whenE (c : Bool) (k : Int) : Int := if c = true then k else 0
set_option maxHeartbeats 400000 in
theorem when_any (c : Bool) (k : Int) (w : World) :
    Calls Try.prog 28 #[.bool c, .int .i64 k] w fun e w' => e = .returned (.int .i64 (whenE c k)) ∧ w = w' := by
  unfold whenE
  cases c
  all_goals
    go_enter Try.func28, Try.ntmps28
    go_wp2
    go_ret
    exact ⟨rfl, rfl⟩

inductive FirstAt (a b : Int) : Value → Prop where
  | z : FirstAt a b (.int .i64 0)
  | a (h : a = 0) : FirstAt a b (.int .i64 1)
  | b (h : a = 0) (h' : b = 0) : FirstAt a b (.int .i64 2)
def firstE (a b : Int) : Int := if a = 0 then b else a
set_option maxHeartbeats 1000000 in
theorem first2_any (a b : Int) (p : Nat) (w : World) (h : w.heap[p]? = some (.cells #[.int .i64 a, .int .i64 b] 31)) :
    Calls Try.prog 27 #[.slice (some ⟨p, 0, none⟩) 2 2] w fun e w' => e = .returned (.int .i64 (firstE a b)) ∧ w = w' := by
  unfold firstE
  obtain ⟨c, f, z⟩ := blkC h
  clear h
  go_enter Try.func27, Try.ntmps27
  go_wp2
  go_loop [7] (fun i => FirstAt a b i) (fun i => 2 - (intOf i).toNat)
  case atStart => exact .z
  case round =>
    rcases hrel with _ | ha | ⟨ha, hb⟩
    · by_cases h0 : a = 0
      · subst h0
        go_wp2
        go_round
        case rel => exact .a rfl
        case measure => simp [intOf]
      · go_wp2
        go_ret
        exact ⟨by simp, rfl⟩
    · subst ha
      by_cases h0 : b = 0
      · subst h0
        go_wp2
        go_round
        case rel => exact .b rfl rfl
        case measure => simp [intOf]
      · go_wp2
        go_ret
        exact ⟨rfl, rfl⟩
    · subst ha hb
      go_wp2
      go_ret
      exact ⟨rfl, rfl⟩

theorem firstE_zero {a b : Int} (h : firstE a b = 0) : a = 0 ∧ b = 0 := by
  unfold firstE at h
  by_cases q : a = 0
  · rw [if_pos q] at h; exact ⟨q, h⟩
  · rw [if_neg q] at h; exact absurd h q
theorem whenE_zero {c : Bool} {k : Int} (hk : k ≠ 0) (h : whenE c k = 0) : c = false := by
  unfold whenE at h
  cases c with
  | false => rfl
  | true => rw [if_pos rfl] at h; exact absurd h hk

inductive First3At (a b c : Int) : Value → Prop where
  | z : First3At a b c (.int .i64 0)
  | a (h : a = 0) : First3At a b c (.int .i64 1)
  | b (h : a = 0) (h' : b = 0) : First3At a b c (.int .i64 2)
  | c (h : a = 0) (h' : b = 0) (h'' : c = 0) : First3At a b c (.int .i64 3)
set_option maxHeartbeats 1000000 in
theorem first3_any (a b c : Int) (p : Nat) (w : World) (h : w.heap[p]? = some (.cells #[.int .i64 a, .int .i64 b, .int .i64 c] 31)) :
    Calls Try.prog 27 #[.slice (some ⟨p, 0, none⟩) 3 3] w fun e w' => e = .returned (.int .i64 (firstE (firstE a b) c)) ∧ w = w' := by
  unfold firstE
  obtain ⟨cc, f, z⟩ := blkC h
  clear h
  go_enter Try.func27, Try.ntmps27
  go_wp2
  go_loop [7] (fun i => First3At a b c i) (fun i => 3 - (intOf i).toNat)
  case atStart => exact .z
  case round =>
    rcases hrel with _ | ha | ⟨ha, hb⟩ | ⟨ha, hb, hc⟩
    · by_cases h0 : a = 0
      · subst h0
        go_wp2
        go_round
        case rel => exact .a rfl
        case measure => simp [intOf]
      · go_wp2
        go_ret
        exact ⟨by first | (simp; done) | simp [h0], rfl⟩
    · subst ha
      by_cases h0 : b = 0
      · subst h0
        go_wp2
        go_round
        case rel => exact .b rfl rfl
        case measure => simp [intOf]
      · go_wp2
        go_ret
        exact ⟨by first | (simp; done) | simp [h0], rfl⟩
    · subst ha hb
      by_cases h0 : c = 0
      · subst h0
        go_wp2
        go_round
        case rel => exact .c rfl rfl rfl
        case measure => simp [intOf]
      · go_wp2
        go_ret
        exact ⟨by first | (simp; done) | simp [h0], rfl⟩
    · subst ha hb hc
      go_wp2
      go_ret
      exact ⟨rfl, rfl⟩
end Go.Proofs.Ythemmpmjjdpdfaa

/- Contracts: the reference's RegionError, Place, Mixed; the law's within, when, first (of two). -/
namespace Go.Proofs.Ythemmpmjjdpdfaa
open Go.RowKit Fl
set_option linter.unusedVariables false

set_option maxHeartbeats 400000 in
theorem qRegionError_any (x y ww hh : Int) (w : World) :
    Calls Try.prog 79 #[reg x y ww hh] w fun e w' => e = .returned (.int .i64 (checkR x y ww hh)) ∧ w' = w.alloc (regObj x y ww hh) := by
  go_enter Try.func79, Try.ntmps79
  go_wp2
  all_goals go_ret
  all_goals refine ⟨ret_int (Eq.symm ?_), rfl⟩
  all_goals first
    | exact checkR_range (by simp only [withinB_no]; omega)
    | exact checkR_large (by simp only [withinB_iff]; omega) (by simp only [withinB_iff]; omega) (by omega)
    | exact checkR_place (by simp only [withinB_iff]; omega) (by simp only [withinB_iff]; omega) (by omega) (by simp only [withinB_no]; omega)
    | exact checkR_ok (by simp only [withinB_iff]; omega) (by simp only [withinB_iff]; omega) (by omega) (by simp only [withinB_iff]; omega) (by simp only [withinB_iff]; omega)

end Go.Proofs.Ythemmpmjjdpdfaa

/- Contracts: CheckWithin; Ease of both sides; the reference's operations of any words at all. -/
namespace Go.Proofs.Ythemmpmjjdpdfaa
open Go.RowKit Fl
set_option linter.unusedVariables false

/-- The error of a single that should be from a to b. -/
def wiE (x a b : Nat) : Int := if finB x = false then 2 else if (FloatKind.f32.format.order x a == some .lt) = true ∨ (FloatKind.f32.format.order x b == some .gt) = true then 3 else 0

set_option maxHeartbeats 400000 in
theorem checkWithin_any (x a b : Nat) (w : World) :
    Calls Try.prog 109 #[.float .f32 x, .float .f32 a, .float .f32 b] w fun e w' => e = .returned (.int .i64 (wiE x a b)) ∧ w = w' := by
  have IH := Lib.hid (fun w => isFinite_any x w)
  unfold wiE
  cases hf : finB x with
  | false =>
    rw [hf] at IH
    clear hf
    go_enter Try.func109, Try.ntmps109
    go_wp2_with (go_at_call 158; refine (IH.out _).mono ?_; rintro e w' ⟨rfl, rfl⟩)
    go_ret
    exact ⟨ret_int rfl, rfl⟩
  | true =>
    rw [hf] at IH
    clear hf
    cases h1 : (FloatKind.f32.format.order x a == some .lt) with
    | true =>
      go_enter Try.func109, Try.ntmps109
      go_wp2_with (go_at_call 158; refine (IH.out _).mono ?_; rintro e w' ⟨rfl, rfl⟩)
      go_ret
      exact ⟨ret_int rfl, rfl⟩
    | false =>
      cases h2 : (FloatKind.f32.format.order x b == some .gt) with
      | true =>
        go_enter Try.func109, Try.ntmps109
        go_wp2_with (go_at_call 158; refine (IH.out _).mono ?_; rintro e w' ⟨rfl, rfl⟩)
        go_ret
        exact ⟨ret_int rfl, rfl⟩
      | false =>
        go_enter Try.func109, Try.ntmps109
        go_wp2_with (go_at_call 158; refine (IH.out _).mono ?_; rintro e w' ⟨rfl, rfl⟩)
        go_ret
        exact ⟨ret_int rfl, rfl⟩

theorem choose_loose (q : Question) (k : FloatKind) (w : World) : ∃ r n, ((do pure (Value.float k (← choose q))) : Sem Value).run Try.prog w = .ok (.float k r) (w.drewN n) := by
  by_cases h : q.forced = true
  · exact ⟨0, 0, by simp [h, World.drewN]⟩
  · exact ⟨q.cut (w.tape w.drawn q), 1, by simp [h]; rfl⟩

theorem conv_loose (src dst : TypeId) (s k : FloatKind) (b : Nat) (hs : (Try.prog.underlying src).isSome = true) (hd : Try.prog.underlying dst = some (.float k)) (w : World) :
    ∃ r n, (convert src dst (.float s b)).run Try.prog w = .ok (.float k r) (w.drewN n) := by
  obtain ⟨u, hs'⟩ := Option.isSome_iff_exists.1 hs
  have key : ∃ r n, (Conv.floatToFloat s b k).run Try.prog w = .ok (.float k r) (w.drewN n) := by
    unfold Conv.floatToFloat
    by_cases e : s = k
    · exact ⟨b, 0, by simp [e, World.drewN]⟩
    · rw [if_neg e]
      cases hd : s.decode b with
      | nan g f => exact choose_loose _ k w
      | infinity g => exact ⟨_, 0, rfl⟩
      | number g m i =>
        simp only
        split
        · exact choose_loose _ k w
        · exact ⟨_, 0, rfl⟩
  obtain ⟨r, n, h⟩ := key
  refine ⟨r, n, ?_⟩
  rw [← h]
  cases u <;> simp [convert, run_underlying hs', run_underlying hd]

theorem arith_loose (op : BinOp) (t : TypeId) (k : FloatKind) (x y : Nat) (ho : op = .add ∨ op = .sub ∨ op = .mul) (w : World) :
    ∃ r n, (binOp op t (.float k x) (.float k y)).run Try.prog w = .ok (.float k r) (w.drewN n) := by
  cases h : floatBits op k x y with
  | some r => exact ⟨r, 0, run_float_arith w op t k x y r h⟩
  | none =>
    obtain ⟨r, n, c⟩ := choose_loose (.nanBits k x y) k w
    refine ⟨r, n, ?_⟩
    rw [← c]
    unfold floatBits at h
    rcases ho with rfl | rfl | rfl
    all_goals simp only at h
    all_goals simp [binOp, Op.floatArith, h]

/-- Some single; the world has drawn at most. -/
def LooseF (w : World) (e : Ending) (w' : World) : Prop := ∃ r n, e = .returned (.float .f32 r) ∧ w' = w.drewN n

theorem drewN_two (w : World) (a b : Nat) : (w.drewN a).drewN b = w.drewN (a + b) := by simp [World.drewN, Nat.add_assoc]

end Go.Proofs.Ythemmpmjjdpdfaa

/- Contracts: CheckCarving, CarvingError; deep, Depth, DepthOf; the first error of three. -/
namespace Go.Proofs.Ythemmpmjjdpdfaa
open Go.RowKit Fl
set_option linter.unusedVariables false

/-- How deep a cell is cut, as a word. -/
def depW (rate least most : Nat) (amount : Int) (drop : Nat) : Nat :=
  if amount < 1 ∨ (FloatKind.f32.format.order drop 0 == some .gt) = false then 0
  else if (FloatKind.f32.format.order (cutD rate amount drop) least == some .lt) = true then 0 else lesW (lesW (cutD rate amount drop) most) (halfW drop)

/-- A carving. -/
abbrev carV (rate least most : Nat) (steps : Int) : Value := .agg #[.float .f32 rate, .float .f32 least, .float .f32 most, .int .i64 steps]

set_option maxHeartbeats 400000 in
theorem qRoot_any {x : Nat} {a c : Int} {X Z : Nat} (R : RootAt x a X Z c) (w : World) :
    Calls Try.prog 145 #[.float .f32 x] w fun e w' => e = .returned (.float .f32 (rootW x)) ∧ w = w' := by
  have d1 := fun (W : World) => run_convert_float_float (P := Try.prog) W 27 97 .f32 .f64 x X (by kernel_rfl) Try.underlying97 R.up
  have d2 := fun (W : World) => run_convert_float_float (P := Try.prog) W 97 27 .f64 .f32 Z (rootW x) (by kernel_rfl) Try.underlying27 R.dn
  have MS := Lib.hid (fun w => mathSqrt_num X Z R.sq w)
  generalize rootW x = r at *
  clear R
  go_enter Try.func145, Try.ntmps145
  go_wp2_with (go_at_call 178; refine (MS.out _).mono ?_; rintro e w' ⟨rfl, rfl⟩)
  go_ret
  exact ⟨rfl, rfl⟩

/-- How deep, without errors: both sides. -/
def DepPost (w : World) (rate least most : Nat) (amount : Int) (drop : Nat) (e : Ending) (w' : World) : Prop :=
  e = .returned (.float .f32 (depW rate least most amount drop)) ∧ Below w.heap.size w w'

/-- Three singles, as a list. -/
def three (a b c : Nat) (i : Nat) : Nat := if i = 0 then a else if i = 1 then b else c
theorem flAt_three {w : World} {p a b c : Nat} (h : w.heap[p]? = some (.cells #[.float .f32 a, .float .f32 b, .float .f32 c] 27)) : FlAt w p 0 3 (three a b c) := by
  intro i hi
  rw [Nat.zero_add, (blkC h).1 i]
  have : i = 0 ∨ i = 1 ∨ i = 2 := by omega
  rcases this with rfl | rfl | rfl <;> rfl
theorem three_hgt {a b c : Nat} (h : fldE 3 (three a b c) = 0) : hgtB a = true ∧ hgtB b = true ∧ hgtB c = true := by
  have := allB_iff.1 (fldE_zero.1 h)
  exact ⟨this 0 (by omega), this 1 (by omega), this 2 (by omega)⟩
/-- A carving's error behind its singles. -/
def carE2 (rate least most : Nat) (steps : Int) : Int :=
  if (FloatKind.f32.format.order rate 0 == some .lt) = true ∨ (FloatKind.f32.format.order rate 1065353216 == some .gt) = true ∨ (FloatKind.f32.format.order least 0 == some .lt) = true then 3
  else if (FloatKind.f32.format.order most least == some .lt) = true then 8 else if withinB steps 0 50 = true then 0 else 3
/-- A carving's error. -/
def carE (rate least most : Nat) (steps : Int) : Int := if fldE 3 (three rate least most) = 0 then carE2 rate least most steps else fldE 3 (three rate least most)

end Go.Proofs.Ythemmpmjjdpdfaa
