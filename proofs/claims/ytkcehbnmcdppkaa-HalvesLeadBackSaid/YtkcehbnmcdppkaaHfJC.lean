/- Lemmas and contracts for the proof that the last text of this claim holds. -/
import Derived.Test.YtkcehbnmcdppkaaHfJB
import Derived.WalkKit
import Derived.Deep.RegionHeld3
import Derived.Deep.AppendLies
import Derived.Deep.RegionLaw
import Derived.Maps.OwnOps
import Derived.Lib.Hide
import Derived.RegionTactic
import Derived.ChangeAlike
import Derived.StillTailTactics

/- Sums, products and quotients of singles as words. -/
namespace Go.Proofs.Ytkcehbnmcdppkaa
open Go.RowKit Fl
set_option linter.unusedVariables false

/-- What an operation on singles answers stays below 2 ^ 32. -/
theorem opt_lt {d : Option Ieee.Datum} {r : Nat} (h : d.map Ieee.single.write = some r) : r < 4294967296 := by
  cases d with
  | none => cases h
  | some d => cases h; exact Ieee.Format.write_lt Ieee.single d

/-- The lesser, the greater, as words: the first one where they are equal. -/
def lesW (x y : Nat) : Nat := if (FloatKind.f32.format.order y x == some .lt) = true then y else x
def grtW (x y : Nat) : Nat := if (FloatKind.f32.format.order y x == some .gt) = true then y else x

def quoW (a b : Nat) : Nat := (floatBits .quo .f32 a b).getD 0
def subW (a b : Nat) : Nat := (floatBits .sub .f32 a b).getD 0
def addW (a b : Nat) : Nat := (floatBits .add .f32 a b).getD 0
def mulW (a b : Nat) : Nat := (floatBits .mul .f32 a b).getD 0
def ltB (a b : Nat) : Bool := FloatKind.f32.format.order a b == some .lt

theorem same_ex {op : BinOp} {k x y : Nat} (h : Same2 op k x y) : ∃ r, floatBits op .f32 x y = some r ∧ Bd k r := by
  obtain ⟨_, _, _, r, _, _, _, _, e, b⟩ := h.ex
  exact ⟨r, e, b⟩
theorem sub_lt {x y r : Nat} (h : floatBits .sub .f32 x y = some r) : r < 4294967296 := opt_lt (d := (Ieee.single.read x).sum (Ieee.single.read y).opposite) h
theorem mul_lt {x y r : Nat} (h : floatBits .mul .f32 x y = some r) : r < 4294967296 := opt_lt (d := (Ieee.single.read x).product (Ieee.single.read y)) h
theorem add_lt {x y r : Nat} (h : floatBits .add .f32 x y = some r) : r < 4294967296 := opt_lt (d := (Ieee.single.read x).sum (Ieee.single.read y)) h

end Go.Proofs.Ytkcehbnmcdppkaa

/- Contracts: the reference's add, sub, mul; scaled, clamped; lesser, greater; At; Check of a right field. -/
namespace Go.Proofs.Ytkcehbnmcdppkaa
open Go.RowKit Fl
set_option linter.unusedVariables false

theorem ret_fl {k : FloatKind} {a b : Nat} (h : a = b) : Ending.returned (.float k a) = .returned (.float k b) := by rw [h]

set_option maxHeartbeats 400000 in
theorem refAdd_any (k x y r : Nat) (h : Same2 .add k x y) (hr : floatBits .add .f32 x y = some r) (w : World) :
    Calls Try.prog 96 #[.float .f32 x, .float .f32 y] w fun e w' => e = .returned (.float .f32 r) ∧ w = w' := by
  obtain ⟨X, Y, Z, r', h1, h2, h3, h4, h5, _⟩ := h.ex
  rw [hr] at h5
  have h5 := Option.some.inj h5
  subst h5
  have c1 := fun (W : World) => run_convert_float_float (P := Try.prog) W 22 32 .f32 .f64 x X (by kernel_rfl) Try.underlying32 h1
  have c2 := fun (W : World) => run_convert_float_float (P := Try.prog) W 22 32 .f32 .f64 y Y (by kernel_rfl) Try.underlying32 h2
  have c3 := fun (W : World) => run_float_arith (P := Try.prog) W .add 32 .f64 X Y Z h3
  have c4 := fun (W : World) => run_convert_float_float (P := Try.prog) W 32 22 .f64 .f32 Z r (by kernel_rfl) Try.underlying22 h4
  clear h1 h2 h3 h4 hr h
  go_enter Try.func96, Try.ntmps96
  go_wp2
  go_ret
  exact ⟨rfl, rfl⟩

set_option maxHeartbeats 400000 in
theorem refMul_any (k x y r : Nat) (h : Same2 .mul k x y) (hr : floatBits .mul .f32 x y = some r) (w : World) :
    Calls Try.prog 94 #[.float .f32 x, .float .f32 y] w fun e w' => e = .returned (.float .f32 r) ∧ w = w' := by
  obtain ⟨X, Y, Z, r', h1, h2, h3, h4, h5, _⟩ := h.ex
  rw [hr] at h5
  have h5 := Option.some.inj h5
  subst h5
  have c1 := fun (W : World) => run_convert_float_float (P := Try.prog) W 22 32 .f32 .f64 x X (by kernel_rfl) Try.underlying32 h1
  have c2 := fun (W : World) => run_convert_float_float (P := Try.prog) W 22 32 .f32 .f64 y Y (by kernel_rfl) Try.underlying32 h2
  have c3 := fun (W : World) => run_float_arith (P := Try.prog) W .mul 32 .f64 X Y Z h3
  have c4 := fun (W : World) => run_convert_float_float (P := Try.prog) W 32 22 .f64 .f32 Z r (by kernel_rfl) Try.underlying22 h4
  clear h1 h2 h3 h4 hr h
  go_enter Try.func94, Try.ntmps94
  go_wp2
  go_ret
  exact ⟨rfl, rfl⟩

/-- Clamped, as the reference does it. -/
def clpW (v a b : Nat) : Nat := if (FloatKind.f32.format.order v a == some .lt) = true then a else if (FloatKind.f32.format.order v b == some .gt) = true then b else v

set_option maxHeartbeats 400000 in
theorem lesser_any (x y : Nat) (w : World) :
    Calls Try.prog 138 #[.float .f32 x, .float .f32 y] w fun e w' => e = .returned (.float .f32 (lesW x y)) ∧ w = w' := by
  unfold lesW
  go_enter Try.func138, Try.ntmps138
  go_wp2
  all_goals go_ret
  all_goals refine ⟨ret_fl ?_, rfl⟩
  all_goals simp_all

set_option maxHeartbeats 400000 in
theorem greater_any (x y : Nat) (w : World) :
    Calls Try.prog 82 #[.float .f32 x, .float .f32 y] w fun e w' => e = .returned (.float .f32 (grtW x y)) ∧ w = w' := by
  unfold grtW
  go_enter Try.func82, Try.ntmps82
  go_wp2
  all_goals go_ret
  all_goals refine ⟨ret_fl ?_, rfl⟩
  all_goals simp_all

theorem clp_eq {v a b : Nat} (hv : finB v = true) (ha : finB a = true) (hb : finB b = true) (hab : (FloatKind.f32.format.order a b == some .gt) = false) : lesW (grtW v a) b = clpW v a b := by
  rw [show FloatKind.f32.format = Ieee.single from rfl] at hab
  unfold finB at hv ha hb
  obtain ⟨i, hi⟩ := Option.isSome_iff_exists.1 hv
  obtain ⟨j, hj⟩ := Option.isSome_iff_exists.1 ha
  obtain ⟨k, hk⟩ := Option.isSome_iff_exists.1 hb
  rw [gtr_val hj hk] at hab
  unfold lesW grtW clpW
  rw [show FloatKind.f32.format = Ieee.single from rfl, gtr_val hj hi, lss_val hi hj, gtr_val hi hk]
  simp only [decide_eq_true_eq, decide_eq_false_iff_not] at *
  by_cases c : i < j
  · rw [if_pos c, if_pos c, lss_val hk hj]; simp only [decide_eq_true_eq]; rw [if_neg (by omega)]
  · rw [if_neg c, if_neg c, lss_val hk hi]; simp only [decide_eq_true_eq]

set_option maxHeartbeats 1000000 in
theorem refAt_any (X Y : Int) (W H n b cap i : Nat) (v : Nat → Nat) (x y : Int) (w : World) (hX1 : -16777216 ≤ X) (hX2 : X ≤ 16777216) (hY1 : -16777216 ≤ Y) (hY2 : Y ≤ 16777216) (hW1 : 1 ≤ W) (hW2 : W ≤ 512) (hH2 : H ≤ 512)
    (h1 : X ≤ x) (h2 : x < X + W) (h3 : Y ≤ y) (h4 : y < Y + H) (hi : (i : Int) = (y - Y) * W + (x - X)) (hn : i < n) (hn2 : n ≤ 65536) (hc : FlAt w b 0 n v) :
    Calls Try.prog 95 #[fldV X Y W H (.slice (some ⟨b, 0, none⟩) n cap), .int .i64 x, .int .i64 y] w fun e w' => e = .returned (.float .f32 (v i)) ∧ w.alloc (fldO X Y W H (.slice (some ⟨b, 0, none⟩) n cap)) = w' := by
  have hq : 0 ≤ (y - Y) * W := Int.mul_nonneg (by omega) (by omega)
  have e1 : wrap64 (y - Y) = y - Y := IntWalk.wrap64_in _ ⟨by omega, by omega⟩
  have e2 : wrap64 ((y - Y) * W) = (y - Y) * W := IntWalk.wrap64_in _ ⟨by omega, by omega⟩
  have e3 : wrap64 ((y - Y) * W + x) = (y - Y) * W + x := IntWalk.wrap64_in _ ⟨by omega, by omega⟩
  have e4 : wrap64 ((y - Y) * W + x - X) = (i : Int) := by rw [IntWalk.wrap64_in _ ⟨by omega, by omega⟩]; omega
  have hcell := hc i hn
  rw [Nat.zero_add] at hcell
  have hlt : b < w.heap.size := World.block_lt_of_cell? w _ hcell
  clear hi hq hc
  go_enter Try.func95, Try.ntmps95
  go_wp2
  go_ret
  exact ⟨rfl, rfl⟩

set_option maxHeartbeats 1000000 in
theorem check_ok (X Y : Int) (W H n b cap : Nat) (v : Nat → Nat) (w : World) (h0 : checkR X Y W H = 0) (hn : n = W * H) (hc : FlAt w b 0 n v) (hh : allB n (fun i => hgtB (v i)) = true) :
    Calls Try.prog 87 #[fldV X Y W H (.slice (some ⟨b, 0, none⟩) n cap)] w fun e w' => e = .returned (.int .i64 0) ∧ Below w.heap.size w w' := by
  have HH := Lib.hid (fldE_zero.2 hh)
  obtain ⟨b1, b2, b3, b4, b5, _⟩ := checkR_zero h0
  have en : wrap64 ((W : Int) * (H : Int)) = (n : Int) := by
    have : ((W : Int) * (H : Int)) = (n : Int) := by rw [hn]; simp
    rw [this]; rw [this] at b5; exact IntWalk.wrap64_in _ ⟨by omega, by omega⟩
  have hn2 : n ≤ 65536 := by
    have : ((W : Int) * (H : Int)) = (n : Int) := by rw [hn]; simp
    omega
  have h1 : 1 ≤ n := by
    have := Nat.mul_pos (by omega : 0 < W) (by omega : 0 < H)
    omega
  have hlt : b < w.heap.size := World.block_lt_of_cell? w _ (hc 0 h1)
  have CH := Lib.hid (fun W' (hb : Below w.heap.size w W') => CheckHeights_row b 0 cap n v (by omega) W' (flAt_congr hc (hb.block _ hlt)))
  rw [HH.out] at CH
  have RC := Lib.hid (fun w => checkRegion_any X Y W H w)
  rw [h0] at RC
  clear hn hc hh h0 b5
  go_enter Try.func87, Try.ntmps87
  go_wp2_with (first | (go_at_call 84; refine (RC.out _).mono ?_; rintro e w' ⟨rfl, rfl⟩) | (go_at_call 76; refine (CH.out _ (by repeat (first | exact Below.refl _ _ | refine Below.alloc ?_ (by first | omega | (simp; done) | (simp; omega)) _ | refine Below.setCell ?_ (by first | omega | (simp; done) | (simp; omega)) _ | refine Below.drew ?_))).mono ?_; rintro e w' ⟨rfl, rfl⟩))
  go_ret
  exact ⟨rfl, (by repeat (first | exact Below.refl _ _ | refine Below.alloc ?_ (by first | omega | (simp; done) | (simp; omega)) _ | refine Below.setCell ?_ (by first | omega | (simp; done) | (simp; omega)) _ | refine Below.drew ?_))⟩

end Go.Proofs.Ytkcehbnmcdppkaa

/- Contracts: Hash, Unit, Signed of both sides. -/
namespace Go.Proofs.Ytkcehbnmcdppkaa
open Go.RowKit Fl
set_option linter.unusedVariables false

/-- Exclusive or of two words of 32 bits. -/
def xorU (a b : Int) : Int := bits .xor .u32 a b
theorem xorU_in (a b : Int) : 0 ≤ xorU a b ∧ xorU a b < 4294967296 := by
  unfold xorU bits; simp only [IntKind.wrap_u32]; omega
def stA (h : Int) : Int := xorU h (h / 65536) * 2246822507 % 4294967296
def stB (h : Int) : Int := xorU h (h / 8192) * 3266489909 % 4294967296
def stC (h : Int) : Int := xorU h (h / 65536)
/-- Stirred once. -/
def stirI (h : Int) : Int := stC (stB (stA h))
theorem stirI_in (h : Int) : 0 ≤ stirI h ∧ stirI h < 4294967296 := xorU_in _ _
/-- The state behind one more whole number. -/
def stepI (h n : Int) : Int := stirI (xorU h (n % 4294967296))
theorem stepI_in (h n : Int) : 0 ≤ stepI h n ∧ stepI h n < 4294967296 := stirI_in _
def hashI (s x y n : Int) : Int := stepI (stepI (stepI s x) y) n
theorem hashI_in (s x y n : Int) : 0 ≤ hashI s x y n ∧ hashI s x y n < 4294967296 := stepI_in _ _

set_option maxHeartbeats 400000 in
theorem refConv_any (n : Int) (w : World) :
    Calls Try.prog 102 #[.int .i64 n] w fun e w' => e = .returned (.float .f32 (floatOfInt .f32 n)) ∧ w = w' := by
  go_enter Try.func102, Try.ntmps102
  go_wp2
  go_ret
  exact ⟨rfl, rfl⟩

/-- The reference's rounds: the place and the state. -/
inductive HashAt (s x y n : Int) : Value → Value → Prop where
  | z : HashAt s x y n (.int .u32 s) (.int .i64 0)
  | a : HashAt s x y n (.int .u32 (stepI s x)) (.int .i64 1)
  | b : HashAt s x y n (.int .u32 (stepI (stepI s x) y)) (.int .i64 2)
  | c : HashAt s x y n (.int .u32 (hashI s x y n)) (.int .i64 3)

end Go.Proofs.Ytkcehbnmcdppkaa

/- Contracts: CheckWithin; Ease of both sides; the reference's operations of any words at all. -/
namespace Go.Proofs.Ytkcehbnmcdppkaa
open Go.RowKit Fl
set_option linter.unusedVariables false

/-- The error of a single that should be from a to b. -/
def wiE (x a b : Nat) : Int := if finB x = false then 2 else if (FloatKind.f32.format.order x a == some .lt) = true ∨ (FloatKind.f32.format.order x b == some .gt) = true then 3 else 0

set_option maxHeartbeats 400000 in
theorem checkWithin_any (x a b : Nat) (w : World) :
    Calls Try.prog 127 #[.float .f32 x, .float .f32 a, .float .f32 b] w fun e w' => e = .returned (.int .i64 (wiE x a b)) ∧ w = w' := by
  have IH := Lib.hid (fun w => isFinite_any x w)
  unfold wiE
  cases hf : finB x with
  | false =>
    rw [hf] at IH
    clear hf
    go_enter Try.func127, Try.ntmps127
    go_wp2_with (go_at_call 135; refine (IH.out _).mono ?_; rintro e w' ⟨rfl, rfl⟩)
    go_ret
    exact ⟨ret_int rfl, rfl⟩
  | true =>
    rw [hf] at IH
    clear hf
    cases h1 : (FloatKind.f32.format.order x a == some .lt) with
    | true =>
      go_enter Try.func127, Try.ntmps127
      go_wp2_with (go_at_call 135; refine (IH.out _).mono ?_; rintro e w' ⟨rfl, rfl⟩)
      go_ret
      exact ⟨ret_int rfl, rfl⟩
    | false =>
      cases h2 : (FloatKind.f32.format.order x b == some .gt) with
      | true =>
        go_enter Try.func127, Try.ntmps127
        go_wp2_with (go_at_call 135; refine (IH.out _).mono ?_; rintro e w' ⟨rfl, rfl⟩)
        go_ret
        exact ⟨ret_int rfl, rfl⟩
      | false =>
        go_enter Try.func127, Try.ntmps127
        go_wp2_with (go_at_call 135; refine (IH.out _).mono ?_; rintro e w' ⟨rfl, rfl⟩)
        go_ret
        exact ⟨ret_int rfl, rfl⟩

theorem choose_loose (q : Question) (k : FloatKind) (w : World) : ∃ r n, ((do pure (Value.float k (← choose q))) : Sem Value).run Try.prog w = .ok (.float k r) (w.drewN n) := by
  by_cases h : q.forced = true
  · exact ⟨0, 0, by simp [h, World.drewN]⟩
  · exact ⟨q.cut (w.tape w.drawn q), 1, by simp [h]; rfl⟩

theorem conv_loose (src dst : TypeId) (s k : FloatKind) (b : Nat) (hs : (Try.prog.underlying src).isSome = true) (hd : Try.prog.underlying dst = some (.float k)) (w : World) :
    ∃ r n, (convert src dst (.float s b)).run Try.prog w = .ok (.float k r) (w.drewN n) := by
  obtain ⟨u, hs'⟩ := Option.isSome_iff_exists.1 hs
  have key : ∃ r n, (Conv.floatToFloat s b k).run Try.prog w = .ok (.float k r) (w.drewN n) := by
    unfold Conv.floatToFloat
    by_cases e : s = k
    · exact ⟨b, 0, by simp [e, World.drewN]⟩
    · rw [if_neg e]
      cases hd : s.decode b with
      | nan g f => exact choose_loose _ k w
      | infinity g => exact ⟨_, 0, rfl⟩
      | number g m i =>
        simp only
        split
        · exact choose_loose _ k w
        · exact ⟨_, 0, rfl⟩
  obtain ⟨r, n, h⟩ := key
  refine ⟨r, n, ?_⟩
  rw [← h]
  cases u <;> simp [convert, run_underlying hs', run_underlying hd]

theorem arith_loose (op : BinOp) (t : TypeId) (k : FloatKind) (x y : Nat) (ho : op = .add ∨ op = .sub ∨ op = .mul) (w : World) :
    ∃ r n, (binOp op t (.float k x) (.float k y)).run Try.prog w = .ok (.float k r) (w.drewN n) := by
  cases h : floatBits op k x y with
  | some r => exact ⟨r, 0, run_float_arith w op t k x y r h⟩
  | none =>
    obtain ⟨r, n, c⟩ := choose_loose (.nanBits k x y) k w
    refine ⟨r, n, ?_⟩
    rw [← c]
    unfold floatBits at h
    rcases ho with rfl | rfl | rfl
    all_goals simp only at h
    all_goals simp [binOp, Op.floatArith, h]

/-- Some single; the world has drawn at most. -/
def LooseF (w : World) (e : Ending) (w' : World) : Prop := ∃ r n, e = .returned (.float .f32 r) ∧ w' = w.drewN n

theorem drewN_two (w : World) (a b : Nat) : (w.drewN a).drewN b = w.drewN (a + b) := by simp [World.drewN, Nat.add_assoc]

set_option maxHeartbeats 400000 in
theorem refMul_loose (x y : Nat) (w : World) : Calls Try.prog 94 #[.float .f32 x, .float .f32 y] w (LooseF w) := by
  obtain ⟨X, n1, c1⟩ := conv_loose 22 32 .f32 .f64 x (by kernel_rfl) Try.underlying32 w
  obtain ⟨Y, n2, c2⟩ := conv_loose 22 32 .f32 .f64 y (by kernel_rfl) Try.underlying32 (w.drewN n1)
  obtain ⟨Z, n3, c3⟩ := arith_loose .mul 32 .f64 X Y (by simp) (w.drewN (n1 + n2))
  obtain ⟨r, n4, c4⟩ := conv_loose 32 22 .f64 .f32 Z (by kernel_rfl) Try.underlying22 (w.drewN (n1 + n2 + n3))
  go_enter Try.func94, Try.ntmps94
  go_wp2
  go_ret
  exact ⟨r, n1 + n2 + n3 + n4, rfl, rfl⟩

end Go.Proofs.Ytkcehbnmcdppkaa

/- What many laws want: two singles as a list, what a function that makes a field answers, the number of a cell. -/
namespace Go.Proofs.Ytkcehbnmcdppkaa
open Go.RowKit Fl
set_option linter.unusedVariables false

theorem heap_alloc_new (w : World) (o : Obj) : (w.alloc o).heap[w.heap.size]? = some o := by rw [heap_alloc_get, if_pos rfl]

/-- A single in a block of its own. -/
abbrev flObj (x : Nat) : Obj := .cells #[.float .f32 x] 22

theorem below_drewN (w : World) (k : Nat) : Below w.heap.size w (w.drewN k) := by
  induction k with
  | zero => exact Below.refl _ _
  | succ k ih => exact ih.drew

/-- Two singles, as a list. -/
def two (m c : Nat) (i : Nat) : Nat := if i = 0 then m else c
theorem flAt_two {w : World} {b m c : Nat} (h : w.heap[b]? = some (.cells #[.float .f32 m, .float .f32 c] 22)) : FlAt w b 0 2 (two m c) := by
  intro i hi
  rw [Nat.zero_add, (blkC h).1 i]
  have : i = 0 ∨ i = 1 := by omega
  rcases this with rfl | rfl <;> rfl
theorem two_hgt {m c : Nat} (h : fldE 2 (two m c) = 0) : hgtB m = true ∧ hgtB c = true := by
  have := allB_iff.1 (fldE_zero.1 h)
  exact ⟨this 0 (by omega), this 1 (by omega)⟩

/-- What Scale and Clamp answer: the error of their singles, another error, or a field that is made. -/
def ScPost (w : World) (X Y W H : Int) (n : Nat) (f : Nat → Nat) (er : Int) (e : Ending) (w' : World) : Prop :=
  (er ≠ 0 ∧ e = .returned (.tuple #[fldV 0 0 0 0 (.slice none 0 0), .int .i64 er]) ∧ Below w.heap.size w w') ∨ (er = 0 ∧ MadePost w X Y W H n f e w')

theorem num_lt {X Y x y : Int} {W H n i : Nat} (hW1 : 1 ≤ W) (h1 : X ≤ x) (h2 : x < X + W) (h4 : y < Y + H) (h5 : (i : Int) = (y - Y) * W + (x - X)) (hnn : n = H * W) : i < n := by
  have a : (y - Y) * W ≤ ((H : Int) - 1) * W := Int.mul_le_mul_of_nonneg_right (by omega) (by omega)
  have b : ((H : Int) - 1) * W = (n : Int) - W := by rw [hnn, Int.sub_mul]; simp
  omega

theorem f32f : FloatKind.f32.format = Ieee.single := rfl
theorem one_vTop : (one : Int) ≤ vTop := by
  obtain ⟨J, hJ⟩ : ∃ J : Nat, J = 1074 := ⟨_, rfl⟩
  rw [one_pow hJ]; unfold vTop
  rw [Nat.one_mul]
  exact Int.ofNat_le.2 (Nat.pow_le_pow_right (by omega) (by omega))

end Go.Proofs.Ytkcehbnmcdppkaa

/- Contracts: halves and shorts of the program. -/
namespace Go.Proofs.Ytkcehbnmcdppkaa
open Go.RowKit Fl
set_option linter.unusedVariables false

/-- The nearest half of a magnitude. -/
def nhR (r : Nat) : Nat := if 1199566848 ≤ r then 31744 else if r < 947912704 then rnq (rv r) u24 else nrH r
def nhW (s : Bool) (r : Nat) : Nat := s.toNat * 32768 + nhR r

theorem geq_word {r c : Nat} (hr : r ≤ 2139095040) (hc : c < 2139095040) : (FloatKind.f32.format.order r c == some .gt || FloatKind.f32.format.order r c == some .eq) = decide (c ≤ r) := by
  rw [f32fmt]
  rcases Nat.lt_or_eq_of_le hr with h | h
  · rw [geq_val (vS_pos h) (vS_pos hc), decide_eq_decide]
    have := @rv_le c r
    omega
  · subst h
    rw [order_inf (show Ieee.single.read 2139095040 = .infinity false by decide) (vS_pos hc)]
    have : decide (c ≤ 2139095040) = true := by simp; omega
    rw [this]; rfl
theorem lss_word {r c : Nat} (hr : r ≤ 2139095040) (hc : c < 2139095040) : (FloatKind.f32.format.order r c == some .lt) = decide (r < c) := by
  rw [f32fmt]
  rcases Nat.lt_or_eq_of_le hr with h | h
  · rw [lss_val (vS_pos h) (vS_pos hc), decide_eq_decide]
    have := @rv_lt' r c
    omega
  · subst h
    rw [order_inf (show Ieee.single.read 2139095040 = .infinity false by decide) (vS_pos hc)]
    have : decide (2139095040 < c) = false := by simp; omega
    rw [this]; rfl

set_option maxHeartbeats 1000000 in
set_option maxRecDepth 100000 in
theorem nearestHalf_any {s : Bool} {r : Nat} (hr : r ≤ 2139095040) (w : World) :
    Calls Try.prog 60 #[.float .f32 (sw s r)] w fun e w' => e = .returned (.int .i64 ((nhW s r : Nat) : Int)) ∧ w = w' := by
  obtain ⟨X, q, c1, hq, hX⟩ := conv_sign (sw_sg (s := s) hr)
  have CV := fun (W : World) => run_convert_float_float (P := Try.prog) W 22 32 .f32 .f64 (sw s r) X (by kernel_rfl) Try.underlying32 c1
  have IN := Lib.hid (fun w => isNaN_any X true (order_selfD (sw_sg (s := s) hr) c1) w)
  have sb : ∀ w, Calls Try.prog 126 #[.float .f64 X] w fun e w' => e = .returned (.bool s) ∧ w = w' := fun w => signbit_any s (X : Int) (by omega) (by rw [hX]; cases s <;> simp <;> omega) (by rw [hX]; cases s <;> simp <;> omega) w
  have SB := Lib.hid sb
  clear sb
  have MG := Lib.hid (fun w => magn_sw (s := s) hr w)
  have hb := f32bits
  have g1 := geq_word (c := 1199566848) hr (by omega)
  have g2 := lss_word (c := 947912704) hr (by omega)
  clear c1 hX hq
  unfold nhW nhR
  generalize sw s r = x at *
  by_cases k1 : 1199566848 ≤ r
  · rw [if_pos k1]
    rw [decide_eq_true k1] at g1
    clear g2
    cases s
    all_goals
      go_enter Try.func60, Try.ntmps60
      go_wp2_with (first
        | (go_at_call 125; (with_reducible refine (MG.out _).mono ?_); rintro e w' ⟨rfl, rfl⟩)
        | (go_at_call 70; (with_reducible refine (IN.out _).mono ?_); rintro e w' ⟨rfl, rfl⟩)
        | (go_at_call 126; (with_reducible refine (SB.out _).mono ?_); rintro e w' ⟨rfl, rfl⟩))
      go_ret
      exact ⟨rfl, rfl⟩
  · rw [if_neg k1]
    rw [decide_eq_false k1] at g1
    by_cases k2 : r < 947912704
    · rw [if_pos k2]
      rw [decide_eq_true k2] at g2
      obtain ⟨a1, a2⟩ := small_sum k2
      generalize rnq (rv r) u24 = k at *
      have AD := fun (W : World) => run_float_arith (P := Try.prog) W .add 22 .f32 _ _ _ a1
      clear a1
      cases s
      all_goals
        go_enter Try.func60, Try.ntmps60
        go_wp2_with (first
          | (go_at_call 125; (with_reducible refine (MG.out _).mono ?_); rintro e w' ⟨rfl, rfl⟩)
          | (go_at_call 70; (with_reducible refine (IN.out _).mono ?_); rintro e w' ⟨rfl, rfl⟩)
          | (go_at_call 126; (with_reducible refine (SB.out _).mono ?_); rintro e w' ⟨rfl, rfl⟩))
        go_ret
        exact ⟨ret_int (by first | (simp; omega) | omega), rfl⟩
    · rw [if_neg k2]
      rw [decide_eq_false k2] at g2
      have NN := Lib.hid (fun w => nearest13 r (by omega) w)
      have e1 : 114688 ≤ (r + 4095 + r / 8192 % 2) / 8192 := by omega
      have e2 : (r + 4095 + r / 8192 % 2) / 8192 < 300000 := by omega
      have e3 : nrH r = (r + 4095 + r / 8192 % 2) / 8192 - 114688 := rfl
      rw [e3]
      generalize (r + 4095 + r / 8192 % 2) / 8192 = k at *
      clear e3
      cases s
      all_goals
        go_enter Try.func60, Try.ntmps60
        go_wp2_with (first
          | (go_at_call 125; (with_reducible refine (MG.out _).mono ?_); rintro e w' ⟨rfl, rfl⟩)
          | (go_at_call 70; (with_reducible refine (IN.out _).mono ?_); rintro e w' ⟨rfl, rfl⟩)
          | (go_at_call 71; (with_reducible refine (NN.out _).mono ?_); rintro e w' ⟨rfl, rfl⟩)
          | (go_at_call 126; (with_reducible refine (SB.out _).mono ?_); rintro e w' ⟨rfl, rfl⟩))
        go_ret
        exact ⟨ret_int (by first | (simp; omega) | omega), rfl⟩

theorem or_inf : ∀ m : Nat, m < 1024 → ((31744 + m) * 8192 ||| 2139095040) = 2139095040 + m * 8192 := by decide +kernel
theorem mod_half {s : Bool} {q : Nat} (h : q < 32768) {n : Int} (hn : n = ((s.toNat * 32768 + q : Nat) : Int)) : n % 32768 = (q : Int) ∧ decide (32768 ≤ n) = s ∧ 0 ≤ n ∧ n < 65536 := by
  subst hn
  cases s
  · simp; omega
  · simp; omega
theorem tn_half (q : Nat) : ((q : Int) * 8192).toNat = q * 8192 := by omega

set_option maxHeartbeats 1000000 in
set_option maxRecDepth 100000 in
theorem ofHalf_any {s : Bool} {q : Nat} (h : q < 31744) {n : Int} (hn : n = ((s.toNat * 32768 + q : Nat) : Int)) (w : World) :
    Calls Try.prog 61 #[.int .i64 n] w fun e w' => e = .returned (.float .f32 (sw s (whW q))) ∧ w = w' := by
  obtain ⟨a1, a2, -⟩ := whole_word h
  have M1 := fun (W : World) => run_float_arith (P := Try.prog) W .mul 22 .f32 _ _ _ a1
  have hb : ∀ w : World, (callFunc 68 #[.int .u32 ((q : Int) * 8192)]).run Try.prog w = .ok (.value (.float .f32 (q * 8192))) w := fun w => by
    have := f32from ((q : Int) * 8192) w
    rwa [tn_half] at this
  have ng := fun w => run_negS w (whW q)
  rw [neg_pos (by omega)] at ng
  obtain ⟨m1, m2, m3, m4⟩ := mod_half (by omega) hn
  clear hn
  generalize hy : whW q = y at *
  clear a1 hy
  generalize q * 8192 = z at *
  have q1 : ¬ ((31744 : Int) ≤ (q : Int)) := by omega
  cases s
  all_goals
    have m5 := m2
    simp only [decide_eq_true_eq, decide_eq_false_iff_not] at m5
    clear m2
    go_enter Try.func61, Try.ntmps61
    go_wp2
    go_ret
    exact ⟨rfl, rfl⟩
set_option maxHeartbeats 1000000 in
set_option maxRecDepth 100000 in
theorem ofHalf_inf {s : Bool} {m : Nat} (h : m < 1024) {n : Int} (hn : n = ((s.toNat * 32768 + (31744 + m) : Nat) : Int)) (w : World) :
    Calls Try.prog 61 #[.int .i64 n] w fun e w' => e = .returned (.float .f32 (sw s (2139095040 + m * 8192))) ∧ w = w' := by
  obtain ⟨y, y1, -⟩ := mul_pos_word (vS_pos (r := (31744 + m) * 8192) (by omega)) (vS_big (j := 1186) rfl) (by omega) (by omega)
  have M1 := fun (W : World) => run_float_arith (P := Try.prog) W .mul 22 .f32 _ _ _ y1
  have hb : ∀ w : World, (callFunc 68 #[.int .u32 (((31744 + m : Nat) : Int) * 8192)]).run Try.prog w = .ok (.value (.float .f32 ((31744 + m) * 8192))) w := fun w => by
    have := f32from (((31744 + m : Nat) : Int) * 8192) w
    rwa [tn_half] at this
  have ho : bits .or .u32 (((31744 + m : Nat) : Int) * 8192) 2139095040 = ((2139095040 + m * 8192 : Nat) : Int) := by
    have := u32_or_nat ((31744 + m) * 8192) 2139095040 (by omega) (by omega)
    rw [or_inf m h, Int.natCast_mul] at this
    exact this
  have hc : ∀ w : World, (callFunc 68 #[.int .u32 ((2139095040 + m * 8192 : Nat) : Int)]).run Try.prog w = .ok (.value (.float .f32 (2139095040 + m * 8192))) w := fun w => f32from ((2139095040 + m * 8192 : Nat) : Int) w
  have ng := fun w => run_negS w (2139095040 + m * 8192)
  rw [neg_pos (by omega)] at ng
  obtain ⟨m1, m2, m3, m4⟩ := mod_half (by omega) hn
  clear hn y1
  have q1 : (31744 : Int) ≤ ((31744 + m : Nat) : Int) := by omega
  have q2 : ((31744 + m : Nat) : Int) < 32768 := by omega
  generalize (31744 + m) * 8192 = z at *
  generalize 2139095040 + m * 8192 = u at *
  generalize ((31744 + m : Nat) : Int) = qi at *
  cases s
  all_goals
    have m5 := m2
    simp only [decide_eq_true_eq, decide_eq_false_iff_not] at m5
    clear m2
    go_enter Try.func61, Try.ntmps61
    go_wp2
    go_ret
    exact ⟨rfl, rfl⟩
end Go.Proofs.Ytkcehbnmcdppkaa

/- Contracts: Half, Whole, Short, Long. -/
namespace Go.Proofs.Ytkcehbnmcdppkaa
open Go.RowKit Fl
set_option linter.unusedVariables false

theorem vS_sw {s : Bool} {r : Nat} (h : r < 2139095040) : vS (sw s r) = some ((if s then -1 else 1) * ((rv r : Nat) : Int)) := by
  rw [sw_form]; exact vS_rung s h
theorem wi_fin {s : Bool} {r : Nat} (h : r < 2139095040) : wiE (sw s r) 4286578687 2139095039 = 0 := by
  have hv := vS_sw (s := s) h
  have hf : finB (sw s r) = true := by unfold finB; rw [hv]; rfl
  have h1 : vS 4286578687 = some (-((rv 2139095039 : Nat) : Int)) := vS_neg (r := 2139095039) (by omega)
  have h2 : vS 2139095039 = some ((rv 2139095039 : Nat) : Int) := vS_pos (by omega)
  have hle : rv r ≤ rv 2139095039 := rv_le.2 (by omega)
  unfold wiE
  rw [if_neg (by rw [hf]; simp), if_neg]
  rw [f32f, lss_val hv h1, gtr_val hv h2]
  cases s <;> simp <;> omega
theorem wi_inf {s : Bool} {r : Nat} (h : 2139095040 ≤ r) (h2 : r < 2147483648) : wiE (sw s r) 4286578687 2139095039 = 2 := by
  have hf : finB (sw s r) = false := by
    unfold finB vS Ieee.Format.read
    have e1 : sw s r % Ieee.single.signWeight = r := by unfold sw; rw [swS]; cases s <;> simp <;> omega
    simp only [e1, binS', infS']
    rw [if_neg (by omega), if_neg (by omega)]
    split
    · rename_i q; split at q <;> cases q
    · rfl
  unfold wiE
  rw [if_pos hf]

set_option maxHeartbeats 1000000 in
set_option maxRecDepth 100000 in
theorem decoded_far (n : Int) (V : Value) (hn : withinB n 0 65535 = false) (w : World) :
    Calls Try.prog 66 #[.int .i64 n, V] w fun e w' => e = .returned (.tuple #[.float .f32 0, .int .i64 3]) ∧ w = w' := by
  have WI := Lib.hid (fun w => within_any n 0 65535 w)
  rw [hn] at WI
  clear hn
  go_enter Try.func66, Try.ntmps66
  go_wp2_with (go_at_call 79; (with_reducible refine Calls.mono (WI.out _) ?_); rintro e w' ⟨rfl, rfl⟩)
  go_ret2
  exact ⟨rfl, rfl⟩

set_option maxHeartbeats 1000000 in
set_option maxRecDepth 100000 in
theorem whole_far (n : Int) (hn : withinB n 0 65535 = false) (w : World) :
    Calls Try.prog 11 #[.int .i64 n] w fun e w' => e = .returned (.tuple #[.float .f32 0, .int .i64 3]) ∧ w = w' := by
  have DE := Lib.hid (fun V w => decoded_far n V hn w)
  clear hn
  go_enter Try.func11, Try.ntmps11
  go_wp2_with (go_at_call 66; (with_reducible refine Calls.mono (DE.out _ _) ?_); rintro e w' ⟨rfl, rfl⟩)
  go_ret2
  exact ⟨rfl, rfl⟩

theorem in_code {n : Int} (h0 : 0 ≤ n) (h1 : n < 65536) : withinB n 0 65535 = true := withinB_iff.2 ⟨h0, by omega⟩
/-- A half, by its sign and its magnitude. -/
theorem half_form {n : Int} (h0 : 0 ≤ n) (h1 : n < 65536) : ∃ (s : Bool) (q : Nat), q < 32768 ∧ n = ((s.toNat * 32768 + q : Nat) : Int) := by
  by_cases c : n < 32768
  · exact ⟨false, n.toNat, by omega, by simp; omega⟩
  · exact ⟨true, (n - 32768).toNat, by omega, by simp; omega⟩

set_option maxHeartbeats 1000000 in
set_option maxRecDepth 100000 in
theorem decoded_ok {n : Int} (g : Nat) (y : Nat) (hn : withinB n 0 65535 = true) (hg : g = 61 ∨ g = 67) (hf : ∀ w, Calls Try.prog g #[.int .i64 n] w fun e w' => e = .returned (.float .f32 y) ∧ w = w') (er : Int) (hw : wiE y 4286578687 2139095039 = er) (z : Nat) (hz : z = if er = 0 then y else 0) (w : World) :
    Calls Try.prog 66 #[.int .i64 n, .func (.func g) #[] #[]] w fun e w' => e = .returned (.tuple #[.float .f32 z, .int .i64 er]) ∧ w = w' := by
  have WI := Lib.hid (fun w => within_any n 0 65535 w)
  rw [hn] at WI
  have OF := Lib.hid hf
  have CW := Lib.hid (fun w => checkWithin_any y 4286578687 2139095039 w)
  rw [hw] at CW
  clear hn hf hw
  by_cases c : er = 0
  · rw [if_pos c] at hz
    subst hz c
    rcases hg with rfl | rfl
    · go_enter Try.func66, Try.ntmps66
      go_wp2_with (first
        | (go_at_call 79; (with_reducible refine Calls.mono (WI.out _) ?_); rintro e w' ⟨rfl, rfl⟩)
        | (go_at_call 61; (with_reducible refine Calls.mono (OF.out _) ?_); rintro e w' ⟨rfl, rfl⟩)
        | (go_at_call 127; (with_reducible refine Calls.mono (CW.out _) ?_); rintro e w' ⟨rfl, rfl⟩))
      go_ret2
      exact ⟨rfl, rfl⟩
    · go_enter Try.func66, Try.ntmps66
      go_wp2_with (first
        | (go_at_call 79; (with_reducible refine Calls.mono (WI.out _) ?_); rintro e w' ⟨rfl, rfl⟩)
        | (go_at_call 67; (with_reducible refine Calls.mono (OF.out _) ?_); rintro e w' ⟨rfl, rfl⟩)
        | (go_at_call 127; (with_reducible refine Calls.mono (CW.out _) ?_); rintro e w' ⟨rfl, rfl⟩))
      go_ret2
      exact ⟨rfl, rfl⟩
  · rw [if_neg c] at hz
    subst hz
    have c1 : (er != 0) = true := by simpa using c
    clear c
    rcases hg with rfl | rfl
    · go_enter Try.func66, Try.ntmps66
      go_wp2_with (first
        | (go_at_call 79; (with_reducible refine Calls.mono (WI.out _) ?_); rintro e w' ⟨rfl, rfl⟩)
        | (go_at_call 61; (with_reducible refine Calls.mono (OF.out _) ?_); rintro e w' ⟨rfl, rfl⟩)
        | (go_at_call 127; (with_reducible refine Calls.mono (CW.out _) ?_); rintro e w' ⟨rfl, rfl⟩))
      go_ret2
      exact ⟨rfl, rfl⟩
    · go_enter Try.func66, Try.ntmps66
      go_wp2_with (first
        | (go_at_call 79; (with_reducible refine Calls.mono (WI.out _) ?_); rintro e w' ⟨rfl, rfl⟩)
        | (go_at_call 67; (with_reducible refine Calls.mono (OF.out _) ?_); rintro e w' ⟨rfl, rfl⟩)
        | (go_at_call 127; (with_reducible refine Calls.mono (CW.out _) ?_); rintro e w' ⟨rfl, rfl⟩))
      go_ret2
      exact ⟨rfl, rfl⟩

/-- Whole of a half that is a number; of one that is none. -/
theorem whole_ok {s : Bool} {q : Nat} (h : q < 31744) {n : Int} (hn : n = ((s.toNat * 32768 + q : Nat) : Int)) (w : World) :
    Calls Try.prog 11 #[.int .i64 n] w fun e w' => e = .returned (.tuple #[.float .f32 (sw s (whW q)), .int .i64 0]) ∧ w = w' := by
  obtain ⟨-, -, m3, m4⟩ := mod_half (by omega) hn
  have DE := Lib.hid (fun w => decoded_ok 61 (sw s (whW q)) (in_code m3 m4) (.inl rfl) (fun w => ofHalf_any h hn w) 0 (wi_fin (whole_word h).2.1) _ rfl w)
  rw [if_pos rfl] at DE
  clear hn m3 m4
  generalize sw s (whW q) = y at *
  go_enter Try.func11, Try.ntmps11
  go_wp2_with (go_at_call 66; (with_reducible refine Calls.mono (DE.out _) ?_); rintro e w' ⟨rfl, rfl⟩)
  go_ret2
  exact ⟨rfl, rfl⟩
theorem whole_inf {s : Bool} {m : Nat} (h : m < 1024) {n : Int} (hn : n = ((s.toNat * 32768 + (31744 + m) : Nat) : Int)) (w : World) :
    Calls Try.prog 11 #[.int .i64 n] w fun e w' => e = .returned (.tuple #[.float .f32 0, .int .i64 2]) ∧ w = w' := by
  obtain ⟨-, -, m3, m4⟩ := mod_half (by omega) hn
  have DE := Lib.hid (fun w => decoded_ok 61 (sw s (2139095040 + m * 8192)) (in_code m3 m4) (.inl rfl) (fun w => ofHalf_inf h hn w) 2 (wi_inf (by omega) (by omega)) _ rfl w)
  rw [if_neg (by decide)] at DE
  clear hn m3 m4
  go_enter Try.func11, Try.ntmps11
  go_wp2_with (go_at_call 66; (with_reducible refine Calls.mono (DE.out _) ?_); rintro e w' ⟨rfl, rfl⟩)
  go_ret2
  exact ⟨rfl, rfl⟩

theorem tn_short (q : Nat) : ((q : Int) * 65536).toNat = q * 65536 := by omega
theorem ofShort_any {q : Nat} (h : q < 65536) (w : World) : Calls Try.prog 67 #[.int .i64 (q : Int)] w fun e w' => e = .returned (.float .f32 (q * 65536)) ∧ w = w' := by
  have hb : ∀ w : World, (callFunc 68 #[.int .u32 ((q : Int) * 65536)]).run Try.prog w = .ok (.value (.float .f32 (q * 65536))) w := fun w => by
    have := f32from ((q : Int) * 65536) w
    rwa [tn_short] at this
  generalize q * 65536 = z at *
  go_enter Try.func67, Try.ntmps67
  go_wp2
  go_ret
  exact ⟨rfl, rfl⟩
theorem long_far (n : Int) (hn : withinB n 0 65535 = false) (w : World) :
    Calls Try.prog 12 #[.int .i64 n] w fun e w' => e = .returned (.tuple #[.float .f32 0, .int .i64 3]) ∧ w = w' := by
  have DE := Lib.hid (fun V w => decoded_far n V hn w)
  clear hn
  go_enter Try.func12, Try.ntmps12
  go_wp2_with (go_at_call 66; (with_reducible refine Calls.mono (DE.out _ _) ?_); rintro e w' ⟨rfl, rfl⟩)
  go_ret2
  exact ⟨rfl, rfl⟩
theorem long_any {q : Nat} (h : q < 65536) (er : Int) (hw : wiE (q * 65536) 4286578687 2139095039 = er) (w : World) :
    Calls Try.prog 12 #[.int .i64 (q : Int)] w fun e w' => e = .returned (.tuple #[.float .f32 (if er = 0 then q * 65536 else 0), .int .i64 er]) ∧ w = w' := by
  have DE := Lib.hid (fun w => decoded_ok 67 (q * 65536) (in_code (by omega) (by omega)) (.inr rfl) (fun w => ofShort_any h w) er hw _ rfl w)
  generalize (if er = 0 then q * 65536 else 0) = z at *
  clear hw
  go_enter Try.func12, Try.ntmps12
  go_wp2_with (go_at_call 66; (with_reducible refine Calls.mono (DE.out _) ?_); rintro e w' ⟨rfl, rfl⟩)
  go_ret2
  exact ⟨rfl, rfl⟩

set_option maxHeartbeats 1000000 in
set_option maxRecDepth 100000 in
theorem short_any {s : Bool} {r : Nat} (hr : r ≤ 2139095040) (w : World) :
    Calls Try.prog 16 #[.float .f32 (sw s r)] w fun e w' => e = .returned (.int .i64 ((nrS (sw s r) : Nat) : Int)) ∧ w = w' := by
  obtain ⟨X, q, c1, -, -⟩ := conv_sign (sw_sg (s := s) hr)
  have CV := fun (W : World) => run_convert_float_float (P := Try.prog) W 22 32 .f32 .f64 (sw s r) X (by kernel_rfl) Try.underlying32 c1
  have IN := Lib.hid (fun w => isNaN_any X true (order_selfD (sw_sg (s := s) hr) c1) w)
  have hb := f32bits
  have hx : sw s r ≤ 4286578688 := by unfold sw; cases s <;> simp <;> omega
  have NN := Lib.hid (fun w => nearest16 (sw s r) hx w)
  have hk : nrS (sw s r) < 4294967296 := by unfold nrS; omega
  clear c1
  generalize sw s r = x at *
  generalize nrS x = k at *
  go_enter Try.func16, Try.ntmps16
  go_wp2_with (first
    | (go_at_call 70; (with_reducible refine (IN.out _).mono ?_); rintro e w' ⟨rfl, rfl⟩)
    | (go_at_call 71; (with_reducible refine (NN.out _).mono ?_); rintro e w' ⟨rfl, rfl⟩))
  go_ret
  exact ⟨rfl, rfl⟩

set_option maxHeartbeats 1000000 in
set_option maxRecDepth 100000 in
theorem half_any {s : Bool} {r : Nat} (hr : r ≤ 2139095040) (hq : nhR r < 31744) (b : Bool) (hb : (FloatKind.f32.format.order (sw s (whW (nhR r))) (sw s r) == some .eq) = b) (w : World) :
    Calls Try.prog 9 #[.float .f32 (sw s r)] w fun e w' => e = .returned (.tuple #[.int .i64 ((nhW s r : Nat) : Int), .bool b]) ∧ w = w' := by
  have NH := Lib.hid (fun w => nearestHalf_any (s := s) hr w)
  have OH := Lib.hid (fun w => ofHalf_any (s := s) (q := nhR r) hq (n := ((nhW s r : Nat) : Int)) rfl w)
  generalize nhW s r = k at *
  generalize sw s (whW (nhR r)) = y at *
  generalize sw s r = x at *
  clear hq hr
  cases b
  all_goals
    go_enter Try.func9, Try.ntmps9
    go_wp2_with (first
      | (go_at_call 60; (with_reducible refine (NH.out _).mono ?_); rintro e w' ⟨rfl, rfl⟩)
      | (go_at_call 61; (with_reducible refine (OH.out _).mono ?_); rintro e w' ⟨rfl, rfl⟩))
    go_ret2
    exact ⟨rfl, rfl⟩
end Go.Proofs.Ytkcehbnmcdppkaa

/- HalvesLeadBack: what its four parts ask, as facts (pure, and by the contracts). -/
namespace Go.Proofs.Ytkcehbnmcdppkaa
open Go.RowKit Fl
set_option linter.unusedVariables false

/-- A half's own word leads back to it. -/
theorem nhR_back {q : Nat} (h : q < 31744) : nhR (whW q) = q := by
  unfold nhR
  by_cases c : 1024 ≤ q
  · rw [whW_big h c, if_neg (by omega), if_neg (by omega)]
    unfold nrH
    omega
  · obtain ⟨-, h2, h3⟩ := whole_word h
    have hv : rv (whW q) = q * u24 := by
      have e := vS_pos h2
      rw [h3] at e
      have := Option.some.inj e
      have e2 : hvM q = q * u24 := by unfold hvM; rw [if_pos (by omega)]
      omega
    have p := u24_pos
    have hlt : whW q < 947912704 := by
      rw [← rv_lt', hv, rv_m14]
      exact Nat.mul_lt_mul_of_pos_right (by omega) p
    rw [if_neg (by omega), if_pos hlt, hv, rnq_mul _ _ p]

/-- P230, first half: a half that is a number. -/
theorem lead_half (n : Int) : ∃ (y : Nat) (e : Int), (∀ w, Calls Try.prog 11 #[.int .i64 n] w fun en w' => en = .returned (.tuple #[.float .f32 y, .int .i64 e]) ∧ w = w') ∧
    (e = 0 → ∀ w, Calls Try.prog 9 #[.float .f32 y] w fun en w' => en = .returned (.tuple #[.int .i64 n, .bool true]) ∧ w = w') := by
  cases hn : withinB n 0 65535 with
  | false => exact ⟨0, 3, fun w => whole_far n hn w, fun h => by omega⟩
  | true =>
    obtain ⟨n0, n1⟩ := withinB_iff.1 hn
    obtain ⟨s, q, hq, e⟩ := half_form n0 (show n < 65536 by omega)
    by_cases c : q < 31744
    · refine ⟨sw s (whW q), 0, fun w => whole_ok c e w, fun _ w => ?_⟩
      have h2 := (whole_word c).2.1
      have hb := nhR_back c
      have := half_any (s := s) (r := whW q) (by omega) (by rw [hb]; exact c) true (by
        rw [hb, f32f, order_self (sw_sg (s := s) (show whW q ≤ 2139095040 by omega))]; rfl) w
      rw [show ((nhW s (whW q) : Nat) : Int) = n by unfold nhW; rw [hb, e]] at this
      exact this
    · obtain ⟨m, rfl⟩ : ∃ m, q = 31744 + m := ⟨q - 31744, by omega⟩
      exact ⟨0, 2, fun w => whole_inf (by omega) e w, fun h => by omega⟩

theorem short_back {s : Bool} {r : Nat} : nrS (sw s (r * 65536)) = s.toNat * 32768 + r := by
  unfold nrS sw
  cases s
  · simp; omega
  · simp; omega
theorem short_word {s : Bool} {q : Nat} : (s.toNat * 32768 + q) * 65536 = sw s (q * 65536) := by
  unfold sw
  cases s
  · simp
  · simp; omega
/-- P230, the shorts. -/
theorem lead_short (n : Int) : ∃ (y : Nat) (e : Int), (∀ w, Calls Try.prog 12 #[.int .i64 n] w fun en w' => en = .returned (.tuple #[.float .f32 y, .int .i64 e]) ∧ w = w') ∧
    (e = 0 → ∀ w, Calls Try.prog 16 #[.float .f32 y] w fun en w' => en = .returned (.int .i64 n) ∧ w = w') := by
  cases hn : withinB n 0 65535 with
  | false => exact ⟨0, 3, fun w => long_far n hn w, fun h => by omega⟩
  | true =>
    obtain ⟨n0, n1⟩ := withinB_iff.1 hn
    obtain ⟨s, q, hq, e⟩ := half_form n0 (show n < 65536 by omega)
    have hk : s.toNat * 32768 + q < 65536 := by cases s <;> simp <;> omega
    obtain ⟨k, hk2⟩ : ∃ k, k = s.toNat * 32768 + q := ⟨_, rfl⟩
    have hz : k * 65536 = sw s (q * 65536) := by rw [hk2]; exact short_word
    rw [← hk2] at hk e
    subst e
    by_cases c : q < 32640
    · have hw := wi_fin (s := s) (r := q * 65536) (by omega)
      have hs := fun w => short_any (s := s) (r := q * 65536) (by omega) w
      rw [short_back, ← hk2] at hs
      rw [← hz] at hw hs
      exact ⟨k * 65536, 0, fun w => by have := long_any hk 0 hw w; rwa [if_pos rfl] at this, fun _ w => hs w⟩
    · have hw := wi_inf (s := s) (r := q * 65536) (by omega) (by omega)
      rw [← hz] at hw
      exact ⟨0, 2, fun w => by have := long_any hk 2 hw w; rwa [if_neg (by decide)] at this, fun h => by omega⟩
end Go.Proofs.Ytkcehbnmcdppkaa

/- HalvesLeadBack: what is lost, in doubles (pure). -/
namespace Go.Proofs.Ytkcehbnmcdppkaa
open Go.RowKit Fl
set_option linter.unusedVariables false

theorem opt_ltD {d : Option Ieee.Datum} {r : Nat} (h : d.map Ieee.double.write = some r) : r < b64 := by
  cases d with
  | none => cases h
  | some d => cases h; exact Ieee.Format.write_lt Ieee.double d

theorem conv_val {s : Bool} {r : Nat} (h : r < 2139095040) : ∃ X, floatToFloatBits .f32 (sw s r) .f64 = some X ∧ X < b64 ∧ vD X = some ((if s then -1 else 1) * ((rv r : Nat) : Int)) := by
  obtain ⟨X, c1, c2⟩ := toD_val (vS_sw (s := s) h)
  exact ⟨X, c1, conv32_lt c1, c2⟩

/-- The two tests of a magnitude's double. -/
theorem dbl_tests {s : Bool} {r lo hi cl ch : Nat} (hr : r ≤ 2139095040) (hl : vD cl = some ((rv lo : Nat) : Int)) (hh : vD ch = some ((rv hi : Nat) : Int)) (hhi : hi < 2139095040) (hlo : lo < 2139095040) :
    ∃ X, floatToFloatBits .f32 (sw s r) .f64 = some X ∧ X < b64 ∧ (FloatKind.f64.format.order (X % b63) cl == some .gt || FloatKind.f64.format.order (X % b63) cl == some .eq) = decide (lo ≤ r) ∧ (FloatKind.f64.format.order (X % b63) ch == some .lt || FloatKind.f64.format.order (X % b63) ch == some .eq) = decide (r ≤ hi) := by
  have f64f : FloatKind.f64.format = Ieee.double := rfl
  rcases Nat.lt_or_eq_of_le hr with h | h
  · obtain ⟨X, c1, c2, c3⟩ := conv_val (s := s) h
    have hA := abs_valD c3
    have e : ((if s then -1 else 1) * ((rv r : Nat) : Int)).natAbs = rv r := by
      rw [Int.natAbs_mul, Int.natAbs_natCast]; cases s <;> simp
    rw [e] at hA
    refine ⟨X, c1, c2, ?_, ?_⟩
    · rw [f64f, show b63 = 9223372036854775808 from rfl, geq_valD hA hl, decide_eq_decide]
      have := @rv_le lo r
      omega
    · rw [f64f, show b63 = 9223372036854775808 from rfl, leq_valD hA hh, decide_eq_decide]
      have := @rv_le r hi
      omega
  · subst h
    have hi' : Ieee.single.read (sw s 2139095040) = .infinity s := by cases s <;> decide
    have c1 := conv_infS hi'
    refine ⟨_, c1, conv32_lt c1, ?_, ?_⟩
    · have e : Ieee.double.word s Ieee.double.infRung % b63 = 9218868437227405312 := by cases s <;> decide
      rw [f64f, e, order_infD (show Ieee.double.read 9218868437227405312 = .infinity false by decide) hl]
      have : decide (lo ≤ 2139095040) = true := by simp; omega
      rw [this]; rfl
    · have e : Ieee.double.word s Ieee.double.infRung % b63 = 9218868437227405312 := by cases s <;> decide
      rw [f64f, e, order_infD (show Ieee.double.read 9218868437227405312 = .infinity false by decide) hh]
      have : decide (2139095040 ≤ hi) = false := by simp; omega
      rw [this]; rfl

/-- What is lost is within its bound. -/
theorem lost_ok {s : Bool} {r r' k Y : Nat} {X : Nat} (hr0 : 8388608 ≤ r) (hr : r < 2139095040) (hr' : r' < 2139095040) (hk : k ≤ 23) (h1 : r / 8388608 * 8388608 ≤ r') (h2 : r' ≤ r / 8388608 * 8388608 + 8388608) (h3 : r' ≤ r + 2 ^ (23 - k)) (h4 : r ≤ r' + 2 ^ (23 - k))
    (hY : Ieee.double.read Y = .number false 4503599627370496 ((k : Int) - 52)) (hX : floatToFloatBits .f32 (sw s r) .f64 = some X) :
    ∃ W D Q, floatToFloatBits .f32 (sw s r') .f64 = some W ∧ floatBits .sub .f64 W X = some D ∧ D < b64 ∧ floatBits .quo .f64 (X % b63) Y = some Q ∧ (FloatKind.f64.format.order (D % b63) Q == some .gt) = false := by
  obtain ⟨u, j, e1, e2, e3, e4⟩ := near_lost hr0 hk h1 h2 h3 h4
  obtain ⟨W, w1, w2, w3⟩ := conv_val (s := s) hr'
  obtain ⟨X', x1, x2, x3⟩ := conv_val (s := s) hr
  rw [hX] at x1; cases x1
  -- the difference
  have hc : ∃ c : Int, (if s then -1 else 1) * ((rv r' : Nat) : Int) - (if s then -1 else 1) * ((rv r : Nat) : Int) = c ∧ c.natAbs = u * 2 ^ j := by
    refine ⟨_, rfl, ?_⟩
    have z1 : (if s = true then (-1 : Int) else 1).natAbs = 1 := by cases s <;> rfl
    have z2 : (if r ≤ r' then (1 : Int) else -1).natAbs = 1 := by split <;> rfl
    rw [← Int.mul_sub, e1, Int.natAbs_mul, Int.natAbs_mul, Int.natAbs_natCast, z1, z2, Nat.one_mul, Nat.one_mul]
  obtain ⟨c, hc1, hc2⟩ := hc
  have hj : j ≤ 1180 := by omega
  obtain ⟨B, hB⟩ : ∃ B : Nat, B = 1300 := ⟨_, rfl⟩
  have hlt : c.natAbs < 2 ^ B := by
    rw [hc2]
    have e5 : (8388608 : Nat) = 2 ^ 23 := by decide
    calc u * 2 ^ j ≤ 8388608 * 2 ^ j := Nat.mul_le_mul_right _ e2
      _ = 2 ^ (23 + j) := by rw [e5]; exact (Nat.pow_add 2 23 j).symm
      _ < 2 ^ B := Nat.pow_lt_pow_right (by omega) (by omega)
  obtain ⟨D, d1, d2⟩ := vD_sub (u := u) (k := j) (B := B) w3 x3 hc1 hc2 (by
    have : (2 : Nat) ^ 53 = 9007199254740992 := by decide
    omega) hlt (by omega)
  have hD := abs_valD d2
  rw [hc2] at hD
  -- the bound
  have hq : ∃ Q V, floatBits .quo .f64 (X % b63) Y = some Q ∧ vD Q = some ((V : Nat) : Int) ∧ V * 2 ^ k = rv r := by
    have hx := read_rungs s hr
    rw [← sw_form] at hx
    obtain ⟨X2, M, I, c1, c2, c3, c4, c5⟩ := toD hx
    rw [hX] at c1; cases c1
    have ha := read_abs Ieee.double X
    rw [c2, swD] at ha
    simp only at ha
    rw [show (((rgE r : Nat) : Int) - 1074 + 1074).toNat = rgE r by omega] at c4
    have c4' : M * 2 ^ (I + 1074).toNat = rv r := c4
    have p0 : 0 < rv r := by have := rv_lt (show 0 < r by omega); omega
    have hM : M ≠ 0 := by
      intro z; rw [z, Nat.zero_mul] at c4'; omega
    have hI := c5 hM
    have hI2 : I ≤ 200 := by
      rcases Int.lt_or_le 200 I with l | l
      · exfalso
        obtain ⟨C, hC⟩ : ∃ C : Nat, C = 1202 := ⟨_, rfl⟩
        have g1 : 2 ^ C ≤ M * 2 ^ (I + 1074).toNat := by
          calc 2 ^ C ≤ 2 ^ (I + 1074).toNat := Nat.pow_le_pow_right (by omega) (by omega)
            _ ≤ M * 2 ^ (I + 1074).toNat := Nat.le_mul_of_pos_left _ (by omega)
        have g2 : rv r < 2 ^ C := by
          unfold rv
          have m1 := rgM_lt r
          have m2 : rgE r ≤ 1178 := by unfold rgE; split <;> omega
          have e5 : (16777216 : Nat) = 2 ^ 24 := by decide
          calc rgM r * 2 ^ rgE r < 16777216 * 2 ^ rgE r := Nat.mul_lt_mul_of_pos_right m1 (Nat.two_pow_pos _)
            _ = 2 ^ (24 + rgE r) := by rw [e5]; exact (Nat.pow_add 2 24 (rgE r)).symm
            _ ≤ 2 ^ C := Nat.pow_le_pow_right (by omega) (by omega)
        omega
      · exact l
    obtain ⟨Q, V, q1, q2, q3⟩ := quo_pow (t := k) ha hI hI2 hY rfl (by omega)
    exact ⟨Q, V, q1, by simpa using q2, q3.trans c4'⟩
  obtain ⟨Q, V, q1, q2, q3⟩ := hq
  refine ⟨W, D, Q, w1, d1, opt_ltD (d := (Ieee.double.read W).sum (Ieee.double.read X).opposite) d1, q1, ?_⟩
  rw [show FloatKind.f64.format = Ieee.double from rfl, show b63 = 9223372036854775808 from rfl, gtr_valD hD q2]
  have : V * 2 ^ k ≥ u * 2 ^ j * 2 ^ k := by rw [q3]; exact e4
  have h5 := Nat.le_of_mul_le_mul_right this (Nat.two_pow_pos k)
  refine decide_eq_false ?_
  generalize u * 2 ^ j = z at *
  omega
end Go.Proofs.Ytkcehbnmcdppkaa

/- The double of a NaN; math.Ldexp of two constants. -/
namespace Go.Proofs.Ytkcehbnmcdppkaa
open Go.RowKit Fl
set_option linter.unusedVariables false

/-- The double that the machine chooses for a NaN. -/
def nanD (x : Nat) (w : World) : Nat := Question.cut (.nanConv .f64 x) (w.tape w.drawn (.nanConv .f64 x))
theorem nanD_form (x : Nat) (w : World) : ∃ s k : Nat, s ≤ 1 ∧ 0 < k ∧ k < 4503599627370496 ∧ nanD x w = s * 9223372036854775808 + (9218868437227405312 + k) := by
  unfold nanD
  generalize w.tape w.drawn (.nanConv .f64 x) = t
  refine ⟨t % 2, 1 + t / 2 % (2 ^ 52 - 1), by omega, by omega, ?_, ?_⟩
  · have : (2 : Nat) ^ 52 = 4503599627370496 := by decide
    rw [this]; omega
  · show (t % 2) * 2 ^ 63 + 0x7ff0000000000000 + 1 + (t / 2) % (2 ^ 52 - 1) = _
    have e63 : (2 : Nat) ^ 63 = 9223372036854775808 := by decide
    rw [e63]
    omega
theorem nanD_lt (x : Nat) (w : World) : nanD x w < b64 := by
  obtain ⟨s, k, h1, h2, h3, h4⟩ := nanD_form x w
  rw [h4]
  show _ < 18446744073709551616
  omega
theorem nanD_order (x : Nat) (w : World) (c : Nat) : Ieee.double.order (nanD x w % b63) c = none := by
  obtain ⟨s, k, h1, h2, h3, h4⟩ := nanD_form x w
  have e : nanD x w % b63 = 9218868437227405312 + k := by
    rw [h4]
    show _ % 9223372036854775808 = _
    omega
  have r : Ieee.double.read (nanD x w % b63) = .nan false k := by
    rw [e]
    unfold Ieee.Format.read
    rw [swD, bnD, infD]
    have e2 : (2047 : Nat) * b52 = 9218868437227405312 := rfl
    have e3 : b52 = 4503599627370496 := rfl
    rw [e2, e3]
    obtain ⟨z, hz⟩ : ∃ z, z = 9218868437227405312 + k := ⟨_, rfl⟩
    rw [← hz]
    have a1 : (z / 9223372036854775808 % 2 == 1) = false := by
      have : z / 9223372036854775808 % 2 = 0 := by omega
      rw [this]; rfl
    have a2 : z % 9223372036854775808 = z := by omega
    simp only [a1, a2]
    rw [if_neg (by omega), if_neg (by omega), if_neg (by omega)]
    have a3 : z - 9218868437227405312 = k := by omega
    rw [a3]
  unfold Ieee.Format.order
  rw [r]
  rfl
theorem nan_geq (x : Nat) (w : World) (c : Nat) : (FloatKind.f64.format.order (nanD x w % b63) c == some .gt || FloatKind.f64.format.order (nanD x w % b63) c == some .eq) = false := by
  rw [show FloatKind.f64.format = Ieee.double from rfl, nanD_order]; rfl

theorem conv_nan {x : Nat} (h : ∃ s t, Ieee.single.read x = .nan s t) (w : World) : (convert 22 32 (.float .f32 x)).run Try.prog w = .ok (.float .f64 (nanD x w)) w.drew := by
  obtain ⟨s, t, h⟩ := h
  have he : FloatKind.f32.decode x = .nan s t := h
  have hs := Try.underlying22
  have hd := Try.underlying32
  have hf : Question.forced (.nanConv .f64 x) = false := rfl
  simp [convert, run_underlying hs, run_underlying hd, Conv.floatToFloat, he, hf]
  rfl
theorem read_nan {x : Nat} (h : 2139095040 < x % 2147483648) : ∃ s t, Ieee.single.read x = .nan s t := by
  unfold Ieee.Format.read
  rw [swS, binS', infS']
  simp only
  rw [if_neg (by omega), if_neg (by omega), if_neg (by omega)]
  exact ⟨_, _, rfl⟩


theorem abs_one (w : World) : Calls Try.prog 19 #[.float .f64 4607182418800017408] w fun e w' => e = .returned (.float .f64 4607182418800017408) ∧ w = w' := by
  have := mathAbs_any 4607182418800017408 w (show 4607182418800017408 < 18446744073709551616 by omega)
  rwa [show 4607182418800017408 % b63 = 4607182418800017408 from (show 4607182418800017408 % 9223372036854775808 = 4607182418800017408 by omega)] at this
theorem isNaN_one (w : World) : Calls Try.prog 70 #[.float .f64 4607182418800017408] w fun e w' => e = .returned (.bool false) ∧ w = w' := isNaN_any 4607182418800017408 true (by decide) w
theorem isInf_one (w : World) : Calls Try.prog 65 #[.float .f64 4607182418800017408, .int .i64 0] w fun e w' => e = .returned (.bool false) ∧ w = w' := isInf_any 4607182418800017408 false (show 4607182418800017408 < 18446744073709551616 by omega) (by
  rw [show 4607182418800017408 % b63 = 4607182418800017408 from (show 4607182418800017408 % 9223372036854775808 = 4607182418800017408 by omega)]
  decide) w
set_option maxHeartbeats 1000000 in
theorem normal_one (w : World) : Calls Try.prog 132 #[.float .f64 4607182418800017408] w fun e w' => e = .returned (.tuple #[.float .f64 4607182418800017408, .int .i64 0]) ∧ w = w' := by
  have AB := Lib.hid abs_one
  have o1 : (FloatKind.f64.format.order 4607182418800017408 4503599627370496 == some .lt) = false := by decide
  go_enter Try.func132, Try.ntmps132
  go_wp2_with (go_at_call 19; (with_reducible refine (AB.out _).mono ?_); rintro e w' ⟨rfl, rfl⟩)
  go_ret2
  exact ⟨rfl, rfl⟩

set_option maxHeartbeats 1000000 in
set_option maxRecDepth 100000 in
theorem ldexp14_in (w : World) : Calls Try.prog 75 #[.float .f64 4607182418800017408, .int .i64 (-14)] w fun e w' => e = .returned (.float .f64 4544132024016830464) ∧ w = w' := by
  have hb : ∀ w : World, (callFunc 73 #[.float .f64 4607182418800017408]).run Try.prog w = .ok (.value (.int .u64 4607182418800017408)) w := fun w => f64bits _ w
  have hc : ∀ w : World, (callFunc 72 #[.int .u64 4544132024016830464]).run Try.prog w = .ok (.value (.float .f64 4544132024016830464)) w := fun w => f64from _ w
  have IN := Lib.hid isNaN_one
  have II := Lib.hid isInf_one
  have NO := Lib.hid normal_one
  have o0 : (FloatKind.f64.format.order 4607182418800017408 0 == some .eq) = false := by decide
  have n1 : bits .and .i64 1023 2047 = 1023 := by kernel_rfl
  have n2 : bits .andNot .u64 4607182418800017408 9218868437227405312 = 0 := by kernel_rfl
  have n3 : bits .or .u64 0 4544132024016830464 = 4544132024016830464 := by kernel_rfl
  have M1 := fun (W : World) => run_float_arith (P := Try.prog) W .mul 32 .f64 4607182418800017408 4544132024016830464 4544132024016830464 (by kernel_rfl)
  go_enter Try.func75, Try.ntmps75
  go_wp2_with (first
    | (go_at_call 65; (with_reducible refine (II.out _).mono ?_); rintro e w' ⟨rfl, rfl⟩)
    | (go_at_call 70; (with_reducible refine (IN.out _).mono ?_); rintro e w' ⟨rfl, rfl⟩)
    | (go_at_call 132; (with_reducible refine (NO.out _).mono ?_); rintro e w' ⟨rfl, rfl⟩))
  go_ret
  exact ⟨rfl, rfl⟩
set_option maxHeartbeats 400000 in
theorem ldexp14 (w : World) : Calls Try.prog 20 #[.float .f64 4607182418800017408, .int .i64 (-14)] w fun e w' => e = .returned (.float .f64 4544132024016830464) ∧ w = w' := by
  have IN := Lib.hid ldexp14_in
  go_enter Try.func20, Try.ntmps20
  go_wp2_with (go_at_call 75; (with_reducible refine (IN.out _).mono ?_); rintro e w' ⟨rfl, rfl⟩)
  go_ret
  exact ⟨rfl, rfl⟩

set_option maxHeartbeats 1000000 in
set_option maxRecDepth 100000 in
theorem ldexp100_in (w : World) : Calls Try.prog 75 #[.float .f64 4607182418800017408, .int .i64 (-100)] w fun e w' => e = .returned (.float .f64 4156822456062967808) ∧ w = w' := by
  have hb : ∀ w : World, (callFunc 73 #[.float .f64 4607182418800017408]).run Try.prog w = .ok (.value (.int .u64 4607182418800017408)) w := fun w => f64bits _ w
  have hc : ∀ w : World, (callFunc 72 #[.int .u64 4156822456062967808]).run Try.prog w = .ok (.value (.float .f64 4156822456062967808)) w := fun w => f64from _ w
  have IN := Lib.hid isNaN_one
  have II := Lib.hid isInf_one
  have NO := Lib.hid normal_one
  have o0 : (FloatKind.f64.format.order 4607182418800017408 0 == some .eq) = false := by decide
  have n1 : bits .and .i64 1023 2047 = 1023 := by kernel_rfl
  have n2 : bits .andNot .u64 4607182418800017408 9218868437227405312 = 0 := by kernel_rfl
  have n3 : bits .or .u64 0 4156822456062967808 = 4156822456062967808 := by kernel_rfl
  have M1 := fun (W : World) => run_float_arith (P := Try.prog) W .mul 32 .f64 4607182418800017408 4156822456062967808 4156822456062967808 (by kernel_rfl)
  go_enter Try.func75, Try.ntmps75
  go_wp2_with (first
    | (go_at_call 65; (with_reducible refine (II.out _).mono ?_); rintro e w' ⟨rfl, rfl⟩)
    | (go_at_call 70; (with_reducible refine (IN.out _).mono ?_); rintro e w' ⟨rfl, rfl⟩)
    | (go_at_call 132; (with_reducible refine (NO.out _).mono ?_); rintro e w' ⟨rfl, rfl⟩))
  go_ret
  exact ⟨rfl, rfl⟩
set_option maxHeartbeats 400000 in
theorem ldexp100 (w : World) : Calls Try.prog 20 #[.float .f64 4607182418800017408, .int .i64 (-100)] w fun e w' => e = .returned (.float .f64 4156822456062967808) ∧ w = w' := by
  have IN := Lib.hid ldexp100_in
  go_enter Try.func20, Try.ntmps20
  go_wp2_with (go_at_call 75; (with_reducible refine (IN.out _).mono ?_); rintro e w' ⟨rfl, rfl⟩)
  go_ret
  exact ⟨rfl, rfl⟩
end Go.Proofs.Ytkcehbnmcdppkaa

/- Bytes that are appended to a list of one's own; contract: appendBytes. -/
namespace Go.Proofs.Ytkcehbnmcdppkaa
open Go.RowKit Fl
set_option linter.unusedVariables false

/-- Bytes, as cells. -/
def btL (L : List Int) : List Value := L.map (Value.int .u8)
theorem btL_len (L : List Int) : (btL L).length = L.length := by simp [btL]
theorem btL_app (L M : List Int) : btL (L ++ M) = btL L ++ btL M := by simp [btL]

theorem grownBy_on {w w1 w2 : World} {o : Option Nat} {g : Nat} (h : w.grownBy w1 o) (ho : o = some g ∨ w.heap.size ≤ g) (h2 : w1.grownBy w2 (some g)) : w.grownBy w2 o := by
  refine ⟨h2.os.trans h.os, h2.tape.trans h.tape, h2.output.trans h.output, Nat.le_trans h.size h2.size, fun i hi hne => ?_⟩
  rw [h2.block i (Nat.lt_of_lt_of_le hi h.size) ?_]
  · exact h.block i hi hne
  · rcases ho with rfl | hg
    · exact hne
    · intro c; have := Option.some.inj c; omega
theorem grownBy_below {w w1 w2 : World} {o : Option Nat} (h : w.grownBy w1 o) (h2 : Below w1.heap.size w1 w2) : w.grownBy w2 o :=
  ⟨h2.os.trans h.os, h2.tape.trans h.tape, h2.output.trans h.output, Nat.le_trans h.size h2.size, fun i hi hne => (h2.block i (Nat.lt_of_lt_of_le hi h.size)).trans (h.block i hi hne)⟩

/-- A list of bytes of one's own (from the block base on), since the world w0, in which it began as o0. -/
structure BtAt (w0 : World) (base : Nat) (o0 : Option Nat) (L : List Int) (ov : Value) (wr : World) : Prop where
  own : wr.ownsRow base 5 1 ov L.length (btL L)
  gr : w0.grownBy wr o0
  seat : ov.ownBlock = o0 ∨ ∃ g, ov.ownBlock = some g ∧ w0.heap.size ≤ g
  size : base ≤ wr.heap.size

theorem BtAt.push {w0 wr w5 w6 : World} {base g' cap' x : Nat} {o0 : Option Nat} {L : List Int} {ov : Value} {o : Obj} {B : List Int} (h : BtAt w0 base o0 L ov wr) (h5 : Below wr.heap.size wr w5)
    (hgrow : (w5.alloc o).grownBy w6 ov.ownBlock) (hat : ov.ownBlock = some g' ∨ g' = x) (hx : w5.heap.size ≤ x) (hown : w6.ownsRow base 5 1 (.slice (some ⟨g', 0, none⟩) (L.length + B.length) cap') (L.length + B.length) (btL L ++ btL B)) :
    BtAt w0 base o0 (L ++ B) (.slice (some ⟨g', 0, none⟩) (L.length + B.length) cap') w6 := by
  have g5 : w0.grownBy (w5.alloc o) o0 := grownBy_below (grownBy_below h.gr h5) (((Below.refl _ _).alloc (Nat.le_refl _) _))
  have s5 : wr.heap.size ≤ w5.heap.size := h5.size
  refine ⟨?_, ?_, ?_, ?_⟩
  · rw [List.length_append, btL_app]; exact hown
  · cases hv : ov.ownBlock with
    | none =>
      rw [hv] at hgrow
      exact ⟨hgrow.os.trans g5.os, hgrow.tape.trans g5.tape, hgrow.output.trans g5.output, Nat.le_trans g5.size hgrow.size, fun i hi hne => (hgrow.block i (Nat.lt_of_lt_of_le hi g5.size) (by simp)).trans (g5.block i hi hne)⟩
    | some g =>
      rw [hv] at hgrow
      refine grownBy_on g5 ?_ hgrow
      rcases h.seat with e | ⟨q, e, hq⟩
      · exact .inl (e.symm.trans hv)
      · rw [hv] at e; have := Option.some.inj e; exact .inr (by omega)
  · rcases hat with e | e
    · rcases h.seat with s | ⟨q, s, hq⟩
      · exact .inl (by rw [← s, e]; rfl)
      · exact .inr ⟨g', rfl, by rw [e] at s; have := Option.some.inj s; omega⟩
    · exact .inr ⟨g', rfl, by have := h.gr.size; omega⟩
  · have := hgrow.size
    rw [heap_size_alloc] at this
    have := h.size
    omega

/-- The lowest bytes of a number, the highest of them first. -/
def byteL (n : Nat) : Nat → List Int
  | 0 => []
  | k + 1 => ((n / 256 ^ k % 256 : Nat) : Int) :: byteL n k
theorem byteL_len (n : Nat) : ∀ k, (byteL n k).length = k
  | 0 => rfl
  | k + 1 => by simp [byteL, byteL_len n k]

theorem byte_eq (n k : Nat) : ((n / 256 ^ k % 256 : Nat) : Int) = (n : Int) / 2 ^ (8 * k) % 256 := by
  rw [Int.natCast_emod, Int.natCast_ediv, Int.natCast_pow, Int.pow_mul]
  rfl

set_option maxHeartbeats 1000000 in
set_option maxRecDepth 100000 in
theorem appendBytes_any (w0 : World) (base : Nat) (o0 : Option Nat) (L : List Int) (ov : Value) (n m : Nat) (w : World) (h : BtAt w0 base o0 L ov w) (hn : n < 4294967296) (hm : m ≤ 4) (hL : L.length ≤ 1073741824) :
    Calls Try.prog 130 #[ov, .int .u32 n, .int .i64 m] w fun e w' => ∃ ov', e = .returned ov' ∧ BtAt w0 base o0 (L ++ byteL n m) ov' w' := by
  have HB := Lib.hid h
  have hinfo : (Try.prog.info? 5).map (fun i => (i.zero, i.size, i.bytes)) = some (some (.int .u8 0), 1, 1) := by kernel_rfl
  obtain ⟨ti, hi, hz0, hz1, hz2⟩ := info_parts hinfo
  have HTI := Lib.hid hi
  have HL := Lib.hid hL
  clear h hinfo hi hL
  go_enter Try.func130, Try.ntmps130
  go_wp2
  go_loopw [0, 2] (fun t c wr => ∃ (k : Nat) (P : List Int), k ≤ m ∧ c = .int .i64 k ∧ P.length + k = m ∧ P ++ byteL n k = byteL n m ∧ BtAt w0 base o0 (L ++ P) t wr) (fun _ c _ => (intOf c).toNat)
  case atStart => exact ⟨m, [], Nat.le_refl _, rfl, by simp, rfl, by rw [List.append_nil]; exact HB.out⟩
  case round =>
    obtain ⟨k, P, hk, rfl, hP, hPe, hA⟩ := hrel
    have HA := Lib.hid hA
    have HPE := Lib.hid hPe
    have HPL := Lib.hid hP
    clear hA hPe hP
    cases k with
    | zero =>
      go_wp2
      go_ret
      refine ⟨_, rfl, ?_⟩
      have e := HPE.out
      rw [show byteL n 0 = [] from rfl, List.append_nil] at e
      rw [← e]
      exact HA.out
    | succ k =>
      have hi := HTI.out
      have HKE := Lib.hid (byte_eq n k)
      have HLT := Lib.hid (show (L ++ P).length + 1 ≤ 1073741840 by have := HL.out; have := HPL.out; simp; omega)
      go_wp2_with (at_builtin; go_loud (refine wpList_append_lies _ rfl _ _ _ rfl base 5 ti _ 1 1 Try.underlying153 hi hz0 hz1 hz2 rfl (by omega) u0 (L ++ P).length (btL (L ++ P)) (by rfl) (HA.out.own.alloc _) ⟨wr.heap.size, 0, none⟩ 1 1 [.int .u8 ((n : Int) / 2 ^ (8 * k) % 256)] (by rfl) (by rfl) (World.news_of_block (cs := #[.int .u8 ((n : Int) / 2 ^ (8 * k) % 256)]) (t := 5) (fr := (0, 0)) (heap_alloc_new wr _)) (by simp [Value.oneCell']) (by omega) (by have := HLT.out; unfold maxLen; omega) (by have := HLT.out; omega) (by have := HA.out.size; simp; omega) (wr.heap.size + 1) (by simp) ?_; intro g' cap' w6 hown6 hgrow hat hlt6; have HN6 := Lib.hid (BtAt.push (B := [(n : Int) / 2 ^ (8 * k) % 256]) HA.out (Below.refl _ _) hgrow hat (Nat.le_succ _) hown6); clear hown6 hgrow hat hlt6))
      go_roundw
      case rel =>
        refine ⟨k, P ++ [(n : Int) / 2 ^ (8 * k) % 256], by omega, rfl, by have := HPL.out; simp; omega, ?_, by rw [← List.append_assoc, ← List.length_append]; exact HN6.out⟩
        rw [List.append_assoc, ← HPE.out]
        show _ = P ++ (((n / 256 ^ k % 256 : Nat) : Int) :: byteL n k)
        rw [HKE.out]; rfl
      case measure => simp [intOf]
end Go.Proofs.Ytkcehbnmcdppkaa

/- Contract: layouts: what stands in the map for whole singles. -/
namespace Go.Proofs.Ytkcehbnmcdppkaa
open Go.RowKit Fl Go.Maps Go.ChangeMaps
set_option linter.unusedVariables false

abbrev fnV (n : Nat) : Value := .func (.func n) #[] #[]
abbrev pt (b : Nat) : Value := .pointer (some ⟨b, 0, none⟩)

theorem run_store_func {P : Program} {w : World} {a : Addr} {m : Mode} (f : Fn) (x y : Array Value) : (store a (.func f x y) m).run P w = stored P w a (.func f x y) m := run_store P w a _ m rfl

theorem keyLaw : Keyed Try.prog 3 := int_keyed Try.underlying3

theorem ins_any (w : World) (mb : Nat) (es : Array MapEntry) (cl : Nat) (n : Int) (v : Value) (hb : w.heap[mb]? = some (.map es cl)) (hn : (Lit.int .i64 n).wf = true) (hk : ∀ x ∈ es.toList, ∃ m, x.key = .int .i64 m ∧ (Lit.int .i64 m).wf = true ∧ m ≠ n) :
    ∃ w', (Instr.mapUpdate 151 (.map (some mb)) (.int .i64 n) v).run Try.prog w = .ok () w' ∧ w'.heap[mb]? = some (.map (es.push ⟨.int .i64 n, v, cl⟩) (cl + 1)) ∧ w.grownBy w' (some mb) := by
  have hkey := keyOf_int_mk (P := Try.prog) Try.underlying3 hn
  rcases keyLaw.find w hkey es.toList (fun x hx => by obtain ⟨m, e, h, _⟩ := hk x hx; exact ⟨_, by rw [e]; exact keyOf_int_mk Try.underlying3 h⟩) with ⟨h1, h2⟩ | ⟨j, e0, h1, h2, h3⟩
  · refine ⟨_, ?_, heap_setBlock_same hb _, ⟨rfl, rfl, rfl, by simp [setBlock], fun i _ hi => heap_setBlock_other hb _ (fun e => hi (by rw [e]))⟩⟩
    simp [Instr.mapUpdate, run_underlying Try.underlying151, MapKept.run_getObj_map hb, keyLaw.check w false hkey, h1, MapKept.run_setObj_map _ hb, Result.andThen, setBlock]
  · obtain ⟨m, e, _, hne⟩ := hk e0 (List.mem_of_getElem? h2)
    rw [e] at h3
    injection h3 with _ q
    exact absurd q hne

theorem look_any (w : World) (mb : Nat) (es : Array MapEntry) (cl : Nat) (n : Int) (e0 : MapEntry) (hb : w.heap[mb]? = some (.map es cl)) (hn : (Lit.int .i64 n).wf = true) (hk : ∀ x ∈ es.toList, ∃ m, x.key = .int .i64 m ∧ (Lit.int .i64 m).wf = true)
    (h0 : e0 ∈ es.toList) (hk0 : e0.key = .int .i64 n) (hu : ∀ x ∈ es.toList, x.key = .int .i64 n → x = e0) :
    (Instr.lookup 151 (.map (some mb)) (.int .i64 n) true).run Try.prog w = .ok (.tuple #[e0.val, .bool true]) w := by
  have hkey := keyOf_int_mk (P := Try.prog) Try.underlying3 hn
  rcases keyLaw.find w hkey es.toList (fun x hx => by obtain ⟨m, e, h⟩ := hk x hx; exact ⟨_, by rw [e]; exact keyOf_int_mk Try.underlying3 h⟩) with ⟨h1, h2⟩ | ⟨j, e1, h1, h2, h3⟩
  · exact absurd hk0 (h2 e0 h0)
  · obtain rfl := hu e1 (List.mem_of_getElem? h2) h3
    simp [Instr.lookup, run_underlying Try.underlying151, MapKept.run_getObj_map hb, keyLaw.check w _ hkey, h1, Result.andThen]

/-- A layout of codes. -/
structure CodV (w : World) (c : Int) (f g : Nat) (V : Value) (p q r : Nat) : Prop where
  val : V = .agg #[.bool false, .func (.func 178) #[] #[pt p, pt q, pt r], .func (.func 179) #[] #[pt p, pt r]]
  h1 : w.heap[p]? = some (.cells #[.int .i64 c] 3)
  h2 : w.heap[q]? = some (.cells #[fnV f] 29)
  h3 : w.heap[r]? = some (.cells #[fnV g] 94)
theorem CodV.stay {w w' : World} {c : Int} {f g : Nat} {V : Value} {p q r : Nat} (h : CodV w c f g V p q r) (hb : Below w.heap.size w w') : CodV w' c f g V p q r :=
  ⟨h.val, blkStay h.h1 hb, blkStay h.h2 hb, blkStay h.h3 hb⟩
theorem CodV.grown {w w' : World} {c : Int} {f g : Nat} {V : Value} {p q r m : Nat} (h : CodV w c f g V p q r) (hg : w.grownBy w' (some m)) (hp : p ≠ m) (hq : q ≠ m) (hr : r ≠ m) : CodV w' c f g V p q r := by
  have st : ∀ {b : Nat} {o : Obj}, w.heap[b]? = some o → b ≠ m → w'.heap[b]? = some o := fun {b o} hb hne => by
    rw [hg.block b ?_ (by simpa using hne)]; · exact hb
    rcases Nat.lt_or_ge b w.heap.size with l | l
    · exact l
    · rw [Array.getElem?_eq_none l] at hb; cases hb
  exact ⟨h.val, st h.h1 hp, st h.h2 hq, st h.h3 hr⟩

set_option maxHeartbeats 1000000 in
theorem byCodes_any (c : Int) (f g : Nat) (w : World) : Calls Try.prog 162 #[.int .i64 c, fnV f, fnV g] w fun e w' => ∃ V p q r, e = .returned V ∧ CodV w' c f g V p q r ∧ w.heap.size ≤ p ∧ w.heap.size ≤ q ∧ w.heap.size ≤ r ∧ Below w.heap.size w w' := by
  have RS := fun (w : World) (a : Addr) (m : Mode) f x y => run_store_func (P := Try.prog) (w := w) (a := a) (m := m) f x y
  go_enter Try.func162, Try.ntmps162
  go_wp2
  refine bodyPost_ret (v := .agg #[.bool false, .func (.func 178) #[] #[pt w.heap.size, pt (w.heap.size + 1), pt (w.heap.size + 2)], .func (.func 179) #[] #[pt w.heap.size, pt (w.heap.size + 2)]]) (by simp [results, Try.results162, go_sem]) rfl ⟨_, w.heap.size, w.heap.size + 1, w.heap.size + 2, rfl, ⟨rfl, ?_, ?_, ?_⟩, Nat.le_refl _, by omega, by omega, (by repeat (first | exact Below.refl _ _ | refine Below.alloc ?_ (by first | omega | (simp; done) | (simp; omega)) _ | refine Below.setCell ?_ (by first | omega | (simp; done) | (simp; omega)) _ | refine Below.drew ?_))⟩
  all_goals (first | (rw [heap_alloc_get, if_pos rfl]; done) | ((simp only [heap_alloc_get, heap_size_alloc, if_true]) <;> ((repeat' split) <;> first | rfl | omega)))
set_option maxHeartbeats 1000000 in
theorem byLevels_any (f g : Nat) (w : World) : Calls Try.prog 165 #[fnV f, fnV g] w fun e w' => ∃ V, e = .returned V ∧ Below w.heap.size w w' := by
  have RS := fun (w : World) (a : Addr) (m : Mode) f x y => run_store_func (P := Try.prog) (w := w) (a := a) (m := m) f x y
  go_enter Try.func165, Try.ntmps165
  go_wp2
  refine bodyPost_ret (v := .agg #[.bool true, .func (.func 181) #[] #[pt w.heap.size], .func (.func 182) #[] #[pt (w.heap.size + 1)]]) (by simp [results, Try.results165, go_sem]) rfl ⟨_, rfl, (by repeat (first | exact Below.refl _ _ | refine Below.alloc ?_ (by first | omega | (simp; done) | (simp; omega)) _ | refine Below.setCell ?_ (by first | omega | (simp; done) | (simp; omega)) _ | refine Below.drew ?_))⟩

/-- What layouts answers: its map, with the layout of whole singles at 1. -/
def LayPost (w : World) (e : Ending) (w' : World) : Prop :=
  ∃ mb V p q r, e = .returned (.map (some mb)) ∧ CodV w' 4 163 164 V p q r ∧ w.heap.size ≤ p ∧ w.heap.size ≤ q ∧ w.heap.size ≤ r ∧ Below w.heap.size w w' ∧
    (Instr.lookup 151 (.map (some mb)) (.int .i64 1) true).run Try.prog w' = .ok (.tuple #[V, .bool true]) w'

theorem grownBy_far {w w' : World} {m B : Nat} (h : w.grownBy w' (some m)) (hm : B ≤ m) (hB : B ≤ w.heap.size) : Below B w w' :=
  ⟨h.os, h.tape, h.output, h.size, fun j hj => h.block j (by omega) (by intro c; have := Option.some.inj c; omega)⟩

/-- At the k-th entry. -/
structure LyAt (w0 : World) (es : Array MapEntry) (cl : Nat) (w : World) : Prop where
  map : w.heap[w0.heap.size]? = some (.map es cl)
  bel : Below w0.heap.size w0 w
theorem LyAt.call {w0 w w' : World} {es : Array MapEntry} {cl : Nat} (h : LyAt w0 es cl w) (hb : Below w.heap.size w w') : LyAt w0 es cl w' := ⟨blkStay h.map hb, h.bel.trans (hb.mono h.bel.size)⟩
theorem LyAt.ins {w0 w : World} {es : Array MapEntry} {cl : Nat} (h : LyAt w0 es cl w) (n : Int) (v : Value) (hn : (Lit.int .i64 n).wf = true) (hk : ∀ x ∈ es.toList, ∃ m, x.key = .int .i64 m ∧ (Lit.int .i64 m).wf = true ∧ m ≠ n) :
    ∃ w', (Instr.mapUpdate 151 (.map (some w0.heap.size)) (.int .i64 n) v).run Try.prog w = .ok () w' ∧ LyAt w0 (es.push ⟨.int .i64 n, v, cl⟩) (cl + 1) w' ∧ w.grownBy w' (some w0.heap.size) := by
  obtain ⟨w', h1, h2, h3⟩ := ins_any w _ es cl n v h.map hn hk
  exact ⟨w', h1, ⟨h2, h.bel.trans (grownBy_far h3 (Nat.le_refl _) h.bel.size)⟩, h3⟩

/-- .. and the layout of whole singles is there. -/
structure LcAt (w0 : World) (es : Array MapEntry) (cl : Nat) (V : Value) (p q r : Nat) (w : World) : Prop where
  ly : LyAt w0 es cl w
  cod : CodV w 4 163 164 V p q r
  hp : w0.heap.size < p
  hq : w0.heap.size < q
  hr : w0.heap.size < r
theorem LcAt.step {w0 w w' : World} {es : Array MapEntry} {cl : Nat} {V : Value} {p q r : Nat} (h : LcAt w0 es cl V p q r w) (hb : Below w.heap.size w w') (n : Int) (v : Value) (hn : (Lit.int .i64 n).wf = true) (hk : ∀ x ∈ es.toList, ∃ m, x.key = .int .i64 m ∧ (Lit.int .i64 m).wf = true ∧ m ≠ n) :
    ∃ w2, (Instr.mapUpdate 151 (.map (some w0.heap.size)) (.int .i64 n) v).run Try.prog w' = .ok () w2 ∧ LcAt w0 (es.push ⟨.int .i64 n, v, cl⟩) (cl + 1) V p q r w2 := by
  obtain ⟨w2, h1, h2, h3⟩ := (h.ly.call hb).ins n v hn hk
  have := h.hp
  have := h.hq
  have := h.hr
  exact ⟨w2, h1, h2, (h.cod.stay hb).grown h3 (by omega) (by omega) (by omega), h.hp, h.hq, h.hr⟩

theorem key_ne {n : Int} {l : List Int} (h : n ∉ l) {es : List MapEntry} (he : es.map (·.key) = l.map (Value.int .i64)) (hw : ∀ m ∈ l, (Lit.int .i64 m).wf = true) : ∀ x ∈ es, ∃ m, x.key = .int .i64 m ∧ (Lit.int .i64 m).wf = true ∧ m ≠ n := by
  intro x hx
  have : x.key ∈ es.map (·.key) := List.mem_map.2 ⟨x, hx, rfl⟩
  rw [he] at this
  obtain ⟨m, hm, e⟩ := List.mem_map.1 this
  exact ⟨m, e.symm, hw m hm, fun c => h (c ▸ hm)⟩

set_option maxHeartbeats 4000000 in
set_option maxRecDepth 100000 in
theorem layouts_any (w : World) : Calls Try.prog 128 #[] w (LayPost w) := by
  have BC := Lib.hid byCodes_any
  have BL := Lib.hid byLevels_any
  have hmm := @run_makeMap Try.prog
  have L0 := Lib.hid (show LyAt w #[] 0 (w.alloc (.map #[] 0)) from ⟨by (first | (rw [heap_alloc_get, if_pos rfl]; done) | ((simp only [heap_alloc_get, heap_size_alloc, if_true]) <;> ((repeat' split) <;> first | rfl | omega))), (by repeat (first | exact Below.refl _ _ | refine Below.alloc ?_ (by first | omega | (simp; done) | (simp; omega)) _ | refine Below.setCell ?_ (by first | omega | (simp; done) | (simp; omega)) _ | refine Below.drew ?_))⟩)
  have Z0 := Lib.hid (show w.heap.size < (w.alloc (.map #[] 0)).heap.size by rw [heap_size_alloc]; omega)
  go_enter Try.func128, Try.ntmps128
  go_wp2_with (first
    | (go_at_call 162; (with_reducible refine (BC.out 4 _ _ _).mono ?_); rintro e w1 ⟨V1, p, q, r, rfl, hc1, hp, hq, hr, hb1⟩; obtain ⟨w2, I1, L2, G2⟩ := (L0.out.call hb1).ins 1 V1 rfl (by simp); have L2 := Lib.hid (show LcAt w _ _ V1 p q r w2 from ⟨L2, hc1.grown G2 (by have := Z0.out; omega) (by have := Z0.out; omega) (by have := Z0.out; omega), (by have := Z0.out; omega), (by have := Z0.out; omega), (by have := Z0.out; omega)⟩); clear hc1 hp hq hr hb1 G2)
    | (go_at_call 162; (with_reducible refine (BC.out 2 60 _ _).mono ?_); rintro e w3 ⟨V2, _, _, _, rfl, _, _, _, _, hb1⟩; obtain ⟨w4, I2, L4⟩ := L2.out.step hb1 2 V2 rfl (key_ne (l := [1]) (by decide) rfl (by decide)); have L4 := Lib.hid L4; clear hb1)
    | (go_at_call 162; (with_reducible refine (BC.out 2 16 _ _).mono ?_); rintro e w5 ⟨V3, _, _, _, rfl, _, _, _, _, hb1⟩; obtain ⟨w6, I3, L6⟩ := L4.out.step hb1 3 V3 rfl (key_ne (l := [1, 2]) (by decide) rfl (by decide)); have L6 := Lib.hid L6; clear hb1)
    | (go_at_call 165; (with_reducible refine (BL.out 166 _ _).mono ?_); rintro e w7 ⟨V4, rfl, hb1⟩; obtain ⟨w8, I4, L8⟩ := L6.out.step hb1 4 V4 rfl (key_ne (l := [1, 2, 3]) (by decide) rfl (by decide)); have L8 := Lib.hid L8; clear hb1)
    | (go_at_call 165; (with_reducible refine (BL.out 168 _ _).mono ?_); rintro e w9 ⟨V5, rfl, hb1⟩; obtain ⟨w10, I5, L10⟩ := L8.out.step hb1 5 V5 rfl (key_ne (l := [1, 2, 3, 4]) (by decide) rfl (by decide)); have L10 := Lib.hid L10; clear hb1))
  go_ret
  refine ⟨_, V1, p, q, r, rfl, L10.out.cod, Nat.le_of_lt L10.out.hp, Nat.le_of_lt L10.out.hq, Nat.le_of_lt L10.out.hr, L10.out.ly.bel, ?_⟩
  refine look_any w10 _ _ _ 1 _ L10.out.ly.map rfl (fun x hx => ?_) (List.mem_cons_self) rfl (fun x hx he => ?_)
  · obtain ⟨m, e, h, _⟩ := key_ne (n := 0) (l := [1, 2, 3, 4, 5]) (by decide) rfl (by decide) x hx
    exact ⟨m, e, h⟩
  · have hx' : x ∈ [MapEntry.mk (.int .i64 1) V1 0, ⟨.int .i64 2, V2, 1⟩, ⟨.int .i64 3, V3, 2⟩, ⟨.int .i64 4, V4, 3⟩, ⟨.int .i64 5, V5, 4⟩] := hx
    simp only [List.mem_cons, List.not_mem_nil, or_false] at hx'
    rcases hx' with rfl | rfl | rfl | rfl | rfl
    · rfl
    all_goals simp at he
end Go.Proofs.Ytkcehbnmcdppkaa

/- What the format of whole singles writes: layouts' first entry. -/
namespace Go.Proofs.Ytkcehbnmcdppkaa
open Go.RowKit Fl
set_option linter.unusedVariables false

theorem make0_byte (n : Nat) (hn : n ≤ 1073741824) (w : World) :
    (Instr.makeSlice 153 (.int .i64 0) (.int .i64 (n : Int))).run Try.prog w = .ok (.slice (some ⟨w.heap.size, 0, none⟩) 0 n) (w.alloc (.cells (madeCells #[Value.int .u8 0] n) 5)) := by
  have h : (Try.prog.info? 5).map (fun i => (i.zero, i.size, i.bytes)) = some (some (.int .u8 0), 1, 1) := by kernel_rfl
  obtain ⟨i0, hi, hz0, hz1, hz2⟩ := info_parts h
  have hr := run_make (P := Try.prog) w 153 5 i0 (.int .u8 0) Try.underlying153 hi hz0 .i64 .i64 0 n (by omega) (by omega) (by rw [hz2]; omega) (by omega)
  rw [hz1, Nat.mul_one, Int.toNat_natCast] at hr
  exact hr

/-- The bytes of the first k singles. -/
def fullL (v : Nat → Nat) : Nat → List Int
  | 0 => []
  | k + 1 => fullL v k ++ byteL (v k) 4
theorem fullL_len (v : Nat → Nat) : ∀ k, (fullL v k).length = 4 * k
  | 0 => rfl
  | k + 1 => by simp [fullL, fullL_len v k, byteL_len]; omega

set_option maxHeartbeats 400000 in
theorem layouts1_any (x : Nat) (hx : x < 4294967296) (w : World) : Calls Try.prog 163 #[.float .f32 x] w fun e w' => e = .returned (.int .i64 x) ∧ w = w' := by
  have h1 := f32bits
  go_enter Try.func163, Try.ntmps163
  go_wp2
  go_ret
  exact ⟨rfl, rfl⟩

set_option maxHeartbeats 400000 in
theorem layouts2_any (x : Nat) (hx : x < 4294967296) (w : World) : Calls Try.prog 164 #[.int .i64 x] w fun e w' => e = .returned (.float .f32 x) ∧ w = w' := by
  have h1 := f32from
  go_enter Try.func164, Try.ntmps164
  go_wp2
  go_ret
  exact ⟨rfl, rfl⟩

/-- A scaling. -/
abbrev scV (lo st : Nat) (bi : Int) : Value := .agg #[.float .f32 lo, .float .f32 st, .int .i64 bi]

theorem flAt_stay {w w' : World} {b off n : Nat} {v : Nat → Nat} (h : FlAt w b off n v) (hb : Below w.heap.size w w') : FlAt w' b off n v := fun i hi => by
  have := h i hi
  exact (Below.cell (p := ⟨b, off + i, none⟩) hb (World.block_lt_of_cell? w _ this)).trans this

/-- A list of bytes that a call has made. -/
def BtsPost (w : World) (L : List Int) (e : Ending) (w' : World) : Prop :=
  ∃ ov, e = .returned (.tuple #[ov, .bool true]) ∧ w'.ownsRow w.heap.size 5 1 ov L.length (btL L) ∧ Below w.heap.size w w'

set_option maxHeartbeats 1000000 in
set_option maxRecDepth 100000 in
theorem codes_any (b off n cap : Nat) (v : Nat → Nat) (lo st : Nat) (bi : Int) (p q r : Nat) (V : Value) (w : World) (hV : CodV w 4 163 164 V p q r) (hr : FlAt w b off n v) (hw : wf32 n v) (hf : ∀ i, i < n → finB (v i) = true) (h1 : 1 ≤ n) (h2 : n ≤ 65536) :
    Calls Try.prog 178 #[.slice (some ⟨b, off, none⟩) n cap, scV lo st bi, pt p, pt q, pt r] w (BtsPost w (fullL v n)) := by
  have hm : ∀ W : World, (Instr.makeSlice 153 (.int .i64 0) (.int .i64 (4 * (n : Int)))).run Try.prog W = .ok (.slice (some ⟨W.heap.size, 0, none⟩) 0 (4 * n)) (W.alloc (.cells (madeCells #[Value.int .u8 0] (4 * n)) 5)) := fun W => by
    have := make0_byte (4 * n) (by omega) W
    rwa [Int.natCast_mul] at this
  have HV := Lib.hid hV
  have HR := Lib.hid hr
  have HW := Lib.hid hw
  have HF := Lib.hid hf
  obtain ⟨c2, f2, z2⟩ := blkC hV.h1
  have H1 := Lib.hid h1
  have B1 := Lib.hid (show Below w.heap.size w ((w.alloc (.cells #[.float .f32 lo, .float .f32 st, .int .i64 bi] 36)).alloc (.cells (madeCells #[Value.int .u8 0] (4 * n)) 5)) from (by repeat (first | exact Below.refl _ _ | refine Below.alloc ?_ (by first | omega | (simp; done) | (simp; omega)) _ | refine Below.setCell ?_ (by first | omega | (simp; done) | (simp; omega)) _ | refine Below.drew ?_)))
  have A1 := Lib.hid (show BtAt ((w.alloc (.cells #[.float .f32 lo, .float .f32 st, .int .i64 bi] 36)).alloc (.cells (madeCells #[Value.int .u8 0] (4 * n)) 5)) w.heap.size (some (w.heap.size + 1)) [] (.slice (some ⟨w.heap.size + 1, 0, none⟩) 0 (4 * n)) ((w.alloc (.cells #[.float .f32 lo, .float .f32 st, .int .i64 bi] 36)).alloc (.cells (madeCells #[Value.int .u8 0] (4 * n)) 5)) from
    ⟨by
      have := World.ownsRow_made (w.alloc (.cells #[.float .f32 lo, .float .f32 st, .int .i64 bi] 36)) (base := w.heap.size) (e := 5) (size := 1) (madeCells #[Value.int .u8 0] (4 * n)) (4 * n) (by rw [heap_size_alloc]; omega) (by unfold maxLen; omega) (by simp [size_madeCells])
      rw [heap_size_alloc] at this
      exact this, ⟨rfl, rfl, rfl, Nat.le_refl _, fun _ _ _ => rfl⟩, .inl rfl, by simp; omega⟩)
  clear hV hr hw hf h1
  go_enter Try.func178, Try.ntmps178
  go_wp2
  generalize (w.alloc (.cells #[.float .f32 lo, .float .f32 st, .int .i64 bi] 36)).alloc (.cells (madeCells #[Value.int .u8 0] (4 * n)) 5) = w1 at *
  clear hm c2 f2 z2
  go_loopw [9, 20] (fun t i wr => ∃ k : Nat, k ≤ n ∧ i = .int .i64 k ∧ BtAt w1 w.heap.size (some (w.heap.size + 1)) (fullL v k) t wr) (fun _ i _ => n - (intOf i).toNat)
  case atStart => exact ⟨0, Nat.zero_le _, rfl, A1.out⟩
  case round =>
    obtain ⟨k, hk, rfl, hA⟩ := hrel
    have HA := Lib.hid hA
    have BW := Lib.hid (B1.out.trans (grownBy_far hA.gr (Nat.le_succ _) B1.out.size))
    clear hA
    by_cases hlt : k < n
    · have hcell := flAt_stay HR.out BW.out k hlt
      obtain ⟨c2, f2, z2⟩ := blkC (HV.out.stay BW.out).h1
      obtain ⟨c3, f3, z3⟩ := blkC (HV.out.stay BW.out).h2
      obtain ⟨c4, f4, z4⟩ := blkC (HV.out.stay BW.out).h3
      have hx := HW.out k hlt
      rcases step1 (v k) with ⟨_, _, X, e1, e2, e3⟩ | ⟨e1, _⟩ | ⟨e1, _⟩
      · have AB := Lib.hid (appendBytes_any w1 w.heap.size (some (w.heap.size + 1)) (fullL v k) · (v k) 4 wr · hx (by omega) (by rw [fullL_len]; omega))
        have HE := Lib.hid (show fullL v (k + 1) = fullL v k ++ byteL (v k) 4 from rfl)
        have d1 := fun (W : World) => run_convert_float_float (P := Try.prog) W 22 32 .f32 .f64 (v k) X (by kernel_rfl) Try.underlying32 e1
        have C1 := Lib.hid (fun w => layouts1_any (v k) hx w)
        have C2 := Lib.hid (fun w => layouts2_any (v k) hx w)
        have C3 := Lib.hid (fun w => isInf_any X false e2 e3 w)
        have HLT := Lib.hid hlt
        clear e1 e2 e3
        generalize v k = x at *
        go_wp2_with (first | (go_at_call 163; refine (C1.out _).mono ?_; rintro e w' ⟨rfl, rfl⟩) | (go_at_call 164; refine (C2.out _).mono ?_; rintro e w' ⟨rfl, rfl⟩) | (go_at_call 65; refine (C3.out _).mono ?_; rintro e w' ⟨rfl, rfl⟩) | (go_at_call 130; refine (AB.out _ HA.out).mono ?_; rintro e w6 ⟨ov', rfl, hA6⟩; have HA6 := Lib.hid hA6; clear hA6))
        go_roundw
        case rel => exact ⟨k + 1, HLT.out, by go_num, by rw [HE.out]; exact HA6.out⟩
        case measure => have := HLT.out; simp [intOf]; omega
      all_goals exfalso; rw [HF.out k hlt] at e1; cases e1
    · obtain rfl : k = n := by omega
      go_wp2
      go_ret2
      exact ⟨_, rfl, HA.out.own, BW.out⟩
end Go.Proofs.Ytkcehbnmcdppkaa

/- The sum of the bytes of a text: both sides. -/
namespace Go.Proofs.Ytkcehbnmcdppkaa
open Go.RowKit Fl
set_option linter.unusedVariables false

/-- The byte number k. -/
def chI (s : ByteArray) (k : Nat) : Int := (((s.data[k]?).getD 0).toNat : Int)
theorem chI_in (s : ByteArray) (k : Nat) : 0 ≤ chI s k ∧ chI s k < 256 := by
  unfold chI
  have := ((s.data[k]?).getD 0).toNat_lt
  omega
theorem index_ch (s : ByteArray) (k : Nat) (hk : k < s.size) (w : World) : (Instr.index 9 (.string s) (.int .i64 (k : Int))).run Try.prog w = .ok (.int .u8 (chI s k)) w := by
  rw [run_index_string (w := w) 9 _ _ _ Try.underlying9, dif_pos (by omega)]
  congr 3
  simp only [Int.toNat_natCast]
  rw [Array.getElem?_eq_getElem (by exact hk)]
  rfl

/-- Both sums behind k bytes. -/
def smI (s : ByteArray) : Nat → Int × Int
  | 0 => (1, 0)
  | k + 1 => (((smI s k).1 + chI s k) % 65521, ((smI s k).2 + ((smI s k).1 + chI s k) % 65521) % 65521)
theorem smI_in (s : ByteArray) : ∀ k, 0 ≤ (smI s k).1 ∧ (smI s k).1 < 65521 ∧ 0 ≤ (smI s k).2 ∧ (smI s k).2 < 65521
  | 0 => by show (0 : Int) ≤ 1 ∧ (1 : Int) < 65521 ∧ (0 : Int) ≤ 0 ∧ (0 : Int) < 65521; omega
  | k + 1 => by show 0 ≤ _ % _ ∧ _ % _ < _ ∧ 0 ≤ _ % _ ∧ _ % _ < _; omega
/-- The sum of a text. -/
def sumI (s : ByteArray) : Int := (smI s s.size).2 * 65536 + (smI s s.size).1
theorem sumI_in (s : ByteArray) : 0 ≤ sumI s ∧ sumI s < 4294967296 := by
  have := smI_in s s.size
  unfold sumI; omega

set_option maxHeartbeats 1000000 in
theorem sum_any (s : ByteArray) (w : World) (hs : s.size ≤ 9223372036854775807) :
    Calls Try.prog 131 #[.string s] w fun e w' => e = .returned (.int .i64 (sumI s)) ∧ w = w' := by
  go_enter Try.func131, Try.ntmps131
  go_wp2
  go_loop [3, 4, 8] (fun a b i => ∃ k : Nat, k ≤ s.size ∧ a = .int .i64 (smI s k).1 ∧ b = .int .i64 (smI s k).2 ∧ i = .int .i64 k) (fun _ _ i => s.size - (intOf i).toNat)
  case atStart => exact ⟨0, Nat.zero_le _, rfl, rfl, rfl⟩
  case round =>
    obtain ⟨k, hk, rfl, rfl, rfl⟩ := hrel
    by_cases hlt : k < s.size
    · have hx := fun w => index_ch s k hlt w
      obtain ⟨b1, b2⟩ := chI_in s k
      obtain ⟨d1, d2, d3, d4⟩ := smI_in s k
      have H1 := Lib.hid (show ((smI s k).1 + chI s k) % 65521 = (smI s (k + 1)).1 from rfl)
      have H2 := Lib.hid (show ((smI s k).2 + ((smI s k).1 + chI s k) % 65521) % 65521 = (smI s (k + 1)).2 from rfl)
      generalize chI s k = c at *
      generalize (smI s k).1 = p at *
      generalize (smI s k).2 = q at *
      go_wp2
      go_round
      case rel => exact ⟨k + 1, by omega, by rw [H1.out], by rw [H2.out], by go_num⟩
      case measure => simp [intOf]; omega
    · obtain rfl : k = s.size := by omega
      obtain ⟨d1, d2, d3, d4⟩ := smI_in s s.size
      have H1 := Lib.hid (show (smI s s.size).2 * 65536 + (smI s s.size).1 = sumI s from rfl)
      generalize (smI s s.size).1 = p at *
      generalize (smI s s.size).2 = q at *
      go_wp2
      go_ret
      exact ⟨ret_int (by rw [← H1.out]; try omega), rfl⟩

end Go.Proofs.Ytkcehbnmcdppkaa

/- Whether a single is finite, whether it is a height, as the references of chapters 4 to 10 ask it: by comparisons. -/
namespace Go.Proofs.Ytkcehbnmcdppkaa.Fl
open Ieee

/-- A finite single passes all three tests. -/
theorem num_fin {x : Nat} (h : finB x = true) : (single.order x x == some .eq) = true ∧ (single.order x 2139095039 == some .gt) = false ∧ (single.order x 4286578687 == some .lt) = false := by
  unfold finB at h
  cases hv : vS x with
  | none => rw [hv] at h; cases h
  | some a =>
    obtain ⟨h1, h2⟩ := vS_le hv
    refine ⟨by rw [eql_val hv hv]; simp, by rw [gtr_val hv vS_max]; simp; omega, by rw [lss_val hv vS_min]; simp; omega⟩
/-- Any other falls at one of them. -/
theorem num_inf {x : Nat} (h : finB x = false) : (single.order x x == some .eq) = false ∨ ((single.order x x == some .eq) = true ∧ (single.order x 2139095039 == some .gt) = true) ∨
    ((single.order x x == some .eq) = true ∧ (single.order x 2139095039 == some .gt) = false ∧ (single.order x 4286578687 == some .lt) = true) := by
  unfold finB at h
  cases hv : vS x with
  | some a => rw [hv] at h; cases h
  | none =>
    rcases vS_none hv with ⟨s, hs⟩ | hn
    · right
      have e := self_eq (x := x) (by rw [hs]; rfl)
      cases s with
      | false => exact .inl ⟨e, by unfold Format.order; rw [hs, readMax]; rfl⟩
      | true => exact .inr ⟨e, by unfold Format.order; rw [hs, readMax]; rfl, by unfold Format.order; rw [hs, readMin]; rfl⟩
    · exact .inl (self_ne hn)
/-- A height passes both tests. -/
theorem num_hgt {x : Nat} (h : hgtB x = true) : (single.order x 1233125376 == some .gt) = false ∧ (single.order x 3380609024 == some .lt) = false := by
  unfold hgtB at h
  cases hv : vS x with
  | none => rw [hv] at h; cases h
  | some a =>
    rw [hv] at h
    simp at h
    refine ⟨by rw [gtr_val hv vS_top]; simp; omega, by rw [lss_val hv vS_bot]; simp; omega⟩
/-- A finite single that is none falls at one. -/
theorem num_out {x : Nat} (f : finB x = true) (h : hgtB x = false) : (single.order x 1233125376 == some .gt) = true ∨ ((single.order x 1233125376 == some .gt) = false ∧ (single.order x 3380609024 == some .lt) = true) := by
  unfold finB at f
  unfold hgtB at h
  cases hv : vS x with
  | none => rw [hv] at f; cases f
  | some a =>
    rw [hv] at h
    simp at h
    rw [gtr_val hv vS_top, lss_val hv vS_bot]
    by_cases c : vTop < a
    · exact .inl (by simp [c])
    · exact .inr ⟨by simp [c], by simp; by_cases d : -vTop ≤ a; have := h d; omega; omega⟩
end Go.Proofs.Ytkcehbnmcdppkaa.Fl

/- Contract: the references' NumberError over a list of singles that is known cell by cell. -/
namespace Go.Proofs.Ytkcehbnmcdppkaa
open Go.RowKit Fl
set_option linter.unusedVariables false

set_option maxHeartbeats 2000000 in
theorem qNumberError_row (b off cap n : Nat) (v : Nat → Nat) (hl : n ≤ 9223372036854775807) (w : World) (hc : FlAt w b off n v) :
    Calls Try.prog 24 #[.slice (some ⟨b, off, none⟩) n cap] w fun e w' => e = .returned (.int .i64 (fldE n v)) ∧ w = w' := by
  go_enter Try.func24, Try.ntmps24
  go_wp2
  go_loop [9] (fun i => ∃ k : Nat, k ≤ n ∧ i = .int .i64 k ∧ allB k (fun i => finB (v i)) = true) (fun i => n - (intOf i).toNat)
  case atStart => exact ⟨0, Nat.zero_le _, rfl, rfl⟩
  case round =>
    obtain ⟨k, hk, rfl, hall⟩ := hrel
    have HA := Lib.hid hall
    clear hall
    by_cases hlt : k < n
    · have hcell := hc k hlt
      cases hf : finB (v k) with
      | true =>
        have HB := Lib.hid hf
        obtain ⟨t1, t2, t3⟩ := num_fin hf
        rw [← f32fmt] at t1 t2 t3
        have t1' : (FloatKind.f32.format.order (v k) (v k) != some .eq) = false := by rw [bne, t1]; rfl
        clear hf t1
        go_wp2
        go_round
        case rel => exact ⟨k + 1, by omega, by go_num, allB_iff.2 fun i hi => by rcases Nat.lt_or_ge i k with c | c; exact allB_iff.1 HA.out i c; rw [show i = k by omega]; exact HB.out⟩
        case measure => simp [intOf]; omega
      | false =>
        have HB := Lib.hid hf
        rcases num_inf hf with t1 | ⟨t1, t2⟩ | ⟨t1, t2, t3⟩
        · rw [← f32fmt] at t1
          have t1' : (FloatKind.f32.format.order (v k) (v k) != some .eq) = true := by rw [bne, t1]; rfl
          clear hf t1
          go_wp2
          go_ret
          exact ⟨ret_int (by unfold fldE; rw [allB_no hlt HB.out]; rfl), rfl⟩
        · rw [← f32fmt] at t1 t2
          have t1' : (FloatKind.f32.format.order (v k) (v k) != some .eq) = false := by rw [bne, t1]; rfl
          clear hf t1
          go_wp2
          go_ret
          exact ⟨ret_int (by unfold fldE; rw [allB_no hlt HB.out]; rfl), rfl⟩
        · rw [← f32fmt] at t1 t2 t3
          have t1' : (FloatKind.f32.format.order (v k) (v k) != some .eq) = false := by rw [bne, t1]; rfl
          clear hf t1
          go_wp2
          go_ret
          exact ⟨ret_int (by unfold fldE; rw [allB_no hlt HB.out]; rfl), rfl⟩
    · have hkn : k = n := by omega
      subst hkn
      go_wp2
      go_loop [27] (fun i => ∃ j : Nat, j ≤ k ∧ i = .int .i64 j ∧ allB j (fun i => hgtB (v i)) = true) (fun i => k - (intOf i).toNat)
      case atStart => exact ⟨0, Nat.zero_le _, rfl, rfl⟩
      case round =>
        obtain ⟨j, hj, rfl, hall2⟩ := hrel
        have HH := Lib.hid hall2
        clear hall2
        by_cases hlt2 : j < k
        · have hcell := hc j hlt2
          cases hb : hgtB (v j) with
          | true =>
            have HB := Lib.hid hb
            obtain ⟨t1, t2⟩ := num_hgt hb
            rw [← f32fmt] at t1 t2
            clear hb
            go_wp2
            go_round
            case rel => exact ⟨j + 1, by omega, by go_num, allB_iff.2 fun i hi => by rcases Nat.lt_or_ge i j with c | c; exact allB_iff.1 HH.out i c; rw [show i = j by omega]; exact HB.out⟩
            case measure => simp [intOf]; omega
          | false =>
            have HB := Lib.hid hb
            rcases num_out (allB_iff.1 HA.out j hlt2) hb with t1 | ⟨t1, t2⟩
            · rw [← f32fmt] at t1
              clear hb
              go_wp2
              go_ret
              exact ⟨ret_int (by unfold fldE hgtE; rw [HA.out, allB_no hlt2 HB.out]; rfl), rfl⟩
            · rw [← f32fmt] at t1 t2
              clear hb
              go_wp2
              go_ret
              exact ⟨ret_int (by unfold fldE hgtE; rw [HA.out, allB_no hlt2 HB.out]; rfl), rfl⟩
        · go_wp2
          go_ret
          have : j = k := by omega
          subst this
          exact ⟨ret_int (by unfold fldE hgtE; rw [HA.out, HH.out]; rfl), rfl⟩
end Go.Proofs.Ytkcehbnmcdppkaa

/- Contracts: Index; byPlace and Make, whatever function they are given. -/
namespace Go.Proofs.Ytkcehbnmcdppkaa
open Go.RowKit Fl
set_option linter.unusedVariables false

theorem enters_place1 : Enters 173 := by intro args W; simp [callFunc, Try.func173, Try.f173]

set_option maxHeartbeats 1000000 in
theorem index_any (X Y : Int) (W H : Nat) (i : Nat) (x y : Int) (w : World) (hX1 : -16777216 ≤ X) (hX2 : X ≤ 16777216) (hY1 : -16777216 ≤ Y) (hY2 : Y ≤ 16777216) (hW1 : 1 ≤ W) (hW2 : W ≤ 512) (hH2 : H ≤ 512)
    (h1 : X ≤ x) (h2 : x < X + W) (h3 : Y ≤ y) (h4 : y < Y + H) (hi : (i : Int) = (y - Y) * W + (x - X)) (hn : i ≤ 65536) :
    Calls Try.prog 112 #[reg X Y W H, .int .i64 x, .int .i64 y] w fun e w' => e = .returned (.int .i64 (i : Int)) ∧ w.alloc (regObj X Y W H) = w' := by
  have hq : 0 ≤ (y - Y) * W := Int.mul_nonneg (by omega) (by omega)
  have e2 : wrap64 ((y - Y) * W) = (y - Y) * W := IntWalk.wrap64_in _ ⟨by omega, by omega⟩
  have e3 : wrap64 ((y - Y) * W + x) = (y - Y) * W + x := IntWalk.wrap64_in _ ⟨by omega, by omega⟩
  have e4 : wrap64 ((y - Y) * W + x - X) = (i : Int) := by rw [IntWalk.wrap64_in _ ⟨by omega, by omega⟩]; omega
  clear hi hq
  go_enter Try.func112, Try.ntmps112
  go_wp2
  go_ret
  exact ⟨ret_int e4, rfl⟩

/-- A function value in a box. -/
abbrev fnObj (g : Nat) (caps : Array Value) : Obj := .cells #[.func (.func g) #[] caps] 123

set_option maxHeartbeats 2000000 in
theorem place1_any (X Y : Int) (W H n : Nat) (g : Nat) (caps : Array Value) (f : Nat → Nat) (p q : Nat) (w : World) (hcall : Enters g) (hcl : Clos2 g caps X Y W H f w)
    (hp : w.heap[p]? = some (fnObj g caps)) (hq : w.heap[q]? = some (regObj X Y W H)) (hX1 : -16777216 ≤ X) (hX2 : X ≤ 16777216) (hY1 : -16777216 ≤ Y) (hY2 : Y ≤ 16777216) (hW1 : 1 ≤ W) (hW2 : W ≤ 512) (hH2 : H ≤ 512) (hn : n = H * W) :
    Clos1 173 #[.pointer (some ⟨p, 0, none⟩), .pointer (some ⟨q, 0, none⟩)] n f w := by
  intro i w2 hi hb
  have hdm := Nat.div_add_mod i W
  have hml := Nat.mod_lt i (show 0 < W by omega)
  have hdl : i / W < H := Nat.div_lt_of_lt_mul (by rw [Nat.mul_comm]; omega)
  obtain ⟨a, ha⟩ : ∃ a : Nat, a = i % W := ⟨_, rfl⟩
  obtain ⟨b, hb'⟩ : ∃ b : Nat, b = i / W := ⟨_, rfl⟩
  rw [← ha, ← hb'] at hdm
  rw [← ha] at hml
  rw [← hb'] at hdl
  have ei : (i : Int) = ((Y + b) - Y) * W + ((X + a) - X) := by
    rw [show Y + (b : Int) - Y = b by omega, show X + (a : Int) - X = a by omega, ← hdm]; simp [Int.mul_comm]
  have CC := Lib.hid (fun W' (hB : Below w2.heap.size w2 W') => hcl (X + a) (Y + b) i W' (by omega) (by omega) (by omega) (by omega) ei (hb.trans (hB.mono hb.size)))
  have P := blkStay hp hb
  have Q := blkStay hq hb
  have HP := Lib.hid P
  have HQ := Lib.hid Q
  obtain ⟨cP, fP, zP⟩ := blkC P
  obtain ⟨cQ, fQ, zQ⟩ := blkC Q
  unfold Enters at hcall
  have t1 : (i : Int).tmod (W : Int) = (a : Int) := by rw [ha]; rw [Int.tmod_eq_emod_of_nonneg (by omega)]; simp
  have t2 : (i : Int).tdiv (W : Int) = (b : Int) := by rw [hb']; rw [Int.tdiv_eq_ediv_of_nonneg (by omega)]; simp
  have t3 : (i : Int) % (W : Int) = (a : Int) := by rw [ha]; simp
  have t4 : (i : Int) / (W : Int) = (b : Int) := by rw [hb']; simp
  have u1 : IntKind.i64.wrap (X + (a : Int)) = X + a := IntWalk.i64_in _ (by omega)
  have u2 : IntKind.i64.wrap (Y + (b : Int)) = Y + b := IntWalk.i64_in _ (by omega)
  have u3 : IntKind.i64.wrap (b : Int) = b := IntWalk.i64_in _ (by omega)
  have w0 : ¬ ((W : Int) = 0) := by omega
  have w0' : ¬ (W = 0) := by omega
  have t5 : ((i : Int) % (W : Int)) = (a : Int) := t3
  have t6 : i % W = a := ha.symm
  have t7 : i / W = b := hb'.symm
  have w1 : (1 : Int) ≤ (W : Int) := by omega
  have i0 : (0 : Int) ≤ (i : Int) := by omega
  have b1 : (a : Int) < 512 := by omega
  have b2 : (b : Int) < 512 := by omega
  clear hp hq P Q hb ei hdm hml hdl ha hb' hcl
  go_enter Try.func173, Try.ntmps173
  go_wp2
  go_region_held3 (fun w' => (∀ o, w'.cell? ⟨q, o, none⟩ = #[.int .i64 X, .int .i64 Y, .int .i64 W, .int .i64 H][o]?) ∧ (∀ o, w'.cell? ⟨p, o, none⟩ = #[.func (.func g) #[] caps][o]?) ∧ Below w2.heap.size w2 w') (first | exact ⟨(blkC (blkStay HQ.out hb9)).1, (blkC (blkStay HP.out hb9)).1, hb9⟩ | exact ⟨(blkC (blkStay HQ.out (by repeat (first | exact Below.refl _ _ | refine Below.alloc ?_ (by first | omega | (simp; done) | (simp; omega)) _ | refine Below.setCell ?_ (by first | omega | (simp; done) | (simp; omega)) _ | refine Below.drew ?_)))).1, (blkC (blkStay HP.out (by repeat (first | exact Below.refl _ _ | refine Below.alloc ?_ (by first | omega | (simp; done) | (simp; omega)) _ | refine Below.setCell ?_ (by first | omega | (simp; done) | (simp; omega)) _ | refine Below.drew ?_)))).1, (by repeat (first | exact Below.refl _ _ | refine Below.alloc ?_ (by first | omega | (simp; done) | (simp; omega)) _ | refine Below.setCell ?_ (by first | omega | (simp; done) | (simp; omega)) _ | refine Below.drew ?_))⟩) (first | (go_simp; (with_reducible refine Calls.mono (CC.out _ ?_) ?_); exact (by repeat (first | exact Below.refl _ _ | refine Below.alloc ?_ (by first | omega | (simp; done) | (simp; omega)) _ | refine Below.setCell ?_ (by first | omega | (simp; done) | (simp; omega)) _ | refine Below.drew ?_)); rintro e w' ⟨rfl, hb8⟩; have hb9 : Below w2.heap.size w2 w' := ⟨hb8.os, hb8.tape, hb8.output, hb8.size, hb8.block⟩; clear hb8))
  rename_i hHeld
  go_wp2
  go_ret
  exact ⟨rfl, hHeld.2.2⟩

set_option maxHeartbeats 2000000 in
theorem byPlace_any (X Y : Int) (W H n : Nat) (g : Nat) (caps : Array Value) (f : Nat → Nat) (w : World) (hcall : Enters g) (hcl : Clos2 g caps X Y W H f w)
    (hX1 : -16777216 ≤ X) (hX2 : X ≤ 16777216) (hY1 : -16777216 ≤ Y) (hY2 : Y ≤ 16777216) (hW1 : 1 ≤ W) (hW2 : W ≤ 512) (hH1 : 1 ≤ H) (hH2 : H ≤ 512) (hn : n = H * W) (hn2 : n ≤ 65536) :
    Calls Try.prog 144 #[reg X Y W H, .func (.func g) #[] caps] w (MadePost w X Y W H n f) := by
  have en : (n : Int) = (W : Int) * (H : Int) := by rw [hn, Nat.mul_comm]; simp
  have n1 : 1 ≤ n := by rw [hn]; exact Nat.mul_pos hH1 hW1
  have BC := Lib.hid (byCell_any X Y W H n 173 #[.pointer (some ⟨w.heap.size + 1, 0, none⟩), .pointer (some ⟨w.heap.size, 0, none⟩)] f (((w.alloc (regObj X Y W H)).alloc (fnObj g caps)).alloc (fldO 0 0 0 0 (.slice none 0 0))) enters_place1
    (place1_any X Y W H n g caps f (w.heap.size + 1) w.heap.size _ hcall (fun x y i W' h1 h2 h3 h4 h5 hb => hcl x y i W' h1 h2 h3 h4 h5 (Below.trans (by repeat (first | exact Below.refl _ _ | refine Below.alloc ?_ (by first | omega | (simp; done) | (simp; omega)) _ | refine Below.setCell ?_ (by first | omega | (simp; done) | (simp; omega)) _ | refine Below.drew ?_)) (hb.mono (by simp; omega)))) (by ((simp only [heap_alloc_get, heap_size_alloc, if_true]) <;> ((repeat' split) <;> first | rfl | omega))) (by ((simp only [heap_alloc_get, heap_size_alloc, if_true]) <;> ((repeat' split) <;> first | rfl | omega))) hX1 hX2 hY1 hY2 hW1 hW2 hH2 hn) en n1 hn2)
  clear hcl hcall hn en
  go_enter Try.func144, Try.ntmps144
  go_wp2_with fail
  refine BC.out.mono ?_
  intro e w4 hmade
  rcases hmade with ⟨hall, b', cap', rfl, hb', hlt', hrow, hbel⟩ | ⟨hall, rfl, hbel⟩
  · have hS := Lib.hid (blkStay (b := w.heap.size + 1 + 1) (o := fldO 0 0 0 0 (.slice none 0 0)) (by ((simp only [heap_alloc_get, heap_size_alloc, if_true]) <;> ((repeat' split) <;> first | rfl | omega))) hbel)
    have hB : Below w.heap.size w w4 := Below.trans (by repeat (first | exact Below.refl _ _ | refine Below.alloc ?_ (by first | omega | (simp; done) | (simp; omega)) _ | refine Below.setCell ?_ (by first | omega | (simp; done) | (simp; omega)) _ | refine Below.drew ?_)) (Below.mono hbel (by simp; omega))
    obtain ⟨cS, fS, zS⟩ := blkC hS.out
    have HB := Lib.hid hb'
    clear hb'
    go_wp2
    refine bodyPost_ret (v := .tuple #[fldV X Y W H (.slice (some ⟨b', 0, none⟩) n cap'), .int .i64 0]) (by simp [results, Try.results144, go_sem, cS]) rfl ?_
    have hb' := HB.out
    simp only [heap_size_alloc] at hb'
    exact .inl ⟨hall, b', cap', rfl, by omega, by rw [set5_size]; exact hlt', flAt_congr hrow (set5_heap w4 _ _ _ _ _ _ _ (by omega)), set5_below hB _ _ _ _ _ _ (by omega)⟩
  · have hS := Lib.hid (blkStay (b := w.heap.size + 1 + 1) (o := fldO 0 0 0 0 (.slice none 0 0)) (by ((simp only [heap_alloc_get, heap_size_alloc, if_true]) <;> ((repeat' split) <;> first | rfl | omega))) hbel)
    have hB : Below w.heap.size w w4 := Below.trans (by repeat (first | exact Below.refl _ _ | refine Below.alloc ?_ (by first | omega | (simp; done) | (simp; omega)) _ | refine Below.setCell ?_ (by first | omega | (simp; done) | (simp; omega)) _ | refine Below.drew ?_)) (Below.mono hbel (by simp; omega))
    obtain ⟨cS, fS, zS⟩ := blkC hS.out
    go_wp2
    refine bodyPost_ret (v := .tuple #[fldV 0 0 0 0 (.slice none 0 0), .int .i64 3]) (by simp [results, Try.results144, go_sem, cS]) rfl ?_
    exact .inr ⟨hall, rfl, set5_below hB _ _ _ _ _ _ (by omega)⟩

/-- What Make answers. -/
def MakePost (w : World) (X Y W H : Int) (n : Nat) (f : Nat → Nat) (e : Ending) (w' : World) : Prop :=
  (checkR X Y W H ≠ 0 ∧ e = .returned (.tuple #[fldV 0 0 0 0 (.slice none 0 0), .int .i64 (checkR X Y W H)]) ∧ Below w.heap.size w w') ∨ (checkR X Y W H = 0 ∧ MadePost w X Y W H n f e w')

set_option maxHeartbeats 2000000 in
theorem make_ok (X Y : Int) (W H n : Nat) (g : Nat) (caps : Array Value) (f : Nat → Nat) (w : World) (hcall : Enters g) (hcl : Clos2 g caps X Y W H f w) (h0 : checkR X Y W H = 0) (hn : n = H * W) :
    Calls Try.prog 109 #[reg X Y W H, .func (.func g) #[] caps] w (MadePost w X Y W H n f) := by
  obtain ⟨b1, b2, b3, b4, b5, b6, b7, b8, b9⟩ := checkR_zero h0
  have hn2 : n ≤ 65536 := by
    have : ((W : Int) * (H : Int)) = (n : Int) := by rw [hn, Nat.mul_comm]; simp
    omega
  have RC := Lib.hid (fun w => checkRegion_any X Y W H w)
  rw [h0] at RC
  have BP := Lib.hid (fun W' (hb : Below w.heap.size w W') => byPlace_any X Y W H n g caps f W' hcall (fun x y i W'' h1 h2 h3 h4 h5 hb' => hcl x y i W'' h1 h2 h3 h4 h5 (hb.trans (hb'.mono hb.size))) (by omega) (by omega) (by omega) (by omega) (by omega) (by omega) (by omega) (by omega) hn hn2)
  clear hcl hcall h0 b1 b2 b3 b4 b5 b6 b7 b8 b9 hn hn2
  go_enter Try.func109, Try.ntmps109
  go_wp2_with (first | (go_at_call 84; refine (RC.out _).mono ?_; rintro e w' ⟨rfl, rfl⟩))
  refine (BP.out _ (by repeat (first | exact Below.refl _ _ | refine Below.alloc ?_ (by first | omega | (simp; done) | (simp; omega)) _ | refine Below.setCell ?_ (by first | omega | (simp; done) | (simp; omega)) _ | refine Below.drew ?_))).mono ?_
  intro e w4 hmade
  rcases hmade with ⟨hall, b', cap', rfl, hb', hlt', hrow, hbel⟩ | ⟨hall, rfl, hbel⟩
  · have hS := Lib.hid (blkStay (b := w.heap.size + 1) (o := fldO 0 0 0 0 (.slice none 0 0)) (by ((simp only [heap_alloc_get, heap_size_alloc, if_true]) <;> ((repeat' split) <;> first | rfl | omega))) hbel)
    have hB : Below w.heap.size w w4 := Below.trans (by repeat (first | exact Below.refl _ _ | refine Below.alloc ?_ (by first | omega | (simp; done) | (simp; omega)) _ | refine Below.setCell ?_ (by first | omega | (simp; done) | (simp; omega)) _ | refine Below.drew ?_)) (Below.mono hbel (by simp; omega))
    obtain ⟨cS, fS, zS⟩ := blkC hS.out
    have HB := Lib.hid hb'
    clear hb'
    go_wp2
    refine bodyPost_ret (v := .tuple #[fldV X Y W H (.slice (some ⟨b', 0, none⟩) n cap'), .int .i64 0]) (by simp [results, Try.results109, go_sem, cS]) rfl ?_
    have hb' := HB.out
    simp only [heap_size_alloc] at hb'
    exact .inl ⟨hall, b', cap', rfl, by omega, by rw [set5_size]; exact hlt', flAt_congr hrow (set5_heap w4 _ _ _ _ _ _ _ (by omega)), set5_below hB _ _ _ _ _ _ (by omega)⟩
  · have hS := Lib.hid (blkStay (b := w.heap.size + 1) (o := fldO 0 0 0 0 (.slice none 0 0)) (by ((simp only [heap_alloc_get, heap_size_alloc, if_true]) <;> ((repeat' split) <;> first | rfl | omega))) hbel)
    have hB : Below w.heap.size w w4 := Below.trans (by repeat (first | exact Below.refl _ _ | refine Below.alloc ?_ (by first | omega | (simp; done) | (simp; omega)) _ | refine Below.setCell ?_ (by first | omega | (simp; done) | (simp; omega)) _ | refine Below.drew ?_)) (Below.mono hbel (by simp; omega))
    obtain ⟨cS, fS, zS⟩ := blkC hS.out
    go_wp2
    refine bodyPost_ret (v := .tuple #[fldV 0 0 0 0 (.slice none 0 0), .int .i64 3]) (by simp [results, Try.results109, go_sem, cS]) rfl ?_
    exact .inr ⟨hall, rfl, set5_below hB _ _ _ _ _ _ (by omega)⟩

set_option maxHeartbeats 2000000 in
theorem make_no (X Y W H : Int) (v : Value) (k : Int) (w : World) (hv : ∃ g caps, v = .func (.func g) #[] caps) (h0 : checkR X Y W H = k) (hk : k = 3 ∨ k = 4 ∨ k = 5) :
    Calls Try.prog 109 #[reg X Y W H, v] w fun e w' => e = .returned (.tuple #[fldV 0 0 0 0 (.slice none 0 0), .int .i64 k]) ∧ Below w.heap.size w w' := by
  obtain ⟨g, caps, rfl⟩ := hv
  have RC := Lib.hid (fun w => checkRegion_any X Y W H w)
  rw [h0] at RC
  clear h0
  rcases hk with rfl | rfl | rfl
  all_goals go_enter Try.func109, Try.ntmps109
  all_goals go_wp2_with (first | (go_at_call 84; refine (RC.out _).mono ?_; rintro e w' ⟨rfl, rfl⟩))
  · refine bodyPost_ret (v := .tuple #[fldV 0 0 0 0 (.slice none 0 0), .int .i64 3]) (by simp [results, Try.results109, go_sem]) rfl ⟨rfl, ?_⟩
    exact (by repeat (first | exact Below.refl _ _ | refine Below.alloc ?_ (by first | omega | (simp; done) | (simp; omega)) _ | refine Below.setCell ?_ (by first | omega | (simp; done) | (simp; omega)) _ | refine Below.drew ?_))
  · refine bodyPost_ret (v := .tuple #[fldV 0 0 0 0 (.slice none 0 0), .int .i64 4]) (by simp [results, Try.results109, go_sem]) rfl ⟨rfl, ?_⟩
    exact (by repeat (first | exact Below.refl _ _ | refine Below.alloc ?_ (by first | omega | (simp; done) | (simp; omega)) _ | refine Below.setCell ?_ (by first | omega | (simp; done) | (simp; omega)) _ | refine Below.drew ?_))
  · refine bodyPost_ret (v := .tuple #[fldV 0 0 0 0 (.slice none 0 0), .int .i64 5]) (by simp [results, Try.results109, go_sem]) rfl ⟨rfl, ?_⟩
    exact (by repeat (first | exact Below.refl _ _ | refine Below.alloc ?_ (by first | omega | (simp; done) | (simp; omega)) _ | refine Below.setCell ?_ (by first | omega | (simp; done) | (simp; omega)) _ | refine Below.drew ?_))
end Go.Proofs.Ytkcehbnmcdppkaa

/- Plain mathematics of binary heaps: what one exchange on the way up or down leaves. -/
namespace Go.Proofs.Ytkcehbnmcdppkaa
set_option linter.unusedVariables false

/-- Two places exchanged. -/
def swp (c : Nat → Nat) (i j : Nat) : Nat → Nat := fun k => if k = i then c j else if k = j then c i else c k
theorem swp_i (c : Nat → Nat) (i j : Nat) : swp c i j i = c j := by unfold swp; rw [if_pos rfl]
theorem swp_j (c : Nat → Nat) (i j : Nat) : swp c i j j = c i := by
  unfold swp
  by_cases h : j = i
  · rw [if_pos h, h]
  · rw [if_neg h, if_pos rfl]
theorem swp_o (c : Nat → Nat) {i j k : Nat} (h1 : k ≠ i) (h2 : k ≠ j) : swp c i j k = c k := by unfold swp; rw [if_neg h1, if_neg h2]

/-- The same cells at the first m places. -/
def SameSet (m : Nat) (c d : Nat → Nat) : Prop := ∀ x, (∃ i, i < m ∧ c i = x) ↔ (∃ i, i < m ∧ d i = x)
theorem SameSet.rfl' {m : Nat} {c : Nat → Nat} : SameSet m c c := fun _ => Iff.rfl
theorem SameSet.trans {m : Nat} {a b c : Nat → Nat} (h : SameSet m a b) (g : SameSet m b c) : SameSet m a c := fun x => (h x).trans (g x)
theorem same_swp {m i j : Nat} {c : Nat → Nat} (hi : i < m) (hj : j < m) : SameSet m c (swp c i j) := by
  intro x
  constructor
  · rintro ⟨k, hk, rfl⟩
    by_cases h1 : k = i
    · exact ⟨j, hj, by rw [swp_j, h1]⟩
    · by_cases h2 : k = j
      · exact ⟨i, hi, by rw [swp_i, h2]⟩
      · exact ⟨k, hk, swp_o c h1 h2⟩
  · rintro ⟨k, hk, rfl⟩
    by_cases h1 : k = i
    · exact ⟨j, hj, by rw [h1, swp_i]⟩
    · by_cases h2 : k = j
      · exact ⟨i, hi, by rw [h2, swp_j]⟩
      · exact ⟨k, hk, (swp_o c h1 h2).symm⟩
theorem SameSet.all {m : Nat} {c d : Nat → Nat} {P : Nat → Prop} (h : SameSet m c d) (hp : ∀ i, i < m → P (c i)) : ∀ i, i < m → P (d i) := fun i hi => by
  obtain ⟨k, hk, e⟩ := (h (d i)).2 ⟨i, hi, rfl⟩
  rw [← e]; exact hp k hk

/-- A heap of m places. -/
def Heap (m : Nat) (K : Nat → Int) (c : Nat → Nat) : Prop := ∀ i, 0 < i → i < m → K (c ((i - 1) / 2)) ≤ K (c i)
/-- A heap but for the place j, which may be too low. -/
def HeapUp (m : Nat) (K : Nat → Int) (c : Nat → Nat) (j : Nat) : Prop :=
  (∀ i, 0 < i → i < m → i ≠ j → K (c ((i - 1) / 2)) ≤ K (c i)) ∧ ∀ i, 0 < i → i < m → (i - 1) / 2 = j → 0 < j → K (c ((j - 1) / 2)) ≤ K (c i)

theorem up_start {m : Nat} {K : Nat → Int} {c d : Nat → Nat} (h : Heap m K c) (e : ∀ i, i < m → d i = c i) : HeapUp (m + 1) K d m :=
  ⟨fun i h0 h1 h2 => by rw [e i (by omega), e _ (by omega)]; exact h i h0 (by omega), fun i h0 h1 h2 => by omega⟩
theorem up_done {m : Nat} {K : Nat → Int} {c : Nat → Nat} {j : Nat} (h : HeapUp m K c j) (hd : j = 0 ∨ ¬ K (c j) < K (c ((j - 1) / 2))) : Heap m K c := by
  intro i h0 h1
  by_cases e : i = j
  · subst e
    rcases hd with hd | hd <;> omega
  · exact h.1 i h0 h1 e
theorem up_swap {m : Nat} {K : Nat → Int} {c : Nat → Nat} {j : Nat} (h : HeapUp m K c j) (h0 : 0 < j) (hl : K (c j) < K (c ((j - 1) / 2))) : HeapUp m K (swp c ((j - 1) / 2) j) ((j - 1) / 2) := by
  obtain ⟨p, hp⟩ : ∃ p, (j - 1) / 2 = p := ⟨_, rfl⟩
  rw [hp] at hl ⊢
  constructor
  · intro i i0 i1 i2
    by_cases e1 : i = j
    · subst e1; rw [hp, swp_i, swp_j]; omega
    · rw [swp_o c i2 e1]
      by_cases e2 : (i - 1) / 2 = p
      · rw [e2, swp_i]
        have := h.1 i i0 i1 e1
        rw [e2] at this; omega
      · by_cases e3 : (i - 1) / 2 = j
        · rw [e3, swp_j]
          have := h.2 i i0 i1 e3 h0
          rwa [hp] at this
        · rw [swp_o c e2 e3]; exact h.1 i i0 i1 e1
  · intro i i0 i1 i2 p0
    have q1 : (p - 1) / 2 ≠ p := by omega
    have q2 : (p - 1) / 2 ≠ j := by omega
    rw [swp_o c q1 q2]
    have a := h.1 p p0 (by omega) (by omega)
    by_cases e1 : i = j
    · subst e1; rw [swp_j]; exact a
    · have e2 : i ≠ p := by omega
      rw [swp_o c e2 e1]
      have b := h.1 i i0 i1 e1
      rw [i2] at b; omega

/-- A heap from the place L on. -/
def HeapFrom (L n : Nat) (K : Nat → Int) (c : Nat → Nat) : Prop := ∀ i, 0 < i → i < n → L ≤ (i - 1) / 2 → K (c ((i - 1) / 2)) ≤ K (c i)
/-- A heap from L on but for the place j, which may be too high. -/
def HeapDown (L n : Nat) (K : Nat → Int) (c : Nat → Nat) (j : Nat) : Prop :=
  (∀ i, 0 < i → i < n → L ≤ (i - 1) / 2 → (i - 1) / 2 ≠ j → K (c ((i - 1) / 2)) ≤ K (c i)) ∧ ∀ i, 0 < i → i < n → (i - 1) / 2 = j → 0 < j → L ≤ (j - 1) / 2 → K (c ((j - 1) / 2)) ≤ K (c i)

theorem down_start {L n : Nat} {K : Nat → Int} {c : Nat → Nat} (h : HeapFrom (L + 1) n K c) : HeapDown L n K c L :=
  ⟨fun i h0 h1 h2 h3 => h i h0 h1 (by omega), fun i _ _ _ _ _ => by omega⟩
theorem down_swap {L n : Nat} {K : Nat → Int} {c : Nat → Nat} {p j : Nat} (h : HeapDown L n K c p) (hL : L ≤ p) (hj0 : 0 < j) (hj : j < n) (hp : (j - 1) / 2 = p) (hl : K (c j) < K (c p))
    (hs : ∀ i, 0 < i → i < n → (i - 1) / 2 = p → K (c j) ≤ K (c i)) : HeapDown L n K (swp c p j) j := by
  have pj : p ≠ j := by omega
  constructor
  · intro i i0 i1 i2 i3
    by_cases e1 : i = j
    · subst e1; rw [hp, swp_i, swp_j]; omega
    · by_cases e2 : (i - 1) / 2 = p
      · have e3 : i ≠ p := by omega
        rw [e2, swp_i, swp_o c e3 e1]; exact hs i i0 i1 e2
      · rw [swp_o c e2 i3]
        by_cases e4 : i = p
        · subst e4
          rw [swp_i]
          exact h.2 j hj0 hj hp (by omega) i2
        · rw [swp_o c e4 e1]; exact h.1 i i0 i1 i2 e2
  · intro i i0 i1 i2 j0 i3
    have e1 : i ≠ j := by omega
    have e2 : i ≠ p := by omega
    rw [hp, swp_i, swp_o c e2 e1]
    have := h.1 i i0 i1 (by omega) (by omega)
    rwa [i2] at this
theorem down_done {L n : Nat} {K : Nat → Int} {c : Nat → Nat} {p : Nat} (h : HeapDown L n K c p) (hs : ∀ i, 0 < i → i < n → (i - 1) / 2 = p → K (c p) ≤ K (c i)) : HeapFrom L n K c := by
  intro i i0 i1 i2
  by_cases e : (i - 1) / 2 = p
  · rw [e]; exact hs i i0 i1 e
  · exact h.1 i i0 i1 i2 e
theorem heap_from {n : Nat} {K : Nat → Int} {c : Nat → Nat} (h : HeapFrom 0 n K c) : Heap n K c := fun i a b => h i a b (Nat.zero_le _)
theorem heap_all {n : Nat} {K : Nat → Int} {c : Nat → Nat} : HeapFrom (n / 2) n K c := fun i a b h => by omega
/-- The children of a place: the lesser one of them is at most as high as both. -/
theorem kids {n p j : Nat} {K : Nat → Int} {c : Nat → Nat} (hj : j = 2 * p + 1 ∨ j = 2 * p + 2) (h1 : j = 2 * p + 1 → 2 * p + 2 < n → K (c (2 * p + 1)) ≤ K (c (2 * p + 2))) (h2 : j = 2 * p + 2 → K (c (2 * p + 2)) ≤ K (c (2 * p + 1))) :
    ∀ i, 0 < i → i < n → (i - 1) / 2 = p → K (c j) ≤ K (c i) := by
  intro i i0 i1 i2
  have hi : i = 2 * p + 1 ∨ i = 2 * p + 2 := by omega
  rcases hj with rfl | rfl <;> rcases hi with rfl | rfl
  · exact Int.le_refl _
  · exact h1 rfl i1
  · exact h2 rfl
  · exact Int.le_refl _
theorem heap_min {m : Nat} {K : Nat → Int} {c : Nat → Nat} (h : Heap m K c) : ∀ i, i < m → K (c 0) ≤ K (c i) := by
  intro i
  induction i using Nat.strongRecOn with
  | ind i ih =>
    intro hi
    by_cases e : i = 0
    · subst e; exact Int.le_refl _
    · have a := h i (by omega) hi
      have b := ih ((i - 1) / 2) (by omega) (by omega)
      omega
/-- The root exchanged with the last place: a heap from 1 on, of one place less. -/
theorem pop_start {m : Nat} {K : Nat → Int} {c : Nat → Nat} (h : Heap (m + 1) K c) : HeapFrom 1 m K (swp c 0 m) := by
  intro i i0 i1 i2
  rw [swp_o c (show i ≠ 0 by omega) (show i ≠ m by omega), swp_o c (show (i - 1) / 2 ≠ 0 by omega) (show (i - 1) / 2 ≠ m by omega)]
  exact h i i0 (by omega)
end Go.Proofs.Ytkcehbnmcdppkaa

/- Plain mathematics of filling: a spill, one step farther; what is known while the lowest cell that has been reached is taken, and goes on. -/
namespace Go.Proofs.Ytkcehbnmcdppkaa
open Go.RowKit Fl
set_option linter.unusedVariables false

/-- The value of a word, 0 where it has none. -/
def vI (x : Nat) : Int := (vS x).getD 0
theorem vI_of {x : Nat} {a : Int} (h : vS x = some a) : vI x = a := by unfold vI; rw [h]; rfl
theorem f32f' : FloatKind.f32.format = Ieee.single := rfl
theorem top_one : vTop = 1048576 * (one : Int) := by
  obtain ⟨J, hJ⟩ : ∃ J : Nat, J = 1074 := ⟨_, rfl⟩
  unfold vTop
  rw [one_pow hJ, Nat.one_mul, show (20 + 1074 : Int).toNat = 20 + J by omega, Nat.pow_add]
  simp

/-- A spill of the rank q. -/
def OkW (q x : Nat) : Prop := ∃ a, vS x = some a ∧ -vTop ≤ a ∧ a ≤ ((4096 * (256 + q) : Nat) : Int) * (one : Int)
/-- A slope. -/
def SlW (sl : Nat) : Prop := ∃ v, vS sl = some v ∧ 0 ≤ v ∧ v ≤ 1024 * (one : Int)
/-- The spill at a cell of the height h, from a spill. -/
def stepW (sl a h : Nat) : Nat := grtW h (addW a sl)

theorem OkW.mono {q r x : Nat} (h : OkW q x) (hq : q ≤ r) : OkW r x := by
  obtain ⟨a, h1, h2, h3⟩ := h
  refine ⟨a, h1, h2, Int.le_trans h3 (Int.mul_le_mul_of_nonneg_right (by omega) (Int.natCast_nonneg _))⟩
theorem OkW.val {q x : Nat} (h : OkW q x) : vS x = some (vI x) := by
  obtain ⟨a, h1, _⟩ := h
  rw [vI_of h1, h1]
theorem hgt_vT {x : Nat} (h : hgtB x = true) : ∃ a, vS x = some a ∧ -vTop ≤ a ∧ a ≤ vTop := by
  unfold hgtB at h
  split at h
  · rename_i a ha
    simp at h
    exact ⟨a, ha, h.1, h.2⟩
  · cases h
theorem hgt_ok {x : Nat} (h : hgtB x = true) : OkW 0 x := by
  obtain ⟨a, ha, h1, h2⟩ := hgt_vT h
  refine ⟨a, ha, h1, Int.le_trans h2 (Int.le_of_eq ?_)⟩
  rw [top_one]; simp
theorem OkW.bd {q x : Nat} (h : OkW q x) (hq : q ≤ 1048576) : Bd 33 x := by
  obtain ⟨a, ha, h1, h2⟩ := h
  obtain ⟨J, hJ⟩ : ∃ J : Nat, J = 1074 := ⟨_, rfl⟩
  refine bd_val' (j := 1074 + 33) ha rfl ?_
  rw [top_one, one_pow hJ] at h1
  rw [one_pow hJ] at h2
  rw [show 1074 + 33 = J + 33 by omega, Nat.pow_add]
  have h3 : ((4096 * (256 + q) : Nat) : Int) * ((2 ^ J : Nat) : Int) ≤ 8589934592 * ((2 ^ J : Nat) : Int) := Int.mul_le_mul_of_nonneg_right (by omega) (Int.natCast_nonneg _)
  generalize 2 ^ J = T at *
  omega
theorem SlW.bd {sl : Nat} (h : SlW sl) : Bd 33 sl := by
  obtain ⟨a, ha, h1, h2⟩ := h
  obtain ⟨J, hJ⟩ : ∃ J : Nat, J = 1074 := ⟨_, rfl⟩
  refine bd_val' (j := 1074 + 33) ha rfl ?_
  rw [one_pow hJ] at h2
  rw [show 1074 + 33 = J + 33 by omega, Nat.pow_add]
  generalize 2 ^ J = T at *
  omega

theorem step_parts {sl a h q : Nat} (ha : OkW q a) (hs : SlW sl) (hh : hgtB h = true) (hq : q ≤ 1048576) :
    ∃ r, floatBits .add .f32 a sl = some r ∧ addW a sl = r ∧ Same2 .add 34 a sl ∧ vS r = some (rdS (vI a + vI sl)) ∧ OkW (q + 1) (stepW sl a h) ∧
      vI h ≤ vI (stepW sl a h) ∧ rdS (vI a + vI sl) ≤ vI (stepW sl a h) ∧ (vI (stepW sl a h) = vI h ∨ vI (stepW sl a h) = rdS (vI a + vI sl)) ∧ vI a ≤ vI (stepW sl a h) := by
  have r2 : Same2 .add (33 + 1) a sl := add_same (by omega) (ha.bd hq) hs.bd
  obtain ⟨r, r1, br⟩ := same_ex r2
  have hw : addW a sl = r := by unfold addW; rw [r1]; rfl
  obtain ⟨av, va, a1, a2⟩ := ha
  obtain ⟨sv, vs, s1, s2⟩ := hs
  obtain ⟨hv, vh, h1, h2⟩ := hgt_vT hh
  obtain ⟨J, hJ⟩ : ∃ J : Nat, J = 1074 := ⟨_, rfl⟩
  have up : av + sv ≤ ((4096 * (256 + (q + 1)) : Nat) : Int) * (one : Int) := by
    have e : ((4096 * (256 + (q + 1)) : Nat) : Int) * (one : Int) = ((4096 * (256 + q) : Nat) : Int) * (one : Int) + 4096 * (one : Int) := by
      rw [← Int.add_mul]; exact congrArg (· * (one : Int)) (by omega)
    rw [e]; omega
  have nb : (av + sv).natAbs < 2 ^ (J + 34) := by
    rw [top_one] at a1
    have h3 : ((4096 * (256 + (q + 1)) : Nat) : Int) * (one : Int) ≤ 8589934592 * (one : Int) := Int.mul_le_mul_of_nonneg_right (by omega) (Int.natCast_nonneg _)
    rw [one_pow hJ] at *
    rw [Nat.pow_add]
    have := Nat.two_pow_pos J
    generalize 2 ^ J = T at *
    omega
  have vr := vS_add (B := J + 34) r1 va vs nb (by omega)
  have rup : rdS (av + sv) ≤ ((4096 * (256 + (q + 1)) : Nat) : Int) * (one : Int) := by
    have h := rdS_mono up
    have e : rdS (((4096 * (256 + (q + 1)) : Nat) : Int) * (one : Int)) = ((4096 * (256 + (q + 1)) : Nat) : Int) * (one : Int) := by
      refine rdS_exact (((256 + (q + 1) : Nat)) : Int) (J + 12) (by omega) (by omega) ?_
      rw [one_pow hJ, Nat.pow_add, show (2 : Nat) ^ 12 = 4096 from rfl]
      generalize 2 ^ J = T
      generalize 256 + (q + 1) = z
      simp only [Int.natCast_mul]
      grind
    rwa [e] at h
  have rlo : av ≤ rdS (av + sv) := by
    have := rdS_mono (show av ≤ av + sv by omega)
    rwa [rdS_self va] at this
  have hup : hv ≤ ((4096 * (256 + (q + 1)) : Nat) : Int) * (one : Int) := by
    refine Int.le_trans h2 ?_
    rw [top_one]
    exact Int.mul_le_mul_of_nonneg_right (by omega) (Int.natCast_nonneg _)
  refine ⟨r, r1, hw, r2, by rw [vI_of va, vI_of vs]; exact vr, ?_⟩
  rw [vI_of va, vI_of vs, vI_of vh]
  unfold stepW grtW
  rw [hw, f32f', gtr_val vr vh]
  by_cases c : hv < rdS (av + sv)
  · rw [if_pos (by simpa using c), vI_of vr]
    exact ⟨⟨_, vr, by omega, rup⟩, by omega, by omega, .inr rfl, by omega⟩
  · rw [if_neg (by simpa using c), vI_of vh]
    exact ⟨⟨_, vh, h1, hup⟩, by omega, by omega, .inl rfl, by omega⟩
/-- A greater spill comes to no lesser one. -/
theorem step_mono {sl a b h q : Nat} (ha : OkW q a) (hb : OkW q b) (hs : SlW sl) (hh : hgtB h = true) (hq : q ≤ 1048576) (hab : vI a ≤ vI b) : vI (stepW sl a h) ≤ vI (stepW sl b h) := by
  obtain ⟨_, _, _, _, _, _, a1, a2, a3, _⟩ := step_parts ha hs hh hq
  obtain ⟨_, _, _, _, _, _, b1, b2, b3, _⟩ := step_parts hb hs hh hq
  have := rdS_mono (show vI a + vI sl ≤ vI b + vI sl by omega)
  omega

/-- How many cells have not been reached. -/
def unr (n : Nat) (R : Nat → Bool) : Nat := ((List.range n).filter fun k => !R k).length
def updB (R : Nat → Bool) (k : Nat) : Nat → Bool := fun i => if i = k then true else R i
def updW (s : Nat → Nat) (k x : Nat) : Nat → Nat := fun i => if i = k then x else s i
theorem updB_same (R : Nat → Bool) (k : Nat) : updB R k k = true := by unfold updB; rw [if_pos rfl]
theorem updB_other (R : Nat → Bool) {i k : Nat} (h : i ≠ k) : updB R k i = R i := by unfold updB; rw [if_neg h]
theorem updW_same (s : Nat → Nat) (k x : Nat) : updW s k x k = x := by unfold updW; rw [if_pos rfl]
theorem updW_other (s : Nat → Nat) {i k x : Nat} (h : i ≠ k) : updW s k x i = s i := by unfold updW; rw [if_neg h]
theorem updB_mono {R : Nat → Bool} {i k : Nat} (h : R i = true) : updB R k i = true := by unfold updB; split <;> first | rfl | exact h
theorem unr_upd {n : Nat} {R : Nat → Bool} {k : Nat} (hk : k < n) (h : R k = false) : unr n (updB R k) + 1 = unr n R := by
  unfold unr
  induction n with
  | zero => omega
  | succ n ih =>
    rw [List.range_succ, List.filter_append, List.filter_append, List.length_append, List.length_append]
    by_cases e : k = n
    · subst e
      have e1 : ((List.range k).filter fun i => !updB R k i) = ((List.range k).filter fun i => !R i) := by
        apply List.filter_congr
        intro i hi
        rw [updB_other R (by have := List.mem_range.1 hi; omega)]
      rw [e1]
      simp [updB_same, h]
    · have := ih (by omega)
      have e2 : ([n].filter fun i => !updB R k i) = ([n].filter fun i => !R i) := by
        apply List.filter_congr
        intro i hi
        rw [updB_other R (by simp at hi; omega)]
      rw [e2]
      omega
theorem unr_le (n : Nat) (R : Nat → Bool) : unr n R ≤ n := by
  unfold unr
  exact Nat.le_trans (List.length_filter_le _ _) (by simp)
end Go.Proofs.Ytkcehbnmcdppkaa

/- Plain mathematics of filling: what is known at each head of the loop, and behind it. -/
namespace Go.Proofs.Ytkcehbnmcdppkaa
open Go.RowKit Fl
set_option linter.unusedVariables false

/-- Where the cells lie: the neighbour in a direction, the border, the heights, the slope. -/
structure Gnd where
  n : Nat
  nb : Nat → Nat → Option Nat
  bd : Nat → Bool
  h : Nat → Nat
  sl : Nat
/-- What holds of the ground. -/
structure GndOk (g : Gnd) : Prop where
  n1 : 1 ≤ g.n
  n2 : g.n ≤ 65536
  lt : ∀ x d k, g.nb x d = some k → k < g.n
  hgt : ∀ k, k < g.n → hgtB (g.h k) = true
  slo : SlW g.sl
  back : ∀ x d k, x < g.n → d < 8 → g.nb x d = some k → ∃ e, e < 8 ∧ g.nb k e = some x

def gnb (g : Gnd) (x k : Nat) : Prop := ∃ d, d < 8 ∧ g.nb x d = some k

/-- The lowest cells first: s spills, R reached, c the heap of m places; D: done, E: done or being done; rk: ranks, t: how many were reached on the way. -/
structure Fil (g : Gnd) (s : Nat → Nat) (R : Nat → Bool) (c : Nat → Nat) (m : Nat) (D E : Nat → Prop) (rk : Nat → Nat) (t : Nat) : Prop where
  cells : ∀ i, i < m → c i < g.n ∧ R (c i) = true
  bor : ∀ k, k < g.n → g.bd k = true → R k = true ∧ s k = g.h k
  fin : ∀ k, k < g.n → R k = true → OkW (rk k) (s k) ∧ rk k ≤ t
  par : ∀ k, k < g.n → R k = true → g.bd k = false → ∃ p, p < g.n ∧ gnb g p k ∧ E p ∧ rk p < rk k ∧ s k = stepW g.sl (s p) (g.h k)
  reach : ∀ x, x < g.n → E x → R x = true
  don : ∀ x, x < g.n → D x → ∀ k, gnb g x k → R k = true ∧ (g.bd k = false → vI (s k) ≤ vI (stepW g.sl (s x) (g.h k)))
  seen : ∀ x, x < g.n → R x = true → E x ∨ ∃ i, i < m ∧ c i = x
  low : ∀ x, x < g.n → E x → ∀ i, i < m → vI (s x) ≤ vI (s (c i))
  heap : Heap m (fun x => vI (s x)) c
  cnt : t + unr g.n R ≤ g.n

/-- The cell x is being done: its directions of P are. -/
structure Doing (g : Gnd) (s : Nat → Nat) (R : Nat → Bool) (c : Nat → Nat) (m : Nat) (D : Nat → Prop) (rk : Nat → Nat) (t x : Nat) (P : Nat → Prop) : Prop where
  f : Fil g s R c m D (fun y => D y ∨ y = x) rk t
  x1 : x < g.n
  x2 : ∀ y, y < g.n → D y → vI (s y) ≤ vI (s x)
  upto : ∀ e, P e → ∀ k, g.nb x e = some k → R k = true ∧ (g.bd k = false → vI (s k) ≤ vI (stepW g.sl (s x) (g.h k)))

theorem Fil.okc {g : Gnd} {s : Nat → Nat} {R : Nat → Bool} {c : Nat → Nat} {m : Nat} {D E : Nat → Prop} {rk : Nat → Nat} {t : Nat} (F : Fil g s R c m D E rk t) : ∀ i, i < m → c i < g.n ∧ vS (s (c i)) = some (vI (s (c i))) := fun i hi => by
  obtain ⟨a, b⟩ := F.cells i hi
  exact ⟨a, (F.fin _ a b).1.val⟩

/-- The lowest cell is taken. -/
theorem fil_pop {g : Gnd} {s : Nat → Nat} {R : Nat → Bool} {c c' : Nat → Nat} {m : Nat} {D : Nat → Prop} {rk : Nat → Nat} {t : Nat} (F : Fil g s R c (m + 1) D D rk t)
    (hs : SameSet m (swp c 0 m) c') (hh : Heap m (fun x => vI (s x)) c') : Doing g s R c' m D rk t (c 0) (fun _ => False) := by
  have mem : ∀ i, i < m → ∃ j, j < m + 1 ∧ c j = c' i := fun i hi => by
    obtain ⟨j, hj, e⟩ := (hs (c' i)).2 ⟨i, hi, rfl⟩
    by_cases e0 : j = 0
    · subst e0; rw [swp_i] at e; exact ⟨m, by omega, e⟩
    · rw [swp_o c e0 (by omega)] at e; exact ⟨j, by omega, e⟩
  have mem' : ∀ j, j < m + 1 → c j = c 0 ∨ ∃ i, i < m ∧ c' i = c j := fun j hj => by
    by_cases e0 : j = 0
    · left; rw [e0]
    · right
      by_cases e1 : j = m
      · subst e1; exact (hs (c j)).1 ⟨0, by omega, swp_i c 0 j⟩
      · exact (hs (c j)).1 ⟨j, by omega, swp_o c e0 e1⟩
  have x1 := (F.cells 0 (by omega)).1
  refine ⟨⟨fun i hi => ?_, F.bor, F.fin, fun k h1 h2 h3 => ?_, fun x h1 h2 => ?_, F.don, fun x h1 h2 => ?_, fun x h1 h2 i hi => ?_, hh, F.cnt⟩, x1, fun y h1 h2 => F.low y h1 h2 0 (by omega), fun e he => he.elim⟩
  · obtain ⟨j, hj, e⟩ := mem i hi; rw [← e]; exact F.cells j hj
  · obtain ⟨p, a, b, c0, d, e⟩ := F.par k h1 h2 h3; exact ⟨p, a, b, .inl c0, d, e⟩
  · rcases h2 with h2 | rfl
    · exact F.reach x h1 h2
    · exact (F.cells 0 (by omega)).2
  · rcases F.seen x h1 h2 with a | ⟨j, hj, e⟩
    · exact .inl (.inl a)
    · rcases mem' j hj with q | ⟨i, hi, q⟩
      · exact .inl (.inr (by rw [← e]; exact q))
      · exact .inr ⟨i, hi, by rw [q]; exact e⟩
  · obtain ⟨j, hj, e⟩ := mem i hi
    rw [← e]
    rcases h2 with h2 | rfl
    · exact F.low x h1 h2 j hj
    · exact heap_min F.heap j hj

theorem rk_le {g : Gnd} (G : GndOk g) {s : Nat → Nat} {R : Nat → Bool} {c : Nat → Nat} {m : Nat} {D E : Nat → Prop} {rk : Nat → Nat} {t : Nat} (F : Fil g s R c m D E rk t) {k : Nat} (h1 : k < g.n) (h2 : R k = true) : rk k ≤ 1048575 := by
  have := (F.fin k h1 h2).2; have := F.cnt; have := G.n2; omega
/-- A neighbour that has been reached already. -/
theorem doing_old {g : Gnd} (G : GndOk g) {s : Nat → Nat} {R : Nat → Bool} {c : Nat → Nat} {m : Nat} {D : Nat → Prop} {rk : Nat → Nat} {t x d k : Nat} {P : Nat → Prop} (F : Doing g s R c m D rk t x P) (h : g.nb x d = some k) (hr : R k = true) : Doing g s R c m D rk t x (fun e => P e ∨ e = d) :=
  ⟨F.f, F.x1, F.x2, fun e he k' hk => by
    by_cases q : e = d
    · subst q
      rw [h] at hk
      have := Option.some.inj hk
      subst this
      have k1 := G.lt _ _ _ h
      refine ⟨hr, fun hb => ?_⟩
      obtain ⟨p, p1, p2, p3, p4, p5⟩ := F.f.par k k1 hr hb
      rw [p5]
      have xr : R x = true := F.f.reach x F.x1 (.inr rfl)
      have pr : R p = true := F.f.reach p p1 p3
      have hv : vI (s p) ≤ vI (s x) := by
        rcases p3 with p3 | rfl
        · exact F.x2 p p1 p3
        · exact Int.le_refl _
      exact step_mono (q := 1048576) ((F.f.fin p p1 pr).1.mono (by have := rk_le G F.f p1 pr; omega)) ((F.f.fin x F.x1 xr).1.mono (by have := rk_le G F.f F.x1 xr; omega)) G.slo (G.hgt k k1) (by omega) hv
    · exact F.upto e (he.resolve_right q) k' hk⟩

/-- A neighbour that is reached now. -/
theorem doing_new {g : Gnd} (G : GndOk g) {s : Nat → Nat} {R : Nat → Bool} {c c' : Nat → Nat} {m : Nat} {D : Nat → Prop} {rk : Nat → Nat} {t x d k : Nat} {P : Nat → Prop} (F : Doing g s R c m D rk t x P) (hd : d < 8) (h : g.nb x d = some k) (hr : R k = false)
    (hs : SameSet (m + 1) (updW c m k) c') (hh : Heap (m + 1) (fun y => vI (updW s k (stepW g.sl (s x) (g.h k)) y)) c') :
    Doing g (updW s k (stepW g.sl (s x) (g.h k))) (updB R k) c' (m + 1) D (updW rk k (rk x + 1)) (t + 1) x (fun e => P e ∨ e = d) := by
  have k1 := G.lt _ _ _ h
  have xr : R x = true := F.f.reach x F.x1 (.inr rfl)
  have xk : x ≠ k := fun e => by subst e; rw [hr] at xr; cases xr
  have ne : ∀ {y}, R y = true → y ≠ k := fun hy e => by subst e; rw [hr] at hy; cases hy
  have hb : g.bd k = false := by
    cases e : g.bd k with
    | false => rfl
    | true => have := (F.f.bor k k1 e).1; rw [hr] at this; cases this
  have rx := rk_le G F.f F.x1 xr
  obtain ⟨_, _, _, _, _, okN, n1, n2, n3, n4⟩ := step_parts (F.f.fin x F.x1 xr).1 G.slo (G.hgt k k1) (by omega : rk x ≤ 1048576)
  obtain ⟨N, hN⟩ : ∃ N, stepW g.sl (s x) (g.h k) = N := ⟨_, rfl⟩
  have mem : ∀ i, i < m + 1 → c' i = k ∨ ∃ j, j < m ∧ c j = c' i := fun i hi => by
    obtain ⟨j, hj, e⟩ := (hs (c' i)).2 ⟨i, hi, rfl⟩
    by_cases e0 : j = m
    · subst e0; rw [updW_same] at e; exact .inl e.symm
    · rw [updW_other c e0] at e; exact .inr ⟨j, by omega, e⟩
  have keep : ∀ y, y < g.n → (y ≠ k) → updB R k y = true → R y = true := fun y _ h1 h2 => by rwa [updB_other R h1] at h2
  have up : ∀ x', x' < g.n → R x' = true → ∀ k', R k' = true ∧ (g.bd k' = false → vI (s k') ≤ vI (stepW g.sl (s x') (g.h k'))) →
      updB R k k' = true ∧ (g.bd k' = false → vI (updW s k (stepW g.sl (s x) (g.h k)) k') ≤ vI (stepW g.sl (updW s k (stepW g.sl (s x) (g.h k)) x') (g.h k'))) := fun x' _ hx' k' q => by
    refine ⟨updB_mono q.1, fun hb' => ?_⟩
    rw [updW_other s (ne q.1), updW_other s (ne hx')]
    exact q.2 hb'
  refine ⟨⟨fun i hi => ?_, fun y h1 h2 => ?_, fun y h1 h2 => ?_, fun y h1 h2 h3 => ?_, fun y h1 h2 => updB_mono (F.f.reach y h1 h2), fun y h1 h2 k' hk => ?_, fun y h1 h2 => ?_, fun y h1 h2 i hi => ?_, hh, ?_⟩, F.x1, fun y h1 h2 => ?_, fun e he k' hk => ?_⟩
  · rcases mem i hi with e | ⟨j, hj, e⟩
    · rw [e]; exact ⟨k1, updB_same R k⟩
    · rw [← e]; exact ⟨(F.f.cells j hj).1, updB_mono (F.f.cells j hj).2⟩
  · obtain ⟨a, b⟩ := F.f.bor y h1 h2
    exact ⟨updB_mono a, by rw [updW_other s (ne a)]; exact b⟩
  · by_cases e : y = k
    · subst e
      rw [updW_same, updW_same]
      exact ⟨okN, by have := (F.f.fin x F.x1 xr).2; omega⟩
    · have a := keep y h1 e h2
      rw [updW_other s e, updW_other rk e]
      exact ⟨(F.f.fin y h1 a).1, by have := (F.f.fin y h1 a).2; omega⟩
  · by_cases e : y = k
    · subst e
      exact ⟨x, F.x1, ⟨d, hd, h⟩, .inr rfl, by rw [updW_same, updW_other rk xk]; omega, by rw [updW_same, updW_other s xk]⟩
    · obtain ⟨p, p1, p2, p3, p4, p5⟩ := F.f.par y h1 (keep y h1 e h2) h3
      have pr := F.f.reach p p1 p3
      exact ⟨p, p1, p2, p3, by rw [updW_other rk e, updW_other rk (ne pr)]; exact p4, by rw [updW_other s e, updW_other s (ne pr)]; exact p5⟩
  · exact up y h1 (F.f.reach y h1 (.inl h2)) k' (F.f.don y h1 h2 k' hk)
  · by_cases e : y = k
    · subst e
      right
      exact (hs y).1 ⟨m, by omega, updW_same c m y⟩
    · rcases F.f.seen y h1 (keep y h1 e h2) with a | ⟨j, hj, q⟩
      · exact .inl a
      · right
        obtain ⟨i, hi, w⟩ := (hs (c j)).1 ⟨j, by omega, updW_other c (by omega)⟩
        exact ⟨i, hi, by rw [w]; exact q⟩
  · have yr := F.f.reach y h1 h2
    rw [updW_other s (ne yr)]
    have yx : vI (s y) ≤ vI (s x) := by
      rcases h2 with h2 | rfl
      · exact F.x2 y h1 h2
      · exact Int.le_refl _
    rcases mem i hi with e | ⟨j, hj, e⟩
    · rw [e, updW_same]; omega
    · rw [← e, updW_other s (ne (F.f.cells j hj).2)]
      exact F.f.low y h1 h2 j hj
  · have a := unr_upd k1 hr
    have b := F.f.cnt
    omega
  · rw [updW_other s (ne (F.f.reach y h1 (.inl h2))), updW_other s xk]; exact F.x2 y h1 h2
  · by_cases q : e = d
    · subst q
      rw [h] at hk
      have := Option.some.inj hk
      subst this
      exact ⟨updB_same R k, fun _ => by rw [updW_same, updW_other s xk]; exact Int.le_refl _⟩
    · exact up x F.x1 xr k' (F.upto e (he.resolve_right q) k' hk)

/-- A cell that has been done. -/
theorem doing_done {g : Gnd} {s : Nat → Nat} {R : Nat → Bool} {c : Nat → Nat} {m : Nat} {D : Nat → Prop} {rk : Nat → Nat} {t x : Nat} {P : Nat → Prop} (F : Doing g s R c m D rk t x P) (hP : ∀ e, e < 8 → ∀ k, g.nb x e = some k → P e) : Fil g s R c m (fun y => D y ∨ y = x) (fun y => D y ∨ y = x) rk t :=
  ⟨F.f.cells, F.f.bor, F.f.fin, F.f.par, F.f.reach, fun y h1 h2 k hk => by
    rcases h2 with h2 | rfl
    · exact F.f.don y h1 h2 k hk
    · obtain ⟨d, hd, e⟩ := hk
      exact F.upto d (hP d hd k e) k e, F.f.seen, F.f.low, F.f.heap, F.f.cnt⟩

/-- What filling comes to. -/
structure Spills (g : Gnd) (s : Nat → Nat) : Prop where
  bor : ∀ k, k < g.n → g.bd k = true → s k = g.h k
  fin : ∀ k, k < g.n → OkW 65536 (s k)
  par : ∃ rk : Nat → Nat, ∀ k, k < g.n → g.bd k = false → ∃ p, p < g.n ∧ gnb g p k ∧ rk p < rk k ∧ s k = stepW g.sl (s p) (g.h k)
  least : ∀ x, x < g.n → ∀ k, gnb g x k → g.bd k = false → vI (s k) ≤ vI (stepW g.sl (s x) (g.h k))

/-- From each cell a way leads to the border. -/
def Joined (g : Gnd) : Prop := ∃ far : Nat → Nat, ∀ k, k < g.n → g.bd k = false → ∃ p, p < g.n ∧ gnb g p k ∧ far p < far k

theorem fil_end {g : Gnd} (G : GndOk g) (J : Joined g) {s : Nat → Nat} {R : Nat → Bool} {c : Nat → Nat} {D : Nat → Prop} {rk : Nat → Nat} {t : Nat} (F : Fil g s R c 0 D D rk t) : Spills g s := by
  obtain ⟨far, hf⟩ := J
  have all : ∀ f k, k < g.n → far k ≤ f → R k = true := by
    intro f
    induction f with
    | zero =>
      intro k hk h0
      cases e : g.bd k with
      | true => exact (F.bor k hk e).1
      | false => obtain ⟨p, _, _, p3⟩ := hf k hk e; omega
    | succ f ih =>
      intro k hk h0
      cases e : g.bd k with
      | true => exact (F.bor k hk e).1
      | false =>
        obtain ⟨p, p1, p2, p3⟩ := hf k hk e
        have pr := ih p p1 (by omega)
        rcases F.seen p p1 pr with a | ⟨i, hi, _⟩
        · exact (F.don p p1 a k p2).1
        · omega
  have allD : ∀ k, k < g.n → D k := fun k hk => by
    rcases F.seen k hk (all _ k hk (Nat.le_refl _)) with a | ⟨i, hi, _⟩
    · exact a
    · omega
  refine ⟨fun k h1 h2 => (F.bor k h1 h2).2, fun k h1 => ?_, ⟨rk, fun k h1 h2 => ?_⟩, fun x h1 k h2 h3 => (F.don x h1 (allD x h1) k h2).2 h3⟩
  · obtain ⟨a, b⟩ := F.fin k h1 (all _ k h1 (Nat.le_refl _))
    exact a.mono (by have := F.cnt; have := G.n2; omega)
  · obtain ⟨p, p1, p2, _, p4, p5⟩ := F.par k h1 (all _ k h1 (Nat.le_refl _)) h2
    exact ⟨p, p1, p2, p4, p5⟩
end Go.Proofs.Ytkcehbnmcdppkaa

/- Plain mathematics of a region's cells: numbers, directions, neighbours, the border. -/
namespace Go.Proofs.Ytkcehbnmcdppkaa
open Go.RowKit Fl
set_option linter.unusedVariables false

/-- The step of a direction. -/
def dxI (d : Nat) : Int := if d = 0 ∨ d = 1 ∨ d = 7 then 1 else if d = 3 ∨ d = 4 ∨ d = 5 then -1 else 0
def dyI (d : Nat) : Int := if d = 1 ∨ d = 2 ∨ d = 3 then 1 else if d = 5 ∨ d = 6 ∨ d = 7 then -1 else 0
theorem dx_in (d : Nat) : -1 ≤ dxI d ∧ dxI d ≤ 1 := by unfold dxI; split <;> (try split) <;> omega
theorem dy_in (d : Nat) : -1 ≤ dyI d ∧ dyI d ≤ 1 := by unfold dyI; split <;> (try split) <;> omega

/-- The neighbour of the cell k in the direction d. -/
def nbI (W H : Nat) (k d : Nat) : Option Nat :=
  if 0 ≤ ((k % W : Nat) : Int) + dxI d ∧ ((k % W : Nat) : Int) + dxI d < W ∧ 0 ≤ ((k / W : Nat) : Int) + dyI d ∧ ((k / W : Nat) : Int) + dyI d < H
  then some ((((k / W : Nat) : Int) + dyI d) * W + (((k % W : Nat) : Int) + dxI d)).toNat else none
def bdB (W H : Nat) (k : Nat) : Bool := decide (k % W = 0 ∨ k / W = 0 ∨ k % W + 1 = W ∨ k / W + 1 = H)

theorem cell_parts {W H k : Nat} (hk : k < W * H) : 1 ≤ W ∧ k % W < W ∧ k / W < H ∧ k = k / W * W + k % W := by
  have hW : 0 < W := by
    rcases Nat.eq_zero_or_pos W with e | e
    · subst e; rw [Nat.zero_mul] at hk; omega
    · exact e
  refine ⟨hW, Nat.mod_lt _ hW, Nat.div_lt_of_lt_mul hk, ?_⟩
  have := Nat.div_add_mod k W
  rw [Nat.mul_comm] at this; omega
theorem cell_mk {W x y : Nat} (hx : x < W) : (y * W + x) % W = x ∧ (y * W + x) / W = y := by
  constructor
  · rw [Nat.mul_comm, Nat.mul_add_mod, Nat.mod_eq_of_lt hx]
  · rw [Nat.mul_comm, Nat.mul_add_div (by omega), Nat.div_eq_of_lt hx, Nat.add_zero]
theorem cell_lt {W H x y : Nat} (hx : x < W) (hy : y < H) : y * W + x < W * H := by
  have : (y + 1) * W ≤ H * W := Nat.mul_le_mul_right _ hy
  rw [Nat.succ_mul, Nat.mul_comm H W] at this; omega

/-- A neighbour, by its column and its row. -/
theorem nbI_some {W H k d m : Nat} (h : nbI W H k d = some m) : ∃ x y : Nat, (x : Int) = ((k % W : Nat) : Int) + dxI d ∧ (y : Int) = ((k / W : Nat) : Int) + dyI d ∧ x < W ∧ y < H ∧ m = y * W + x := by
  unfold nbI at h
  split at h
  · rename_i c
    obtain ⟨c1, c2, c3, c4⟩ := c
    have e := Option.some.inj h
    obtain ⟨x, hx⟩ : ∃ x : Nat, (x : Int) = ((k % W : Nat) : Int) + dxI d := ⟨_, Int.toNat_of_nonneg c1⟩
    obtain ⟨y, hy⟩ : ∃ y : Nat, (y : Int) = ((k / W : Nat) : Int) + dyI d := ⟨_, Int.toNat_of_nonneg c3⟩
    refine ⟨x, y, hx, hy, by omega, by omega, ?_⟩
    rw [← hx, ← hy] at e
    rw [← e, show ((y : Int) * (W : Int) + (x : Int)) = ((y * W + x : Nat) : Int) by simp]
    rfl
  · cases h
theorem nbI_mk {W H k d x y : Nat} (hx : (x : Int) = ((k % W : Nat) : Int) + dxI d) (hy : (y : Int) = ((k / W : Nat) : Int) + dyI d) (h1 : x < W) (h2 : y < H) : nbI W H k d = some (y * W + x) := by
  unfold nbI
  rw [← hx, ← hy, if_pos ⟨by omega, by omega, by omega, by omega⟩, show ((y : Int) * (W : Int) + (x : Int)) = ((y * W + x : Nat) : Int) by simp]
  rfl
theorem nbI_lt {W H k d m : Nat} (h : nbI W H k d = some m) : m < W * H := by
  obtain ⟨x, y, _, _, h1, h2, rfl⟩ := nbI_some h
  exact cell_lt h1 h2
theorem nbI_back {W H k d m : Nat} (hk : k < W * H) (hd : d < 8) (h : nbI W H k d = some m) : ∃ e, e < 8 ∧ nbI W H m e = some k := by
  obtain ⟨x, y, hx, hy, h1, h2, rfl⟩ := nbI_some h
  obtain ⟨_, a, b, c⟩ := cell_parts hk
  obtain ⟨q1, q2⟩ := cell_mk (y := y) h1
  have opp : ∃ e, e < 8 ∧ dxI e = - dxI d ∧ dyI e = - dyI d := by
    have : d = 0 ∨ d = 1 ∨ d = 2 ∨ d = 3 ∨ d = 4 ∨ d = 5 ∨ d = 6 ∨ d = 7 := by omega
    rcases this with rfl | rfl | rfl | rfl | rfl | rfl | rfl | rfl
    · exact ⟨4, by decide, by decide, by decide⟩
    · exact ⟨5, by decide, by decide, by decide⟩
    · exact ⟨6, by decide, by decide, by decide⟩
    · exact ⟨7, by decide, by decide, by decide⟩
    · exact ⟨0, by decide, by decide, by decide⟩
    · exact ⟨1, by decide, by decide, by decide⟩
    · exact ⟨2, by decide, by decide, by decide⟩
    · exact ⟨3, by decide, by decide, by decide⟩
  obtain ⟨e, e8, ex, ey⟩ := opp
  refine ⟨e, e8, ?_⟩
  have := nbI_mk (W := W) (H := H) (k := y * W + x) (d := e) (x := k % W) (y := k / W) (by rw [q1, ex]; omega) (by rw [q2, ey]; omega) a b
  rw [this, ← c]
theorem bdB_iff {W H k : Nat} : bdB W H k = true ↔ (k % W = 0 ∨ k / W = 0 ∨ k % W + 1 = W ∨ k / W + 1 = H) := by unfold bdB; simp
/-- A cell that is not of the border has all eight neighbours. -/
theorem nbI_inner {W H k d : Nat} (hk : k < W * H) (hb : bdB W H k = false) : ∃ m, nbI W H k d = some m := by
  obtain ⟨_, a, b, c⟩ := cell_parts hk
  have nb : ¬ (k % W = 0 ∨ k / W = 0 ∨ k % W + 1 = W ∨ k / W + 1 = H) := fun h => by rw [bdB_iff.2 h] at hb; cases hb
  obtain ⟨x1, x2⟩ := dx_in d
  obtain ⟨y1, y2⟩ := dy_in d
  have mk := fun x y => nbI_mk (W := W) (H := H) (k := k) (d := d) (x := x) (y := y)
  clear c
  generalize k % W = p at *
  generalize k / W = q at *
  exact ⟨_, mk ((p : Int) + dxI d).toNat ((q : Int) + dyI d).toNat (by omega) (by omega) (by omega) (by omega)⟩

/-- The ground of a field. -/
def gndOf (W H : Nat) (v : Nat → Nat) (sl : Nat) : Gnd := ⟨W * H, nbI W H, bdB W H, v, sl⟩
theorem gnd_ok {W H sl : Nat} {v : Nat → Nat} (h1 : 1 ≤ W * H) (h2 : W * H ≤ 65536) (hv : ∀ k, k < W * H → hgtB (v k) = true) (hs : SlW sl) : GndOk (gndOf W H v sl) :=
  ⟨h1, h2, fun _ _ _ h => nbI_lt h, hv, hs, fun _ _ _ hx hd h => nbI_back hx hd h⟩
theorem gnd_joined (W H sl : Nat) (v : Nat → Nat) : Joined (gndOf W H v sl) := by
  refine ⟨fun k => k % W, fun k hk hb => ?_⟩
  have hk' : k < W * H := hk
  obtain ⟨_, a, b, c⟩ := cell_parts hk'
  have nb : ¬ (k % W = 0 ∨ k / W = 0 ∨ k % W + 1 = W ∨ k / W + 1 = H) := fun h => by
    have : bdB W H k = true := bdB_iff.2 h
    have hb' : bdB W H k = false := hb
    rw [this] at hb'; cases hb'
  have hx : k % W - 1 < W := by omega
  obtain ⟨q1, q2⟩ := cell_mk (y := k / W) hx
  refine ⟨k / W * W + (k % W - 1), cell_lt hx b, ⟨0, by omega, ?_⟩, ?_⟩
  · show nbI W H (k / W * W + (k % W - 1)) 0 = some k
    rw [nbI_mk (x := k % W) (y := k / W) (by rw [q1]; have : dxI 0 = 1 := rfl; omega) (by rw [q2]; have : dyI 0 = 0 := rfl; omega) a b, ← c]
  · show (k / W * W + (k % W - 1)) % W < k % W
    rw [q1]; omega
end Go.Proofs.Ytkcehbnmcdppkaa

/- Contracts: the places and the neighbours of cells, as water reckons them. -/
namespace Go.Proofs.Ytkcehbnmcdppkaa
open Go.RowKit Fl
set_option linter.unusedVariables false

abbrev ptV (x y : Int) : Value := .agg #[.int .i64 x, .int .i64 y]
abbrev ptO (x y : Int) : Obj := .cells #[.int .i64 x, .int .i64 y] 73

set_option maxHeartbeats 1000000 in
theorem place_any (X Y : Int) (W H i : Nat) (w : World) (hX1 : -4194304 ≤ X) (hX2 : X ≤ 4194304) (hY1 : -4194304 ≤ Y) (hY2 : Y ≤ 4194304) (hW1 : 1 ≤ W) (hW2 : W ≤ 512) (hi : i < 65536) :
    Calls Try.prog 159 #[reg X Y W H, .int .i64 i] w fun e w' => e = .returned (ptV (X + ((i % W : Nat) : Int)) (Y + ((i / W : Nat) : Int))) ∧ Below w.heap.size w w' := by
  obtain ⟨a, ha⟩ : ∃ a : Nat, a = i % W := ⟨_, rfl⟩
  obtain ⟨b, hb'⟩ : ∃ b : Nat, b = i / W := ⟨_, rfl⟩
  have b1 : (a : Int) < 512 := by have := Nat.mod_lt i (show 0 < W by omega); omega
  have b2 : (b : Int) < 65536 := by have := Nat.div_le_self i W; omega
  have t1 : (i : Int).tmod (W : Int) = (a : Int) := by rw [ha]; rw [Int.tmod_eq_emod_of_nonneg (by omega)]; simp
  have t2 : (i : Int).tdiv (W : Int) = (b : Int) := by rw [hb']; rw [Int.tdiv_eq_ediv_of_nonneg (by omega)]; simp
  have t3 : (i : Int) % (W : Int) = (a : Int) := by rw [ha]; simp
  have t4 : (i : Int) / (W : Int) = (b : Int) := by rw [hb']; simp
  have u1 : IntKind.i64.wrap (X + (a : Int)) = X + a := IntWalk.i64_in _ (by omega)
  have u2 : IntKind.i64.wrap (Y + (b : Int)) = Y + b := IntWalk.i64_in _ (by omega)
  have u3 : IntKind.i64.wrap (b : Int) = b := IntWalk.i64_in _ (by omega)
  have w0 : ¬ ((W : Int) = 0) := by omega
  have w0' : ¬ (W = 0) := by omega
  have t6 : i % W = a := ha.symm
  have t7 : i / W = b := hb'.symm
  have w1 : (1 : Int) ≤ (W : Int) := by omega
  have i0 : (0 : Int) ≤ (i : Int) := by omega
  rw [t6, t7]
  clear ha hb'
  go_enter Try.func159, Try.ntmps159
  go_wp2
  go_region
  all_goals go_wp2
  all_goals refine bodyPost_ret (v := ptV (X + (a : Int)) (Y + (b : Int))) (by simp [results, Try.results159, go_sem]) rfl ?_
  all_goals exact ⟨rfl, by repeat (first | exact Below.refl _ _ | refine Below.drew ?_ | refine Below.alloc ?_ (by simp; try omega) _ | refine Below.setCell ?_ (by simp; try omega) _)⟩

/-- Whether a region has a place. -/
def hasB (X Y W H x y : Int) : Bool := withinB x X (X + W - 1) && withinB y Y (Y + H - 1)

set_option maxHeartbeats 1000000 in
theorem has_any (X Y W H x y : Int) (w : World) (hX1 : -16777216 ≤ X) (hX2 : X ≤ 16777216) (hY1 : -16777216 ≤ Y) (hY2 : Y ≤ 16777216) (hW1 : 0 ≤ W) (hW2 : W ≤ 512) (hH1 : 0 ≤ H) (hH2 : H ≤ 512) :
    Calls Try.prog 177 #[reg X Y W H, .int .i64 x, .int .i64 y] w fun e w' => e = .returned (.bool (hasB X Y W H x y)) ∧ w.alloc (regObj X Y W H) = w' := by
  unfold hasB
  have W1 := Lib.hid (fun w => within_any x X (X + W - 1) w)
  have W2 := Lib.hid (fun w => within_any y Y (Y + H - 1) w)
  generalize withinB x X (X + W - 1) = a at *
  generalize withinB y Y (Y + H - 1) = b at *
  cases a with
  | false =>
    go_enter Try.func177, Try.ntmps177
    go_wp2_with (first | (go_at_call 79; (with_reducible refine (W1.out _).mono ?_); rintro e w' ⟨rfl, rfl⟩) | (go_at_call 79; (with_reducible refine (W2.out _).mono ?_); rintro e w' ⟨rfl, rfl⟩))
    go_ret
    exact ⟨by simp, rfl⟩
  | true =>
    go_enter Try.func177, Try.ntmps177
    go_wp2_with (first | (go_at_call 79; (with_reducible refine (W1.out _).mono ?_); rintro e w' ⟨rfl, rfl⟩) | (go_at_call 79; (with_reducible refine (W2.out _).mono ?_); rintro e w' ⟨rfl, rfl⟩))
    go_ret
    exact ⟨by simp, rfl⟩

set_option maxHeartbeats 1000000 in
theorem indexI_any (X Y W H x y : Int) (w : World) (hX1 : -16777216 ≤ X) (hX2 : X ≤ 16777216) (hY1 : -16777216 ≤ Y) (hY2 : Y ≤ 16777216) (hW1 : 0 ≤ W) (hW2 : W ≤ 512)
    (h1 : -16777216 ≤ x) (h2 : x ≤ 16777216) (h3 : -16777216 ≤ y) (h4 : y ≤ 16777216) :
    Calls Try.prog 112 #[reg X Y W H, .int .i64 x, .int .i64 y] w fun e w' => e = .returned (.int .i64 ((y - Y) * W + (x - X))) ∧ w.alloc (regObj X Y W H) = w' := by
  have q1 : (y - Y) * W ≤ 33554432 * W := Int.mul_le_mul_of_nonneg_right (by omega) hW1
  have q2 : (-33554432) * W ≤ (y - Y) * W := Int.mul_le_mul_of_nonneg_right (by omega) hW1
  have e2 : wrap64 ((y - Y) * W) = (y - Y) * W := IntWalk.wrap64_in _ ⟨by omega, by omega⟩
  have e3 : wrap64 ((y - Y) * W + x) = (y - Y) * W + x := IntWalk.wrap64_in _ ⟨by omega, by omega⟩
  have e4 : wrap64 ((y - Y) * W + x - X) = (y - Y) * W + (x - X) := by rw [IntWalk.wrap64_in _ ⟨by omega, by omega⟩]; omega
  clear q1 q2
  go_enter Try.func112, Try.ntmps112
  go_wp2
  go_ret
  exact ⟨ret_int e4, rfl⟩

/-- A neighbour of the cell k, as water reckons it. -/
theorem bes_some {X Y : Int} {W H k d m : Nat} (hk : k < W * H) (h : nbI W H k d = some m) :
    (Y + ((k / W : Nat) : Int) + dyI d - Y) * (W : Int) + (X + ((k % W : Nat) : Int) + dxI d - X) = (m : Int) ∧ hasB X Y W H (X + ((k % W : Nat) : Int) + dxI d) (Y + ((k / W : Nat) : Int) + dyI d) = true := by
  obtain ⟨x, y, hx, hy, h1, h2, rfl⟩ := nbI_some h
  constructor
  · rw [show Y + ((k / W : Nat) : Int) + dyI d - Y = (y : Int) by omega, show X + ((k % W : Nat) : Int) + dxI d - X = (x : Int) by omega]; simp
  · unfold hasB; rw [Bool.and_eq_true, withinB_iff, withinB_iff]; omega
theorem bes_none {X Y : Int} {W H k d : Nat} (h : nbI W H k d = none) : hasB X Y W H (X + ((k % W : Nat) : Int) + dxI d) (Y + ((k / W : Nat) : Int) + dyI d) = false := by
  cases e : hasB X Y W H (X + ((k % W : Nat) : Int) + dxI d) (Y + ((k / W : Nat) : Int) + dyI d) with
  | false => rfl
  | true =>
    unfold hasB at e
    rw [Bool.and_eq_true, withinB_iff, withinB_iff] at e
    generalize hp : k % W = p at *
    generalize hq : k / W = q at *
    have := nbI_mk (W := W) (H := H) (k := k) (d := d) (x := ((p : Int) + dxI d).toNat) (y := ((q : Int) + dyI d).toNat) (by rw [hp]; omega) (by rw [hq]; omega) (by omega) (by omega)
    rw [h] at this; cases this
end Go.Proofs.Ytkcehbnmcdppkaa
