/- Lemmas and contracts for the proof that the last text of this claim holds. -/
import Derived.Test.YtkcehbnmcdppkaaHnJB
import Derived.WalkKit
import Derived.Deep.RegionHeld3
import Derived.Deep.AppendLies
import Derived.Deep.RegionLaw
import Derived.Maps.OwnOps

/- Sums, products and quotients of singles as words. -/
namespace Go.Proofs.Ytkcehbnmcdppkaa
open Go.RowKit Fl
set_option linter.unusedVariables false

/-- What an operation on singles answers stays below 2 ^ 32. -/
theorem opt_lt {d : Option Ieee.Datum} {r : Nat} (h : d.map Ieee.single.write = some r) : r < 4294967296 := by
  cases d with
  | none => cases h
  | some d => cases h; exact Ieee.Format.write_lt Ieee.single d

/-- The lesser, the greater, as words: the first one where they are equal. -/
def lesW (x y : Nat) : Nat := if (FloatKind.f32.format.order y x == some .lt) = true then y else x
def grtW (x y : Nat) : Nat := if (FloatKind.f32.format.order y x == some .gt) = true then y else x

def quoW (a b : Nat) : Nat := (floatBits .quo .f32 a b).getD 0
def subW (a b : Nat) : Nat := (floatBits .sub .f32 a b).getD 0
def addW (a b : Nat) : Nat := (floatBits .add .f32 a b).getD 0
def mulW (a b : Nat) : Nat := (floatBits .mul .f32 a b).getD 0
def ltB (a b : Nat) : Bool := FloatKind.f32.format.order a b == some .lt

theorem same_ex {op : BinOp} {k x y : Nat} (h : Same2 op k x y) : ∃ r, floatBits op .f32 x y = some r ∧ Bd k r := by
  obtain ⟨_, _, _, r, _, _, _, _, e, b⟩ := h.ex
  exact ⟨r, e, b⟩
theorem sub_lt {x y r : Nat} (h : floatBits .sub .f32 x y = some r) : r < 4294967296 := opt_lt (d := (Ieee.single.read x).sum (Ieee.single.read y).opposite) h
theorem mul_lt {x y r : Nat} (h : floatBits .mul .f32 x y = some r) : r < 4294967296 := opt_lt (d := (Ieee.single.read x).product (Ieee.single.read y)) h
theorem add_lt {x y r : Nat} (h : floatBits .add .f32 x y = some r) : r < 4294967296 := opt_lt (d := (Ieee.single.read x).sum (Ieee.single.read y)) h

end Go.Proofs.Ytkcehbnmcdppkaa

/- Contracts: the reference's add, sub, mul; scaled, clamped; lesser, greater; At; Check of a right field. -/
namespace Go.Proofs.Ytkcehbnmcdppkaa
open Go.RowKit Fl
set_option linter.unusedVariables false

theorem ret_fl {k : FloatKind} {a b : Nat} (h : a = b) : Ending.returned (.float k a) = .returned (.float k b) := by rw [h]

set_option maxHeartbeats 400000 in
theorem refAdd_any (k x y r : Nat) (h : Same2 .add k x y) (hr : floatBits .add .f32 x y = some r) (w : World) :
    Calls Try.prog 96 #[.float .f32 x, .float .f32 y] w fun e w' => e = .returned (.float .f32 r) ∧ w = w' := by
  obtain ⟨X, Y, Z, r', h1, h2, h3, h4, h5, _⟩ := h.ex
  rw [hr] at h5
  have h5 := Option.some.inj h5
  subst h5
  have c1 := fun (W : World) => run_convert_float_float (P := Try.prog) W 22 32 .f32 .f64 x X (by kernel_rfl) Try.underlying32 h1
  have c2 := fun (W : World) => run_convert_float_float (P := Try.prog) W 22 32 .f32 .f64 y Y (by kernel_rfl) Try.underlying32 h2
  have c3 := fun (W : World) => run_float_arith (P := Try.prog) W .add 32 .f64 X Y Z h3
  have c4 := fun (W : World) => run_convert_float_float (P := Try.prog) W 32 22 .f64 .f32 Z r (by kernel_rfl) Try.underlying22 h4
  clear h1 h2 h3 h4 hr h
  go_enter Try.func96, Try.ntmps96
  go_wp2
  go_ret
  exact ⟨rfl, rfl⟩

set_option maxHeartbeats 400000 in
theorem refMul_any (k x y r : Nat) (h : Same2 .mul k x y) (hr : floatBits .mul .f32 x y = some r) (w : World) :
    Calls Try.prog 94 #[.float .f32 x, .float .f32 y] w fun e w' => e = .returned (.float .f32 r) ∧ w = w' := by
  obtain ⟨X, Y, Z, r', h1, h2, h3, h4, h5, _⟩ := h.ex
  rw [hr] at h5
  have h5 := Option.some.inj h5
  subst h5
  have c1 := fun (W : World) => run_convert_float_float (P := Try.prog) W 22 32 .f32 .f64 x X (by kernel_rfl) Try.underlying32 h1
  have c2 := fun (W : World) => run_convert_float_float (P := Try.prog) W 22 32 .f32 .f64 y Y (by kernel_rfl) Try.underlying32 h2
  have c3 := fun (W : World) => run_float_arith (P := Try.prog) W .mul 32 .f64 X Y Z h3
  have c4 := fun (W : World) => run_convert_float_float (P := Try.prog) W 32 22 .f64 .f32 Z r (by kernel_rfl) Try.underlying22 h4
  clear h1 h2 h3 h4 hr h
  go_enter Try.func94, Try.ntmps94
  go_wp2
  go_ret
  exact ⟨rfl, rfl⟩

/-- Clamped, as the reference does it. -/
def clpW (v a b : Nat) : Nat := if (FloatKind.f32.format.order v a == some .lt) = true then a else if (FloatKind.f32.format.order v b == some .gt) = true then b else v

set_option maxHeartbeats 400000 in
theorem lesser_any (x y : Nat) (w : World) :
    Calls Try.prog 138 #[.float .f32 x, .float .f32 y] w fun e w' => e = .returned (.float .f32 (lesW x y)) ∧ w = w' := by
  unfold lesW
  go_enter Try.func138, Try.ntmps138
  go_wp2
  all_goals go_ret
  all_goals refine ⟨ret_fl ?_, rfl⟩
  all_goals simp_all

set_option maxHeartbeats 400000 in
theorem greater_any (x y : Nat) (w : World) :
    Calls Try.prog 82 #[.float .f32 x, .float .f32 y] w fun e w' => e = .returned (.float .f32 (grtW x y)) ∧ w = w' := by
  unfold grtW
  go_enter Try.func82, Try.ntmps82
  go_wp2
  all_goals go_ret
  all_goals refine ⟨ret_fl ?_, rfl⟩
  all_goals simp_all

theorem clp_eq {v a b : Nat} (hv : finB v = true) (ha : finB a = true) (hb : finB b = true) (hab : (FloatKind.f32.format.order a b == some .gt) = false) : lesW (grtW v a) b = clpW v a b := by
  rw [show FloatKind.f32.format = Ieee.single from rfl] at hab
  unfold finB at hv ha hb
  obtain ⟨i, hi⟩ := Option.isSome_iff_exists.1 hv
  obtain ⟨j, hj⟩ := Option.isSome_iff_exists.1 ha
  obtain ⟨k, hk⟩ := Option.isSome_iff_exists.1 hb
  rw [gtr_val hj hk] at hab
  unfold lesW grtW clpW
  rw [show FloatKind.f32.format = Ieee.single from rfl, gtr_val hj hi, lss_val hi hj, gtr_val hi hk]
  simp only [decide_eq_true_eq, decide_eq_false_iff_not] at *
  by_cases c : i < j
  · rw [if_pos c, if_pos c, lss_val hk hj]; simp only [decide_eq_true_eq]; rw [if_neg (by omega)]
  · rw [if_neg c, if_neg c, lss_val hk hi]; simp only [decide_eq_true_eq]

set_option maxHeartbeats 1000000 in
theorem refAt_any (X Y : Int) (W H n b cap i : Nat) (v : Nat → Nat) (x y : Int) (w : World) (hX1 : -16777216 ≤ X) (hX2 : X ≤ 16777216) (hY1 : -16777216 ≤ Y) (hY2 : Y ≤ 16777216) (hW1 : 1 ≤ W) (hW2 : W ≤ 512) (hH2 : H ≤ 512)
    (h1 : X ≤ x) (h2 : x < X + W) (h3 : Y ≤ y) (h4 : y < Y + H) (hi : (i : Int) = (y - Y) * W + (x - X)) (hn : i < n) (hn2 : n ≤ 65536) (hc : FlAt w b 0 n v) :
    Calls Try.prog 95 #[fldV X Y W H (.slice (some ⟨b, 0, none⟩) n cap), .int .i64 x, .int .i64 y] w fun e w' => e = .returned (.float .f32 (v i)) ∧ w.alloc (fldO X Y W H (.slice (some ⟨b, 0, none⟩) n cap)) = w' := by
  have hq : 0 ≤ (y - Y) * W := Int.mul_nonneg (by omega) (by omega)
  have e1 : wrap64 (y - Y) = y - Y := IntWalk.wrap64_in _ ⟨by omega, by omega⟩
  have e2 : wrap64 ((y - Y) * W) = (y - Y) * W := IntWalk.wrap64_in _ ⟨by omega, by omega⟩
  have e3 : wrap64 ((y - Y) * W + x) = (y - Y) * W + x := IntWalk.wrap64_in _ ⟨by omega, by omega⟩
  have e4 : wrap64 ((y - Y) * W + x - X) = (i : Int) := by rw [IntWalk.wrap64_in _ ⟨by omega, by omega⟩]; omega
  have hcell := hc i hn
  rw [Nat.zero_add] at hcell
  have hlt : b < w.heap.size := World.block_lt_of_cell? w _ hcell
  clear hi hq hc
  go_enter Try.func95, Try.ntmps95
  go_wp2
  go_ret
  exact ⟨rfl, rfl⟩

set_option maxHeartbeats 1000000 in
theorem check_ok (X Y : Int) (W H n b cap : Nat) (v : Nat → Nat) (w : World) (h0 : checkR X Y W H = 0) (hn : n = W * H) (hc : FlAt w b 0 n v) (hh : allB n (fun i => hgtB (v i)) = true) :
    Calls Try.prog 87 #[fldV X Y W H (.slice (some ⟨b, 0, none⟩) n cap)] w fun e w' => e = .returned (.int .i64 0) ∧ Below w.heap.size w w' := by
  have HH := Lib.hid (fldE_zero.2 hh)
  obtain ⟨b1, b2, b3, b4, b5, _⟩ := checkR_zero h0
  have en : wrap64 ((W : Int) * (H : Int)) = (n : Int) := by
    have : ((W : Int) * (H : Int)) = (n : Int) := by rw [hn]; simp
    rw [this]; rw [this] at b5; exact IntWalk.wrap64_in _ ⟨by omega, by omega⟩
  have hn2 : n ≤ 65536 := by
    have : ((W : Int) * (H : Int)) = (n : Int) := by rw [hn]; simp
    omega
  have h1 : 1 ≤ n := by
    have := Nat.mul_pos (by omega : 0 < W) (by omega : 0 < H)
    omega
  have hlt : b < w.heap.size := World.block_lt_of_cell? w _ (hc 0 h1)
  have CH := Lib.hid (fun W' (hb : Below w.heap.size w W') => CheckHeights_row b 0 cap n v (by omega) W' (flAt_congr hc (hb.block _ hlt)))
  rw [HH.out] at CH
  have RC := Lib.hid (fun w => checkRegion_any X Y W H w)
  rw [h0] at RC
  clear hn hc hh h0 b5
  go_enter Try.func87, Try.ntmps87
  go_wp2_with (first | (go_at_call 84; refine (RC.out _).mono ?_; rintro e w' ⟨rfl, rfl⟩) | (go_at_call 76; refine (CH.out _ (by repeat (first | exact Below.refl _ _ | refine Below.alloc ?_ (by first | omega | (simp; done) | (simp; omega)) _ | refine Below.setCell ?_ (by first | omega | (simp; done) | (simp; omega)) _ | refine Below.drew ?_))).mono ?_; rintro e w' ⟨rfl, rfl⟩))
  go_ret
  exact ⟨rfl, (by repeat (first | exact Below.refl _ _ | refine Below.alloc ?_ (by first | omega | (simp; done) | (simp; omega)) _ | refine Below.setCell ?_ (by first | omega | (simp; done) | (simp; omega)) _ | refine Below.drew ?_))⟩

end Go.Proofs.Ytkcehbnmcdppkaa

/- Contracts: Hash, Unit, Signed of both sides. -/
namespace Go.Proofs.Ytkcehbnmcdppkaa
open Go.RowKit Fl
set_option linter.unusedVariables false

/-- Exclusive or of two words of 32 bits. -/
def xorU (a b : Int) : Int := bits .xor .u32 a b
theorem xorU_in (a b : Int) : 0 ≤ xorU a b ∧ xorU a b < 4294967296 := by
  unfold xorU bits; simp only [IntKind.wrap_u32]; omega
def stA (h : Int) : Int := xorU h (h / 65536) * 2246822507 % 4294967296
def stB (h : Int) : Int := xorU h (h / 8192) * 3266489909 % 4294967296
def stC (h : Int) : Int := xorU h (h / 65536)
/-- Stirred once. -/
def stirI (h : Int) : Int := stC (stB (stA h))
theorem stirI_in (h : Int) : 0 ≤ stirI h ∧ stirI h < 4294967296 := xorU_in _ _
/-- The state behind one more whole number. -/
def stepI (h n : Int) : Int := stirI (xorU h (n % 4294967296))
theorem stepI_in (h n : Int) : 0 ≤ stepI h n ∧ stepI h n < 4294967296 := stirI_in _
def hashI (s x y n : Int) : Int := stepI (stepI (stepI s x) y) n
theorem hashI_in (s x y n : Int) : 0 ≤ hashI s x y n ∧ hashI s x y n < 4294967296 := stepI_in _ _

set_option maxHeartbeats 400000 in
theorem refConv_any (n : Int) (w : World) :
    Calls Try.prog 102 #[.int .i64 n] w fun e w' => e = .returned (.float .f32 (floatOfInt .f32 n)) ∧ w = w' := by
  go_enter Try.func102, Try.ntmps102
  go_wp2
  go_ret
  exact ⟨rfl, rfl⟩

/-- The reference's rounds: the place and the state. -/
inductive HashAt (s x y n : Int) : Value → Value → Prop where
  | z : HashAt s x y n (.int .u32 s) (.int .i64 0)
  | a : HashAt s x y n (.int .u32 (stepI s x)) (.int .i64 1)
  | b : HashAt s x y n (.int .u32 (stepI (stepI s x) y)) (.int .i64 2)
  | c : HashAt s x y n (.int .u32 (hashI s x y n)) (.int .i64 3)

end Go.Proofs.Ytkcehbnmcdppkaa

/- Contracts: CheckWithin; Ease of both sides; the reference's operations of any words at all. -/
namespace Go.Proofs.Ytkcehbnmcdppkaa
open Go.RowKit Fl
set_option linter.unusedVariables false

/-- The error of a single that should be from a to b. -/
def wiE (x a b : Nat) : Int := if finB x = false then 2 else if (FloatKind.f32.format.order x a == some .lt) = true ∨ (FloatKind.f32.format.order x b == some .gt) = true then 3 else 0

set_option maxHeartbeats 400000 in
theorem checkWithin_any (x a b : Nat) (w : World) :
    Calls Try.prog 127 #[.float .f32 x, .float .f32 a, .float .f32 b] w fun e w' => e = .returned (.int .i64 (wiE x a b)) ∧ w = w' := by
  have IH := Lib.hid (fun w => isFinite_any x w)
  unfold wiE
  cases hf : finB x with
  | false =>
    rw [hf] at IH
    clear hf
    go_enter Try.func127, Try.ntmps127
    go_wp2_with (go_at_call 135; refine (IH.out _).mono ?_; rintro e w' ⟨rfl, rfl⟩)
    go_ret
    exact ⟨ret_int rfl, rfl⟩
  | true =>
    rw [hf] at IH
    clear hf
    cases h1 : (FloatKind.f32.format.order x a == some .lt) with
    | true =>
      go_enter Try.func127, Try.ntmps127
      go_wp2_with (go_at_call 135; refine (IH.out _).mono ?_; rintro e w' ⟨rfl, rfl⟩)
      go_ret
      exact ⟨ret_int rfl, rfl⟩
    | false =>
      cases h2 : (FloatKind.f32.format.order x b == some .gt) with
      | true =>
        go_enter Try.func127, Try.ntmps127
        go_wp2_with (go_at_call 135; refine (IH.out _).mono ?_; rintro e w' ⟨rfl, rfl⟩)
        go_ret
        exact ⟨ret_int rfl, rfl⟩
      | false =>
        go_enter Try.func127, Try.ntmps127
        go_wp2_with (go_at_call 135; refine (IH.out _).mono ?_; rintro e w' ⟨rfl, rfl⟩)
        go_ret
        exact ⟨ret_int rfl, rfl⟩

theorem choose_loose (q : Question) (k : FloatKind) (w : World) : ∃ r n, ((do pure (Value.float k (← choose q))) : Sem Value).run Try.prog w = .ok (.float k r) (w.drewN n) := by
  by_cases h : q.forced = true
  · exact ⟨0, 0, by simp [h, World.drewN]⟩
  · exact ⟨q.cut (w.tape w.drawn q), 1, by simp [h]; rfl⟩

theorem conv_loose (src dst : TypeId) (s k : FloatKind) (b : Nat) (hs : (Try.prog.underlying src).isSome = true) (hd : Try.prog.underlying dst = some (.float k)) (w : World) :
    ∃ r n, (convert src dst (.float s b)).run Try.prog w = .ok (.float k r) (w.drewN n) := by
  obtain ⟨u, hs'⟩ := Option.isSome_iff_exists.1 hs
  have key : ∃ r n, (Conv.floatToFloat s b k).run Try.prog w = .ok (.float k r) (w.drewN n) := by
    unfold Conv.floatToFloat
    by_cases e : s = k
    · exact ⟨b, 0, by simp [e, World.drewN]⟩
    · rw [if_neg e]
      cases hd : s.decode b with
      | nan g f => exact choose_loose _ k w
      | infinity g => exact ⟨_, 0, rfl⟩
      | number g m i =>
        simp only
        split
        · exact choose_loose _ k w
        · exact ⟨_, 0, rfl⟩
  obtain ⟨r, n, h⟩ := key
  refine ⟨r, n, ?_⟩
  rw [← h]
  cases u <;> simp [convert, run_underlying hs', run_underlying hd]

theorem arith_loose (op : BinOp) (t : TypeId) (k : FloatKind) (x y : Nat) (ho : op = .add ∨ op = .sub ∨ op = .mul) (w : World) :
    ∃ r n, (binOp op t (.float k x) (.float k y)).run Try.prog w = .ok (.float k r) (w.drewN n) := by
  cases h : floatBits op k x y with
  | some r => exact ⟨r, 0, run_float_arith w op t k x y r h⟩
  | none =>
    obtain ⟨r, n, c⟩ := choose_loose (.nanBits k x y) k w
    refine ⟨r, n, ?_⟩
    rw [← c]
    unfold floatBits at h
    rcases ho with rfl | rfl | rfl
    all_goals simp only at h
    all_goals simp [binOp, Op.floatArith, h]

/-- Some single; the world has drawn at most. -/
def LooseF (w : World) (e : Ending) (w' : World) : Prop := ∃ r n, e = .returned (.float .f32 r) ∧ w' = w.drewN n

theorem drewN_two (w : World) (a b : Nat) : (w.drewN a).drewN b = w.drewN (a + b) := by simp [World.drewN, Nat.add_assoc]

set_option maxHeartbeats 400000 in
theorem refMul_loose (x y : Nat) (w : World) : Calls Try.prog 94 #[.float .f32 x, .float .f32 y] w (LooseF w) := by
  obtain ⟨X, n1, c1⟩ := conv_loose 22 32 .f32 .f64 x (by kernel_rfl) Try.underlying32 w
  obtain ⟨Y, n2, c2⟩ := conv_loose 22 32 .f32 .f64 y (by kernel_rfl) Try.underlying32 (w.drewN n1)
  obtain ⟨Z, n3, c3⟩ := arith_loose .mul 32 .f64 X Y (by simp) (w.drewN (n1 + n2))
  obtain ⟨r, n4, c4⟩ := conv_loose 32 22 .f64 .f32 Z (by kernel_rfl) Try.underlying22 (w.drewN (n1 + n2 + n3))
  go_enter Try.func94, Try.ntmps94
  go_wp2
  go_ret
  exact ⟨r, n1 + n2 + n3 + n4, rfl, rfl⟩

end Go.Proofs.Ytkcehbnmcdppkaa

/- What many laws want: two singles as a list, what a function that makes a field answers, the number of a cell. -/
namespace Go.Proofs.Ytkcehbnmcdppkaa
open Go.RowKit Fl
set_option linter.unusedVariables false

theorem heap_alloc_new (w : World) (o : Obj) : (w.alloc o).heap[w.heap.size]? = some o := by rw [heap_alloc_get, if_pos rfl]

/-- A single in a block of its own. -/
abbrev flObj (x : Nat) : Obj := .cells #[.float .f32 x] 22

theorem below_drewN (w : World) (k : Nat) : Below w.heap.size w (w.drewN k) := by
  induction k with
  | zero => exact Below.refl _ _
  | succ k ih => exact ih.drew

/-- Two singles, as a list. -/
def two (m c : Nat) (i : Nat) : Nat := if i = 0 then m else c
theorem flAt_two {w : World} {b m c : Nat} (h : w.heap[b]? = some (.cells #[.float .f32 m, .float .f32 c] 22)) : FlAt w b 0 2 (two m c) := by
  intro i hi
  rw [Nat.zero_add, (blkC h).1 i]
  have : i = 0 ∨ i = 1 := by omega
  rcases this with rfl | rfl <;> rfl
theorem two_hgt {m c : Nat} (h : fldE 2 (two m c) = 0) : hgtB m = true ∧ hgtB c = true := by
  have := allB_iff.1 (fldE_zero.1 h)
  exact ⟨this 0 (by omega), this 1 (by omega)⟩

/-- What Scale and Clamp answer: the error of their singles, another error, or a field that is made. -/
def ScPost (w : World) (X Y W H : Int) (n : Nat) (f : Nat → Nat) (er : Int) (e : Ending) (w' : World) : Prop :=
  (er ≠ 0 ∧ e = .returned (.tuple #[fldV 0 0 0 0 (.slice none 0 0), .int .i64 er]) ∧ Below w.heap.size w w') ∨ (er = 0 ∧ MadePost w X Y W H n f e w')

theorem num_lt {X Y x y : Int} {W H n i : Nat} (hW1 : 1 ≤ W) (h1 : X ≤ x) (h2 : x < X + W) (h4 : y < Y + H) (h5 : (i : Int) = (y - Y) * W + (x - X)) (hnn : n = H * W) : i < n := by
  have a : (y - Y) * W ≤ ((H : Int) - 1) * W := Int.mul_le_mul_of_nonneg_right (by omega) (by omega)
  have b : ((H : Int) - 1) * W = (n : Int) - W := by rw [hnn, Int.sub_mul]; simp
  omega

theorem f32f : FloatKind.f32.format = Ieee.single := rfl
theorem one_vTop : (one : Int) ≤ vTop := by
  obtain ⟨J, hJ⟩ : ∃ J : Nat, J = 1074 := ⟨_, rfl⟩
  rw [one_pow hJ]; unfold vTop
  rw [Nat.one_mul]
  exact Int.ofNat_le.2 (Nat.pow_le_pow_right (by omega) (by omega))

end Go.Proofs.Ytkcehbnmcdppkaa

/- Contracts: halves and shorts of the program. -/
namespace Go.Proofs.Ytkcehbnmcdppkaa
open Go.RowKit Fl
set_option linter.unusedVariables false

/-- The nearest half of a magnitude. -/
def nhR (r : Nat) : Nat := if 1199566848 ≤ r then 31744 else if r < 947912704 then rnq (rv r) u24 else nrH r
def nhW (s : Bool) (r : Nat) : Nat := s.toNat * 32768 + nhR r

theorem geq_word {r c : Nat} (hr : r ≤ 2139095040) (hc : c < 2139095040) : (FloatKind.f32.format.order r c == some .gt || FloatKind.f32.format.order r c == some .eq) = decide (c ≤ r) := by
  rw [f32fmt]
  rcases Nat.lt_or_eq_of_le hr with h | h
  · rw [geq_val (vS_pos h) (vS_pos hc), decide_eq_decide]
    have := @rv_le c r
    omega
  · subst h
    rw [order_inf (show Ieee.single.read 2139095040 = .infinity false by decide) (vS_pos hc)]
    have : decide (c ≤ 2139095040) = true := by simp; omega
    rw [this]; rfl
theorem lss_word {r c : Nat} (hr : r ≤ 2139095040) (hc : c < 2139095040) : (FloatKind.f32.format.order r c == some .lt) = decide (r < c) := by
  rw [f32fmt]
  rcases Nat.lt_or_eq_of_le hr with h | h
  · rw [lss_val (vS_pos h) (vS_pos hc), decide_eq_decide]
    have := @rv_lt' r c
    omega
  · subst h
    rw [order_inf (show Ieee.single.read 2139095040 = .infinity false by decide) (vS_pos hc)]
    have : decide (2139095040 < c) = false := by simp; omega
    rw [this]; rfl

set_option maxHeartbeats 1000000 in
set_option maxRecDepth 100000 in
theorem nearestHalf_any {s : Bool} {r : Nat} (hr : r ≤ 2139095040) (w : World) :
    Calls Try.prog 60 #[.float .f32 (sw s r)] w fun e w' => e = .returned (.int .i64 ((nhW s r : Nat) : Int)) ∧ w = w' := by
  obtain ⟨X, q, c1, hq, hX⟩ := conv_sign (sw_sg (s := s) hr)
  have CV := fun (W : World) => run_convert_float_float (P := Try.prog) W 22 32 .f32 .f64 (sw s r) X (by kernel_rfl) Try.underlying32 c1
  have IN := Lib.hid (fun w => isNaN_any X true (order_selfD (sw_sg (s := s) hr) c1) w)
  have sb : ∀ w, Calls Try.prog 126 #[.float .f64 X] w fun e w' => e = .returned (.bool s) ∧ w = w' := fun w => signbit_any s (X : Int) (by omega) (by rw [hX]; cases s <;> simp <;> omega) (by rw [hX]; cases s <;> simp <;> omega) w
  have SB := Lib.hid sb
  clear sb
  have MG := Lib.hid (fun w => magn_sw (s := s) hr w)
  have hb := f32bits
  have g1 := geq_word (c := 1199566848) hr (by omega)
  have g2 := lss_word (c := 947912704) hr (by omega)
  clear c1 hX hq
  unfold nhW nhR
  generalize sw s r = x at *
  by_cases k1 : 1199566848 ≤ r
  · rw [if_pos k1]
    rw [decide_eq_true k1] at g1
    clear g2
    cases s
    all_goals
      go_enter Try.func60, Try.ntmps60
      go_wp2_with (first
        | (go_at_call 125; (with_reducible refine (MG.out _).mono ?_); rintro e w' ⟨rfl, rfl⟩)
        | (go_at_call 70; (with_reducible refine (IN.out _).mono ?_); rintro e w' ⟨rfl, rfl⟩)
        | (go_at_call 126; (with_reducible refine (SB.out _).mono ?_); rintro e w' ⟨rfl, rfl⟩))
      go_ret
      exact ⟨rfl, rfl⟩
  · rw [if_neg k1]
    rw [decide_eq_false k1] at g1
    by_cases k2 : r < 947912704
    · rw [if_pos k2]
      rw [decide_eq_true k2] at g2
      obtain ⟨a1, a2⟩ := small_sum k2
      generalize rnq (rv r) u24 = k at *
      have AD := fun (W : World) => run_float_arith (P := Try.prog) W .add 22 .f32 _ _ _ a1
      clear a1
      cases s
      all_goals
        go_enter Try.func60, Try.ntmps60
        go_wp2_with (first
          | (go_at_call 125; (with_reducible refine (MG.out _).mono ?_); rintro e w' ⟨rfl, rfl⟩)
          | (go_at_call 70; (with_reducible refine (IN.out _).mono ?_); rintro e w' ⟨rfl, rfl⟩)
          | (go_at_call 126; (with_reducible refine (SB.out _).mono ?_); rintro e w' ⟨rfl, rfl⟩))
        go_ret
        exact ⟨ret_int (by first | (simp; omega) | omega), rfl⟩
    · rw [if_neg k2]
      rw [decide_eq_false k2] at g2
      have NN := Lib.hid (fun w => nearest13 r (by omega) w)
      have e1 : 114688 ≤ (r + 4095 + r / 8192 % 2) / 8192 := by omega
      have e2 : (r + 4095 + r / 8192 % 2) / 8192 < 300000 := by omega
      have e3 : nrH r = (r + 4095 + r / 8192 % 2) / 8192 - 114688 := rfl
      rw [e3]
      generalize (r + 4095 + r / 8192 % 2) / 8192 = k at *
      clear e3
      cases s
      all_goals
        go_enter Try.func60, Try.ntmps60
        go_wp2_with (first
          | (go_at_call 125; (with_reducible refine (MG.out _).mono ?_); rintro e w' ⟨rfl, rfl⟩)
          | (go_at_call 70; (with_reducible refine (IN.out _).mono ?_); rintro e w' ⟨rfl, rfl⟩)
          | (go_at_call 71; (with_reducible refine (NN.out _).mono ?_); rintro e w' ⟨rfl, rfl⟩)
          | (go_at_call 126; (with_reducible refine (SB.out _).mono ?_); rintro e w' ⟨rfl, rfl⟩))
        go_ret
        exact ⟨ret_int (by first | (simp; omega) | omega), rfl⟩

theorem or_inf : ∀ m : Nat, m < 1024 → ((31744 + m) * 8192 ||| 2139095040) = 2139095040 + m * 8192 := by decide +kernel
theorem mod_half {s : Bool} {q : Nat} (h : q < 32768) {n : Int} (hn : n = ((s.toNat * 32768 + q : Nat) : Int)) : n % 32768 = (q : Int) ∧ decide (32768 ≤ n) = s ∧ 0 ≤ n ∧ n < 65536 := by
  subst hn
  cases s
  · simp; omega
  · simp; omega
theorem tn_half (q : Nat) : ((q : Int) * 8192).toNat = q * 8192 := by omega

set_option maxHeartbeats 1000000 in
set_option maxRecDepth 100000 in
theorem ofHalf_any {s : Bool} {q : Nat} (h : q < 31744) {n : Int} (hn : n = ((s.toNat * 32768 + q : Nat) : Int)) (w : World) :
    Calls Try.prog 61 #[.int .i64 n] w fun e w' => e = .returned (.float .f32 (sw s (whW q))) ∧ w = w' := by
  obtain ⟨a1, a2, -⟩ := whole_word h
  have M1 := fun (W : World) => run_float_arith (P := Try.prog) W .mul 22 .f32 _ _ _ a1
  have hb : ∀ w : World, (callFunc 68 #[.int .u32 ((q : Int) * 8192)]).run Try.prog w = .ok (.value (.float .f32 (q * 8192))) w := fun w => by
    have := f32from ((q : Int) * 8192) w
    rwa [tn_half] at this
  have ng := fun w => run_negS w (whW q)
  rw [neg_pos (by omega)] at ng
  obtain ⟨m1, m2, m3, m4⟩ := mod_half (by omega) hn
  clear hn
  generalize hy : whW q = y at *
  clear a1 hy
  generalize q * 8192 = z at *
  have q1 : ¬ ((31744 : Int) ≤ (q : Int)) := by omega
  cases s
  all_goals
    have m5 := m2
    simp only [decide_eq_true_eq, decide_eq_false_iff_not] at m5
    clear m2
    go_enter Try.func61, Try.ntmps61
    go_wp2
    go_ret
    exact ⟨rfl, rfl⟩
set_option maxHeartbeats 1000000 in
set_option maxRecDepth 100000 in
theorem ofHalf_inf {s : Bool} {m : Nat} (h : m < 1024) {n : Int} (hn : n = ((s.toNat * 32768 + (31744 + m) : Nat) : Int)) (w : World) :
    Calls Try.prog 61 #[.int .i64 n] w fun e w' => e = .returned (.float .f32 (sw s (2139095040 + m * 8192))) ∧ w = w' := by
  obtain ⟨y, y1, -⟩ := mul_pos_word (vS_pos (r := (31744 + m) * 8192) (by omega)) (vS_big (j := 1186) rfl) (by omega) (by omega)
  have M1 := fun (W : World) => run_float_arith (P := Try.prog) W .mul 22 .f32 _ _ _ y1
  have hb : ∀ w : World, (callFunc 68 #[.int .u32 (((31744 + m : Nat) : Int) * 8192)]).run Try.prog w = .ok (.value (.float .f32 ((31744 + m) * 8192))) w := fun w => by
    have := f32from (((31744 + m : Nat) : Int) * 8192) w
    rwa [tn_half] at this
  have ho : bits .or .u32 (((31744 + m : Nat) : Int) * 8192) 2139095040 = ((2139095040 + m * 8192 : Nat) : Int) := by
    have := u32_or_nat ((31744 + m) * 8192) 2139095040 (by omega) (by omega)
    rw [or_inf m h, Int.natCast_mul] at this
    exact this
  have hc : ∀ w : World, (callFunc 68 #[.int .u32 ((2139095040 + m * 8192 : Nat) : Int)]).run Try.prog w = .ok (.value (.float .f32 (2139095040 + m * 8192))) w := fun w => f32from ((2139095040 + m * 8192 : Nat) : Int) w
  have ng := fun w => run_negS w (2139095040 + m * 8192)
  rw [neg_pos (by omega)] at ng
  obtain ⟨m1, m2, m3, m4⟩ := mod_half (by omega) hn
  clear hn y1
  have q1 : (31744 : Int) ≤ ((31744 + m : Nat) : Int) := by omega
  have q2 : ((31744 + m : Nat) : Int) < 32768 := by omega
  generalize (31744 + m) * 8192 = z at *
  generalize 2139095040 + m * 8192 = u at *
  generalize ((31744 + m : Nat) : Int) = qi at *
  cases s
  all_goals
    have m5 := m2
    simp only [decide_eq_true_eq, decide_eq_false_iff_not] at m5
    clear m2
    go_enter Try.func61, Try.ntmps61
    go_wp2
    go_ret
    exact ⟨rfl, rfl⟩
end Go.Proofs.Ytkcehbnmcdppkaa

/- Contracts: Half, Whole, Short, Long. -/
namespace Go.Proofs.Ytkcehbnmcdppkaa
open Go.RowKit Fl
set_option linter.unusedVariables false

theorem vS_sw {s : Bool} {r : Nat} (h : r < 2139095040) : vS (sw s r) = some ((if s then -1 else 1) * ((rv r : Nat) : Int)) := by
  rw [sw_form]; exact vS_rung s h
theorem wi_fin {s : Bool} {r : Nat} (h : r < 2139095040) : wiE (sw s r) 4286578687 2139095039 = 0 := by
  have hv := vS_sw (s := s) h
  have hf : finB (sw s r) = true := by unfold finB; rw [hv]; rfl
  have h1 : vS 4286578687 = some (-((rv 2139095039 : Nat) : Int)) := vS_neg (r := 2139095039) (by omega)
  have h2 : vS 2139095039 = some ((rv 2139095039 : Nat) : Int) := vS_pos (by omega)
  have hle : rv r ≤ rv 2139095039 := rv_le.2 (by omega)
  unfold wiE
  rw [if_neg (by rw [hf]; simp), if_neg]
  rw [f32f, lss_val hv h1, gtr_val hv h2]
  cases s <;> simp <;> omega
theorem wi_inf {s : Bool} {r : Nat} (h : 2139095040 ≤ r) (h2 : r < 2147483648) : wiE (sw s r) 4286578687 2139095039 = 2 := by
  have hf : finB (sw s r) = false := by
    unfold finB vS Ieee.Format.read
    have e1 : sw s r % Ieee.single.signWeight = r := by unfold sw; rw [swS]; cases s <;> simp <;> omega
    simp only [e1, binS', infS']
    rw [if_neg (by omega), if_neg (by omega)]
    split
    · rename_i q; split at q <;> cases q
    · rfl
  unfold wiE
  rw [if_pos hf]

set_option maxHeartbeats 1000000 in
set_option maxRecDepth 100000 in
theorem decoded_far (n : Int) (V : Value) (hn : withinB n 0 65535 = false) (w : World) :
    Calls Try.prog 66 #[.int .i64 n, V] w fun e w' => e = .returned (.tuple #[.float .f32 0, .int .i64 3]) ∧ w = w' := by
  have WI := Lib.hid (fun w => within_any n 0 65535 w)
  rw [hn] at WI
  clear hn
  go_enter Try.func66, Try.ntmps66
  go_wp2_with (go_at_call 79; (with_reducible refine Calls.mono (WI.out _) ?_); rintro e w' ⟨rfl, rfl⟩)
  go_ret2
  exact ⟨rfl, rfl⟩

set_option maxHeartbeats 1000000 in
set_option maxRecDepth 100000 in
theorem whole_far (n : Int) (hn : withinB n 0 65535 = false) (w : World) :
    Calls Try.prog 11 #[.int .i64 n] w fun e w' => e = .returned (.tuple #[.float .f32 0, .int .i64 3]) ∧ w = w' := by
  have DE := Lib.hid (fun V w => decoded_far n V hn w)
  clear hn
  go_enter Try.func11, Try.ntmps11
  go_wp2_with (go_at_call 66; (with_reducible refine Calls.mono (DE.out _ _) ?_); rintro e w' ⟨rfl, rfl⟩)
  go_ret2
  exact ⟨rfl, rfl⟩

theorem in_code {n : Int} (h0 : 0 ≤ n) (h1 : n < 65536) : withinB n 0 65535 = true := withinB_iff.2 ⟨h0, by omega⟩
/-- A half, by its sign and its magnitude. -/
theorem half_form {n : Int} (h0 : 0 ≤ n) (h1 : n < 65536) : ∃ (s : Bool) (q : Nat), q < 32768 ∧ n = ((s.toNat * 32768 + q : Nat) : Int) := by
  by_cases c : n < 32768
  · exact ⟨false, n.toNat, by omega, by simp; omega⟩
  · exact ⟨true, (n - 32768).toNat, by omega, by simp; omega⟩

set_option maxHeartbeats 1000000 in
set_option maxRecDepth 100000 in
theorem decoded_ok {n : Int} (g : Nat) (y : Nat) (hn : withinB n 0 65535 = true) (hg : g = 61 ∨ g = 67) (hf : ∀ w, Calls Try.prog g #[.int .i64 n] w fun e w' => e = .returned (.float .f32 y) ∧ w = w') (er : Int) (hw : wiE y 4286578687 2139095039 = er) (z : Nat) (hz : z = if er = 0 then y else 0) (w : World) :
    Calls Try.prog 66 #[.int .i64 n, .func (.func g) #[] #[]] w fun e w' => e = .returned (.tuple #[.float .f32 z, .int .i64 er]) ∧ w = w' := by
  have WI := Lib.hid (fun w => within_any n 0 65535 w)
  rw [hn] at WI
  have OF := Lib.hid hf
  have CW := Lib.hid (fun w => checkWithin_any y 4286578687 2139095039 w)
  rw [hw] at CW
  clear hn hf hw
  by_cases c : er = 0
  · rw [if_pos c] at hz
    subst hz c
    rcases hg with rfl | rfl
    · go_enter Try.func66, Try.ntmps66
      go_wp2_with (first
        | (go_at_call 79; (with_reducible refine Calls.mono (WI.out _) ?_); rintro e w' ⟨rfl, rfl⟩)
        | (go_at_call 61; (with_reducible refine Calls.mono (OF.out _) ?_); rintro e w' ⟨rfl, rfl⟩)
        | (go_at_call 127; (with_reducible refine Calls.mono (CW.out _) ?_); rintro e w' ⟨rfl, rfl⟩))
      go_ret2
      exact ⟨rfl, rfl⟩
    · go_enter Try.func66, Try.ntmps66
      go_wp2_with (first
        | (go_at_call 79; (with_reducible refine Calls.mono (WI.out _) ?_); rintro e w' ⟨rfl, rfl⟩)
        | (go_at_call 67; (with_reducible refine Calls.mono (OF.out _) ?_); rintro e w' ⟨rfl, rfl⟩)
        | (go_at_call 127; (with_reducible refine Calls.mono (CW.out _) ?_); rintro e w' ⟨rfl, rfl⟩))
      go_ret2
      exact ⟨rfl, rfl⟩
  · rw [if_neg c] at hz
    subst hz
    have c1 : (er != 0) = true := by simpa using c
    clear c
    rcases hg with rfl | rfl
    · go_enter Try.func66, Try.ntmps66
      go_wp2_with (first
        | (go_at_call 79; (with_reducible refine Calls.mono (WI.out _) ?_); rintro e w' ⟨rfl, rfl⟩)
        | (go_at_call 61; (with_reducible refine Calls.mono (OF.out _) ?_); rintro e w' ⟨rfl, rfl⟩)
        | (go_at_call 127; (with_reducible refine Calls.mono (CW.out _) ?_); rintro e w' ⟨rfl, rfl⟩))
      go_ret2
      exact ⟨rfl, rfl⟩
    · go_enter Try.func66, Try.ntmps66
      go_wp2_with (first
        | (go_at_call 79; (with_reducible refine Calls.mono (WI.out _) ?_); rintro e w' ⟨rfl, rfl⟩)
        | (go_at_call 67; (with_reducible refine Calls.mono (OF.out _) ?_); rintro e w' ⟨rfl, rfl⟩)
        | (go_at_call 127; (with_reducible refine Calls.mono (CW.out _) ?_); rintro e w' ⟨rfl, rfl⟩))
      go_ret2
      exact ⟨rfl, rfl⟩

/-- Whole of a half that is a number; of one that is none. -/
theorem whole_ok {s : Bool} {q : Nat} (h : q < 31744) {n : Int} (hn : n = ((s.toNat * 32768 + q : Nat) : Int)) (w : World) :
    Calls Try.prog 11 #[.int .i64 n] w fun e w' => e = .returned (.tuple #[.float .f32 (sw s (whW q)), .int .i64 0]) ∧ w = w' := by
  obtain ⟨-, -, m3, m4⟩ := mod_half (by omega) hn
  have DE := Lib.hid (fun w => decoded_ok 61 (sw s (whW q)) (in_code m3 m4) (.inl rfl) (fun w => ofHalf_any h hn w) 0 (wi_fin (whole_word h).2.1) _ rfl w)
  rw [if_pos rfl] at DE
  clear hn m3 m4
  generalize sw s (whW q) = y at *
  go_enter Try.func11, Try.ntmps11
  go_wp2_with (go_at_call 66; (with_reducible refine Calls.mono (DE.out _) ?_); rintro e w' ⟨rfl, rfl⟩)
  go_ret2
  exact ⟨rfl, rfl⟩
theorem whole_inf {s : Bool} {m : Nat} (h : m < 1024) {n : Int} (hn : n = ((s.toNat * 32768 + (31744 + m) : Nat) : Int)) (w : World) :
    Calls Try.prog 11 #[.int .i64 n] w fun e w' => e = .returned (.tuple #[.float .f32 0, .int .i64 2]) ∧ w = w' := by
  obtain ⟨-, -, m3, m4⟩ := mod_half (by omega) hn
  have DE := Lib.hid (fun w => decoded_ok 61 (sw s (2139095040 + m * 8192)) (in_code m3 m4) (.inl rfl) (fun w => ofHalf_inf h hn w) 2 (wi_inf (by omega) (by omega)) _ rfl w)
  rw [if_neg (by decide)] at DE
  clear hn m3 m4
  go_enter Try.func11, Try.ntmps11
  go_wp2_with (go_at_call 66; (with_reducible refine Calls.mono (DE.out _) ?_); rintro e w' ⟨rfl, rfl⟩)
  go_ret2
  exact ⟨rfl, rfl⟩

theorem tn_short (q : Nat) : ((q : Int) * 65536).toNat = q * 65536 := by omega
theorem ofShort_any {q : Nat} (h : q < 65536) (w : World) : Calls Try.prog 67 #[.int .i64 (q : Int)] w fun e w' => e = .returned (.float .f32 (q * 65536)) ∧ w = w' := by
  have hb : ∀ w : World, (callFunc 68 #[.int .u32 ((q : Int) * 65536)]).run Try.prog w = .ok (.value (.float .f32 (q * 65536))) w := fun w => by
    have := f32from ((q : Int) * 65536) w
    rwa [tn_short] at this
  generalize q * 65536 = z at *
  go_enter Try.func67, Try.ntmps67
  go_wp2
  go_ret
  exact ⟨rfl, rfl⟩
theorem long_far (n : Int) (hn : withinB n 0 65535 = false) (w : World) :
    Calls Try.prog 12 #[.int .i64 n] w fun e w' => e = .returned (.tuple #[.float .f32 0, .int .i64 3]) ∧ w = w' := by
  have DE := Lib.hid (fun V w => decoded_far n V hn w)
  clear hn
  go_enter Try.func12, Try.ntmps12
  go_wp2_with (go_at_call 66; (with_reducible refine Calls.mono (DE.out _ _) ?_); rintro e w' ⟨rfl, rfl⟩)
  go_ret2
  exact ⟨rfl, rfl⟩
theorem long_any {q : Nat} (h : q < 65536) (er : Int) (hw : wiE (q * 65536) 4286578687 2139095039 = er) (w : World) :
    Calls Try.prog 12 #[.int .i64 (q : Int)] w fun e w' => e = .returned (.tuple #[.float .f32 (if er = 0 then q * 65536 else 0), .int .i64 er]) ∧ w = w' := by
  have DE := Lib.hid (fun w => decoded_ok 67 (q * 65536) (in_code (by omega) (by omega)) (.inr rfl) (fun w => ofShort_any h w) er hw _ rfl w)
  generalize (if er = 0 then q * 65536 else 0) = z at *
  clear hw
  go_enter Try.func12, Try.ntmps12
  go_wp2_with (go_at_call 66; (with_reducible refine Calls.mono (DE.out _) ?_); rintro e w' ⟨rfl, rfl⟩)
  go_ret2
  exact ⟨rfl, rfl⟩

set_option maxHeartbeats 1000000 in
set_option maxRecDepth 100000 in
theorem short_any {s : Bool} {r : Nat} (hr : r ≤ 2139095040) (w : World) :
    Calls Try.prog 16 #[.float .f32 (sw s r)] w fun e w' => e = .returned (.int .i64 ((nrS (sw s r) : Nat) : Int)) ∧ w = w' := by
  obtain ⟨X, q, c1, -, -⟩ := conv_sign (sw_sg (s := s) hr)
  have CV := fun (W : World) => run_convert_float_float (P := Try.prog) W 22 32 .f32 .f64 (sw s r) X (by kernel_rfl) Try.underlying32 c1
  have IN := Lib.hid (fun w => isNaN_any X true (order_selfD (sw_sg (s := s) hr) c1) w)
  have hb := f32bits
  have hx : sw s r ≤ 4286578688 := by unfold sw; cases s <;> simp <;> omega
  have NN := Lib.hid (fun w => nearest16 (sw s r) hx w)
  have hk : nrS (sw s r) < 4294967296 := by unfold nrS; omega
  clear c1
  generalize sw s r = x at *
  generalize nrS x = k at *
  go_enter Try.func16, Try.ntmps16
  go_wp2_with (first
    | (go_at_call 70; (with_reducible refine (IN.out _).mono ?_); rintro e w' ⟨rfl, rfl⟩)
    | (go_at_call 71; (with_reducible refine (NN.out _).mono ?_); rintro e w' ⟨rfl, rfl⟩))
  go_ret
  exact ⟨rfl, rfl⟩

set_option maxHeartbeats 1000000 in
set_option maxRecDepth 100000 in
theorem half_any {s : Bool} {r : Nat} (hr : r ≤ 2139095040) (hq : nhR r < 31744) (b : Bool) (hb : (FloatKind.f32.format.order (sw s (whW (nhR r))) (sw s r) == some .eq) = b) (w : World) :
    Calls Try.prog 9 #[.float .f32 (sw s r)] w fun e w' => e = .returned (.tuple #[.int .i64 ((nhW s r : Nat) : Int), .bool b]) ∧ w = w' := by
  have NH := Lib.hid (fun w => nearestHalf_any (s := s) hr w)
  have OH := Lib.hid (fun w => ofHalf_any (s := s) (q := nhR r) hq (n := ((nhW s r : Nat) : Int)) rfl w)
  generalize nhW s r = k at *
  generalize sw s (whW (nhR r)) = y at *
  generalize sw s r = x at *
  clear hq hr
  cases b
  all_goals
    go_enter Try.func9, Try.ntmps9
    go_wp2_with (first
      | (go_at_call 60; (with_reducible refine (NH.out _).mono ?_); rintro e w' ⟨rfl, rfl⟩)
      | (go_at_call 61; (with_reducible refine (OH.out _).mono ?_); rintro e w' ⟨rfl, rfl⟩))
    go_ret2
    exact ⟨rfl, rfl⟩
end Go.Proofs.Ytkcehbnmcdppkaa

/- HalvesLeadBack: what its four parts ask, as facts (pure, and by the contracts). -/
namespace Go.Proofs.Ytkcehbnmcdppkaa
open Go.RowKit Fl
set_option linter.unusedVariables false

/-- A half's own word leads back to it. -/
theorem nhR_back {q : Nat} (h : q < 31744) : nhR (whW q) = q := by
  unfold nhR
  by_cases c : 1024 ≤ q
  · rw [whW_big h c, if_neg (by omega), if_neg (by omega)]
    unfold nrH
    omega
  · obtain ⟨-, h2, h3⟩ := whole_word h
    have hv : rv (whW q) = q * u24 := by
      have e := vS_pos h2
      rw [h3] at e
      have := Option.some.inj e
      have e2 : hvM q = q * u24 := by unfold hvM; rw [if_pos (by omega)]
      omega
    have p := u24_pos
    have hlt : whW q < 947912704 := by
      rw [← rv_lt', hv, rv_m14]
      exact Nat.mul_lt_mul_of_pos_right (by omega) p
    rw [if_neg (by omega), if_pos hlt, hv, rnq_mul _ _ p]

/-- P230, first half: a half that is a number. -/
theorem lead_half (n : Int) : ∃ (y : Nat) (e : Int), (∀ w, Calls Try.prog 11 #[.int .i64 n] w fun en w' => en = .returned (.tuple #[.float .f32 y, .int .i64 e]) ∧ w = w') ∧
    (e = 0 → ∀ w, Calls Try.prog 9 #[.float .f32 y] w fun en w' => en = .returned (.tuple #[.int .i64 n, .bool true]) ∧ w = w') := by
  cases hn : withinB n 0 65535 with
  | false => exact ⟨0, 3, fun w => whole_far n hn w, fun h => by omega⟩
  | true =>
    obtain ⟨n0, n1⟩ := withinB_iff.1 hn
    obtain ⟨s, q, hq, e⟩ := half_form n0 (show n < 65536 by omega)
    by_cases c : q < 31744
    · refine ⟨sw s (whW q), 0, fun w => whole_ok c e w, fun _ w => ?_⟩
      have h2 := (whole_word c).2.1
      have hb := nhR_back c
      have := half_any (s := s) (r := whW q) (by omega) (by rw [hb]; exact c) true (by
        rw [hb, f32f, order_self (sw_sg (s := s) (show whW q ≤ 2139095040 by omega))]; rfl) w
      rw [show ((nhW s (whW q) : Nat) : Int) = n by unfold nhW; rw [hb, e]] at this
      exact this
    · obtain ⟨m, rfl⟩ : ∃ m, q = 31744 + m := ⟨q - 31744, by omega⟩
      exact ⟨0, 2, fun w => whole_inf (by omega) e w, fun h => by omega⟩

theorem short_back {s : Bool} {r : Nat} : nrS (sw s (r * 65536)) = s.toNat * 32768 + r := by
  unfold nrS sw
  cases s
  · simp; omega
  · simp; omega
theorem short_word {s : Bool} {q : Nat} : (s.toNat * 32768 + q) * 65536 = sw s (q * 65536) := by
  unfold sw
  cases s
  · simp
  · simp; omega
/-- P230, the shorts. -/
theorem lead_short (n : Int) : ∃ (y : Nat) (e : Int), (∀ w, Calls Try.prog 12 #[.int .i64 n] w fun en w' => en = .returned (.tuple #[.float .f32 y, .int .i64 e]) ∧ w = w') ∧
    (e = 0 → ∀ w, Calls Try.prog 16 #[.float .f32 y] w fun en w' => en = .returned (.int .i64 n) ∧ w = w') := by
  cases hn : withinB n 0 65535 with
  | false => exact ⟨0, 3, fun w => long_far n hn w, fun h => by omega⟩
  | true =>
    obtain ⟨n0, n1⟩ := withinB_iff.1 hn
    obtain ⟨s, q, hq, e⟩ := half_form n0 (show n < 65536 by omega)
    have hk : s.toNat * 32768 + q < 65536 := by cases s <;> simp <;> omega
    obtain ⟨k, hk2⟩ : ∃ k, k = s.toNat * 32768 + q := ⟨_, rfl⟩
    have hz : k * 65536 = sw s (q * 65536) := by rw [hk2]; exact short_word
    rw [← hk2] at hk e
    subst e
    by_cases c : q < 32640
    · have hw := wi_fin (s := s) (r := q * 65536) (by omega)
      have hs := fun w => short_any (s := s) (r := q * 65536) (by omega) w
      rw [short_back, ← hk2] at hs
      rw [← hz] at hw hs
      exact ⟨k * 65536, 0, fun w => by have := long_any hk 0 hw w; rwa [if_pos rfl] at this, fun _ w => hs w⟩
    · have hw := wi_inf (s := s) (r := q * 65536) (by omega) (by omega)
      rw [← hz] at hw
      exact ⟨0, 2, fun w => by have := long_any hk 2 hw w; rwa [if_neg (by decide)] at this, fun h => by omega⟩
end Go.Proofs.Ytkcehbnmcdppkaa

/- HalvesLeadBack: what is lost, in doubles (pure). -/
namespace Go.Proofs.Ytkcehbnmcdppkaa
open Go.RowKit Fl
set_option linter.unusedVariables false

theorem opt_ltD {d : Option Ieee.Datum} {r : Nat} (h : d.map Ieee.double.write = some r) : r < b64 := by
  cases d with
  | none => cases h
  | some d => cases h; exact Ieee.Format.write_lt Ieee.double d

theorem conv_val {s : Bool} {r : Nat} (h : r < 2139095040) : ∃ X, floatToFloatBits .f32 (sw s r) .f64 = some X ∧ X < b64 ∧ vD X = some ((if s then -1 else 1) * ((rv r : Nat) : Int)) := by
  obtain ⟨X, c1, c2⟩ := toD_val (vS_sw (s := s) h)
  exact ⟨X, c1, conv32_lt c1, c2⟩

/-- The two tests of a magnitude's double. -/
theorem dbl_tests {s : Bool} {r lo hi cl ch : Nat} (hr : r ≤ 2139095040) (hl : vD cl = some ((rv lo : Nat) : Int)) (hh : vD ch = some ((rv hi : Nat) : Int)) (hhi : hi < 2139095040) (hlo : lo < 2139095040) :
    ∃ X, floatToFloatBits .f32 (sw s r) .f64 = some X ∧ X < b64 ∧ (FloatKind.f64.format.order (X % b63) cl == some .gt || FloatKind.f64.format.order (X % b63) cl == some .eq) = decide (lo ≤ r) ∧ (FloatKind.f64.format.order (X % b63) ch == some .lt || FloatKind.f64.format.order (X % b63) ch == some .eq) = decide (r ≤ hi) := by
  have f64f : FloatKind.f64.format = Ieee.double := rfl
  rcases Nat.lt_or_eq_of_le hr with h | h
  · obtain ⟨X, c1, c2, c3⟩ := conv_val (s := s) h
    have hA := abs_valD c3
    have e : ((if s then -1 else 1) * ((rv r : Nat) : Int)).natAbs = rv r := by
      rw [Int.natAbs_mul, Int.natAbs_natCast]; cases s <;> simp
    rw [e] at hA
    refine ⟨X, c1, c2, ?_, ?_⟩
    · rw [f64f, show b63 = 9223372036854775808 from rfl, geq_valD hA hl, decide_eq_decide]
      have := @rv_le lo r
      omega
    · rw [f64f, show b63 = 9223372036854775808 from rfl, leq_valD hA hh, decide_eq_decide]
      have := @rv_le r hi
      omega
  · subst h
    have hi' : Ieee.single.read (sw s 2139095040) = .infinity s := by cases s <;> decide
    have c1 := conv_infS hi'
    refine ⟨_, c1, conv32_lt c1, ?_, ?_⟩
    · have e : Ieee.double.word s Ieee.double.infRung % b63 = 9218868437227405312 := by cases s <;> decide
      rw [f64f, e, order_infD (show Ieee.double.read 9218868437227405312 = .infinity false by decide) hl]
      have : decide (lo ≤ 2139095040) = true := by simp; omega
      rw [this]; rfl
    · have e : Ieee.double.word s Ieee.double.infRung % b63 = 9218868437227405312 := by cases s <;> decide
      rw [f64f, e, order_infD (show Ieee.double.read 9218868437227405312 = .infinity false by decide) hh]
      have : decide (2139095040 ≤ hi) = false := by simp; omega
      rw [this]; rfl

/-- What is lost is within its bound. -/
theorem lost_ok {s : Bool} {r r' k Y : Nat} {X : Nat} (hr0 : 8388608 ≤ r) (hr : r < 2139095040) (hr' : r' < 2139095040) (hk : k ≤ 23) (h1 : r / 8388608 * 8388608 ≤ r') (h2 : r' ≤ r / 8388608 * 8388608 + 8388608) (h3 : r' ≤ r + 2 ^ (23 - k)) (h4 : r ≤ r' + 2 ^ (23 - k))
    (hY : Ieee.double.read Y = .number false 4503599627370496 ((k : Int) - 52)) (hX : floatToFloatBits .f32 (sw s r) .f64 = some X) :
    ∃ W D Q, floatToFloatBits .f32 (sw s r') .f64 = some W ∧ floatBits .sub .f64 W X = some D ∧ D < b64 ∧ floatBits .quo .f64 (X % b63) Y = some Q ∧ (FloatKind.f64.format.order (D % b63) Q == some .gt) = false := by
  obtain ⟨u, j, e1, e2, e3, e4⟩ := near_lost hr0 hk h1 h2 h3 h4
  obtain ⟨W, w1, w2, w3⟩ := conv_val (s := s) hr'
  obtain ⟨X', x1, x2, x3⟩ := conv_val (s := s) hr
  rw [hX] at x1; cases x1
  -- the difference
  have hc : ∃ c : Int, (if s then -1 else 1) * ((rv r' : Nat) : Int) - (if s then -1 else 1) * ((rv r : Nat) : Int) = c ∧ c.natAbs = u * 2 ^ j := by
    refine ⟨_, rfl, ?_⟩
    have z1 : (if s = true then (-1 : Int) else 1).natAbs = 1 := by cases s <;> rfl
    have z2 : (if r ≤ r' then (1 : Int) else -1).natAbs = 1 := by split <;> rfl
    rw [← Int.mul_sub, e1, Int.natAbs_mul, Int.natAbs_mul, Int.natAbs_natCast, z1, z2, Nat.one_mul, Nat.one_mul]
  obtain ⟨c, hc1, hc2⟩ := hc
  have hj : j ≤ 1180 := by omega
  obtain ⟨B, hB⟩ : ∃ B : Nat, B = 1300 := ⟨_, rfl⟩
  have hlt : c.natAbs < 2 ^ B := by
    rw [hc2]
    have e5 : (8388608 : Nat) = 2 ^ 23 := by decide
    calc u * 2 ^ j ≤ 8388608 * 2 ^ j := Nat.mul_le_mul_right _ e2
      _ = 2 ^ (23 + j) := by rw [e5]; exact (Nat.pow_add 2 23 j).symm
      _ < 2 ^ B := Nat.pow_lt_pow_right (by omega) (by omega)
  obtain ⟨D, d1, d2⟩ := vD_sub (u := u) (k := j) (B := B) w3 x3 hc1 hc2 (by
    have : (2 : Nat) ^ 53 = 9007199254740992 := by decide
    omega) hlt (by omega)
  have hD := abs_valD d2
  rw [hc2] at hD
  -- the bound
  have hq : ∃ Q V, floatBits .quo .f64 (X % b63) Y = some Q ∧ vD Q = some ((V : Nat) : Int) ∧ V * 2 ^ k = rv r := by
    have hx := read_rungs s hr
    rw [← sw_form] at hx
    obtain ⟨X2, M, I, c1, c2, c3, c4, c5⟩ := toD hx
    rw [hX] at c1; cases c1
    have ha := read_abs Ieee.double X
    rw [c2, swD] at ha
    simp only at ha
    rw [show (((rgE r : Nat) : Int) - 1074 + 1074).toNat = rgE r by omega] at c4
    have c4' : M * 2 ^ (I + 1074).toNat = rv r := c4
    have p0 : 0 < rv r := by have := rv_lt (show 0 < r by omega); omega
    have hM : M ≠ 0 := by
      intro z; rw [z, Nat.zero_mul] at c4'; omega
    have hI := c5 hM
    have hI2 : I ≤ 200 := by
      rcases Int.lt_or_le 200 I with l | l
      · exfalso
        obtain ⟨C, hC⟩ : ∃ C : Nat, C = 1202 := ⟨_, rfl⟩
        have g1 : 2 ^ C ≤ M * 2 ^ (I + 1074).toNat := by
          calc 2 ^ C ≤ 2 ^ (I + 1074).toNat := Nat.pow_le_pow_right (by omega) (by omega)
            _ ≤ M * 2 ^ (I + 1074).toNat := Nat.le_mul_of_pos_left _ (by omega)
        have g2 : rv r < 2 ^ C := by
          unfold rv
          have m1 := rgM_lt r
          have m2 : rgE r ≤ 1178 := by unfold rgE; split <;> omega
          have e5 : (16777216 : Nat) = 2 ^ 24 := by decide
          calc rgM r * 2 ^ rgE r < 16777216 * 2 ^ rgE r := Nat.mul_lt_mul_of_pos_right m1 (Nat.two_pow_pos _)
            _ = 2 ^ (24 + rgE r) := by rw [e5]; exact (Nat.pow_add 2 24 (rgE r)).symm
            _ ≤ 2 ^ C := Nat.pow_le_pow_right (by omega) (by omega)
        omega
      · exact l
    obtain ⟨Q, V, q1, q2, q3⟩ := quo_pow (t := k) ha hI hI2 hY rfl (by omega)
    exact ⟨Q, V, q1, by simpa using q2, q3.trans c4'⟩
  obtain ⟨Q, V, q1, q2, q3⟩ := hq
  refine ⟨W, D, Q, w1, d1, opt_ltD (d := (Ieee.double.read W).sum (Ieee.double.read X).opposite) d1, q1, ?_⟩
  rw [show FloatKind.f64.format = Ieee.double from rfl, show b63 = 9223372036854775808 from rfl, gtr_valD hD q2]
  have : V * 2 ^ k ≥ u * 2 ^ j * 2 ^ k := by rw [q3]; exact e4
  have h5 := Nat.le_of_mul_le_mul_right this (Nat.two_pow_pos k)
  refine decide_eq_false ?_
  generalize u * 2 ^ j = z at *
  omega
end Go.Proofs.Ytkcehbnmcdppkaa

/- The double of a NaN; math.Ldexp of two constants. -/
namespace Go.Proofs.Ytkcehbnmcdppkaa
open Go.RowKit Fl
set_option linter.unusedVariables false

/-- The double that the machine chooses for a NaN. -/
def nanD (x : Nat) (w : World) : Nat := Question.cut (.nanConv .f64 x) (w.tape w.drawn (.nanConv .f64 x))
theorem nanD_form (x : Nat) (w : World) : ∃ s k : Nat, s ≤ 1 ∧ 0 < k ∧ k < 4503599627370496 ∧ nanD x w = s * 9223372036854775808 + (9218868437227405312 + k) := by
  unfold nanD
  generalize w.tape w.drawn (.nanConv .f64 x) = t
  refine ⟨t % 2, 1 + t / 2 % (2 ^ 52 - 1), by omega, by omega, ?_, ?_⟩
  · have : (2 : Nat) ^ 52 = 4503599627370496 := by decide
    rw [this]; omega
  · show (t % 2) * 2 ^ 63 + 0x7ff0000000000000 + 1 + (t / 2) % (2 ^ 52 - 1) = _
    have e63 : (2 : Nat) ^ 63 = 9223372036854775808 := by decide
    rw [e63]
    omega
theorem nanD_lt (x : Nat) (w : World) : nanD x w < b64 := by
  obtain ⟨s, k, h1, h2, h3, h4⟩ := nanD_form x w
  rw [h4]
  show _ < 18446744073709551616
  omega
theorem nanD_order (x : Nat) (w : World) (c : Nat) : Ieee.double.order (nanD x w % b63) c = none := by
  obtain ⟨s, k, h1, h2, h3, h4⟩ := nanD_form x w
  have e : nanD x w % b63 = 9218868437227405312 + k := by
    rw [h4]
    show _ % 9223372036854775808 = _
    omega
  have r : Ieee.double.read (nanD x w % b63) = .nan false k := by
    rw [e]
    unfold Ieee.Format.read
    rw [swD, bnD, infD]
    have e2 : (2047 : Nat) * b52 = 9218868437227405312 := rfl
    have e3 : b52 = 4503599627370496 := rfl
    rw [e2, e3]
    obtain ⟨z, hz⟩ : ∃ z, z = 9218868437227405312 + k := ⟨_, rfl⟩
    rw [← hz]
    have a1 : (z / 9223372036854775808 % 2 == 1) = false := by
      have : z / 9223372036854775808 % 2 = 0 := by omega
      rw [this]; rfl
    have a2 : z % 9223372036854775808 = z := by omega
    simp only [a1, a2]
    rw [if_neg (by omega), if_neg (by omega), if_neg (by omega)]
    have a3 : z - 9218868437227405312 = k := by omega
    rw [a3]
  unfold Ieee.Format.order
  rw [r]
  rfl
theorem nan_geq (x : Nat) (w : World) (c : Nat) : (FloatKind.f64.format.order (nanD x w % b63) c == some .gt || FloatKind.f64.format.order (nanD x w % b63) c == some .eq) = false := by
  rw [show FloatKind.f64.format = Ieee.double from rfl, nanD_order]; rfl

theorem conv_nan {x : Nat} (h : ∃ s t, Ieee.single.read x = .nan s t) (w : World) : (convert 22 32 (.float .f32 x)).run Try.prog w = .ok (.float .f64 (nanD x w)) w.drew := by
  obtain ⟨s, t, h⟩ := h
  have he : FloatKind.f32.decode x = .nan s t := h
  have hs := Try.underlying22
  have hd := Try.underlying32
  have hf : Question.forced (.nanConv .f64 x) = false := rfl
  simp [convert, run_underlying hs, run_underlying hd, Conv.floatToFloat, he, hf]
  rfl
theorem read_nan {x : Nat} (h : 2139095040 < x % 2147483648) : ∃ s t, Ieee.single.read x = .nan s t := by
  unfold Ieee.Format.read
  rw [swS, binS', infS']
  simp only
  rw [if_neg (by omega), if_neg (by omega), if_neg (by omega)]
  exact ⟨_, _, rfl⟩


theorem abs_one (w : World) : Calls Try.prog 19 #[.float .f64 4607182418800017408] w fun e w' => e = .returned (.float .f64 4607182418800017408) ∧ w = w' := by
  have := mathAbs_any 4607182418800017408 w (show 4607182418800017408 < 18446744073709551616 by omega)
  rwa [show 4607182418800017408 % b63 = 4607182418800017408 from (show 4607182418800017408 % 9223372036854775808 = 4607182418800017408 by omega)] at this
theorem isNaN_one (w : World) : Calls Try.prog 70 #[.float .f64 4607182418800017408] w fun e w' => e = .returned (.bool false) ∧ w = w' := isNaN_any 4607182418800017408 true (by decide) w
theorem isInf_one (w : World) : Calls Try.prog 65 #[.float .f64 4607182418800017408, .int .i64 0] w fun e w' => e = .returned (.bool false) ∧ w = w' := isInf_any 4607182418800017408 false (show 4607182418800017408 < 18446744073709551616 by omega) (by
  rw [show 4607182418800017408 % b63 = 4607182418800017408 from (show 4607182418800017408 % 9223372036854775808 = 4607182418800017408 by omega)]
  decide) w
set_option maxHeartbeats 1000000 in
theorem normal_one (w : World) : Calls Try.prog 132 #[.float .f64 4607182418800017408] w fun e w' => e = .returned (.tuple #[.float .f64 4607182418800017408, .int .i64 0]) ∧ w = w' := by
  have AB := Lib.hid abs_one
  have o1 : (FloatKind.f64.format.order 4607182418800017408 4503599627370496 == some .lt) = false := by decide
  go_enter Try.func132, Try.ntmps132
  go_wp2_with (go_at_call 19; (with_reducible refine (AB.out _).mono ?_); rintro e w' ⟨rfl, rfl⟩)
  go_ret2
  exact ⟨rfl, rfl⟩

set_option maxHeartbeats 1000000 in
set_option maxRecDepth 100000 in
theorem ldexp14_in (w : World) : Calls Try.prog 75 #[.float .f64 4607182418800017408, .int .i64 (-14)] w fun e w' => e = .returned (.float .f64 4544132024016830464) ∧ w = w' := by
  have hb : ∀ w : World, (callFunc 73 #[.float .f64 4607182418800017408]).run Try.prog w = .ok (.value (.int .u64 4607182418800017408)) w := fun w => f64bits _ w
  have hc : ∀ w : World, (callFunc 72 #[.int .u64 4544132024016830464]).run Try.prog w = .ok (.value (.float .f64 4544132024016830464)) w := fun w => f64from _ w
  have IN := Lib.hid isNaN_one
  have II := Lib.hid isInf_one
  have NO := Lib.hid normal_one
  have o0 : (FloatKind.f64.format.order 4607182418800017408 0 == some .eq) = false := by decide
  have n1 : bits .and .i64 1023 2047 = 1023 := by kernel_rfl
  have n2 : bits .andNot .u64 4607182418800017408 9218868437227405312 = 0 := by kernel_rfl
  have n3 : bits .or .u64 0 4544132024016830464 = 4544132024016830464 := by kernel_rfl
  have M1 := fun (W : World) => run_float_arith (P := Try.prog) W .mul 32 .f64 4607182418800017408 4544132024016830464 4544132024016830464 (by kernel_rfl)
  go_enter Try.func75, Try.ntmps75
  go_wp2_with (first
    | (go_at_call 65; (with_reducible refine (II.out _).mono ?_); rintro e w' ⟨rfl, rfl⟩)
    | (go_at_call 70; (with_reducible refine (IN.out _).mono ?_); rintro e w' ⟨rfl, rfl⟩)
    | (go_at_call 132; (with_reducible refine (NO.out _).mono ?_); rintro e w' ⟨rfl, rfl⟩))
  go_ret
  exact ⟨rfl, rfl⟩
set_option maxHeartbeats 400000 in
theorem ldexp14 (w : World) : Calls Try.prog 20 #[.float .f64 4607182418800017408, .int .i64 (-14)] w fun e w' => e = .returned (.float .f64 4544132024016830464) ∧ w = w' := by
  have IN := Lib.hid ldexp14_in
  go_enter Try.func20, Try.ntmps20
  go_wp2_with (go_at_call 75; (with_reducible refine (IN.out _).mono ?_); rintro e w' ⟨rfl, rfl⟩)
  go_ret
  exact ⟨rfl, rfl⟩

set_option maxHeartbeats 1000000 in
set_option maxRecDepth 100000 in
theorem ldexp100_in (w : World) : Calls Try.prog 75 #[.float .f64 4607182418800017408, .int .i64 (-100)] w fun e w' => e = .returned (.float .f64 4156822456062967808) ∧ w = w' := by
  have hb : ∀ w : World, (callFunc 73 #[.float .f64 4607182418800017408]).run Try.prog w = .ok (.value (.int .u64 4607182418800017408)) w := fun w => f64bits _ w
  have hc : ∀ w : World, (callFunc 72 #[.int .u64 4156822456062967808]).run Try.prog w = .ok (.value (.float .f64 4156822456062967808)) w := fun w => f64from _ w
  have IN := Lib.hid isNaN_one
  have II := Lib.hid isInf_one
  have NO := Lib.hid normal_one
  have o0 : (FloatKind.f64.format.order 4607182418800017408 0 == some .eq) = false := by decide
  have n1 : bits .and .i64 1023 2047 = 1023 := by kernel_rfl
  have n2 : bits .andNot .u64 4607182418800017408 9218868437227405312 = 0 := by kernel_rfl
  have n3 : bits .or .u64 0 4156822456062967808 = 4156822456062967808 := by kernel_rfl
  have M1 := fun (W : World) => run_float_arith (P := Try.prog) W .mul 32 .f64 4607182418800017408 4156822456062967808 4156822456062967808 (by kernel_rfl)
  go_enter Try.func75, Try.ntmps75
  go_wp2_with (first
    | (go_at_call 65; (with_reducible refine (II.out _).mono ?_); rintro e w' ⟨rfl, rfl⟩)
    | (go_at_call 70; (with_reducible refine (IN.out _).mono ?_); rintro e w' ⟨rfl, rfl⟩)
    | (go_at_call 132; (with_reducible refine (NO.out _).mono ?_); rintro e w' ⟨rfl, rfl⟩))
  go_ret
  exact ⟨rfl, rfl⟩
set_option maxHeartbeats 400000 in
theorem ldexp100 (w : World) : Calls Try.prog 20 #[.float .f64 4607182418800017408, .int .i64 (-100)] w fun e w' => e = .returned (.float .f64 4156822456062967808) ∧ w = w' := by
  have IN := Lib.hid ldexp100_in
  go_enter Try.func20, Try.ntmps20
  go_wp2_with (go_at_call 75; (with_reducible refine (IN.out _).mono ?_); rintro e w' ⟨rfl, rfl⟩)
  go_ret
  exact ⟨rfl, rfl⟩
end Go.Proofs.Ytkcehbnmcdppkaa

/- math.Ldexp of small whole numbers. -/
namespace Go.Proofs.Ytkcehbnmcdppkaa
open Go.RowKit Fl
set_option linter.unusedVariables false

theorem and_top {x : Nat} (h : x < 9223372036854775808) : x &&& (18446744073709551615 - 9218868437227405312) = x % 4503599627370496 := by
  have e : (18446744073709551615 - 9218868437227405312 : Nat) = 2 ^ 63 ||| (2 ^ 52 - 1) := by decide
  rw [e, Nat.and_or_distrib_left, Nat.and_two_pow_sub_one_eq_mod]
  have z : x &&& 2 ^ 63 = 0 := by
    apply Nat.eq_of_testBit_eq
    intro i
    rw [Nat.testBit_and, Nat.testBit_two_pow, Nat.zero_testBit]
    by_cases c : 63 = i
    · subst c
      have : x.testBit 63 = false := Nat.testBit_lt_two_pow (by have : (2 : Nat) ^ 63 = 9223372036854775808 := by decide
                                                                omega)
      rw [this]; rfl
    · simp [c]
  rw [z, Nat.zero_or]

theorem and_2047 {E : Nat} (h : E < 2047) : bits .and .i64 (E : Int) 2047 = (E : Int) := by
  have hb : ∀ n : Nat, n < 2047 → bits BinOp.and IntKind.i64 (n : Int) 2047 = (n : Int) := by decide +kernel
  exact hb E h
/-- The double of a whole number, by its parts. -/
theorem whole_parts {Z k : Nat} (hZ : vD Z = some ((k * one : Nat) : Int)) (hZ2 : Z < 18446744073709551616) (hk : 1 ≤ k) (hk2 : k ≤ 2047) :
    ∃ E f, Z = E * 4503599627370496 + f ∧ f < 4503599627370496 ∧ 1023 ≤ E ∧ E ≤ 1034 ∧ (4503599627370496 + f) * 2 ^ (E - 1) = k * one := by
  obtain ⟨s, E, f, hs, hE, hf, rfl⟩ := parts_of (show Z < 2 * s63 from hZ2) hZ
  rw [vD_parts hs hE hf] at hZ
  have hZ' := Option.some.inj hZ
  have p := one_pos
  have kp : 0 < k * one := Nat.mul_pos hk p
  have h0 : s = 0 := by
    rcases (show s = 0 ∨ s = 1 by omega) with h | h
    · exact h
    · rw [if_pos h] at hZ'; omega
  subst h0
  simp only [Nat.zero_ne_one, if_false, Int.one_mul] at hZ'
  have hm : magOf E f = k * one := by omega
  have hE1 : 1023 ≤ E := by
    rcases Nat.lt_or_ge E 1023 with c | c
    · have := mag_small c hf
      have : one ≤ k * one := Nat.le_mul_of_pos_left _ hk
      omega
    · exact c
  have hme : magOf E f = (b52 + f) * 2 ^ (E - 1) := by unfold magOf; rw [if_neg (by omega)]
  rw [hme] at hm
  have hE2 : E ≤ 1034 := by
    rcases Nat.lt_or_ge 1034 E with c | c
    · exfalso
      obtain ⟨J, hJ⟩ : ∃ J : Nat, J = 1074 := ⟨_, rfl⟩
      have g1 : k * one < 2 ^ (11 + J) := by
        rw [Nat.pow_add, ← one_pow hJ]
        exact Nat.mul_lt_mul_of_pos_right (by omega) p
      have g2 : 2 ^ (11 + J) ≤ (b52 + f) * 2 ^ (E - 1) := by
        have e52 : b52 = 2 ^ 52 := by decide
        calc 2 ^ (11 + J) ≤ 2 ^ (52 + (E - 1)) := Nat.pow_le_pow_right (by omega) (by omega)
          _ = b52 * 2 ^ (E - 1) := by rw [e52]; exact Nat.pow_add 2 52 (E - 1)
          _ ≤ _ := Nat.mul_le_mul_right _ (by omega)
      omega
    · exact c
  refine ⟨E, f, ?_, hf, hE1, hE2, hm⟩
  show 0 * s63 + E * 4503599627370496 + f = _
  omega

/-- One times a double that is not small. -/
theorem one_mulD {E f : Nat} (h1 : 900 ≤ E) (h2 : E ≤ 1100) (hf : f < 4503599627370496) : ∃ R, floatBits .mul .f64 4607182418800017408 (E * 4503599627370496 + f) = some R ∧ R < b64 ∧ vD R = some (((4503599627370496 + f) * 2 ^ (E - 1) : Nat) : Int) := by
  have hr := read_parts (s := 0) (E := E) (f := f) (by omega) (by omega) hf
  rw [if_neg (by omega)] at hr
  have hZ : 0 * s63 + E * b52 + f = E * 4503599627370496 + f := by
    show 0 * s63 + E * 4503599627370496 + f = _
    omega
  rw [hZ] at hr
  have h1' : Ieee.double.read 4607182418800017408 = .number false 4503599627370496 (-52) := by decide
  have e52 : (4503599627370496 : Nat) = 2 ^ 52 := by decide
  have hp : ∃ r, ((Ieee.double.read 4607182418800017408).product (Ieee.double.read (E * 4503599627370496 + f))).map Ieee.double.write = some r ∧ r = Ieee.double.nearest false (4503599627370496 * (4503599627370496 + f)) (-52 + ((E : Int) - 1075)) := by
    rw [h1', hr]
    exact ⟨_, rfl, rfl⟩
  obtain ⟨r, r1, r2⟩ := hp
  refine ⟨r, r1, opt_ltD r1, ?_⟩
  have hV : 4503599627370496 * (4503599627370496 + f) * 2 ^ (-52 + ((E : Int) - 1075) - (-1074)).toNat = (4503599627370496 + f) * 2 ^ (E - 1) := by
    rw [show (-52 + ((E : Int) - 1075) - (-1074)).toNat = E - 53 by omega, Nat.mul_comm 4503599627370496, Nat.mul_assoc]
    congr 1
    rw [e52, ← Nat.pow_add]
    congr 1
    omega
  obtain ⟨B, hB⟩ : ∃ B : Nat, B = 1300 := ⟨_, rfl⟩
  have hlt : (4503599627370496 + f) * 2 ^ (E - 1) < 2 ^ B := by
    have : 4503599627370496 + f < 2 ^ 53 := by
      have : (2 : Nat) ^ 53 = 9007199254740992 := by decide
      omega
    calc (4503599627370496 + f) * 2 ^ (E - 1) < 2 ^ 53 * 2 ^ (E - 1) := Nat.mul_lt_mul_of_pos_right this (Nat.two_pow_pos _)
      _ = 2 ^ (53 + (E - 1)) := (Nat.pow_add 2 53 (E - 1)).symm
      _ ≤ 2 ^ B := Nat.pow_le_pow_right (by omega) (by omega)
  rw [r2, nearest_val Ieee.double false (-1074) 0 leastD _ (p := -52 + ((E : Int) - 1075)) (by omega), hV, vD_word hlt (by omega), rd_exact Ieee.double 0 (4503599627370496 + f) (E - 1) (by
    rw [fbD]
    have : (2 : Nat) ^ (52 + 1) = 9007199254740992 := by decide
    omega) (by omega)]
  simp

set_option maxHeartbeats 1000000 in
set_option maxRecDepth 100000 in
theorem ldexp_in {E f : Nat} {e : Int} (hf : f < 4503599627370496) (h1 : 1023 ≤ E) (h2 : E ≤ 1034) (e1 : -30 ≤ e) (e2 : e ≤ 10) {R : Nat} (hR : floatBits .mul .f64 4607182418800017408 (((E : Int) + e).toNat * 4503599627370496 + f) = some R) (w : World) :
    Calls Try.prog 75 #[.float .f64 (E * 4503599627370496 + f), .int .i64 e] w fun en w' => en = .returned (.float .f64 R) ∧ w = w' := by
  obtain ⟨Z, hZ⟩ : ∃ Z, Z = E * 4503599627370496 + f := ⟨_, rfl⟩
  obtain ⟨E', hE'⟩ : ∃ E', E' = ((E : Int) + e).toNat := ⟨_, rfl⟩
  have hE2 : (E' : Int) = (E : Int) + e := by omega
  rw [← hE'] at hR
  rw [← hZ]
  have hZlt : Z < 9223372036854775808 := by omega
  have hv : vD Z = some ((((4503599627370496 + f) * 2 ^ (E - 1) : Nat) : Nat) : Int) := by
    have := vD_parts (s := 0) (E := E) (f := f) (by omega) (by omega) hf
    rw [show 0 * s63 + E * b52 + f = Z by rw [hZ]; show 0 * s63 + E * 4503599627370496 + f = _; omega] at this
    rw [this]
    unfold magOf
    rw [if_neg (show ¬ E = 0 by omega)]
    simp [show b52 = 4503599627370496 from rfl]
  have hpos : 0 < (4503599627370496 + f) * 2 ^ (E - 1) := Nat.mul_pos (by omega) (Nat.two_pow_pos _)
  have o0 : (FloatKind.f64.format.order Z 0 == some .eq) = false := by
    have z0 : vD 0 = some 0 := by decide
    rw [show FloatKind.f64.format = Ieee.double from rfl, eql_valD hv z0]
    refine decide_eq_false ?_
    omega
  have ab : ∀ w, Calls Try.prog 19 #[.float .f64 Z] w fun e w' => e = .returned (.float .f64 Z) ∧ w = w' := fun w => by
    have := mathAbs_any Z w (show Z < 18446744073709551616 by omega)
    rwa [show Z % b63 = Z from (show Z % 9223372036854775808 = Z by omega)] at this
  have isn : ∀ w, Calls Try.prog 70 #[.float .f64 Z] w fun e w' => e = .returned (.bool false) ∧ w = w' := fun w => isNaN_any Z true (by rw [show FloatKind.f64.format = Ieee.double from rfl, eql_valD hv hv]; simp) w
  have isi : ∀ w, Calls Try.prog 65 #[.float .f64 Z, .int .i64 0] w fun e w' => e = .returned (.bool false) ∧ w = w' := fun w => isInf_any Z false (show Z < 18446744073709551616 by omega) (by
    rw [show Z % b63 = Z from (show Z % 9223372036854775808 = Z by omega), show FloatKind.f64.format = Ieee.double from rfl]
    obtain ⟨T, hT⟩ : ∃ T : Nat, T = 2046 := ⟨_, rfl⟩
    have hm := vD_parts (s := 0) (E := T) (f := 4503599627370495) (by omega) (by omega) (by decide)
    rw [show 0 * s63 + T * b52 + 4503599627370495 = 9218868437227405311 by show 0 * s63 + T * 4503599627370496 + 4503599627370495 = _; omega, if_neg (by omega), Int.one_mul] at hm
    rw [gtr_valD hv hm]
    refine decide_eq_false ?_
    have : (4503599627370496 + f) * 2 ^ (E - 1) ≤ magOf T 4503599627370495 := by
      unfold magOf
      rw [if_neg (by omega), show b52 = 4503599627370496 from rfl]
      exact Nat.mul_le_mul (by omega) (Nat.pow_le_pow_right (by omega) (by omega))
    omega) w
  have IN := Lib.hid isn
  have II := Lib.hid isi
  have no : ∀ w, Calls Try.prog 132 #[.float .f64 Z] w fun e w' => e = .returned (.tuple #[.float .f64 Z, .int .i64 0]) ∧ w = w' := fun w => by
    have AB := Lib.hid ab
    have o1 : (FloatKind.f64.format.order Z 4503599627370496 == some .lt) = false := by
      have hm : vD 4503599627370496 = some ((magOf 1 0 : Nat) : Int) := by
        have := vD_parts (s := 0) (E := 1) (f := 0) (by omega) (by omega) (by decide)
        simpa [show b52 = 4503599627370496 from rfl] using this
      rw [show FloatKind.f64.format = Ieee.double from rfl, lss_valD hv hm]
      refine decide_eq_false ?_
      have : magOf 1 0 ≤ (4503599627370496 + f) * 2 ^ (E - 1) := by
        unfold magOf
        rw [if_neg (by decide), show b52 = 4503599627370496 from rfl]
        exact Nat.mul_le_mul (by omega) (Nat.pow_le_pow_right (by omega) (by omega))
      omega
    clear isn isi hv hR hpos o0 hZ
    go_enter Try.func132, Try.ntmps132
    go_wp2_with (go_at_call 19; (with_reducible refine (AB.out _).mono ?_); rintro e w' ⟨rfl, rfl⟩)
    go_ret2
    exact ⟨rfl, rfl⟩
  have NO := Lib.hid no
  have hb : ∀ w : World, (callFunc 73 #[.float .f64 Z]).run Try.prog w = .ok (.value (.int .u64 (Z : Int))) w := fun w => f64bits _ w
  have hc : ∀ w : World, (callFunc 72 #[.int .u64 ((E' * 4503599627370496 + f : Nat) : Int)]).run Try.prog w = .ok (.value (.float .f64 (E' * 4503599627370496 + f))) w := fun w => f64from _ w
  have M1 := fun (W : World) => run_float_arith (P := Try.prog) W .mul 32 .f64 _ _ _ hR
  have z1 : (Z : Int) / 4503599627370496 = (E : Int) := by rw [hZ]; omega
  have n1 : bits .and .i64 (E : Int) 2047 = (E : Int) := and_2047 (by omega)
  have n2 : bits .andNot .u64 (Z : Int) 9218868437227405312 = (f : Int) := by
    have := u64_andNot_nat Z 9218868437227405312 (by omega) (by omega)
    rw [and_top hZlt] at this
    rw [show ((9218868437227405312 : Nat) : Int) = 9218868437227405312 from rfl] at this
    rw [this, hZ]
    omega
  have n3 : bits .or .u64 (f : Int) ((e + ((E : Int) - 1023) + 1023) * 4503599627370496) = ((E' * 4503599627370496 + f : Nat) : Int) := by
    have := u64_or_nat f (E' * 4503599627370496) (by omega) (by omega)
    have e3 : f ||| E' * 4503599627370496 = E' * 4503599627370496 + f := by
      have e52 : (4503599627370496 : Nat) = 2 ^ 52 := by decide
      have := Nat.two_pow_add_eq_or_of_lt (i := 52) (b := f) (by rw [← e52]; exact hf) E'
      rw [← e52] at this
      rw [Nat.or_comm, Nat.mul_comm]
      exact this.symm
    rw [e3] at this
    rw [← this]
    congr 1
    rw [Int.natCast_mul, hE2]
    have : e + ((E : Int) - 1023) + 1023 = (E : Int) + e := by omega
    rw [this]
    rfl
  clear hv hpos ab isn isi no hR hZ hE'
  generalize E' * 4503599627370496 + f = R0 at *
  go_enter Try.func75, Try.ntmps75
  go_wp2_with (first
    | (go_at_call 65; (with_reducible refine (II.out _).mono ?_); rintro e w' ⟨rfl, rfl⟩)
    | (go_at_call 70; (with_reducible refine (IN.out _).mono ?_); rintro e w' ⟨rfl, rfl⟩)
    | (go_at_call 132; (with_reducible refine (NO.out _).mono ?_); rintro e w' ⟨rfl, rfl⟩))
  go_ret
  exact ⟨rfl, rfl⟩

/-- math.Ldexp of a small whole number. -/
theorem ldexp_any {Z k : Nat} {e : Int} (hZ : vD Z = some ((k * one : Nat) : Int)) (hZ2 : Z < 18446744073709551616) (hk : 1 ≤ k) (hk2 : k ≤ 2047) (e1 : -30 ≤ e) (e2 : e ≤ 10) :
    ∃ R, R < b64 ∧ vD R = some ((k * 2 ^ (e + 1074).toNat : Nat) : Int) ∧ ∀ w, Calls Try.prog 20 #[.float .f64 Z, .int .i64 e] w fun en w' => en = .returned (.float .f64 R) ∧ w = w' := by
  obtain ⟨E, f, rfl, hf, h1, h2, hv⟩ := whole_parts hZ hZ2 hk hk2
  obtain ⟨R, r1, r2, r3⟩ := one_mulD (E := ((E : Int) + e).toNat) (f := f) (by omega) (by omega) hf
  refine ⟨R, r2, ?_, fun w => ?_⟩
  · rw [r3]
    congr 2
    obtain ⟨J, hJ⟩ : ∃ J : Nat, J = 1074 := ⟨_, rfl⟩
    rw [one_pow hJ] at hv
    refine Nat.eq_of_mul_eq_mul_right (Nat.two_pow_pos 30) ?_
    rw [Nat.mul_assoc, Nat.mul_assoc, ← Nat.pow_add, ← Nat.pow_add, show ((E : Int) + e).toNat - 1 + 30 = (E - 1) + (30 + e).toNat by omega, Nat.pow_add, ← Nat.mul_assoc, hv, Nat.mul_assoc, ← Nat.pow_add, show J + (30 + e).toNat = (e + 1074).toNat + 30 by omega]
  · have IN := Lib.hid (fun w => ldexp_in hf h1 h2 e1 e2 r1 w)
    clear hZ hZ2 hv r1 r3
    generalize E * 4503599627370496 + f = Z at *
    go_enter Try.func20, Try.ntmps20
    go_wp2_with (go_at_call 75; (with_reducible refine (IN.out _).mono ?_); rintro e w' ⟨rfl, rfl⟩)
    go_ret
    exact ⟨rfl, rfl⟩
end Go.Proofs.Ytkcehbnmcdppkaa

/- Contracts of the reference: halfValue and the value of a half; WholeOf, LongOf, ShortOf. -/
namespace Go.Proofs.Ytkcehbnmcdppkaa
open Go.RowKit Fl
set_option linter.unusedVariables false

theorem i64_and_nat (a b : Nat) (ha : a < 4611686018427387904) (hb : b < 4611686018427387904) : bits .and .i64 (a : Int) (b : Int) = ((a &&& b : Nat) : Int) := by
  have hx : a &&& b < 2 ^ 62 := Nat.and_lt_two_pow _ (by omega)
  have o : ∀ x : Nat, x < 4611686018427387904 → (BitVec.ofInt 64 (x : Int)).toNat = x := fun x hx => by
    rw [BitVec.ofInt_natCast, BitVec.toNat_ofNat]; exact Nat.mod_eq_of_lt (by omega)
  show IntKind.i64.wrap ((BitVec.ofInt 64 (a : Int) &&& BitVec.ofInt 64 (b : Int)).toNat : Int) = _
  rw [BitVec.toNat_and, o a ha, o b hb]
  exact IntWalk.i64_in _ (by omega)

set_option maxHeartbeats 1000000 in
theorem ldexp_zero (e : Int) (w : World) : Calls Try.prog 20 #[.float .f64 0, .int .i64 e] w fun en w' => en = .returned (.float .f64 0) ∧ w = w' := by
  have o0 : (FloatKind.f64.format.order 0 0 == some .eq) = true := by decide
  have IN : ∀ w, Calls Try.prog 75 #[.float .f64 0, .int .i64 e] w fun en w' => en = .returned (.float .f64 0) ∧ w = w' := fun w => by
    go_enter Try.func75, Try.ntmps75
    go_wp2
    go_ret
    exact ⟨rfl, rfl⟩
  have IN2 := Lib.hid IN
  clear IN o0
  go_enter Try.func20, Try.ntmps20
  go_wp2_with (go_at_call 75; (with_reducible refine (IN2.out _).mono ?_); rintro e w' ⟨rfl, rfl⟩)
  go_ret
  exact ⟨rfl, rfl⟩

theorem hvM_pos {q : Nat} (h : 1 ≤ q) : 0 < hvM q := by
  unfold hvM
  split
  · exact Nat.mul_pos h u24_pos
  · exact Nat.mul_pos (by omega) (Nat.two_pow_pos _)
/-- The single of a half's double. -/
theorem conv_half {R q : Nat} (h0 : 1 ≤ q) (h1 : q < 31744) (hR : vD R = some ((hvM q : Nat) : Int)) : floatToFloatBits .f64 R .f32 = some (whW q) := by
  obtain ⟨s, M, I, hr, hv⟩ := vD_some hR
  have lo := read_dbl_low hr
  have hp := hvM_pos h0
  rw [vOf_mag] at hv
  have hs : s = false := by
    cases s with
    | false => rfl
    | true => simp only [if_true] at hv; omega
  subst hs
  simp only [Bool.false_eq_true, if_false, Int.one_mul] at hv
  have hV : M * 2 ^ (I + 1074).toNat = hvM q := by omega
  obtain ⟨-, w2, w3⟩ := whole_word h1
  obtain ⟨t, j, ht, hj, e⟩ := vS_form w3
  have hn := nearest_val Ieee.single false (-1074) 925 leastS M (p := I) lo
  rw [show (I - (-1074)).toNat = (I + 1074).toNat by omega, hV] at hn
  obtain ⟨B, hB⟩ : ∃ B : Nat, B = 1100 := ⟨_, rfl⟩
  have hlt : hvM q < 2 ^ B := by
    unfold hvM
    split
    · obtain ⟨K, hK⟩ : ∃ K : Nat, K = 1050 := ⟨_, rfl⟩
      rw [u24_pow hK]
      calc q * 2 ^ K < 1024 * 2 ^ K := Nat.mul_lt_mul_of_pos_right (by omega) (Nat.two_pow_pos _)
        _ = 2 ^ (10 + K) := (Nat.pow_add 2 10 K).symm
        _ ≤ 2 ^ B := Nat.pow_le_pow_right (by omega) (by omega)
    · calc (1024 + q % 1024) * 2 ^ (1049 + q / 1024) < 2048 * 2 ^ (1049 + q / 1024) := Nat.mul_lt_mul_of_pos_right (by omega) (Nat.two_pow_pos _)
        _ = 2 ^ (11 + (1049 + q / 1024)) := (Nat.pow_add 2 11 _).symm
        _ ≤ 2 ^ B := Nat.pow_le_pow_right (by omega) (by omega)
  have e2 : hvM q = t.natAbs * 2 ^ j := by
    have := congrArg Int.natAbs e
    rw [Int.natAbs_mul, Int.natAbs_natCast, Int.natAbs_natCast] at this
    exact this
  have hword : vS (wordAt Ieee.single 925 false (hvM q)) = some ((hvM q : Nat) : Int) := by
    rw [vS_word hlt (by omega), e2, rd_exact Ieee.single 925 t.natAbs j (by rw [fbS]; exact ht) hj]
    simp
  have hwd : wordAt Ieee.single 925 false (hvM q) < 4294967296 := by
    rw [← hn]
    exact Ieee.Format.write_lt Ieee.single (.number false M I)
  have hin := word_inj hwd (by omega) hword w3 (by omega)
  have hb := back_sgl hr (by
    rw [hn]
    obtain ⟨s', m', p', h', -⟩ := vS_some hword
    obtain ⟨q', hq1, hq2⟩ := near_word false M I
    have sg := near_sg false M I
    rw [hn] at sg
    rcases sg with g | g
    · exact g
    · rw [g] at h'; cases h')
  rw [hb, hn, hin]

theorem c1024 : vD 4652218415073722368 = some ((1024 * one : Nat) : Int) := by
  have h : Ieee.double.read 4652218415073722368 = .number false 4503599627370496 (-42) := by decide
  obtain ⟨J, hJ⟩ : ∃ J : Nat, J = 1074 := ⟨_, rfl⟩
  rw [vD_num h, vOf_mag, show ((-42 : Int) + 1074).toNat = J - 42 by omega, one_pow hJ]
  have : 4503599627370496 * 2 ^ (J - 42) = 1024 * 2 ^ J := by
    rw [show (4503599627370496 : Nat) = 2 ^ 52 by decide, show (1024 : Nat) = 2 ^ 10 by decide, ← Nat.pow_add, ← Nat.pow_add, show 52 + (J - 42) = 10 + J by omega]
  rw [this]; simp
theorem c65536 : vD 4679240012837945344 = some ((hvM 31744 : Nat) : Int) := by
  have h : Ieee.double.read 4679240012837945344 = .number false 4503599627370496 (-36) := by decide
  obtain ⟨J, hJ⟩ : ∃ J : Nat, J = 1038 := ⟨_, rfl⟩
  rw [vD_num h, vOf_mag, show ((-36 : Int) + 1074).toNat = J by omega]
  have : 4503599627370496 * 2 ^ J = hvM 31744 := by
    unfold hvM
    rw [if_neg (by decide), show (4503599627370496 : Nat) = 2 ^ 52 by decide, show 1024 + 31744 % 1024 = 2 ^ 10 by decide, show 1049 + 31744 / 1024 = 42 + J by omega, ← Nat.pow_add, ← Nat.pow_add, show 52 + J = 10 + (42 + J) by omega]
  rw [this]; simp

set_option maxHeartbeats 1000000 in
set_option maxRecDepth 100000 in
theorem halfValue_any {q : Nat} (h : q < 31744) : ∃ R, R < b64 ∧ vD R = some ((hvM q : Nat) : Int) ∧ floatToFloatBits .f64 R .f32 = some (whW q) ∧ ∀ w, Calls Try.prog 64 #[.int .i64 (q : Int)] w fun en w' => en = .returned (.float .f64 R) ∧ w = w' := by
  have n1 : bits .and .i64 (q : Int) 1023 = ((q % 1024 : Nat) : Int) := by
    have := i64_and_nat q 1023 (by omega) (by omega)
    rw [show q &&& 1023 = q % 1024 from Nat.and_two_pow_sub_one_eq_mod q 10] at this
    exact this
  have sh : (q : Int) / 1024 = ((q / 1024 : Nat) : Int) := by omega
  have hval := int_valD (n := q % 1024) (by have : (2 : Nat) ^ 53 = 9007199254740992 := by decide
                                            omega)
  have hlt : floatOfInt .f64 ((q % 1024 : Nat) : Int) < b64 := opt_ltD (d := some (Ieee.Datum.number (decide (((q % 1024 : Nat) : Int) < 0)) (q % 1024) 0)) rfl
  obtain ⟨J, hJ⟩ : ∃ J : Nat, J = 1074 := ⟨_, rfl⟩
  by_cases c : q < 1024
  · have e0 : (q : Int) / 1024 = 0 := by omega
    rw [show q % 1024 = q by omega] at hval n1 hlt
    by_cases z : q = 0
    · subst z
      have LZ := Lib.hid (fun w => ldexp_zero (-24) w)
      have f0 : floatOfInt .f64 0 = 0 := by decide
      refine ⟨0, by decide, by rw [show hvM 0 = 0 by unfold hvM; simp]; decide, by decide, fun w => ?_⟩
      have n0 : bits .and .i64 0 1023 = 0 := by kernel_rfl
      clear hval hlt e0 sh h n1
      go_enter Try.func64, Try.ntmps64
      go_wp2_with (go_at_call 20; (with_reducible refine (LZ.out _).mono ?_); rintro e w' ⟨rfl, rfl⟩)
      go_ret
      exact ⟨rfl, rfl⟩
    · obtain ⟨R, r1, r2, r3⟩ := ldexp_any (e := -24) hval hlt (by omega) (by omega) (by omega) (by omega)
      have hv : vD R = some ((hvM q : Nat) : Int) := by
        rw [r2]
        congr 2
        unfold hvM
        obtain ⟨K, hK⟩ : ∃ K : Nat, K = 1050 := ⟨_, rfl⟩
        rw [if_pos c, u24_pow hK, show ((-24 : Int) + 1074).toNat = K by omega]
      refine ⟨R, r1, hv, conv_half (by omega) h hv, fun w => ?_⟩
      have LZ := Lib.hid r3
      clear r3 hv r2 r1 hval hlt sh
      go_enter Try.func64, Try.ntmps64
      go_wp2_with (go_at_call 20; (with_reducible refine (LZ.out _).mono ?_); rintro e w' ⟨rfl, rfl⟩)
      go_ret
      exact ⟨rfl, rfl⟩
  · obtain ⟨m, hm⟩ : ∃ m, m = q % 1024 := ⟨_, rfl⟩
    obtain ⟨E, hE⟩ : ∃ E, E = q / 1024 := ⟨_, rfl⟩
    rw [← hm] at hval n1 hlt
    rw [← hE] at sh
    have hm2 : m < 1024 := by omega
    have hE1 : 1 ≤ E := by omega
    have hE2 : E ≤ 30 := by omega
    have hsum : ((1024 * one : Nat) : Int) + ((m * one : Nat) : Int) = (((1024 + m) * one : Nat) : Int) := by rw [← Int.natCast_add, ← Nat.add_mul]
    obtain ⟨Z, z1, z2⟩ := vD_add (u := 1024 + m) (k := J) (B := 11 + J) c1024 hval hsum (by rw [Int.natAbs_natCast, one_pow hJ]) (by
      have : (2 : Nat) ^ 53 = 9007199254740992 := by decide
      omega) (by
      rw [Int.natAbs_natCast, Nat.pow_add, one_pow hJ]
      exact Nat.mul_lt_mul_of_pos_right (by omega) (Nat.two_pow_pos _)) (by omega)
    have zl : Z < b64 := opt_ltD (d := (Ieee.double.read 4652218415073722368).sum (Ieee.double.read (floatOfInt .f64 (m : Int)))) z1
    obtain ⟨R, r1, r2, r3⟩ := ldexp_any (e := (E : Int) - 25) z2 zl (by omega) (by omega) (by omega) (by omega)
    have hv : vD R = some ((hvM q : Nat) : Int) := by
      rw [r2]
      congr 2
      unfold hvM
      rw [if_neg c, ← hm, ← hE, show ((E : Int) - 25 + 1074).toNat = 1049 + E by omega]
    refine ⟨R, r1, hv, conv_half (by omega) h hv, fun w => ?_⟩
    have LZ := Lib.hid r3
    have AD := fun (W : World) => run_float_arith (P := Try.prog) W .add 32 .f64 _ _ _ z1
    have ne : ¬ ((E : Int) = 0) := by omega
    clear r3 hv r2 r1 hval hlt z1 z2 zl hm hE hsum
    go_enter Try.func64, Try.ntmps64
    go_wp2_with (go_at_call 20; (with_reducible refine (LZ.out _).mono ?_); rintro e w' ⟨rfl, rfl⟩)
    go_ret
    exact ⟨rfl, rfl⟩
end Go.Proofs.Ytkcehbnmcdppkaa

/- Contracts of the reference: WholeOf, LongOf, ShortOf, the closure of HalfOf; the same of the program, of NaNs. -/
namespace Go.Proofs.Ytkcehbnmcdppkaa
open Go.RowKit Fl
set_option linter.unusedVariables false

set_option maxHeartbeats 1000000 in
theorem value_any {q : Nat} (h : q ≤ 31744) : ∃ R, R < b64 ∧ vD R = some ((hvM q : Nat) : Int) ∧ ∀ w, Calls Try.prog 63 #[.int .i64 (q : Int)] w fun en w' => en = .returned (.float .f64 R) ∧ w = w' := by
  by_cases c : q = 31744
  · subst c
    refine ⟨4679240012837945344, by decide, c65536, fun w => ?_⟩
    go_enter Try.func63, Try.ntmps63
    go_wp2
    go_ret
    exact ⟨rfl, rfl⟩
  · obtain ⟨R, r1, r2, -, r3⟩ := halfValue_any (q := q) (by omega)
    refine ⟨R, r1, r2, fun w => ?_⟩
    have HV := Lib.hid r3
    have ne : ¬ ((q : Int) = 31744) := by omega
    clear r1 r2 r3
    go_enter Try.func63, Try.ntmps63
    go_wp2_with (go_at_call 64; (with_reducible refine (HV.out _).mono ?_); rintro e w' ⟨rfl, rfl⟩)
    go_ret
    exact ⟨rfl, rfl⟩

theorem and_mask10 {n : Nat} (h : n < 65536) : bits .and .i64 (n : Int) 31744 = ((n % 32768 / 1024 * 1024 : Nat) : Int) := by
  have := i64_and_nat n 31744 (by omega) (by omega)
  have e := nat_midmask 15 10 n (by omega)
  rw [show (2 : Nat) ^ 15 - 2 ^ 10 = 31744 by decide, show (2 : Nat) ^ 15 = 32768 by decide, show (2 : Nat) ^ 10 = 1024 by decide] at e
  rw [e] at this
  exact this
theorem and_mask7 {n : Nat} (h : n < 65536) : bits .and .i64 (n : Int) 32640 = ((n % 32768 / 128 * 128 : Nat) : Int) := by
  have := i64_and_nat n 32640 (by omega) (by omega)
  have e := nat_midmask 15 7 n (by omega)
  rw [show (2 : Nat) ^ 15 - 2 ^ 7 = 32640 by decide, show (2 : Nat) ^ 15 = 32768 by decide, show (2 : Nat) ^ 7 = 128 by decide] at e
  rw [e] at this
  exact this
theorem and_mask15 {n : Nat} (h : n < 65536) : bits .and .i64 (n : Int) 32767 = ((n % 32768 : Nat) : Int) := by
  have := i64_and_nat n 32767 (by omega) (by omega)
  rw [show n &&& 32767 = n % 32768 from Nat.and_two_pow_sub_one_eq_mod n 15] at this
  exact this

set_option maxHeartbeats 1000000 in
set_option maxRecDepth 100000 in
theorem wholeOf_far (n : Int) (hn : withinB n 0 65535 = false) (w : World) : Calls Try.prog 13 #[.int .i64 n] w fun e w' => e = .returned (.tuple #[.float .f32 0, .int .i64 3]) ∧ w = w' := by
  have h : n < 0 ∨ (¬ n < 0 ∧ 65535 < n) := by
    by_cases c : n < 0
    · exact .inl c
    · refine .inr ⟨c, ?_⟩
      rcases Int.lt_or_le 65535 n with d | d
      · exact d
      · rw [withinB_iff.2 ⟨by omega, d⟩] at hn; cases hn
  clear hn
  rcases h with h | ⟨h1, h2⟩
  all_goals
    go_enter Try.func13, Try.ntmps13
    go_wp2
    go_ret2
    exact ⟨rfl, rfl⟩
set_option maxHeartbeats 1000000 in
set_option maxRecDepth 100000 in
theorem longOf_far (n : Int) (hn : withinB n 0 65535 = false) (w : World) : Calls Try.prog 14 #[.int .i64 n] w fun e w' => e = .returned (.tuple #[.float .f32 0, .int .i64 3]) ∧ w = w' := by
  have h : n < 0 ∨ (¬ n < 0 ∧ 65535 < n) := by
    by_cases c : n < 0
    · exact .inl c
    · refine .inr ⟨c, ?_⟩
      rcases Int.lt_or_le 65535 n with d | d
      · exact d
      · rw [withinB_iff.2 ⟨by omega, d⟩] at hn; cases hn
  clear hn
  rcases h with h | ⟨h1, h2⟩
  all_goals
    go_enter Try.func14, Try.ntmps14
    go_wp2
    go_ret2
    exact ⟨rfl, rfl⟩

set_option maxHeartbeats 1000000 in
set_option maxRecDepth 100000 in
theorem wholeOf_inf {n : Nat} (h : n < 65536) (hi : 31744 ≤ n % 32768) (w : World) : Calls Try.prog 13 #[.int .i64 (n : Int)] w fun e w' => e = .returned (.tuple #[.float .f32 0, .int .i64 2]) ∧ w = w' := by
  have a1 := and_mask10 h
  rw [show n % 32768 / 1024 * 1024 = 31744 by omega] at a1
  have b1 : ¬ ((n : Int) < 0) := by omega
  have b2 : ¬ ((65535 : Int) < (n : Int)) := by omega
  go_enter Try.func13, Try.ntmps13
  go_wp2
  go_ret2
  exact ⟨rfl, rfl⟩
set_option maxHeartbeats 1000000 in
set_option maxRecDepth 100000 in
theorem wholeOf_ok {s : Bool} {q : Nat} (h : q < 31744) (n : Nat) (hn : n = s.toNat * 32768 + q) (w : World) : Calls Try.prog 13 #[.int .i64 (n : Int)] w fun e w' => e = .returned (.tuple #[.float .f32 (sw s (whW q)), .int .i64 0]) ∧ w = w' := by
  have hn2 : n < 65536 := by rw [hn]; cases s <;> simp <;> omega
  have hq : n % 32768 = q := by rw [hn]; cases s <;> simp <;> omega
  have a1 := and_mask10 hn2
  have a2 := and_mask15 hn2
  rw [hq] at a1 a2
  have b3 : ¬ (((q / 1024 * 1024 : Nat) : Int) = 31744) := by omega
  generalize q / 1024 * 1024 = z at *
  have b1 : ¬ ((n : Int) < 0) := by omega
  have b2 : ¬ ((65535 : Int) < (n : Int)) := by omega
  obtain ⟨R, -, -, r3, r4⟩ := halfValue_any h
  have HV := Lib.hid r4
  have ng := fun w => run_negS w (whW q)
  rw [neg_pos (by have := (whole_word h).2.1; omega)] at ng
  have CV := fun (W : World) => run_convert_float_float (P := Try.prog) W 32 22 .f64 .f32 R (whW q) (by kernel_rfl) Try.underlying22 r3
  have hc : decide ((32768 : Int) ≤ (n : Int)) = s := by rw [hn]; cases s <;> simp <;> omega
  clear r3 r4 hq hn hn2
  generalize whW q = y at *
  generalize (n : Int) = ni at *
  cases s
  all_goals
    have m5 := hc
    simp only [decide_eq_true_eq, decide_eq_false_iff_not] at m5
    clear hc
    go_enter Try.func13, Try.ntmps13
    go_wp2_with (go_at_call 64; (with_reducible refine (HV.out _).mono ?_); rintro e w' ⟨rfl, rfl⟩)
    go_ret2
    exact ⟨rfl, rfl⟩

set_option maxHeartbeats 1000000 in
set_option maxRecDepth 100000 in
theorem longOf_in {n : Nat} (h : n < 65536) (er : Int) (he : er = if 32640 ≤ n % 32768 then 2 else 0) (w : World) : Calls Try.prog 14 #[.int .i64 (n : Int)] w fun e w' => e = .returned (.tuple #[.float .f32 (if er = 0 then n * 65536 else 0), .int .i64 er]) ∧ w = w' := by
  have a1 := and_mask7 h
  have b1 : ¬ ((n : Int) < 0) := by omega
  have b2 : ¬ ((65535 : Int) < (n : Int)) := by omega
  have hb : ∀ w : World, (callFunc 68 #[.int .u32 ((n : Int) * 65536)]).run Try.prog w = .ok (.value (.float .f32 (n * 65536))) w := fun w => by
    have := f32from ((n : Int) * 65536) w
    rwa [tn_short] at this
  by_cases c : 32640 ≤ n % 32768
  · rw [if_pos c] at he
    subst he
    rw [show n % 32768 / 128 * 128 = 32640 by omega] at a1
    rw [if_neg (by decide)]
    clear c hb
    go_enter Try.func14, Try.ntmps14
    go_wp2
    go_ret2
    exact ⟨rfl, rfl⟩
  · rw [if_neg c] at he
    subst he
    rw [if_pos rfl]
    have b3 : ¬ (((n % 32768 / 128 * 128 : Nat) : Int) = 32640) := by omega
    generalize n % 32768 / 128 * 128 = z at *
    generalize n * 65536 = u at *
    clear c
    go_enter Try.func14, Try.ntmps14
    go_wp2
    go_ret2
    exact ⟨rfl, rfl⟩

set_option maxHeartbeats 1000000 in
set_option maxRecDepth 100000 in
theorem shortOf_num {x : Nat} (hx : x < 4294967296) (hs : (FloatKind.f32.format.order x x == some .eq) = true) (w : World) : Calls Try.prog 17 #[.float .f32 x] w fun e w' => e = .returned (.int .i64 ((nrS x : Nat) : Int)) ∧ w = w' := by
  have hb := f32bits
  have hne : (FloatKind.f32.format.order x x != some .eq) = false := by
    rw [bne, hs]; rfl
  have n1 : bits .and .u32 (x : Int) 65535 = ((x % 65536 : Nat) : Int) := by
    have := u32_and_nat x 65535 hx (by omega)
    rw [show x &&& 65535 = x % 65536 from Nat.and_two_pow_sub_one_eq_mod x 16] at this
    exact this
  have sh : (x : Int) / 65536 = ((x / 65536 : Nat) : Int) := by omega
  have n2 : bits .and .i64 ((x / 65536 : Nat) : Int) 1 = ((x / 65536 % 2 : Nat) : Int) := by
    have := i64_and_nat (x / 65536) 1 (by omega) (by omega)
    rw [Nat.and_one_is_mod] at this
    exact this
  have e1 : nrS x = if 32768 < x % 65536 then x / 65536 + 1 else if x % 65536 = 32768 ∧ x / 65536 % 2 = 1 then x / 65536 + 1 else x / 65536 := by
    unfold nrS
    split
    · omega
    · split <;> omega
  rw [e1]
  have h1 : x / 65536 < 65536 := by omega
  have h2 : x % 65536 < 65536 := by omega
  have h3 : x / 65536 % 2 < 2 := by omega
  generalize x / 65536 % 2 = o at *
  generalize x / 65536 = k at *
  generalize x % 65536 = t at *
  clear e1 hs
  by_cases c1 : 32768 < t
  · rw [if_pos c1]
    have c1' : (32768 : Int) < (t : Int) := by omega
    go_enter Try.func17, Try.ntmps17
    go_wp2
    go_ret
    exact ⟨ret_int (by omega), rfl⟩
  · rw [if_neg c1]
    have c1' : ¬ ((32768 : Int) < (t : Int)) := by omega
    by_cases c2 : t = 32768
    · subst c2
      rcases (show o = 0 ∨ o = 1 by omega) with rfl | rfl
      · rw [if_neg (by omega)]
        go_enter Try.func17, Try.ntmps17
        go_wp2
        go_ret
        exact ⟨rfl, rfl⟩
      · rw [if_pos (by omega)]
        go_enter Try.func17, Try.ntmps17
        go_wp2
        go_ret
        exact ⟨ret_int (by omega), rfl⟩
    · rw [if_neg (by omega)]
      have c2' : ((t : Int) == 32768) = false := by simp; omega
      go_enter Try.func17, Try.ntmps17
      go_wp2
      go_ret
      exact ⟨rfl, rfl⟩
set_option maxHeartbeats 1000000 in
theorem shortOf_nan {x : Nat} (hs : (FloatKind.f32.format.order x x == some .eq) = false) (w : World) : Calls Try.prog 17 #[.float .f32 x] w fun e w' => e = .returned (.int .i64 32704) ∧ w = w' := by
  have hne : (FloatKind.f32.format.order x x != some .eq) = true := by
    rw [bne, hs]; rfl
  clear hs
  go_enter Try.func17, Try.ntmps17
  go_wp2
  go_ret
  exact ⟨rfl, rfl⟩
end Go.Proofs.Ytkcehbnmcdppkaa

/- The nearest half, by the two halves that a magnitude lies between (pure). -/
namespace Go.Proofs.Ytkcehbnmcdppkaa
open Go.RowKit Fl
set_option linter.unusedVariables false

theorem hvM_big {q : Nat} (h0 : 1024 ≤ q) : hvM q = rv (q * 8192 + 939524096) := by
  unfold rv rgM rgE hvM
  rw [if_neg (by omega), if_neg (by omega), if_neg (by omega)]
  have e1 : 8388608 + (q * 8192 + 939524096) % 8388608 = (1024 + q % 1024) * 2 ^ 13 := by omega
  have e2 : (q * 8192 + 939524096) / 8388608 = q / 1024 + 112 := by omega
  rw [e1, e2, Nat.mul_assoc, ← Nat.pow_add, show 13 + (924 + (q / 1024 + 112)) = 1049 + q / 1024 by omega]
theorem hvM_small {q : Nat} (h : q ≤ 1024) : hvM q = q * u24 := by
  rcases Nat.lt_or_eq_of_le h with c | c
  · unfold hvM; rw [if_pos c]
  · rw [c, hvM_big (by omega)]; exact rv_m14

/-- A magnitude between two halves that are not small. -/
theorem between_big {r lo : Nat} (h0 : 1024 ≤ lo) (h1 : lo < 31744) (hl : hvM lo ≤ rv r) (hh : rv r < hvM (lo + 1)) :
    ∃ t P, t < 8192 ∧ r = lo * 8192 + 939524096 + t ∧ rv r = hvM lo + t * 2 ^ P ∧ hvM (lo + 1) = hvM lo + 8192 * 2 ^ P ∧ P ≤ 1100 := by
  rw [hvM_big h0] at hl ⊢
  rw [hvM_big (by omega)] at hh ⊢
  have a1 := rv_le.1 hl
  have a2 := rv_lt'.1 hh
  obtain ⟨r0, hr0⟩ : ∃ r0, r0 = lo * 8192 + 939524096 := ⟨_, rfl⟩
  rw [← hr0] at a1 ⊢
  rw [show (lo + 1) * 8192 + 939524096 = r0 + 8192 by omega] at a2 ⊢
  obtain ⟨E, hE⟩ : ∃ E, E = r0 / 8388608 := ⟨_, rfl⟩
  have b0 : r0 / 8388608 * 8388608 ≤ r0 := by omega
  have b1 : r0 + 8192 ≤ r0 / 8388608 * 8388608 + 8388608 := by omega
  have e0 := rv_near (r := r0) (r' := r0) (by omega) b0 (by omega)
  have e1 := rv_near (r := r0) (r' := r) (by omega) (by omega) (by omega)
  have e2 := rv_near (r := r0) (r' := r0 + 8192) (by omega) (by omega) b1
  refine ⟨r - r0, 924 + r0 / 8388608, by omega, by omega, ?_, ?_, by omega⟩
  · rw [e1, e0, ← Nat.add_mul, show 8388608 + (r0 - r0 / 8388608 * 8388608) + (r - r0) = 8388608 + (r - r0 / 8388608 * 8388608) by omega]
  · rw [e2, e0, ← Nat.add_mul, show 8388608 + (r0 - r0 / 8388608 * 8388608) + 8192 = 8388608 + (r0 + 8192 - r0 / 8388608 * 8388608) by omega]

/-- The nearest half, by the halves beside. -/
theorem nhR_beside {r lo : Nat} (h1 : lo < 31744) (hl : hvM lo ≤ rv r) (hh : rv r < hvM (lo + 1)) :
    nhR r = if hvM (lo + 1) - rv r < rv r - hvM lo ∨ (hvM (lo + 1) - rv r = rv r - hvM lo ∧ lo % 2 = 1) then lo + 1 else lo := by
  by_cases c : 1024 ≤ lo
  · obtain ⟨t, P, t1, t2, t3, t4, -⟩ := between_big c h1 hl hh
    have p := Nat.two_pow_pos P
    have e1 : hvM (lo + 1) - rv r = (8192 - t) * 2 ^ P := by
      rw [t3, t4, Nat.sub_mul]; omega
    have e2 : rv r - hvM lo = t * 2 ^ P := by rw [t3]; omega
    rw [e1, e2]
    have q1 : ((8192 - t) * 2 ^ P < t * 2 ^ P) ↔ 4096 < t := by
      rw [Nat.mul_lt_mul_right p]; omega
    have q2 : ((8192 - t) * 2 ^ P = t * 2 ^ P) ↔ t = 4096 := by
      rw [Nat.mul_left_inj (by omega)]; omega
    simp only [q1, q2]
    unfold nhR nrH
    have hd : r / 8192 = lo + 114688 := by omega
    rw [hd]
    split
    · split <;> omega
    · rw [if_neg (by omega)]
      split <;> omega
  · have p := u24_pos
    have hr : r < 947912704 := by
      rw [← rv_lt', rv_m14]
      refine Nat.lt_of_lt_of_le hh ?_
      rw [hvM_small (by omega)]
      exact Nat.mul_le_mul_right _ (by omega)
    rw [hvM_small (by omega)] at hl ⊢
    rw [hvM_small (by omega)] at hh ⊢
    unfold nhR
    rw [if_neg (by omega), if_pos hr]
    unfold rnq
    obtain ⟨t, ht⟩ : ∃ t, rv r = lo * u24 + t := ⟨rv r - lo * u24, by omega⟩
    have t1 : t < u24 := by rw [ht, Nat.add_mul] at hh; omega
    have d1 : rv r / u24 = lo := by rw [ht, Nat.mul_comm, Nat.mul_add_div p, Nat.div_eq_of_lt t1]; rfl
    have d2 : rv r % u24 = t := by rw [ht, Nat.mul_comm, Nat.mul_add_mod, Nat.mod_eq_of_lt t1]
    rw [d1, d2, ht, Nat.add_mul]
    have e1 : lo * u24 + 1 * u24 - (lo * u24 + t) = u24 - t := by omega
    have e2 : lo * u24 + t - lo * u24 = t := by omega
    rw [e1, e2]
    generalize u24 = U at *
    by_cases c1 : U < 2 * t ∨ (2 * t = U ∧ lo % 2 = 1)
    · rw [if_pos c1, if_pos (by omega)]
    · rw [if_neg c1, if_neg (by omega), Nat.add_zero]

/-- A difference of magnitudes that a double holds. -/
theorem sub_exact {X Y a b u k : Nat} (hx : vD X = some (a : Int)) (hy : vD Y = some (b : Int)) (hab : b ≤ a) (hu : a - b = u * 2 ^ k) (hu2 : u < 2 ^ 53) (hk : k ≤ 1200) : ∃ Z, floatBits .sub .f64 X Y = some Z ∧ vD Z = some ((a - b : Nat) : Int) := by
  obtain ⟨B, hB⟩ : ∃ B : Nat, B = 1300 := ⟨_, rfl⟩
  have hlt : a - b < 2 ^ B := by
    rw [hu]
    calc u * 2 ^ k < 2 ^ 53 * 2 ^ k := Nat.mul_lt_mul_of_pos_right hu2 (Nat.two_pow_pos _)
      _ = 2 ^ (53 + k) := (Nat.pow_add 2 53 k).symm
      _ ≤ 2 ^ B := Nat.pow_le_pow_right (by omega) (by omega)
  exact vD_sub (u := u) (k := k) (B := B) hx hy (c := ((a - b : Nat) : Int)) (by omega) (by rw [Int.natAbs_natCast]; exact hu) hu2 (by rw [Int.natAbs_natCast]; exact hlt) (by omega)
end Go.Proofs.Ytkcehbnmcdppkaa

/- What lies below and above a magnitude between two halves, in doubles (pure). -/
namespace Go.Proofs.Ytkcehbnmcdppkaa
open Go.RowKit Fl
set_option linter.unusedVariables false

theorem sub_round {X Y a b : Nat} (hx : vD X = some (a : Int)) (hy : vD Y = some (b : Int)) (hab : b < a) {B : Nat} (hB : a < 2 ^ B) (hB2 : B < 2000) : ∃ Z, floatBits .sub .f64 X Y = some Z ∧ vD Z = some ((rd Ieee.double 0 (a - b) : Nat) : Int) := by
  obtain ⟨s, m, p, h1, ea⟩ := vD_some hx
  obtain ⟨t, n, q, h2, eb⟩ := vD_some hy
  obtain ⟨P, Q, q1, q2, q3⟩ := sum_val (s := s) (t := !t) (m := m) (n := n) (read_dbl_low h1) (read_dbl_low h2)
  have hc : vOf s m p + vOf (!t) n q = ((a - b : Nat) : Int) := by rw [vOf_opp, ea, eb]; omega
  rw [hc] at q1 q3
  rw [Int.natAbs_natCast] at q3
  have hne : ¬ (((a - b : Nat) : Int) = 0) := by omega
  have hlt : ¬ (((a - b : Nat) : Int) < 0) := by omega
  rw [if_neg hne, decide_eq_false hlt] at q1
  have hz : ((Ieee.double.read X).sum (Ieee.double.read Y).opposite).map Ieee.double.write = some (Ieee.double.nearest false P Q) := by
    rw [h1, h2]
    show ((Ieee.Datum.number s m p).sum (.number (!t) n q)).map Ieee.double.write = _
    rw [q1]
    rfl
  refine ⟨_, hz, ?_⟩
  have hl : a - b < 2 ^ B := by omega
  rw [nearest_val Ieee.double false (-1074) 0 leastD P (p := Q) q2, show (Q - (-1074)).toNat = (Q + 1074).toNat by omega, q3, vD_word hl (by omega)]
  simp

/-- The two differences of a magnitude between two halves. -/
theorem diffs {A L H r lo : Nat} (hr : r < 2139095040) (h1 : lo < 31744) (hl : hvM lo ≤ rv r) (hh : rv r < hvM (lo + 1)) (hA : vD A = some ((rv r : Nat) : Int)) (hL : vD L = some ((hvM lo : Nat) : Int)) (hH : vD H = some ((hvM (lo + 1) : Nat) : Int)) :
    ∃ BL AB, floatBits .sub .f64 A L = some BL ∧ floatBits .sub .f64 H A = some AB ∧ (FloatKind.f64.format.order AB BL == some .lt) = decide (hvM (lo + 1) - rv r < rv r - hvM lo) ∧ (FloatKind.f64.format.order AB BL == some .eq) = decide (hvM (lo + 1) - rv r = rv r - hvM lo) := by
  have e53 : (2 : Nat) ^ 53 = 9007199254740992 := by decide
  have fin : (∃ BL AB, floatBits .sub .f64 A L = some BL ∧ floatBits .sub .f64 H A = some AB ∧ vD BL = some ((rv r - hvM lo : Nat) : Int) ∧ vD AB = some ((hvM (lo + 1) - rv r : Nat) : Int)) → ∃ BL AB, floatBits .sub .f64 A L = some BL ∧ floatBits .sub .f64 H A = some AB ∧ (FloatKind.f64.format.order AB BL == some .lt) = decide (hvM (lo + 1) - rv r < rv r - hvM lo) ∧ (FloatKind.f64.format.order AB BL == some .eq) = decide (hvM (lo + 1) - rv r = rv r - hvM lo) := by
    rintro ⟨BL, AB, b1, b2, b3, b4⟩
    refine ⟨BL, AB, b1, b2, ?_, ?_⟩
    · rw [show FloatKind.f64.format = Ieee.double from rfl, lss_valD b4 b3, decide_eq_decide]; omega
    · rw [show FloatKind.f64.format = Ieee.double from rfl, eql_valD b4 b3, decide_eq_decide]; omega
  by_cases c : 1024 ≤ lo
  · obtain ⟨t, P, t1, t2, t3, t4, t5⟩ := between_big c h1 hl hh
    obtain ⟨BL, b1, b2⟩ := sub_exact (u := t) (k := P) hA hL hl (by rw [t3]; omega) (by omega) (by omega)
    obtain ⟨AB, a1, a2⟩ := sub_exact (u := 8192 - t) (k := P) hH hA (by omega) (by rw [t3, t4, Nat.sub_mul]; omega) (by omega) (by omega)
    exact fin ⟨BL, AB, b1, a1, b2, a2⟩
  · obtain ⟨K, hK⟩ : ∃ K : Nat, K = 1050 := ⟨_, rfl⟩
    have hU := u24_pow hK
    have p := u24_pos
    have hl' := hl
    have hh' := hh
    rw [hvM_small (show lo ≤ 1024 by omega)] at hl'
    rw [hvM_small (show lo + 1 ≤ 1024 by omega)] at hh'
    have m1 := rgM_lt r
    have hrv : rv r = rgM r * 2 ^ rgE r := rfl
    have hE2 : rgE r ≤ 1037 := by
      rcases Nat.lt_or_ge 1037 (rgE r) with g | g
      · exfalso
        have mq := rgM_ge (show 925 < rgE r by omega)
        have g1 : 1024 * u24 ≤ rv r := by
          rw [hU, hrv]
          calc 1024 * 2 ^ K = 2 ^ (10 + K) := (Nat.pow_add 2 10 K).symm
            _ ≤ 2 ^ (23 + rgE r) := Nat.pow_le_pow_right (by omega) (by omega)
            _ = 8388608 * 2 ^ rgE r := Nat.pow_add 2 23 _
            _ ≤ rgM r * 2 ^ rgE r := Nat.mul_le_mul_right _ mq
        have g2 : (lo + 1) * u24 ≤ 1024 * u24 := Nat.mul_le_mul_right _ (by omega)
        omega
      · exact g
    obtain ⟨d, hd⟩ : ∃ d, K = d + rgE r := ⟨K - rgE r, by omega⟩
    have hUd : u24 = 2 ^ d * 2 ^ rgE r := by rw [hU, hd, Nat.pow_add]
    by_cases z : d ≤ 50
    · have hd50 : 2 ^ d ≤ 1125899906842624 := by
        have : (2 : Nat) ^ 50 = 1125899906842624 := by decide
        rw [← this]; exact Nat.pow_le_pow_right (by omega) z
      have e1 : rv r - lo * u24 = (rgM r - lo * 2 ^ d) * 2 ^ rgE r := by rw [hrv, hUd, ← Nat.mul_assoc, ← Nat.sub_mul]
      have e2 : (lo + 1) * u24 - rv r = ((lo + 1) * 2 ^ d - rgM r) * 2 ^ rgE r := by rw [hrv, hUd, ← Nat.mul_assoc, ← Nat.sub_mul]
      have pE := Nat.two_pow_pos (rgE r)
      have hx : rgM r < (lo + 1) * 2 ^ d := by
        rw [hrv, hUd, ← Nat.mul_assoc] at hh'
        exact Nat.lt_of_mul_lt_mul_right hh'
      have hx2 : lo * 2 ^ d ≤ rgM r := by
        rw [hrv, hUd, ← Nat.mul_assoc] at hl'
        exact Nat.le_of_mul_le_mul_right hl' pE
      have hx3 : (lo + 1) * 2 ^ d = lo * 2 ^ d + 2 ^ d := by rw [Nat.add_mul, Nat.one_mul]
      obtain ⟨BL, b1, b2⟩ := sub_exact (u := rgM r - lo * 2 ^ d) (k := rgE r) hA hL hl (by rw [hvM_small (show lo ≤ 1024 by omega)]; exact e1) (by omega) (by omega)
      obtain ⟨AB, a1, a2⟩ := sub_exact (u := (lo + 1) * 2 ^ d - rgM r) (k := rgE r) hH hA (Nat.le_of_lt hh) (by rw [hvM_small (show lo + 1 ≤ 1024 by omega)]; exact e2) (by omega) (by omega)
      exact fin ⟨BL, AB, b1, a1, b2, a2⟩
    · have hsm : rv r < 2 ^ (K - 26) := by
        rw [hrv]
        have e24 : (16777216 : Nat) = 2 ^ 24 := by decide
        calc rgM r * 2 ^ rgE r < 16777216 * 2 ^ rgE r := Nat.mul_lt_mul_of_pos_right m1 (Nat.two_pow_pos _)
          _ = 2 ^ (24 + rgE r) := by rw [e24]; exact (Nat.pow_add 2 24 _).symm
          _ ≤ 2 ^ (K - 26) := Nat.pow_le_pow_right (by omega) (by omega)
      have hK1 : 2 ^ K = 2 * 2 ^ (K - 1) := by rw [← Nat.pow_succ', show (K - 1).succ = K by omega]
      have hK2 : 2 ^ (K - 26) ≤ 2 ^ (K - 1) := Nat.pow_le_pow_right (by omega) (by omega)
      have hlo : lo = 0 := by
        rcases Nat.eq_zero_or_pos lo with w | w
        · exact w
        · exfalso
          have : u24 ≤ lo * u24 := Nat.le_mul_of_pos_left _ w
          omega
      subst hlo
      have h0 : hvM 0 = 0 := by rw [hvM_small (by omega)]; omega
      have h1' : hvM (0 + 1) = 2 ^ K := by rw [hvM_small (by omega), hU]; omega
      obtain ⟨BL, b1, b2⟩ := sub_exact (u := rgM r) (k := rgE r) hA hL hl (by rw [h0, hrv]; omega) (by omega) (by omega)
      have hHl : hvM (0 + 1) < 2 ^ (K + 1) := by rw [h1']; exact Nat.pow_lt_pow_right (by omega) (by omega)
      obtain ⟨AB, a1, a2⟩ := sub_round hH hA hh hHl (by omega)
      have hge : 2 ^ (K - 1) ≤ rd Ieee.double 0 (hvM (0 + 1) - rv r) := by
        have g := rdD_mono (V := 2 ^ (K - 1)) (W := hvM (0 + 1) - rv r) (by rw [h1']; omega)
        have g2 := rd_exact Ieee.double 0 1 (K - 1) (by rw [fbD]; decide) (by omega)
        rw [Nat.one_mul] at g2
        rw [g2] at g
        exact g
      refine ⟨BL, AB, b1, a1, ?_, ?_⟩
      · rw [show FloatKind.f64.format = Ieee.double from rfl, lss_valD a2 b2, decide_eq_decide]
        rw [h0, h1'] at *
        omega
      · rw [show FloatKind.f64.format = Ieee.double from rfl, eql_valD a2 b2, decide_eq_decide]
        rw [h0, h1'] at *
        omega
end Go.Proofs.Ytkcehbnmcdppkaa

/- Contract of the reference: HalfOf of a single that is no NaN. -/
namespace Go.Proofs.Ytkcehbnmcdppkaa
open Go.RowKit Fl
set_option linter.unusedVariables false

theorem hvM_lt {a b : Nat} (h : a < b) (hb : b ≤ 31744) : hvM a < hvM b := by
  have p := u24_pos
  by_cases c : 1024 ≤ a
  · rw [hvM_big c, hvM_big (by omega)]
    exact rv_lt (by omega)
  · by_cases d : b ≤ 1024
    · rw [hvM_small (by omega), hvM_small d]
      exact Nat.mul_lt_mul_of_pos_right h p
    · have e1 : hvM a < hvM 1024 := by
        rw [hvM_small (by omega), hvM_small (by omega)]
        exact Nat.mul_lt_mul_of_pos_right (by omega) p
      have e2 : hvM 1024 < hvM b := by
        rw [hvM_big (by omega), hvM_big (by omega)]
        exact rv_lt (by omega)
      omega

/-- The value's word of a half in the reference. -/
noncomputable def vlW (q : Nat) : Nat := if h : q ≤ 31744 then Classical.choose (value_any h) else 0
theorem vlW_spec {q : Nat} (h : q ≤ 31744) : vlW q < b64 ∧ vD (vlW q) = some ((hvM q : Nat) : Int) ∧ ∀ w, Calls Try.prog 63 #[.int .i64 (q : Int)] w fun en w' => en = .returned (.float .f64 (vlW q)) ∧ w = w' := by
  unfold vlW
  rw [dif_pos h]
  exact Classical.choose_spec (value_any h)

/-- Whether a single is just its half. -/
def justB (r : Nat) : Bool := if nhR r < 31744 then decide (hvM (nhR r) = rv r) else decide (r = 2139095040)

set_option maxHeartbeats 400000 in
theorem isInf_pos (X : Nat) (k : Bool) (h : (FloatKind.f64.format.order X 9218868437227405311 == some .gt) = k) (w : World) :
    Calls Try.prog 65 #[.float .f64 X, .int .i64 1] w fun e w' => e = .returned (.bool k) ∧ w = w' := by
  go_enter Try.func65, Try.ntmps65
  go_wp2
  go_ret
  exact ⟨by first | rfl | exact ret_bool h, rfl⟩

set_option maxHeartbeats 4000000 in
set_option maxRecDepth 100000 in
theorem halfOf_any {s : Bool} {r : Nat} (hr : r ≤ 2139095040) (w : World) :
    Calls Try.prog 10 #[.float .f32 (sw s r)] w fun e w' => e = .returned (.tuple #[.int .i64 ((nhW s r : Nat) : Int), .bool (justB r)]) ∧ w = w' := by
  -- the double of the magnitude, and how it stands to the halves' values
  have hA : ∃ X, floatToFloatBits .f32 (sw s r) .f64 = some X ∧ X < b64 ∧ (∀ q, q ≤ 31744 → (FloatKind.f64.format.order (vlW q) (X % b63) == some .lt || FloatKind.f64.format.order (vlW q) (X % b63) == some .eq) = decide (r = 2139095040 ∨ hvM q ≤ rv r)) ∧
      (r < 2139095040 → vD (X % b63) = some ((rv r : Nat) : Int)) ∧ (FloatKind.f64.format.order (X % b63) 9218868437227405311 == some .gt) = decide (r = 2139095040) ∧ (FloatKind.f64.format.order (X % b63) 4679240012837945344 == some .gt || FloatKind.f64.format.order (X % b63) 4679240012837945344 == some .eq) = decide (1199570944 ≤ r) := by
    have f64f : FloatKind.f64.format = Ieee.double := rfl
    have hm : vD 9218868437227405311 = some ((rv 2139095040 - 1 : Nat) : Int) ∨ True := .inr trivial
    rcases Nat.lt_or_eq_of_le hr with h | h
    · obtain ⟨X, c1, c2, c3⟩ := conv_val (s := s) h
      have hA := abs_valD c3
      have e : ((if s then -1 else 1) * ((rv r : Nat) : Int)).natAbs = rv r := by
        rw [Int.natAbs_mul, Int.natAbs_natCast]; cases s <;> simp
      rw [e] at hA
      have hne : ¬ (r = 2139095040) := by omega
      refine ⟨X, c1, c2, fun q hq => ?_, fun _ => hA, ?_, ?_⟩
      · rw [f64f, show b63 = 9223372036854775808 from rfl, leq_valD (vlW_spec hq).2.1 hA, decide_eq_decide]
        omega
      · rw [show b63 = 9223372036854775808 from rfl, decide_eq_false hne]
        exact isInf_no (by rw [vS_sw h]; simp) c1
      · rw [f64f, show b63 = 9223372036854775808 from rfl, geq_valD hA c65536, decide_eq_decide, hvM_big (by omega), show 31744 * 8192 + 939524096 = 1199570944 by omega]
        have := @rv_le 1199570944 r
        omega
    · subst h
      have hi' : Ieee.single.read (sw s 2139095040) = .infinity s := by cases s <;> decide
      have c1 := conv_infS hi'
      have e : Ieee.double.word s Ieee.double.infRung % b63 = 9218868437227405312 := by cases s <;> decide
      have hri : Ieee.double.read 9218868437227405312 = .infinity false := by decide
      refine ⟨_, c1, conv32_lt c1, fun q hq => ?_, fun h => by omega, ?_, ?_⟩
      · rw [e, f64f, decide_eq_true (show 2139095040 = 2139095040 ∨ hvM q ≤ rv 2139095040 from .inl rfl)]
        obtain ⟨s', m', p', h', -⟩ := vD_some (vlW_spec hq).2.1
        unfold Ieee.Format.order
        rw [h', hri]
        rfl
      · rw [e]; decide
      · rw [e, f64f, order_infD hri c65536]
        rfl
  obtain ⟨X, c1, c2, LE, FV, IF, GE⟩ := hA
  have CV := fun (W : World) => run_convert_float_float (P := Try.prog) W 22 32 .f32 .f64 (sw s r) X (by kernel_rfl) Try.underlying32 c1
  have AB := Lib.hid (fun w => mathAbs_any X w c2)
  have hne : (FloatKind.f32.format.order (sw s r) (sw s r) != some .eq) = false := by
    rw [f32f, order_self (sw_sg (s := s) hr)]; rfl
  have hb : ∀ w : World, (callFunc 62 #[.float .f32 (sw s r)]).run Try.prog w = .ok (.value (.int .u32 ((sw s r : Nat) : Int))) w := fun w => f32bits _ w
  have sh : ((sw s r : Nat) : Int) / 2147483648 = (s.toNat : Int) := by unfold sw; cases s <;> simp <;> omega
  have VA := Lib.hid (show ∀ q : Nat, q ≤ 31744 → ∀ (n : Int), n = (q : Int) → ∀ w, Calls Try.prog 63 #[.int .i64 n] w fun en w' => en = .returned (.float .f64 (vlW q)) ∧ w = w' from fun q hq n hn w => by subst hn; exact (vlW_spec hq).2.2 w)
  have II := Lib.hid (fun w => isInf_pos (X % b63) _ IF w)
  have LE2 := Lib.hid LE
  have FV2 := Lib.hid FV
  have GE2 := Lib.hid GE
  clear LE FV IF GE c1 c2
  generalize X % b63 = A at *
  obtain ⟨k, hk⟩ : ∃ k, k = nhW s r := ⟨_, rfl⟩
  obtain ⟨jb, hjb⟩ : ∃ jb, jb = justB r := ⟨_, rfl⟩
  rw [← hk, ← hjb]
  have HK := Lib.hid (show (k : Int) = (s.toNat : Int) * 32768 + (nhR r : Int) by rw [hk]; unfold nhW; omega)
  have HJ := Lib.hid hjb
  have HR := Lib.hid hr
  have si1 : (s.toNat : Int) ≤ 1 := by cases s <;> simp
  have si0 : 0 ≤ (s.toNat : Int) := by omega
  clear hk hjb hr
  generalize (s.toNat : Int) = si at *
  generalize hx : sw s r = x at *
  clear hx
  have h0 : (decide (r = 2139095040 ∨ hvM 0 ≤ rv r)) = true := decide_eq_true (.inr (by rw [hvM_small (by omega)]; omega))
  have H0 := Lib.hid h0
  clear h0
  go_enter Try.func10, Try.ntmps10
  go_wp2_with (go_at_call 19; (with_reducible refine (AB.out _).mono ?_); rintro en w' ⟨rfl, rfl⟩)
  go_loopw [7, 8] (fun s7 s8 wr => ∃ (lo hi : Nat), s7 = .int .i64 lo ∧ s8 = .int .i64 hi ∧ lo < hi ∧ hi ≤ 31744 ∧ decide (r = 2139095040 ∨ hvM lo ≤ rv r) = true ∧ (hi = 31744 ∨ decide (r = 2139095040 ∨ hvM hi ≤ rv r) = false) ∧ wr = w) (fun s7 s8 _ => (intOf s8 - intOf s7).toNat)
  case atStart => exact ⟨0, 31744, rfl, rfl, by omega, by omega, H0.out, .inl rfl, rfl⟩
  case round =>
    obtain ⟨lo, hi, rfl, rfl, h1, h2, h3, h4, rfl⟩ := hrel
    have H3 := Lib.hid h3
    have H4 := Lib.hid h4
    clear h3 h4
    by_cases hlt : lo + 1 < hi
    · have hgt : (1 : Int) < (hi : Int) - (lo : Int) := by omega
      obtain ⟨m, hm⟩ : ∃ m, m = (lo + hi) / 2 := ⟨_, rfl⟩
      have hmi : ((lo : Int) + (hi : Int)) / 2 = (m : Int) := by omega
      have m1 : lo < m := by omega
      have m2 : m < hi := by omega
      have hle := LE2.out m (by omega)
      clear hm
      cases hb : decide (r = 2139095040 ∨ hvM m ≤ rv r)
      · rw [hb] at hle
        have HB := Lib.hid hb
        clear hb
        go_wp2_with (go_at_call 63; (with_reducible refine (VA.out m (by omega) _ (by omega) _).mono ?_); rintro en w' ⟨rfl, rfl⟩)
        exact ⟨⟨lo, m, rfl, by go_num, m1, by omega, H3.out, .inr HB.out, trivial⟩, by simp [intOf]; omega⟩
      · rw [hb] at hle
        have HB := Lib.hid hb
        clear hb
        go_wp2_with (go_at_call 63; (with_reducible refine (VA.out m (by omega) _ (by omega) _).mono ?_); rintro en w' ⟨rfl, rfl⟩)
        exact ⟨⟨m, hi, by go_num, rfl, m2, by omega, HB.out, H4.out, trivial⟩, by simp [intOf]; omega⟩
    · have ehi : hi = lo + 1 := by omega
      have hng : ¬ ((1 : Int) < (hi : Int) - (lo : Int)) := by omega
      have bl0 : 0 ≤ (lo : Int) := by omega
      have bl1 : (lo : Int) ≤ 31744 := by omega
      have bh0 : 0 ≤ (hi : Int) := by omega
      have bh1 : (hi : Int) ≤ 31744 := by omega
      have ge := GE2.out
      by_cases g : 1199570944 ≤ r
      · rw [decide_eq_true g] at ge
        have hR : nhR r = 31744 := by unfold nhR; rw [if_pos (by omega)]
        have hJ : jb = decide (r = 2139095040) := by rw [HJ.out]; unfold justB; rw [hR, if_neg (by decide)]
        have hK : (k : Int) = si * 32768 + 31744 := by rw [HK.out, hR]; rfl
        have HE := Lib.hid (show Ending.returned (.tuple #[.int .i64 (si * 32768 + 31744), .bool (decide (r = 2139095040))]) = Ending.returned (.tuple #[.int .i64 (k : Int), .bool jb]) by rw [hJ, hK])
        clear hJ hK hR g ehi
        generalize (hi : Int) = hI at *
        generalize (lo : Int) = lI at *
        go_wp2_with (go_at_call 65; (with_reducible refine (II.out _).mono ?_); rintro en w' ⟨rfl, rfl⟩)
        go_ret2
        exact ⟨HE.out, rfl⟩
      · rw [decide_eq_false g] at ge
        have hfin : ¬ (r = 2139095040) := by omega
        have hlo : hvM lo ≤ rv r := by
          have := of_decide_eq_true H3.out
          rcases this with q | q
          · exact absurd q hfin
          · exact q
        have hhi : rv r < hvM (lo + 1) := by
          rw [← ehi]
          rcases H4.out with q | q
          · rw [q, hvM_big (by omega)]
            exact rv_lt (by omega)
          · have := of_decide_eq_false q
            omega
        have hA := FV2.out (by omega)
        have hL := (vlW_spec (q := lo) (by omega)).2.1
        have hH := (vlW_spec (q := hi) h2).2.1
        have hH' := hH
        rw [ehi] at hH'
        rw [← ehi] at hH'
        rw [show hvM hi = hvM (lo + 1) by rw [ehi]] at hH
        obtain ⟨BL, AV, s1, s2, l1, e1⟩ := diffs (by omega) (by omega) hlo hhi hA hL hH
        have hN := nhR_beside (show lo < 31744 by omega) hlo hhi
        have SU1 := fun (W : World) => run_float_arith (P := Try.prog) W .sub 32 .f64 _ _ _ s1
        have SU2 := fun (W : World) => run_float_arith (P := Try.prog) W .sub 32 .f64 _ _ _ s2
        have EQL : (FloatKind.f64.format.order (vlW lo) A == some .eq) = decide (hvM lo = rv r) := by
          rw [show FloatKind.f64.format = Ieee.double from rfl, eql_valD hL hA, decide_eq_decide]; omega
        have EQH : (FloatKind.f64.format.order (vlW hi) A == some .eq) = decide (hvM (lo + 1) = rv r) := by
          rw [show FloatKind.f64.format = Ieee.double from rfl, eql_valD hH hA, decide_eq_decide]; omega
        have n1 : bits .and .i64 (lo : Int) 1 = ((lo % 2 : Nat) : Int) := by
          have := i64_and_nat lo 1 (by omega) (by omega)
          rw [Nat.and_one_is_mod] at this
          exact this
        have VL := Lib.hid (VA.out lo (by omega) _ rfl)
        have VH := Lib.hid (VA.out hi h2 _ rfl)
        have ansL : nhR r = lo → Ending.returned (.tuple #[.int .i64 (si * 32768 + (lo : Int)), .bool (decide (hvM lo = rv r))]) = Ending.returned (.tuple #[.int .i64 (k : Int), .bool jb]) := fun q => by
          have a1 : (k : Int) = si * 32768 + (lo : Int) := by rw [HK.out, q]
          have a2 : jb = decide (hvM lo = rv r) := by rw [HJ.out]; unfold justB; rw [q, if_pos (by omega)]
          rw [a1, a2]
        have ansH : nhR r = lo + 1 → (hi < 31744 → Ending.returned (.tuple #[.int .i64 (si * 32768 + (hi : Int)), .bool (decide (hvM (lo + 1) = rv r))]) = Ending.returned (.tuple #[.int .i64 (k : Int), .bool jb])) ∧ (¬ hi < 31744 → Ending.returned (.tuple #[.int .i64 (si * 32768 + (hi : Int)), .bool false]) = Ending.returned (.tuple #[.int .i64 (k : Int), .bool jb])) := fun q => by
          have a1 : (k : Int) = si * 32768 + (hi : Int) := by rw [HK.out, q, ehi]
          refine ⟨fun z => ?_, fun z => ?_⟩
          · have a2 : jb = decide (hvM (lo + 1) = rv r) := by rw [HJ.out]; unfold justB; rw [q, if_pos (by omega)]
            rw [a1, a2]
          · have a2 : jb = false := by rw [HJ.out]; unfold justB; rw [q, if_neg (by omega), decide_eq_false hfin]
            rw [a1, a2]
        have AL := Lib.hid ansL
        have AH := Lib.hid ansH
        have HN := Lib.hid hN
        have zl : (lo : Int) < 31744 := by omega
        have zh : decide ((hi : Int) < 31744) = decide (hi < 31744) := by rw [decide_eq_decide]; omega
        have ZH := Lib.hid zh
        have o2 : lo % 2 < 2 := by omega
        clear s1 s2 hA hL hH hH' hlo hhi hfin g ansL ansH hN H3 H4 zh ehi
        generalize vlW lo = vl at *
        generalize vlW hi = vh at *
        generalize hpl : decide (hvM lo = rv r) = pl at *
        generalize hph : decide (hvM (lo + 1) = rv r) = ph at *
        generalize hd1 : decide (hvM (lo + 1) - rv r < rv r - hvM lo) = b1 at *
        generalize hd2 : decide (hvM (lo + 1) - rv r = rv r - hvM lo) = b2 at *
        have N1 := Lib.hid (show (b1 = true ∨ (b2 = true ∧ lo % 2 = 1)) → nhR r = lo + 1 from fun q => by
          rw [HN.out, if_pos]
          rcases q with q | ⟨q, q'⟩
          · exact .inl (of_decide_eq_true (hd1.trans q))
          · exact .inr ⟨of_decide_eq_true (hd2.trans q), q'⟩)
        have N2 := Lib.hid (show b1 = false → (b2 = false ∨ lo % 2 = 0) → nhR r = lo from fun q q' => by
          rw [HN.out, if_neg]
          have d1 := of_decide_eq_false (hd1.trans q)
          rintro (d | ⟨d, d'⟩)
          · exact d1 d
          · rcases q' with q' | q'
            · exact of_decide_eq_false (hd2.trans q') d
            · omega)
        clear hpl hph hd1 hd2 HN HJ HK
        generalize lo % 2 = o at *
        generalize (hi : Int) = hI at *
        generalize (lo : Int) = lI at *
        cases b1
        · cases b2
          · have R := Lib.hid (AL.out (N2.out rfl (.inl rfl)))
            clear AL AH N1 N2
            go_wp2_with (first
              | (go_at_call 63; (with_reducible refine (VL.out _).mono ?_); rintro en w' ⟨rfl, rfl⟩)
              | (go_at_call 63; (with_reducible refine (VH.out _).mono ?_); rintro en w' ⟨rfl, rfl⟩))
            go_ret2
            exact ⟨R.out, rfl⟩
          · rcases (show o = 0 ∨ o = 1 by omega) with rfl | rfl
            · have R := Lib.hid (AL.out (N2.out rfl (.inr rfl)))
              clear AL AH N1 N2
              go_wp2_with (first
                | (go_at_call 63; (with_reducible refine (VL.out _).mono ?_); rintro en w' ⟨rfl, rfl⟩)
                | (go_at_call 63; (with_reducible refine (VH.out _).mono ?_); rintro en w' ⟨rfl, rfl⟩))
              go_ret2
              exact ⟨R.out, rfl⟩
            · have R := Lib.hid (AH.out (N1.out (.inr ⟨rfl, rfl⟩)))
              clear AL AH N1 N2
              by_cases z : hi < 31744
              · have zi : hI < 31744 := by have := ZH.out; rw [decide_eq_true z] at this; exact of_decide_eq_true this
                have R2 := Lib.hid (R.out.1 z)
                clear R z
                go_wp2_with (first
                  | (go_at_call 63; (with_reducible refine (VL.out _).mono ?_); rintro en w' ⟨rfl, rfl⟩)
                  | (go_at_call 63; (with_reducible refine (VH.out _).mono ?_); rintro en w' ⟨rfl, rfl⟩))
                go_ret2
                exact ⟨R2.out, rfl⟩
              · have zi : ¬ (hI < 31744) := by have := ZH.out; rw [decide_eq_false z] at this; exact of_decide_eq_false this
                have R2 := Lib.hid (R.out.2 z)
                clear R z
                go_wp2_with (first
                  | (go_at_call 63; (with_reducible refine (VL.out _).mono ?_); rintro en w' ⟨rfl, rfl⟩)
                  | (go_at_call 63; (with_reducible refine (VH.out _).mono ?_); rintro en w' ⟨rfl, rfl⟩))
                go_ret2
                exact ⟨R2.out, rfl⟩
        · have R := Lib.hid (AH.out (N1.out (.inl rfl)))
          clear AL AH N1 N2
          by_cases z : hi < 31744
          · have zi : hI < 31744 := by have := ZH.out; rw [decide_eq_true z] at this; exact of_decide_eq_true this
            have R2 := Lib.hid (R.out.1 z)
            clear R z
            go_wp2_with (first
              | (go_at_call 63; (with_reducible refine (VL.out _).mono ?_); rintro en w' ⟨rfl, rfl⟩)
              | (go_at_call 63; (with_reducible refine (VH.out _).mono ?_); rintro en w' ⟨rfl, rfl⟩))
            go_ret2
            exact ⟨R2.out, rfl⟩
          · have zi : ¬ (hI < 31744) := by have := ZH.out; rw [decide_eq_false z] at this; exact of_decide_eq_false this
            have R2 := Lib.hid (R.out.2 z)
            clear R z
            go_wp2_with (first
              | (go_at_call 63; (with_reducible refine (VL.out _).mono ?_); rintro en w' ⟨rfl, rfl⟩)
              | (go_at_call 63; (with_reducible refine (VH.out _).mono ?_); rintro en w' ⟨rfl, rfl⟩))
            go_ret2
            exact ⟨R2.out, rfl⟩
end Go.Proofs.Ytkcehbnmcdppkaa

/- Contracts: Half of any single; halves and shorts of NaNs; Whole and WholeOf, Long and LongOf alike. -/
namespace Go.Proofs.Ytkcehbnmcdppkaa
open Go.RowKit Fl
set_option linter.unusedVariables false

theorem nhR_le (r : Nat) (hr : r ≤ 2139095040) : nhR r ≤ 31744 := by
  unfold nhR
  split
  · exact Nat.le_refl _
  · split
    · rename_i h; have := (small_sum h).2; omega
    · unfold nrH; omega

set_option maxHeartbeats 1000000 in
set_option maxRecDepth 100000 in
theorem half_gen {s : Bool} {r : Nat} (hr : r ≤ 2139095040) (y : Nat) (hy : ∀ w, Calls Try.prog 61 #[.int .i64 ((nhW s r : Nat) : Int)] w fun e w' => e = .returned (.float .f32 y) ∧ w = w') (b : Bool) (hb : (FloatKind.f32.format.order y (sw s r) == some .eq) = b) (w : World) :
    Calls Try.prog 9 #[.float .f32 (sw s r)] w fun e w' => e = .returned (.tuple #[.int .i64 ((nhW s r : Nat) : Int), .bool b]) ∧ w = w' := by
  have NH := Lib.hid (fun w => nearestHalf_any (s := s) hr w)
  have OH := Lib.hid hy
  clear hy
  generalize nhW s r = k at *
  generalize sw s r = x at *
  clear hr
  cases b
  all_goals
    go_enter Try.func9, Try.ntmps9
    go_wp2_with (first
      | (go_at_call 60; (with_reducible refine (NH.out _).mono ?_); rintro e w' ⟨rfl, rfl⟩)
      | (go_at_call 61; (with_reducible refine (OH.out _).mono ?_); rintro e w' ⟨rfl, rfl⟩))
    go_ret2
    exact ⟨rfl, rfl⟩
theorem half_full {s : Bool} {r : Nat} (hr : r ≤ 2139095040) (w : World) :
    Calls Try.prog 9 #[.float .f32 (sw s r)] w fun e w' => e = .returned (.tuple #[.int .i64 ((nhW s r : Nat) : Int), .bool (justB r)]) ∧ w = w' := by
  have hle := nhR_le r hr
  by_cases c : nhR r < 31744
  · have hfin : r < 2139095040 := by
      rcases Nat.lt_or_eq_of_le hr with h | h
      · exact h
      · exfalso; rw [h] at c; unfold nhR at c; rw [if_pos (by omega)] at c; omega
    obtain ⟨-, w2, w3⟩ := whole_word c
    have e := vS_pos w2
    rw [w3] at e
    have e2 : rv (whW (nhR r)) = hvM (nhR r) := by have := Option.some.inj e; omega
    refine half_gen hr _ (fun w => ofHalf_any (s := s) (q := nhR r) c (n := ((nhW s r : Nat) : Int)) rfl w) _ ?_ w
    unfold justB
    rw [if_pos c, f32f, eql_val (vS_sw w2) (vS_sw hfin), e2, decide_eq_decide]
    cases s <;> simp <;> omega
  · have hq : nhR r = 31744 := by omega
    refine half_gen hr _ (fun w => ofHalf_inf (s := s) (m := 0) (by omega) (n := ((nhW s r : Nat) : Int)) (by unfold nhW; rw [hq]) w) _ ?_ w
    unfold justB
    rw [if_neg c, f32f]
    have hi : Ieee.single.read (sw s (2139095040 + 0 * 8192)) = .infinity s := by cases s <;> decide
    rcases Nat.lt_or_eq_of_le hr with h | h
    · rw [order_inf hi (vS_sw h), decide_eq_false (by omega)]
      cases s <;> rfl
    · rw [h]
      have := order_self (sw_sg (s := s) (show 2139095040 ≤ 2139095040 by omega))
      rw [show (2139095040 + 0 * 8192 : Nat) = 2139095040 by omega, this]
      rfl

theorem order_nan {x y : Nat} (h : ∃ s t, Ieee.single.read x = .nan s t) : FloatKind.f32.format.order x y = none := by
  obtain ⟨s, t, h⟩ := h
  show Ieee.Datum.order (Ieee.single.read x) (Ieee.single.read y) = none
  rw [h]; rfl
theorem order_nan2 {x y : Nat} (h : ∃ s t, Ieee.single.read y = .nan s t) : FloatKind.f32.format.order x y = none := by
  obtain ⟨s, t, h⟩ := h
  show Ieee.Datum.order (Ieee.single.read x) (Ieee.single.read y) = none
  rw [h]
  cases Ieee.single.read x <;> rfl
/-- What the machine chooses as the greater of two where one is a NaN. -/
def mxD (x y : Nat) (w : World) : Nat := Question.cut (.nanMinMax .f32 true x y) (w.tape w.drawn (.nanMinMax .f32 true x y))
theorem max_nan {x y : Nat} (h : FloatKind.f32.format.order x y = none) (ts : Array TypeId) (t : TypeId) (w : World) : (Builtin.max_ ts t #[.float .f32 x, .float .f32 y]).run Try.prog w = .ok (.float .f32 (mxD x y w)) w.drew := by
  show (([Value.float .f32 y]).foldlM Builtin.max2 (Value.float .f32 x)).run Try.prog w = _
  have hf : Question.forced (.nanMinMax .f32 true x y) = false := rfl
  simp only [List.foldlM]
  unfold Builtin.max2
  simp [h, hf]
  rfl

set_option maxHeartbeats 1000000 in
theorem magn_nan {x : Nat} (h : ∃ s t, Ieee.single.read x = .nan s t) (w : World) : Calls Try.prog 125 #[.float .f32 x] w fun e w' => (∃ y, e = .returned (.float .f32 y)) ∧ w' = w.drew := by
  have ng := fun w => run_negS w x
  have mx := fun ts t w => max_nan (order_nan (y := negW x) h) ts t w
  clear h
  generalize negW x = y at *
  go_enter Try.func125, Try.ntmps125
  go_wp2
  go_ret
  exact ⟨⟨_, rfl⟩, rfl⟩

theorem nan_self (x : Nat) (w : World) : (FloatKind.f64.format.order (nanD x w) (nanD x w) == some .eq) = false := by
  obtain ⟨s, k, h1, h2, h3, h4⟩ := nanD_form x w
  have r : ∃ s' , Ieee.double.read (nanD x w) = .nan s' k := by
    rw [h4]
    unfold Ieee.Format.read
    rw [swD, bnD, infD]
    have e2 : (2047 : Nat) * b52 = 9218868437227405312 := rfl
    have e3 : b52 = 4503599627370496 := rfl
    rw [e2, e3]
    have a2 : (s * 9223372036854775808 + (9218868437227405312 + k)) % 9223372036854775808 = 9218868437227405312 + k := by omega
    simp only [a2]
    rw [if_neg (by omega), if_neg (by omega), if_neg (by omega)]
    have a3 : 9218868437227405312 + k - 9218868437227405312 = k := by omega
    rw [a3]
    exact ⟨_, rfl⟩
  obtain ⟨s', r⟩ := r
  show (Ieee.Datum.order (Ieee.double.read (nanD x w)) (Ieee.double.read (nanD x w)) == some .eq) = false
  rw [r]; rfl

set_option maxHeartbeats 1000000 in
set_option maxRecDepth 100000 in
theorem nearestHalf_nan {x : Nat} (h : ∃ s t, Ieee.single.read x = .nan s t) (w : World) : Calls Try.prog 60 #[.float .f32 x] w fun e w' => e = .returned (.int .i64 32256) ∧ w' = w.drew.drew := by
  have MG := Lib.hid (fun w => magn_nan h w)
  have CN := fun W => conv_nan h W
  have IN := Lib.hid (fun W w => isNaN_any (nanD x W) false (nan_self x W) w)
  clear h
  go_enter Try.func60, Try.ntmps60
  go_wp2_with (first
    | (go_at_call 125; (with_reducible refine (MG.out _).mono ?_); rintro e w' ⟨⟨y, rfl⟩, rfl⟩)
    | (go_at_call 70; (with_reducible refine (IN.out _ _).mono ?_); rintro e w' ⟨rfl, rfl⟩))
  go_ret
  exact ⟨rfl, rfl⟩
set_option maxHeartbeats 1000000 in
set_option maxRecDepth 100000 in
theorem half_nan {x : Nat} (h : ∃ s t, Ieee.single.read x = .nan s t) (w : World) : Calls Try.prog 9 #[.float .f32 x] w fun e w' => e = .returned (.tuple #[.int .i64 32256, .bool false]) ∧ Below w.heap.size w w' := by
  have NH := Lib.hid (fun w => nearestHalf_nan h w)
  have OH := Lib.hid (fun w => ofHalf_inf (s := false) (m := 512) (by omega) (n := 32256) (by decide) w)
  have ho : (FloatKind.f32.format.order (sw false (2139095040 + 512 * 8192)) x == some .eq) = false := by rw [order_nan2 h]; rfl
  clear h
  generalize sw false (2139095040 + 512 * 8192) = y at *
  go_enter Try.func9, Try.ntmps9
  go_wp2_with (first
    | (go_at_call 60; (with_reducible refine (NH.out _).mono ?_); rintro e w' ⟨rfl, rfl⟩)
    | (go_at_call 61; (with_reducible refine (OH.out _).mono ?_); rintro e w' ⟨rfl, rfl⟩))
  go_ret2
  exact ⟨rfl, (Below.refl _ _).drew.drew⟩
set_option maxHeartbeats 1000000 in
set_option maxRecDepth 100000 in
theorem short_nan {x : Nat} (h : ∃ s t, Ieee.single.read x = .nan s t) (w : World) : Calls Try.prog 16 #[.float .f32 x] w fun e w' => e = .returned (.int .i64 32704) ∧ Below w.heap.size w w' := by
  have CN := fun W => conv_nan h W
  have IN := Lib.hid (fun W w => isNaN_any (nanD x W) false (nan_self x W) w)
  clear h
  go_enter Try.func16, Try.ntmps16
  go_wp2_with (go_at_call 70; (with_reducible refine (IN.out _ _).mono ?_); rintro e w' ⟨rfl, rfl⟩)
  go_ret
  exact ⟨rfl, (Below.refl _ _).drew⟩
set_option maxHeartbeats 1000000 in
theorem halfOf_nan {x : Nat} (h : ∃ s t, Ieee.single.read x = .nan s t) (w : World) : Calls Try.prog 10 #[.float .f32 x] w fun e w' => e = .returned (.tuple #[.int .i64 32256, .bool false]) ∧ w = w' := by
  have hne : (FloatKind.f32.format.order x x != some .eq) = true := by rw [order_nan h]; rfl
  clear h
  go_enter Try.func10, Try.ntmps10
  go_wp2
  go_ret2
  exact ⟨rfl, rfl⟩

theorem whole_ex (n : Int) : ∃ (y : Nat) (e : Int), (∀ w, Calls Try.prog 11 #[.int .i64 n] w fun en w' => en = .returned (.tuple #[.float .f32 y, .int .i64 e]) ∧ w = w') ∧ (∀ w, Calls Try.prog 13 #[.int .i64 n] w fun en w' => en = .returned (.tuple #[.float .f32 y, .int .i64 e]) ∧ w = w') := by
  cases hn : withinB n 0 65535 with
  | false => exact ⟨0, 3, fun w => whole_far n hn w, fun w => wholeOf_far n hn w⟩
  | true =>
    obtain ⟨n0, n1⟩ := withinB_iff.1 hn
    obtain ⟨s, q, hq, e⟩ := half_form n0 (show n < 65536 by omega)
    have hk : s.toNat * 32768 + q < 65536 := by cases s <;> simp <;> omega
    by_cases c : q < 31744
    · refine ⟨sw s (whW q), 0, fun w => whole_ok c e w, fun w => ?_⟩
      have := wholeOf_ok (s := s) c (s.toNat * 32768 + q) rfl w
      rwa [← e] at this
    · obtain ⟨m, rfl⟩ : ∃ m, q = 31744 + m := ⟨q - 31744, by omega⟩
      refine ⟨0, 2, fun w => whole_inf (by omega) e w, fun w => ?_⟩
      have := wholeOf_inf (n := s.toNat * 32768 + (31744 + m)) hk (by cases s <;> simp <;> omega) w
      rwa [← e] at this
theorem long_ex (n : Int) : ∃ (y : Nat) (e : Int), (∀ w, Calls Try.prog 12 #[.int .i64 n] w fun en w' => en = .returned (.tuple #[.float .f32 y, .int .i64 e]) ∧ w = w') ∧ (∀ w, Calls Try.prog 14 #[.int .i64 n] w fun en w' => en = .returned (.tuple #[.float .f32 y, .int .i64 e]) ∧ w = w') := by
  cases hn : withinB n 0 65535 with
  | false => exact ⟨0, 3, fun w => long_far n hn w, fun w => longOf_far n hn w⟩
  | true =>
    obtain ⟨n0, n1⟩ := withinB_iff.1 hn
    obtain ⟨s, q, hq, e⟩ := half_form n0 (show n < 65536 by omega)
    have hk : s.toNat * 32768 + q < 65536 := by cases s <;> simp <;> omega
    obtain ⟨k, hk2⟩ : ∃ k, k = s.toNat * 32768 + q := ⟨_, rfl⟩
    have hz : k * 65536 = sw s (q * 65536) := by rw [hk2]; exact short_word
    have hm : k % 32768 = q := by rw [hk2]; cases s <;> simp <;> omega
    rw [← hk2] at hk e
    subst e
    have hw : wiE (k * 65536) 4286578687 2139095039 = if 32640 ≤ k % 32768 then 2 else 0 := by
      rw [hz, hm]
      by_cases c : 32640 ≤ q
      · rw [if_pos c]; exact wi_inf (by omega) (by omega)
      · rw [if_neg c]; exact wi_fin (by omega)
    exact ⟨_, _, fun w => long_any hk _ hw w, fun w => longOf_in hk _ rfl w⟩
end Go.Proofs.Ytkcehbnmcdppkaa

/- Bytes that are appended to a list of one's own; contract: appendBytes. -/
namespace Go.Proofs.Ytkcehbnmcdppkaa
open Go.RowKit Fl
set_option linter.unusedVariables false

/-- Bytes, as cells. -/
def btL (L : List Int) : List Value := L.map (Value.int .u8)
theorem btL_len (L : List Int) : (btL L).length = L.length := by simp [btL]
theorem btL_app (L M : List Int) : btL (L ++ M) = btL L ++ btL M := by simp [btL]

theorem grownBy_on {w w1 w2 : World} {o : Option Nat} {g : Nat} (h : w.grownBy w1 o) (ho : o = some g ∨ w.heap.size ≤ g) (h2 : w1.grownBy w2 (some g)) : w.grownBy w2 o := by
  refine ⟨h2.os.trans h.os, h2.tape.trans h.tape, h2.output.trans h.output, Nat.le_trans h.size h2.size, fun i hi hne => ?_⟩
  rw [h2.block i (Nat.lt_of_lt_of_le hi h.size) ?_]
  · exact h.block i hi hne
  · rcases ho with rfl | hg
    · exact hne
    · intro c; have := Option.some.inj c; omega
theorem grownBy_below {w w1 w2 : World} {o : Option Nat} (h : w.grownBy w1 o) (h2 : Below w1.heap.size w1 w2) : w.grownBy w2 o :=
  ⟨h2.os.trans h.os, h2.tape.trans h.tape, h2.output.trans h.output, Nat.le_trans h.size h2.size, fun i hi hne => (h2.block i (Nat.lt_of_lt_of_le hi h.size)).trans (h.block i hi hne)⟩

/-- A list of bytes of one's own (from the block base on), since the world w0, in which it began as o0. -/
structure BtAt (w0 : World) (base : Nat) (o0 : Option Nat) (L : List Int) (ov : Value) (wr : World) : Prop where
  own : wr.ownsRow base 5 1 ov L.length (btL L)
  gr : w0.grownBy wr o0
  seat : ov.ownBlock = o0 ∨ ∃ g, ov.ownBlock = some g ∧ w0.heap.size ≤ g
  size : base ≤ wr.heap.size

theorem BtAt.push {w0 wr w5 w6 : World} {base g' cap' x : Nat} {o0 : Option Nat} {L : List Int} {ov : Value} {o : Obj} {B : List Int} (h : BtAt w0 base o0 L ov wr) (h5 : Below wr.heap.size wr w5)
    (hgrow : (w5.alloc o).grownBy w6 ov.ownBlock) (hat : ov.ownBlock = some g' ∨ g' = x) (hx : w5.heap.size ≤ x) (hown : w6.ownsRow base 5 1 (.slice (some ⟨g', 0, none⟩) (L.length + B.length) cap') (L.length + B.length) (btL L ++ btL B)) :
    BtAt w0 base o0 (L ++ B) (.slice (some ⟨g', 0, none⟩) (L.length + B.length) cap') w6 := by
  have g5 : w0.grownBy (w5.alloc o) o0 := grownBy_below (grownBy_below h.gr h5) (((Below.refl _ _).alloc (Nat.le_refl _) _))
  have s5 : wr.heap.size ≤ w5.heap.size := h5.size
  refine ⟨?_, ?_, ?_, ?_⟩
  · rw [List.length_append, btL_app]; exact hown
  · cases hv : ov.ownBlock with
    | none =>
      rw [hv] at hgrow
      exact ⟨hgrow.os.trans g5.os, hgrow.tape.trans g5.tape, hgrow.output.trans g5.output, Nat.le_trans g5.size hgrow.size, fun i hi hne => (hgrow.block i (Nat.lt_of_lt_of_le hi g5.size) (by simp)).trans (g5.block i hi hne)⟩
    | some g =>
      rw [hv] at hgrow
      refine grownBy_on g5 ?_ hgrow
      rcases h.seat with e | ⟨q, e, hq⟩
      · exact .inl (e.symm.trans hv)
      · rw [hv] at e; have := Option.some.inj e; exact .inr (by omega)
  · rcases hat with e | e
    · rcases h.seat with s | ⟨q, s, hq⟩
      · exact .inl (by rw [← s, e]; rfl)
      · exact .inr ⟨g', rfl, by rw [e] at s; have := Option.some.inj s; omega⟩
    · exact .inr ⟨g', rfl, by have := h.gr.size; omega⟩
  · have := hgrow.size
    rw [heap_size_alloc] at this
    have := h.size
    omega

/-- The lowest bytes of a number, the highest of them first. -/
def byteL (n : Nat) : Nat → List Int
  | 0 => []
  | k + 1 => ((n / 256 ^ k % 256 : Nat) : Int) :: byteL n k
theorem byteL_len (n : Nat) : ∀ k, (byteL n k).length = k
  | 0 => rfl
  | k + 1 => by simp [byteL, byteL_len n k]

theorem byte_eq (n k : Nat) : ((n / 256 ^ k % 256 : Nat) : Int) = (n : Int) / 2 ^ (8 * k) % 256 := by
  rw [Int.natCast_emod, Int.natCast_ediv, Int.natCast_pow, Int.pow_mul]
  rfl

set_option maxHeartbeats 1000000 in
set_option maxRecDepth 100000 in
theorem appendBytes_any (w0 : World) (base : Nat) (o0 : Option Nat) (L : List Int) (ov : Value) (n m : Nat) (w : World) (h : BtAt w0 base o0 L ov w) (hn : n < 4294967296) (hm : m ≤ 4) (hL : L.length ≤ 1073741824) :
    Calls Try.prog 130 #[ov, .int .u32 n, .int .i64 m] w fun e w' => ∃ ov', e = .returned ov' ∧ BtAt w0 base o0 (L ++ byteL n m) ov' w' := by
  have HB := Lib.hid h
  have hinfo : (Try.prog.info? 5).map (fun i => (i.zero, i.size, i.bytes)) = some (some (.int .u8 0), 1, 1) := by kernel_rfl
  obtain ⟨ti, hi, hz0, hz1, hz2⟩ := info_parts hinfo
  have HTI := Lib.hid hi
  have HL := Lib.hid hL
  clear h hinfo hi hL
  go_enter Try.func130, Try.ntmps130
  go_wp2
  go_loopw [0, 2] (fun t c wr => ∃ (k : Nat) (P : List Int), k ≤ m ∧ c = .int .i64 k ∧ P.length + k = m ∧ P ++ byteL n k = byteL n m ∧ BtAt w0 base o0 (L ++ P) t wr) (fun _ c _ => (intOf c).toNat)
  case atStart => exact ⟨m, [], Nat.le_refl _, rfl, by simp, rfl, by rw [List.append_nil]; exact HB.out⟩
  case round =>
    obtain ⟨k, P, hk, rfl, hP, hPe, hA⟩ := hrel
    have HA := Lib.hid hA
    have HPE := Lib.hid hPe
    have HPL := Lib.hid hP
    clear hA hPe hP
    cases k with
    | zero =>
      go_wp2
      go_ret
      refine ⟨_, rfl, ?_⟩
      have e := HPE.out
      rw [show byteL n 0 = [] from rfl, List.append_nil] at e
      rw [← e]
      exact HA.out
    | succ k =>
      have hi := HTI.out
      have HKE := Lib.hid (byte_eq n k)
      have HLT := Lib.hid (show (L ++ P).length + 1 ≤ 1073741840 by have := HL.out; have := HPL.out; simp; omega)
      go_wp2_with (at_builtin; go_loud (refine wpList_append_lies _ rfl _ _ _ rfl base 5 ti _ 1 1 Try.underlying153 hi hz0 hz1 hz2 rfl (by omega) u0 (L ++ P).length (btL (L ++ P)) (by rfl) (HA.out.own.alloc _) ⟨wr.heap.size, 0, none⟩ 1 1 [.int .u8 ((n : Int) / 2 ^ (8 * k) % 256)] (by rfl) (by rfl) (World.news_of_block (cs := #[.int .u8 ((n : Int) / 2 ^ (8 * k) % 256)]) (t := 5) (fr := (0, 0)) (heap_alloc_new wr _)) (by simp [Value.oneCell']) (by omega) (by have := HLT.out; unfold maxLen; omega) (by have := HLT.out; omega) (by have := HA.out.size; simp; omega) (wr.heap.size + 1) (by simp) ?_; intro g' cap' w6 hown6 hgrow hat hlt6; have HN6 := Lib.hid (BtAt.push (B := [(n : Int) / 2 ^ (8 * k) % 256]) HA.out (Below.refl _ _) hgrow hat (Nat.le_succ _) hown6); clear hown6 hgrow hat hlt6))
      go_roundw
      case rel =>
        refine ⟨k, P ++ [(n : Int) / 2 ^ (8 * k) % 256], by omega, rfl, by have := HPL.out; simp; omega, ?_, by rw [← List.append_assoc, ← List.length_append]; exact HN6.out⟩
        rw [List.append_assoc, ← HPE.out]
        show _ = P ++ (((n / 256 ^ k % 256 : Nat) : Int) :: byteL n k)
        rw [HKE.out]; rfl
      case measure => simp [intOf]
end Go.Proofs.Ytkcehbnmcdppkaa

/- Contract: layouts: what stands in the map for whole singles. -/
namespace Go.Proofs.Ytkcehbnmcdppkaa
open Go.RowKit Fl Go.Maps Go.ChangeMaps
set_option linter.unusedVariables false

abbrev fnV (n : Nat) : Value := .func (.func n) #[] #[]
abbrev pt (b : Nat) : Value := .pointer (some ⟨b, 0, none⟩)

theorem run_store_func {P : Program} {w : World} {a : Addr} {m : Mode} (f : Fn) (x y : Array Value) : (store a (.func f x y) m).run P w = stored P w a (.func f x y) m := run_store P w a _ m rfl

theorem keyLaw : Keyed Try.prog 3 := int_keyed Try.underlying3

theorem ins_any (w : World) (mb : Nat) (es : Array MapEntry) (cl : Nat) (n : Int) (v : Value) (hb : w.heap[mb]? = some (.map es cl)) (hn : (Lit.int .i64 n).wf = true) (hk : ∀ x ∈ es.toList, ∃ m, x.key = .int .i64 m ∧ (Lit.int .i64 m).wf = true ∧ m ≠ n) :
    ∃ w', (Instr.mapUpdate 151 (.map (some mb)) (.int .i64 n) v).run Try.prog w = .ok () w' ∧ w'.heap[mb]? = some (.map (es.push ⟨.int .i64 n, v, cl⟩) (cl + 1)) ∧ w.grownBy w' (some mb) := by
  have hkey := keyOf_int_mk (P := Try.prog) Try.underlying3 hn
  rcases keyLaw.find w hkey es.toList (fun x hx => by obtain ⟨m, e, h, _⟩ := hk x hx; exact ⟨_, by rw [e]; exact keyOf_int_mk Try.underlying3 h⟩) with ⟨h1, h2⟩ | ⟨j, e0, h1, h2, h3⟩
  · refine ⟨_, ?_, heap_setBlock_same hb _, ⟨rfl, rfl, rfl, by simp [setBlock], fun i _ hi => heap_setBlock_other hb _ (fun e => hi (by rw [e]))⟩⟩
    simp [Instr.mapUpdate, run_underlying Try.underlying151, MapKept.run_getObj_map hb, keyLaw.check w false hkey, h1, MapKept.run_setObj_map _ hb, Result.andThen, setBlock]
  · obtain ⟨m, e, _, hne⟩ := hk e0 (List.mem_of_getElem? h2)
    rw [e] at h3
    injection h3 with _ q
    exact absurd q hne

theorem look_any (w : World) (mb : Nat) (es : Array MapEntry) (cl : Nat) (n : Int) (e0 : MapEntry) (hb : w.heap[mb]? = some (.map es cl)) (hn : (Lit.int .i64 n).wf = true) (hk : ∀ x ∈ es.toList, ∃ m, x.key = .int .i64 m ∧ (Lit.int .i64 m).wf = true)
    (h0 : e0 ∈ es.toList) (hk0 : e0.key = .int .i64 n) (hu : ∀ x ∈ es.toList, x.key = .int .i64 n → x = e0) :
    (Instr.lookup 151 (.map (some mb)) (.int .i64 n) true).run Try.prog w = .ok (.tuple #[e0.val, .bool true]) w := by
  have hkey := keyOf_int_mk (P := Try.prog) Try.underlying3 hn
  rcases keyLaw.find w hkey es.toList (fun x hx => by obtain ⟨m, e, h⟩ := hk x hx; exact ⟨_, by rw [e]; exact keyOf_int_mk Try.underlying3 h⟩) with ⟨h1, h2⟩ | ⟨j, e1, h1, h2, h3⟩
  · exact absurd hk0 (h2 e0 h0)
  · obtain rfl := hu e1 (List.mem_of_getElem? h2) h3
    simp [Instr.lookup, run_underlying Try.underlying151, MapKept.run_getObj_map hb, keyLaw.check w _ hkey, h1, Result.andThen]

/-- A layout of codes. -/
structure CodV (w : World) (c : Int) (f g : Nat) (V : Value) (p q r : Nat) : Prop where
  val : V = .agg #[.bool false, .func (.func 178) #[] #[pt p, pt q, pt r], .func (.func 179) #[] #[pt p, pt r]]
  h1 : w.heap[p]? = some (.cells #[.int .i64 c] 3)
  h2 : w.heap[q]? = some (.cells #[fnV f] 29)
  h3 : w.heap[r]? = some (.cells #[fnV g] 94)
theorem CodV.stay {w w' : World} {c : Int} {f g : Nat} {V : Value} {p q r : Nat} (h : CodV w c f g V p q r) (hb : Below w.heap.size w w') : CodV w' c f g V p q r :=
  ⟨h.val, blkStay h.h1 hb, blkStay h.h2 hb, blkStay h.h3 hb⟩
theorem CodV.grown {w w' : World} {c : Int} {f g : Nat} {V : Value} {p q r m : Nat} (h : CodV w c f g V p q r) (hg : w.grownBy w' (some m)) (hp : p ≠ m) (hq : q ≠ m) (hr : r ≠ m) : CodV w' c f g V p q r := by
  have st : ∀ {b : Nat} {o : Obj}, w.heap[b]? = some o → b ≠ m → w'.heap[b]? = some o := fun {b o} hb hne => by
    rw [hg.block b ?_ (by simpa using hne)]; · exact hb
    rcases Nat.lt_or_ge b w.heap.size with l | l
    · exact l
    · rw [Array.getElem?_eq_none l] at hb; cases hb
  exact ⟨h.val, st h.h1 hp, st h.h2 hq, st h.h3 hr⟩

set_option maxHeartbeats 1000000 in
theorem byCodes_any (c : Int) (f g : Nat) (w : World) : Calls Try.prog 162 #[.int .i64 c, fnV f, fnV g] w fun e w' => ∃ V p q r, e = .returned V ∧ CodV w' c f g V p q r ∧ w.heap.size ≤ p ∧ w.heap.size ≤ q ∧ w.heap.size ≤ r ∧ Below w.heap.size w w' := by
  have RS := fun (w : World) (a : Addr) (m : Mode) f x y => run_store_func (P := Try.prog) (w := w) (a := a) (m := m) f x y
  go_enter Try.func162, Try.ntmps162
  go_wp2
  refine bodyPost_ret (v := .agg #[.bool false, .func (.func 178) #[] #[pt w.heap.size, pt (w.heap.size + 1), pt (w.heap.size + 2)], .func (.func 179) #[] #[pt w.heap.size, pt (w.heap.size + 2)]]) (by simp [results, Try.results162, go_sem]) rfl ⟨_, w.heap.size, w.heap.size + 1, w.heap.size + 2, rfl, ⟨rfl, ?_, ?_, ?_⟩, Nat.le_refl _, by omega, by omega, (by repeat (first | exact Below.refl _ _ | refine Below.alloc ?_ (by first | omega | (simp; done) | (simp; omega)) _ | refine Below.setCell ?_ (by first | omega | (simp; done) | (simp; omega)) _ | refine Below.drew ?_))⟩
  all_goals (first | (rw [heap_alloc_get, if_pos rfl]; done) | ((simp only [heap_alloc_get, heap_size_alloc, if_true]) <;> ((repeat' split) <;> first | rfl | omega)))
set_option maxHeartbeats 1000000 in
theorem byLevels_any (f g : Nat) (w : World) : Calls Try.prog 165 #[fnV f, fnV g] w fun e w' => ∃ V, e = .returned V ∧ Below w.heap.size w w' := by
  have RS := fun (w : World) (a : Addr) (m : Mode) f x y => run_store_func (P := Try.prog) (w := w) (a := a) (m := m) f x y
  go_enter Try.func165, Try.ntmps165
  go_wp2
  refine bodyPost_ret (v := .agg #[.bool true, .func (.func 181) #[] #[pt w.heap.size], .func (.func 182) #[] #[pt (w.heap.size + 1)]]) (by simp [results, Try.results165, go_sem]) rfl ⟨_, rfl, (by repeat (first | exact Below.refl _ _ | refine Below.alloc ?_ (by first | omega | (simp; done) | (simp; omega)) _ | refine Below.setCell ?_ (by first | omega | (simp; done) | (simp; omega)) _ | refine Below.drew ?_))⟩

/-- What layouts answers: its map, with the layout of whole singles at 1. -/
def LayPost (w : World) (e : Ending) (w' : World) : Prop :=
  ∃ mb V p q r, e = .returned (.map (some mb)) ∧ CodV w' 4 163 164 V p q r ∧ w.heap.size ≤ p ∧ w.heap.size ≤ q ∧ w.heap.size ≤ r ∧ Below w.heap.size w w' ∧
    (Instr.lookup 151 (.map (some mb)) (.int .i64 1) true).run Try.prog w' = .ok (.tuple #[V, .bool true]) w'

theorem grownBy_far {w w' : World} {m B : Nat} (h : w.grownBy w' (some m)) (hm : B ≤ m) (hB : B ≤ w.heap.size) : Below B w w' :=
  ⟨h.os, h.tape, h.output, h.size, fun j hj => h.block j (by omega) (by intro c; have := Option.some.inj c; omega)⟩

/-- At the k-th entry. -/
structure LyAt (w0 : World) (es : Array MapEntry) (cl : Nat) (w : World) : Prop where
  map : w.heap[w0.heap.size]? = some (.map es cl)
  bel : Below w0.heap.size w0 w
theorem LyAt.call {w0 w w' : World} {es : Array MapEntry} {cl : Nat} (h : LyAt w0 es cl w) (hb : Below w.heap.size w w') : LyAt w0 es cl w' := ⟨blkStay h.map hb, h.bel.trans (hb.mono h.bel.size)⟩
theorem LyAt.ins {w0 w : World} {es : Array MapEntry} {cl : Nat} (h : LyAt w0 es cl w) (n : Int) (v : Value) (hn : (Lit.int .i64 n).wf = true) (hk : ∀ x ∈ es.toList, ∃ m, x.key = .int .i64 m ∧ (Lit.int .i64 m).wf = true ∧ m ≠ n) :
    ∃ w', (Instr.mapUpdate 151 (.map (some w0.heap.size)) (.int .i64 n) v).run Try.prog w = .ok () w' ∧ LyAt w0 (es.push ⟨.int .i64 n, v, cl⟩) (cl + 1) w' ∧ w.grownBy w' (some w0.heap.size) := by
  obtain ⟨w', h1, h2, h3⟩ := ins_any w _ es cl n v h.map hn hk
  exact ⟨w', h1, ⟨h2, h.bel.trans (grownBy_far h3 (Nat.le_refl _) h.bel.size)⟩, h3⟩

/-- .. and the layout of whole singles is there. -/
structure LcAt (w0 : World) (es : Array MapEntry) (cl : Nat) (V : Value) (p q r : Nat) (w : World) : Prop where
  ly : LyAt w0 es cl w
  cod : CodV w 4 163 164 V p q r
  hp : w0.heap.size < p
  hq : w0.heap.size < q
  hr : w0.heap.size < r
theorem LcAt.step {w0 w w' : World} {es : Array MapEntry} {cl : Nat} {V : Value} {p q r : Nat} (h : LcAt w0 es cl V p q r w) (hb : Below w.heap.size w w') (n : Int) (v : Value) (hn : (Lit.int .i64 n).wf = true) (hk : ∀ x ∈ es.toList, ∃ m, x.key = .int .i64 m ∧ (Lit.int .i64 m).wf = true ∧ m ≠ n) :
    ∃ w2, (Instr.mapUpdate 151 (.map (some w0.heap.size)) (.int .i64 n) v).run Try.prog w' = .ok () w2 ∧ LcAt w0 (es.push ⟨.int .i64 n, v, cl⟩) (cl + 1) V p q r w2 := by
  obtain ⟨w2, h1, h2, h3⟩ := (h.ly.call hb).ins n v hn hk
  have := h.hp
  have := h.hq
  have := h.hr
  exact ⟨w2, h1, h2, (h.cod.stay hb).grown h3 (by omega) (by omega) (by omega), h.hp, h.hq, h.hr⟩

theorem key_ne {n : Int} {l : List Int} (h : n ∉ l) {es : List MapEntry} (he : es.map (·.key) = l.map (Value.int .i64)) (hw : ∀ m ∈ l, (Lit.int .i64 m).wf = true) : ∀ x ∈ es, ∃ m, x.key = .int .i64 m ∧ (Lit.int .i64 m).wf = true ∧ m ≠ n := by
  intro x hx
  have : x.key ∈ es.map (·.key) := List.mem_map.2 ⟨x, hx, rfl⟩
  rw [he] at this
  obtain ⟨m, hm, e⟩ := List.mem_map.1 this
  exact ⟨m, e.symm, hw m hm, fun c => h (c ▸ hm)⟩

set_option maxHeartbeats 4000000 in
set_option maxRecDepth 100000 in
theorem layouts_any (w : World) : Calls Try.prog 128 #[] w (LayPost w) := by
  have BC := Lib.hid byCodes_any
  have BL := Lib.hid byLevels_any
  have hmm := @run_makeMap Try.prog
  have L0 := Lib.hid (show LyAt w #[] 0 (w.alloc (.map #[] 0)) from ⟨by (first | (rw [heap_alloc_get, if_pos rfl]; done) | ((simp only [heap_alloc_get, heap_size_alloc, if_true]) <;> ((repeat' split) <;> first | rfl | omega))), (by repeat (first | exact Below.refl _ _ | refine Below.alloc ?_ (by first | omega | (simp; done) | (simp; omega)) _ | refine Below.setCell ?_ (by first | omega | (simp; done) | (simp; omega)) _ | refine Below.drew ?_))⟩)
  have Z0 := Lib.hid (show w.heap.size < (w.alloc (.map #[] 0)).heap.size by rw [heap_size_alloc]; omega)
  go_enter Try.func128, Try.ntmps128
  go_wp2_with (first
    | (go_at_call 162; (with_reducible refine (BC.out 4 _ _ _).mono ?_); rintro e w1 ⟨V1, p, q, r, rfl, hc1, hp, hq, hr, hb1⟩; obtain ⟨w2, I1, L2, G2⟩ := (L0.out.call hb1).ins 1 V1 rfl (by simp); have L2 := Lib.hid (show LcAt w _ _ V1 p q r w2 from ⟨L2, hc1.grown G2 (by have := Z0.out; omega) (by have := Z0.out; omega) (by have := Z0.out; omega), (by have := Z0.out; omega), (by have := Z0.out; omega), (by have := Z0.out; omega)⟩); clear hc1 hp hq hr hb1 G2)
    | (go_at_call 162; (with_reducible refine (BC.out 2 60 _ _).mono ?_); rintro e w3 ⟨V2, _, _, _, rfl, _, _, _, _, hb1⟩; obtain ⟨w4, I2, L4⟩ := L2.out.step hb1 2 V2 rfl (key_ne (l := [1]) (by decide) rfl (by decide)); have L4 := Lib.hid L4; clear hb1)
    | (go_at_call 162; (with_reducible refine (BC.out 2 16 _ _).mono ?_); rintro e w5 ⟨V3, _, _, _, rfl, _, _, _, _, hb1⟩; obtain ⟨w6, I3, L6⟩ := L4.out.step hb1 3 V3 rfl (key_ne (l := [1, 2]) (by decide) rfl (by decide)); have L6 := Lib.hid L6; clear hb1)
    | (go_at_call 165; (with_reducible refine (BL.out 166 _ _).mono ?_); rintro e w7 ⟨V4, rfl, hb1⟩; obtain ⟨w8, I4, L8⟩ := L6.out.step hb1 4 V4 rfl (key_ne (l := [1, 2, 3]) (by decide) rfl (by decide)); have L8 := Lib.hid L8; clear hb1)
    | (go_at_call 165; (with_reducible refine (BL.out 168 _ _).mono ?_); rintro e w9 ⟨V5, rfl, hb1⟩; obtain ⟨w10, I5, L10⟩ := L8.out.step hb1 5 V5 rfl (key_ne (l := [1, 2, 3, 4]) (by decide) rfl (by decide)); have L10 := Lib.hid L10; clear hb1))
  go_ret
  refine ⟨_, V1, p, q, r, rfl, L10.out.cod, Nat.le_of_lt L10.out.hp, Nat.le_of_lt L10.out.hq, Nat.le_of_lt L10.out.hr, L10.out.ly.bel, ?_⟩
  refine look_any w10 _ _ _ 1 _ L10.out.ly.map rfl (fun x hx => ?_) (List.mem_cons_self) rfl (fun x hx he => ?_)
  · obtain ⟨m, e, h, _⟩ := key_ne (n := 0) (l := [1, 2, 3, 4, 5]) (by decide) rfl (by decide) x hx
    exact ⟨m, e, h⟩
  · have hx' : x ∈ [MapEntry.mk (.int .i64 1) V1 0, ⟨.int .i64 2, V2, 1⟩, ⟨.int .i64 3, V3, 2⟩, ⟨.int .i64 4, V4, 3⟩, ⟨.int .i64 5, V5, 4⟩] := hx
    simp only [List.mem_cons, List.not_mem_nil, or_false] at hx'
    rcases hx' with rfl | rfl | rfl | rfl | rfl
    · rfl
    all_goals simp at he
end Go.Proofs.Ytkcehbnmcdppkaa
