/- Lemmas and contracts for the proof that the last text of this claim holds. -/
import Derived.Test.YthemmpmjjdpdfaaCamJB
import Derived.Deep.AppendLies
import Derived.Deep.RegionLaw
import Derived.Maps.OwnOps
import Derived.Lib.SlBytesConst
import Derived.ArgAppend

/- Contracts: viewOf, CameraError, Frame. -/
namespace Go.Proofs.Ythemmpmjjdpdfaa
open Go.RowKit Fl
set_option linter.unusedVariables false

theorem run_neg32 (w : World) (b : Nat) : (Op.unary .neg (.float .f32 b)).run Try.prog w = .ok (.float .f32 (negW b)) w := rfl

theorem flAt_cam {w : World} {p : Nat} {c : Cam} (h : w.heap[p]? = some (.cells c.vs 27)) : FlAt w p 0 7 c.at := by
  intro i hi
  rw [Nat.zero_add, (blkC h).1 i]
  have : i = 0 ∨ i = 1 ∨ i = 2 ∨ i = 3 ∨ i = 4 ∨ i = 5 ∨ i = 6 := by omega
  rcases this with rfl | rfl | rfl | rfl | rfl | rfl | rfl <;> rfl
theorem cam_hgt {c : Cam} (h : fldE 7 c.at = 0) : hgtB c.x = true ∧ hgtB c.y = true ∧ hgtB c.h = true ∧ hgtB c.dx = true ∧ hgtB c.dy = true ∧ hgtB c.dh = true ∧ hgtB c.z = true := by
  have := allB_iff.1 (fldE_zero.1 h)
  exact ⟨this 0 (by omega), this 1 (by omega), this 2 (by omega), this 3 (by omega), this 4 (by omega), this 5 (by omega), this 6 (by omega)⟩

/-- Whether a length or a zoom is out of its range. -/
def camO (m z : Nat) : Bool := (FloatKind.f32.format.order m 981467136 == some .lt) || (FloatKind.f32.format.order z 981467136 == some .lt) || (FloatKind.f32.format.order z 1149239296 == some .gt)
/-- The error of a camera whose length has the word m. -/
def camE (c : Cam) (m : Nat) : Int := if fldE 7 c.at = 0 then (if camO m c.z = true then 3 else 0) else fldE 7 c.at

/-- What viewOf answers. -/
def ViwPost (w : World) (c : Cam) (er : Int) (fx fy ry e : Nat) (en : Ending) (w' : World) : Prop :=
  en = .returned (.tuple #[.agg #[.float .f32 c.x, .float .f32 c.y, .float .f32 c.h, .float .f32 c.dx, .float .f32 c.dy, .float .f32 c.dh, .float .f32 c.z, .float .f32 fx, .float .f32 fy, .float .f32 ry, .float .f32 fx, .float .f32 e], .int .i64 er]) ∧ Below w.heap.size w w'
abbrev zeroCam : Cam := ⟨0, 0, 0, 0, 0, 0, 0⟩

set_option maxHeartbeats 2000000 in
set_option maxRecDepth 100000 in
theorem viewOf_no1 (c : Cam) (er : Int) (he : fldE 7 c.at = er) (h1 : er ≠ 0) (w : World) :
    Calls Try.prog 144 #[.agg c.vs] w (ViwPost w zeroCam er 0 0 0 0) := by
  have CH := Lib.hid (fun p w (h : w.heap[p]? = some (.cells c.vs 27)) => CheckHeights_row p 0 7 7 c.at (by omega) w (flAt_cam h))
  rw [he] at CH
  have h2 : (er != 0) = true := by simpa using h1
  have RS := fun (w : World) (a : Addr) (m : Mode) k b => run_store_float (P := Try.prog) (w := w) (a := a) (m := m) k b
  clear he h1
  unfold ViwPost
  go_enter Try.func144, Try.ntmps144
  go_wp2_with (go_at_call 95; go_loud (refine (CH.out _ _ (by (first | (rw [heap_alloc_get, if_pos rfl]; done) | ((simp only [heap_alloc_get, heap_size_alloc, if_true]) <;> ((repeat' split) <;> first | rfl | omega))))).mono ?_; rintro e w' ⟨rfl, rfl⟩))
  refine bodyPost_ret (v := .tuple #[.agg #[.float .f32 0, .float .f32 0, .float .f32 0, .float .f32 0, .float .f32 0, .float .f32 0, .float .f32 0, .float .f32 0, .float .f32 0, .float .f32 0, .float .f32 0, .float .f32 0], .int .i64 er]) (by simp [results, Try.results144, go_sem]) rfl ⟨rfl, (by repeat (first | exact Below.refl _ _ | refine Below.alloc ?_ (by first | omega | (simp; done) | (simp; omega)) _ | refine Below.setCell ?_ (by first | omega | (simp; done) | (simp; omega)) _ | refine Below.drew ?_))⟩

set_option maxHeartbeats 2000000 in
set_option maxRecDepth 100000 in
theorem viewOf_no2 (c : Cam) (he : fldE 7 c.at = 0) {p q s X Z : Nat} {a k : Int} (L : LenAt c.dx c.dy p q s a X Z k) (h1 : camO (rootW s) c.z = true) (w : World) :
    Calls Try.prog 144 #[.agg c.vs] w (ViwPost w zeroCam 3 0 0 0 0) := by
  have CH := Lib.hid (fun p w (h : w.heap[p]? = some (.cells c.vs 27)) => CheckHeights_row p 0 7 7 c.at (by omega) w (flAt_cam h))
  rw [he] at CH
  have RT := Lib.hid (fun w => root_any L.rt w)
  have a1 := fun (W : World) => run_float_arith (P := Try.prog) W .mul 27 .f32 _ _ _ L.p1
  have a2 := fun (W : World) => run_float_arith (P := Try.prog) W .mul 27 .f32 _ _ _ L.q1
  have a3 := fun (W : World) => run_float_arith (P := Try.prog) W .add 27 .f32 _ _ _ L.s1
  have RS := fun (w : World) (a : Addr) (m : Mode) k b => run_store_float (P := Try.prog) (w := w) (a := a) (m := m) k b
  clear he L
  unfold ViwPost
  unfold camO at h1
  obtain ⟨cx, cy, ch, cdx, cdy, cdh, cz⟩ := c
  simp only at *
  generalize rootW s = m at *
  cases t1 : (FloatKind.f32.format.order m 981467136 == some .lt) <;> cases t2 : (FloatKind.f32.format.order cz 981467136 == some .lt) <;> cases t3 : (FloatKind.f32.format.order cz 1149239296 == some .gt)
  · rw [t1, t2, t3] at h1; cases h1
  all_goals
    clear h1
    go_enter Try.func144, Try.ntmps144
    go_wp2_with (first | (go_at_call 95; go_loud (refine (CH.out _ _ (by (first | (rw [heap_alloc_get, if_pos rfl]; done) | ((simp only [heap_alloc_get, heap_size_alloc, if_true]) <;> ((repeat' split) <;> first | rfl | omega))))).mono ?_; rintro e w' ⟨rfl, rfl⟩)) | (go_at_call 177; (with_reducible refine (RT.out _).mono ?_); rintro e w' ⟨rfl, rfl⟩))
    refine bodyPost_ret (v := .tuple #[.agg #[.float .f32 0, .float .f32 0, .float .f32 0, .float .f32 0, .float .f32 0, .float .f32 0, .float .f32 0, .float .f32 0, .float .f32 0, .float .f32 0, .float .f32 0, .float .f32 0], .int .i64 3]) (by simp [results, Try.results144, go_sem]) rfl ⟨rfl, (by repeat (first | exact Below.refl _ _ | refine Below.alloc ?_ (by first | omega | (simp; done) | (simp; omega)) _ | refine Below.setCell ?_ (by first | omega | (simp; done) | (simp; omega)) _ | refine Below.drew ?_))⟩

theorem camO_no {m z : Nat} (h : camO m z = false) : (FloatKind.f32.format.order m 981467136 == some .lt) = false ∧ (FloatKind.f32.format.order z 981467136 == some .lt) = false ∧ (FloatKind.f32.format.order z 1149239296 == some .gt) = false := by
  unfold camO at h
  revert h
  cases (FloatKind.f32.format.order m 981467136 == some .lt) <;> cases (FloatKind.f32.format.order z 981467136 == some .lt) <;> cases (FloatKind.f32.format.order z 1149239296 == some .gt) <;> simp

set_option maxHeartbeats 4000000 in
set_option maxRecDepth 100000 in
theorem viewOf_ok (c : Cam) (he : fldE 7 c.at = 0) {p q s X Z : Nat} {a k : Int} (L : LenAt c.dx c.dy p q s a X Z k) (h1 : camO (rootW s) c.z = false) {fx fy e : Nat} (V : VwAt c s fx fy e) (w : World) :
    Calls Try.prog 144 #[.agg c.vs] w (ViwPost w c 0 fx fy (negW fy) e) := by
  have CH := Lib.hid (fun p w (h : w.heap[p]? = some (.cells c.vs 27)) => CheckHeights_row p 0 7 7 c.at (by omega) w (flAt_cam h))
  rw [he] at CH
  have RT := Lib.hid (fun w => root_any L.rt w)
  obtain ⟨t1, t2, t3⟩ := camO_no h1
  have a1 := fun (W : World) => run_float_arith (P := Try.prog) W .mul 27 .f32 _ _ _ L.p1
  have a2 := fun (W : World) => run_float_arith (P := Try.prog) W .mul 27 .f32 _ _ _ L.q1
  have a3 := fun (W : World) => run_float_arith (P := Try.prog) W .add 27 .f32 _ _ _ L.s1
  have a4 := fun (W : World) => run_float_arith (P := Try.prog) W .quo 27 .f32 _ _ _ V.f1
  have a5 := fun (W : World) => run_float_arith (P := Try.prog) W .quo 27 .f32 _ _ _ V.f2
  have a6 := fun (W : World) => run_float_arith (P := Try.prog) W .quo 27 .f32 _ _ _ V.f3
  have RS := fun (w : World) (a : Addr) (m : Mode) k b => run_store_float (P := Try.prog) (w := w) (a := a) (m := m) k b
  have ng := run_neg32
  clear he L h1 V
  unfold ViwPost
  obtain ⟨cx, cy, ch, cdx, cdy, cdh, cz⟩ := c
  simp only at *
  generalize rootW s = m at *
  go_enter Try.func144, Try.ntmps144
  go_wp2_with (first | (go_at_call 95; go_loud (refine (CH.out _ _ (by (first | (rw [heap_alloc_get, if_pos rfl]; done) | ((simp only [heap_alloc_get, heap_size_alloc, if_true]) <;> ((repeat' split) <;> first | rfl | omega))))).mono ?_; rintro e w' ⟨rfl, rfl⟩)) | (go_at_call 177; (with_reducible refine (RT.out _).mono ?_); rintro e w' ⟨rfl, rfl⟩))
  go_quiet (fail)
  go_wp2
  refine bodyPost_ret (v := .tuple #[.agg #[.float .f32 cx, .float .f32 cy, .float .f32 ch, .float .f32 cdx, .float .f32 cdy, .float .f32 cdh, .float .f32 cz, .float .f32 fx, .float .f32 fy, .float .f32 (negW fy), .float .f32 fx, .float .f32 e], .int .i64 0]) (by simp [results, Try.results144, go_sem]) rfl ?_
  refine ⟨rfl, ?_⟩
  exact (by repeat' (first | (with_reducible exact Below.refl _ _) | (with_reducible refine Below.setCell ?_ ?_ _) | (with_reducible refine Below.trans ?_ (Below.mono (below_drewN _ _) ?_)) | (with_reducible refine Below.alloc ?_ ?_ _) | (with_reducible refine Below.drew ?_) | omega | (simp; done) | (simp; omega)))

end Go.Proofs.Ythemmpmjjdpdfaa

/- Contracts: CameraError, Frame. -/
namespace Go.Proofs.Ythemmpmjjdpdfaa
open Go.RowKit Fl
set_option linter.unusedVariables false

/-- What CameraError answers is the error that viewOf has. -/
theorem camE_zero {c : Cam} {m : Nat} (h : camE c m = 0) : fldE 7 c.at = 0 ∧ camO m c.z = false := by
  unfold camE at h
  split at h
  · rename_i h0
    refine ⟨h0, ?_⟩
    cases hc : camO m c.z with
    | true => rw [hc] at h; simp at h
    | false => rfl
  · rename_i h0; exact absurd h h0

set_option maxHeartbeats 2000000 in
set_option maxRecDepth 100000 in
theorem cameraError_no (c : Cam) (er : Int) (he : fldE 7 c.at = er) (h1 : er ≠ 0) (w : World) :
    Calls Try.prog 77 #[.agg c.vs] w fun e w' => e = .returned (.int .i64 er) ∧ Below w.heap.size w w' := by
  have CH := Lib.hid (fun p w (h : w.heap[p]? = some (.cells c.vs 27)) => qNumberError_row p 0 7 7 c.at (by omega) w (flAt_cam h))
  rw [he] at CH
  have h2 : (er != 0) = true := by simpa using h1
  clear he h1
  go_enter Try.func77, Try.ntmps77
  go_wp2_with (go_at_call 33; go_loud (refine (CH.out _ _ (by (first | (rw [heap_alloc_get, if_pos rfl]; done) | ((simp only [heap_alloc_get, heap_size_alloc, if_true]) <;> ((repeat' split) <;> first | rfl | omega))))).mono ?_; rintro e w' ⟨rfl, rfl⟩))
  go_ret
  exact ⟨rfl, (by repeat (first | exact Below.refl _ _ | refine Below.alloc ?_ (by first | omega | (simp; done) | (simp; omega)) _ | refine Below.setCell ?_ (by first | omega | (simp; done) | (simp; omega)) _ | refine Below.drew ?_))⟩
set_option maxHeartbeats 2000000 in
set_option maxRecDepth 100000 in
theorem cameraError_any (c : Cam) (he : fldE 7 c.at = 0) {p q s X Z : Nat} {a k : Int} (L : LenAt c.dx c.dy p q s a X Z k) (w : World) :
    Calls Try.prog 77 #[.agg c.vs] w fun e w' => e = .returned (.int .i64 (if camO (rootW s) c.z = true then 3 else 0)) ∧ Below w.heap.size w w' := by
  have CH := Lib.hid (fun p w (h : w.heap[p]? = some (.cells c.vs 27)) => qNumberError_row p 0 7 7 c.at (by omega) w (flAt_cam h))
  rw [he] at CH
  have RT := Lib.hid (fun w => qRoot_any L.rt w)
  have a1 := fun (W : World) => run_float_arith (P := Try.prog) W .mul 27 .f32 _ _ _ L.p1
  have a2 := fun (W : World) => run_float_arith (P := Try.prog) W .mul 27 .f32 _ _ _ L.q1
  have a3 := fun (W : World) => run_float_arith (P := Try.prog) W .add 27 .f32 _ _ _ L.s1
  clear he L
  unfold camO
  obtain ⟨cx, cy, ch, cdx, cdy, cdh, cz⟩ := c
  simp only at *
  generalize rootW s = m at *
  cases t1 : (FloatKind.f32.format.order m 981467136 == some .lt) <;> cases t2 : (FloatKind.f32.format.order cz 981467136 == some .lt) <;> cases t3 : (FloatKind.f32.format.order cz 1149239296 == some .gt)
  all_goals
    go_enter Try.func77, Try.ntmps77
    go_wp2_with (first | (go_at_call 33; go_loud (refine (CH.out _ _ (by (first | (rw [heap_alloc_get, if_pos rfl]; done) | ((simp only [heap_alloc_get, heap_size_alloc, if_true]) <;> ((repeat' split) <;> first | rfl | omega))))).mono ?_; rintro e w' ⟨rfl, rfl⟩)) | (go_at_call 145; (with_reducible refine (RT.out _).mono ?_); rintro e w' ⟨rfl, rfl⟩))
    go_ret
    exact ⟨ret_int (by simp), (by repeat (first | exact Below.refl _ _ | refine Below.alloc ?_ (by first | omega | (simp; done) | (simp; omega)) _ | refine Below.setCell ?_ (by first | omega | (simp; done) | (simp; omega)) _ | refine Below.drew ?_))⟩

/-- What Frame answers. -/
def FrmPost (w : World) (fx fy ry e : Nat) (en : Ending) (w' : World) : Prop :=
  en = .returned (.tuple #[.float .f32 fx, .float .f32 fy, .float .f32 ry, .float .f32 fx, .float .f32 e]) ∧ Below w.heap.size w w'
set_option maxHeartbeats 4000000 in
set_option maxRecDepth 100000 in
theorem frame_ok (c : Cam) {p q s X Z : Nat} {a k : Int} (L : LenAt c.dx c.dy p q s a X Z k) {fx fy e : Nat} (V : VwAt c s fx fy e) (w : World) :
    Calls Try.prog 146 #[.agg c.vs] w (FrmPost w fx fy (negW fy) e) := by
  have RT := Lib.hid (fun w => qRoot_any L.rt w)
  have a1 := fun (W : World) => run_float_arith (P := Try.prog) W .mul 27 .f32 _ _ _ L.p1
  have a2 := fun (W : World) => run_float_arith (P := Try.prog) W .mul 27 .f32 _ _ _ L.q1
  have a3 := fun (W : World) => run_float_arith (P := Try.prog) W .add 27 .f32 _ _ _ L.s1
  have a4 := fun (W : World) => run_float_arith (P := Try.prog) W .quo 27 .f32 _ _ _ V.f1
  have a5 := fun (W : World) => run_float_arith (P := Try.prog) W .quo 27 .f32 _ _ _ V.f2
  have a6 := fun (W : World) => run_float_arith (P := Try.prog) W .quo 27 .f32 _ _ _ V.f3
  have ng := run_neg32
  clear L V
  unfold FrmPost
  obtain ⟨cx, cy, ch, cdx, cdy, cdh, cz⟩ := c
  simp only at *
  generalize rootW s = m at *
  go_enter Try.func146, Try.ntmps146
  go_wp2_with (first | (go_at_call 145; (with_reducible refine (RT.out _).mono ?_); rintro e w' ⟨rfl, rfl⟩))
  go_quiet (fail)
  go_wp2
  go_quiet (fail)
  go_wp2
  refine bodyPost_ret (v := .tuple #[.float .f32 fx, .float .f32 fy, .float .f32 (negW fy), .float .f32 fx, .float .f32 e]) (by simp [results, Try.results146, go_sem]) rfl ⟨rfl, ?_⟩
  exact (by repeat' (first | (with_reducible exact Below.refl _ _) | (with_reducible refine Below.setCell ?_ ?_ _) | (with_reducible refine Below.trans ?_ (Below.mono (below_drewN _ _) ?_)) | (with_reducible refine Below.alloc ?_ ?_ _) | (with_reducible refine Below.drew ?_) | omega | (simp; done) | (simp; omega)))
end Go.Proofs.Ythemmpmjjdpdfaa

/- The floor of a single, by the model's own rounding of a double to a whole number. -/
namespace Go.Proofs.Ythemmpmjjdpdfaa.Fl
open Ieee

/-- Down to a whole number: the magnitude. -/
theorem cut_down (s : Bool) (M k : Nat) : Toward.down.cut s M k = M / 2 ^ k + (s && decide (M % 2 ^ k ≠ 0)).toNat := by
  unfold Toward.cut
  simp only [Nat.one_shiftLeft]
  rcases Nat.le_total k (M.log2 + 2) with c | c
  · rw [Nat.min_eq_left c]
    congr 2
    simp [bne, BEq.beq]
  · rw [Nat.min_eq_right c]
    have h : M < 2 ^ (M.log2 + 2) := by
      rcases Nat.eq_zero_or_pos M with z | z
      · subst z; exact Nat.two_pow_pos _
      · exact Nat.lt_trans (Nat.lt_log2_self) (Nat.pow_lt_pow_right (by omega) (by omega))
    have h' : M < 2 ^ k := Nat.lt_of_lt_of_le h (Nat.pow_le_pow_right (by omega) c)
    rw [Nat.div_eq_of_lt h, Nat.div_eq_of_lt h', Nat.mod_eq_of_lt h, Nat.mod_eq_of_lt h']
    congr 2
    simp [bne, BEq.beq]

/-- The whole part of a double's magnitude, rounded down. -/
theorem integral_down {s : Bool} {M : Nat} {I : Int} {A : Nat} (hI : -1074 ≤ I) (hA : M * 2 ^ (I + 1074).toNat = A) :
    (Datum.number s M I).integral .down = .number s (A / one + (s && decide (A % one ≠ 0)).toNat) 0 := by
  show Datum.number s (Toward.down.cut s (M <<< I.toNat) (-I).toNat) 0 = _
  rw [cut_down, Nat.shiftLeft_eq]
  congr 1
  obtain ⟨j, hj⟩ : ∃ j : Nat, j = 1074 := ⟨_, rfl⟩
  rcases Int.le_total 0 I with c | c
  · have e : (I + 1074).toNat = I.toNat + j := by omega
    rw [e, Nat.pow_add, ← Nat.mul_assoc] at hA
    rw [show (-I).toNat = 0 by omega, Nat.pow_zero, Nat.div_one, Nat.mod_one, ← hA, one_pow hj, Nat.mul_div_cancel _ (Nat.two_pow_pos j), Nat.mul_mod_left]
  · obtain ⟨k, hk⟩ : ∃ k : Nat, k = (-I).toNat := ⟨_, rfl⟩
    have eo : one = 2 ^ k * 2 ^ (I + 1074).toNat := one_split (by omega)
    have p : 0 < 2 ^ (I + 1074).toNat := Nat.two_pow_pos _
    have hdec : decide (M % 2 ^ k * 2 ^ (I + 1074).toNat ≠ 0) = decide (M % 2 ^ k ≠ 0) := by
      generalize 2 ^ (I + 1074).toNat = P at *
      rw [decide_eq_decide]
      constructor
      · intro h h'; exact h (by rw [h', Nat.zero_mul])
      · intro h h'
        rcases Nat.mul_eq_zero.1 h' with x | x
        · exact h x
        · omega
    rw [show I.toNat = 0 by omega, Nat.pow_zero, Nat.mul_one, ← hk, ← hA, eo, Nat.mul_div_mul_right _ _ p, Nat.mul_mod_mul_right, hdec]

/-- The floor of a value. -/
def flV (a : Int) : Int := a / (one : Int) * (one : Int)

theorem fl_sign {O A : Nat} (hO : 0 < O) {s : Bool} {a : Int} (ha : a = (if s then -1 else 1) * (A : Int)) : (if s then -1 else 1) * (((A / O + (s && decide (A % O ≠ 0)).toNat) * O : Nat) : Int) = a / (O : Int) * (O : Int) := by
  have hd := Nat.div_add_mod A O
  have hr := Nat.mod_lt A hO
  have key : a / (O : Int) = (if s then -1 else 1) * ((A / O + (s && decide (A % O ≠ 0)).toNat : Nat) : Int) := by
    cases s with
    | false =>
      simp at ha ⊢
      rw [ha]
    | true =>
      generalize A / O = q at *
      generalize A % O = r at *
      simp only [if_true, Bool.true_and] at *
      have e : (A : Int) = (O : Int) * (q : Int) + (r : Int) := by rw [← Int.natCast_mul, ← Int.natCast_add, hd]
      rw [ha, e]
      by_cases z : r = 0
      · subst z
        have : (-1 : Int) * ((O : Int) * (q : Int) + ((0 : Nat) : Int)) = (O : Int) * (-(q : Int)) := by grind
        rw [this, Int.mul_ediv_cancel_left _ (by omega)]; simp
      · have : (-1 : Int) * ((O : Int) * (q : Int) + (r : Int)) = ((O : Int) - r) + (O : Int) * (-((q : Int) + 1)) := by grind
        rw [this, Int.add_mul_ediv_left _ _ (by omega), Int.ediv_eq_zero_of_lt (by omega) (by omega)]
        simp [z]
  rw [key, Int.natCast_mul, Int.mul_assoc]

theorem flV_sign {s : Bool} {A : Nat} {a : Int} (ha : a = (if s then -1 else 1) * (A : Int)) : (if s then -1 else 1) * (((A / one + (s && decide (A % one ≠ 0)).toNat) * one : Nat) : Int) = flV a := fl_sign one_pos ha

theorem whole_small {O A c : Nat} (hO : 0 < O) (h : c = A / O ∨ c = A / O + 1) : c * O ≤ A + O := by
  have hd := Nat.div_add_mod A O
  rcases h with rfl | rfl
  · rw [Nat.mul_comm]; omega
  · rw [Nat.succ_mul, Nat.mul_comm]; omega

/-- The word of a floor. -/
def flW (x : Nat) : Nat := ((Go.floatToFloatBits .f32 x .f64).bind fun X => Go.floatToFloatBits .f64 (double.write ((double.read X).integral .down)) .f32).getD 0

theorem floor_parts {x : Nat} {a : Int} {k : Nat} (h : vS x = some a) (hb : Bd k x) (hk : k ≤ 50) :
    ∃ X s M I F, Go.floatToFloatBits .f32 x .f64 = some X ∧ double.read X = .number s M I ∧ double.write ((double.read X).integral .down) = F ∧ Go.floatToFloatBits .f64 F .f32 = some (flW x) ∧ vS (flW x) = some (flV a) := by
  obtain ⟨s, m, p, e, rfl⟩ := vS_some h
  obtain ⟨X, M, I, c1, c2, c3, c4, _⟩ := toD e
  obtain ⟨A, hA⟩ : ∃ A, A = m * 2 ^ (p + 1074).toNat := ⟨_, rfl⟩
  have hv : vOf s m p = (if s then -1 else 1) * (A : Int) := by unfold vOf; rw [signed_eq, hA]
  have hbA : A ≤ 2 ^ (1074 + k) := by
    obtain ⟨s', m', p', e', b'⟩ := hb
    rw [e] at e'; cases e'
    rw [hA]; exact b'
  obtain ⟨t, j, ht, hj, hform⟩ := vS_form h
  have hAf : A = t.natAbs * 2 ^ j := by
    have := congrArg Int.natAbs hform
    rw [hv, Int.natAbs_mul, Int.natAbs_mul, Int.natAbs_natCast, Int.natAbs_natCast] at this
    cases s <;> simpa using this
  rw [← hA] at c4
  have hi := integral_down (s := s) c3 c4
  obtain ⟨c, hc⟩ : ∃ c, c = A / one + (s && decide (A % one ≠ 0)).toNat := ⟨_, rfl⟩
  rw [← hc] at hi
  obtain ⟨J, hJ⟩ : ∃ J : Nat, J = 1074 := ⟨_, rfl⟩
  have hw : double.write ((double.read X).integral .down) = wordAt double 0 s (c * one) := by
    rw [c2, hi]
    show double.nearest s c 0 = _
    rw [nearest_val double s (-1074) 0 leastD c (p := 0) (by omega), one_pow hJ, show ((0 : Int) - (-1074)).toNat = J by omega]
  -- the magnitude of the floor is a single's
  have hrep : ∃ u i, u < 16777216 ∧ 925 ≤ i ∧ c * one = u * 2 ^ i := by
    by_cases z : A % one = 0
    · refine ⟨t.natAbs, j, ht, hj, ?_⟩
      rw [← hAf, hc, z]
      have := Nat.div_add_mod A one
      rw [z, Nat.add_zero, Nat.mul_comm] at this
      simp [this]
    · have hj2 : j < J := by
        rcases Nat.lt_or_ge j J with q | q
        · exact q
        · exfalso; apply z
          have : A = t.natAbs * 2 ^ (j - J) * one := by rw [hAf, one_pow hJ, Nat.mul_assoc, ← Nat.pow_add, Nat.sub_add_cancel q]
          rw [this, Nat.mul_mod_left]
      have hlt : A < 8388608 * one := by
        have e1 : one = 2 * 2 ^ (J - 1) := by rw [one_pow hJ, ← Nat.pow_succ']; congr 1; omega
        rw [hAf, e1]
        have e2 : 2 ^ j ≤ 2 ^ (J - 1) := Nat.pow_le_pow_right (by omega) (by omega)
        have p1 : 0 < 2 ^ (J - 1) := Nat.two_pow_pos _
        calc t.natAbs * 2 ^ j ≤ t.natAbs * 2 ^ (J - 1) := Nat.mul_le_mul_left _ e2
          _ < 16777216 * 2 ^ (J - 1) := Nat.mul_lt_mul_of_pos_right ht p1
          _ = 8388608 * (2 * 2 ^ (J - 1)) := by rw [← Nat.mul_assoc]
      refine ⟨c, J, ?_, by omega, by rw [one_pow hJ]⟩
      have hq : A / one < 8388608 := Nat.div_lt_of_lt_mul (by rw [Nat.mul_comm]; exact hlt)
      have hb1 : (s && decide (A % one ≠ 0)).toNat ≤ 1 := Bool.toNat_le _
      generalize A / one = Q at *
      generalize (s && decide (A % one ≠ 0)).toNat = B1 at *
      omega
  obtain ⟨u, i, hu, hi2, hcu⟩ := hrep
  have hV : c * one < 2 ^ (1074 + k + 1 + 1) := by
    have hb1 : c = A / one ∨ c = A / one + 1 := by
      rw [hc]; cases (s && decide (A % one ≠ 0)) <;> simp
    have h1 := whole_small one_pos hb1
    have h2 : one ≤ 2 ^ (1074 + k) := by rw [one_pow hJ]; exact Nat.pow_le_pow_right (by omega) (by omega)
    rw [Nat.pow_succ, Nat.pow_succ]
    have p1 : 0 < 2 ^ (1074 + k) := Nat.two_pow_pos _
    generalize 2 ^ (1074 + k) = T at *
    generalize c * one = CO at *
    generalize one = O at *
    omega
  have hround : sRung (dVal (c * one)) = sRung (c * one) := by
    rw [hcu]; exact exact_round (Nat.lt_of_lt_of_le hu (by decide))
  have hback := back (sg := s) hV (by omega) hround
  have hfl : flW x = wordAt single 925 s (c * one) := by
    unfold flW
    rw [c1]
    show (Go.floatToFloatBits .f64 (double.write ((double.read X).integral .down)) .f32).getD 0 = _
    rw [hw, hback]; rfl
  refine ⟨X, s, M, I, _, c1, c2, rfl, by rw [hw, hback, hfl], ?_⟩
  rw [hfl, vS_word hV (by omega), hcu, rd_exact single 925 u i (by rw [fbS]; exact hu) hi2, ← hcu, hc, flV_sign hv]

end Go.Proofs.Ythemmpmjjdpdfaa.Fl

/- Contracts: math.Floor, and the floors of both sides. -/
namespace Go.Proofs.Ythemmpmjjdpdfaa
open Go.RowKit Fl
set_option linter.unusedVariables false

theorem toIntegral_num (X : Nat) (d : Ieee.Datum) (h : FloatKind.f64.decode X = d) (hd : ∃ s M I, d = .number s M I) :
    Extern.MathFloor.toIntegral "math.archFloor" .down #[.float .f64 X] = pure (.float .f64 (FloatKind.f64.encode (d.integral .down))) := by
  obtain ⟨s, M, I, rfl⟩ := hd
  conv => lhs; whnf
  rw [h]

theorem archFloor_num (X : Nat) (s : Bool) (M : Nat) (I : Int) (h : Ieee.double.read X = .number s M I) (w : World) :
    (callFunc 205 #[.float .f64 X]).run Try.prog w = .ok (.value (.float .f64 (Ieee.double.write ((Ieee.double.read X).integral .down)))) w := by
  rw [run_callFunc_extern Try.func205 (by kernel_rfl) (by kernel_rfl) (by kernel_rfl) (e := Extern.MathFloor.toIntegral "math.archFloor" .down) (by kernel_rfl), toIntegral_num X _ rfl ⟨s, M, I, h⟩]
  rfl

set_option maxHeartbeats 400000 in
theorem mathFloor_num (X F : Nat) (s : Bool) (M : Nat) (I : Int) (h : Ieee.double.read X = .number s M I) (hF : Ieee.double.write ((Ieee.double.read X).integral .down) = F) (w : World) :
    Calls Try.prog 196 #[.float .f64 X] w fun e w' => e = .returned (.float .f64 F) ∧ w = w' := by
  have a1 := archFloor_num X s M I h
  rw [hF] at a1
  clear h hF
  go_enter Try.func196, Try.ntmps196
  go_wp2
  go_ret
  exact ⟨rfl, rfl⟩

set_option maxHeartbeats 400000 in
theorem floor_any (x k : Nat) (a : Int) (h : vS x = some a) (hb : Bd k x) (hk : k ≤ 50) (w : World) :
    Calls Try.prog 175 #[.float .f32 x] w fun e w' => e = .returned (.float .f32 (flW x)) ∧ w = w' := by
  obtain ⟨X, s, M, I, F, c1, c2, c3, c4, _⟩ := floor_parts h hb hk
  have d1 := fun (W : World) => run_convert_float_float (P := Try.prog) W 27 97 .f32 .f64 x X (by kernel_rfl) Try.underlying97 c1
  have d2 := fun (W : World) => run_convert_float_float (P := Try.prog) W 97 27 .f64 .f32 F (flW x) (by kernel_rfl) Try.underlying27 c4
  have MF := Lib.hid (fun w => mathFloor_num X F s M I c2 c3 w)
  clear c1 c2 c3 c4 h hb
  go_enter Try.func175, Try.ntmps175
  go_wp2_with (go_at_call 196; refine (MF.out _).mono ?_; rintro e w' ⟨rfl, rfl⟩)
  go_ret
  exact ⟨rfl, rfl⟩

end Go.Proofs.Ythemmpmjjdpdfaa

/- Dither and Speckle of one cell, as words; what the steps come to. -/
namespace Go.Proofs.Ythemmpmjjdpdfaa
open Go.RowKit Fl
set_option linter.unusedVariables false

theorem div_val {x y k : Nat} {a b : Int} (hx : vS x = some a) (hy : vS y = some b) (hb : b ≠ 0) (hk : k ≤ 120) (h : a.natAbs ≤ b.natAbs * 2 ^ k) : Same2 .quo k x y := by
  obtain ⟨s, m, i, e1, rfl⟩ := vS_some hx
  obtain ⟨t, n, j, e2, rfl⟩ := vS_some hy
  have n1 : (vOf s m i).natAbs = m * 2 ^ (i + 1074).toNat := by unfold vOf; rw [signed_eq, Int.natAbs_mul, Int.natAbs_natCast]; cases s <;> simp
  have n2 : (vOf t n j).natAbs = n * 2 ^ (j + 1074).toNat := by unfold vOf; rw [signed_eq, Int.natAbs_mul, Int.natAbs_natCast]; cases t <;> simp
  refine div_same hk e1 e2 ?_ (by rw [← n1, ← n2]; exact h)
  rcases Nat.eq_zero_or_pos n with z | z
  · exfalso; apply hb; subst z
    have : (vOf t 0 j).natAbs = 0 := by rw [n2]; simp
    omega
  · exact z

theorem vS_lo {j : Nat} (hj : j = 1064) : vS 981467136 = some ((2 ^ j : Nat) : Int) := by
  have h : Ieee.single.read 981467136 = .number false 8388608 (-33) := by decide
  rw [vS_lit (t := 1) (k := 23) (j := j) h (by decide) (by rw [hj]; decide)]; simp
theorem vS_hi {j : Nat} (hj : j = 1084) : vS 1149239296 = some ((2 ^ j : Nat) : Int) := by
  have h : Ieee.single.read 1149239296 = .number false 8388608 (-13) := by decide
  rw [vS_lit (t := 1) (k := 23) (j := j) h (by decide) (by rw [hj]; decide)]; simp

/-- A right step: its value is from 2 ^ -10 to 2 ^ 10. -/
def StepOk (st : Nat) : Prop := ∃ b, vS st = some b ∧ (one : Int) ≤ 1024 * b ∧ b ≤ 1024 * (one : Int)
theorem step_ok {st : Nat} (h : wiE st 981467136 1149239296 = 0) : StepOk st := by
  unfold wiE at h
  by_cases hf : finB st = false
  · rw [if_pos hf] at h; cases h
  · rw [if_neg hf] at h
    split at h
    · cases h
    · rename_i c
      obtain ⟨a, ha⟩ := Option.isSome_iff_exists.1 (show (vS st).isSome = true by simpa [finB, Option.isSome_iff_ne_none] using hf)
      obtain ⟨j, hj⟩ : ∃ j : Nat, j = 1064 := ⟨_, rfl⟩
      have hj' : j + 20 = 1084 := by omega
      rw [show FloatKind.f32.format = Ieee.single from rfl, lss_val ha (vS_lo hj), gtr_val ha (vS_hi hj')] at c
      refine ⟨a, ha, ?_⟩
      have e1 : one = 1024 * 2 ^ j := by rw [one_split (a := 10) (j := j) (by omega)]
      have e2 : 2 ^ (j + 20) = 1048576 * 2 ^ j := by rw [Nat.pow_add, Nat.mul_comm]
      rw [e2] at c
      rw [e1]
      generalize 2 ^ j = U at *
      simp at c
      omega
theorem step_bd {st : Nat} (h : StepOk st) : Bd 11 st := by
  obtain ⟨b, hb, h1, h2⟩ := h
  obtain ⟨J, hJ⟩ : ∃ J : Nat, J = 1074 := ⟨_, rfl⟩
  refine bd_val' (j := 11 + J) hb (by omega) ?_
  have e : 2 ^ (11 + J) = 2048 * one := by rw [one_pow hJ, Nat.pow_add]
  have := one_pos
  rw [e]
  generalize one = O at *
  omega

theorem hgt_val {x : Nat} (h : hgtB x = true) : ∃ a, vS x = some a ∧ a.natAbs ≤ 1048576 * one := by
  obtain ⟨a, ha, hb⟩ := val_bd (hgt_bd h)
  refine ⟨a, ha, ?_⟩
  obtain ⟨J, hJ⟩ : ∃ J : Nat, J = 1074 := ⟨_, rfl⟩
  have e : 2 ^ (1074 + 20) = 1048576 * one := by
    rw [one_pow hJ, show 1074 + 20 = 20 + J by omega, Nat.pow_add]
  rwa [e] at hb

theorem flV_near (a : Int) : flV a ≤ a ∧ a < flV a + (one : Int) := by
  have hp : (0 : Int) < (one : Int) := Int.natCast_pos.2 one_pos
  unfold flV
  have h1 := Int.ediv_mul_le a (Int.ne_of_gt hp)
  have h2 := Int.lt_ediv_add_one_mul_self a hp
  rw [Int.add_mul, Int.one_mul] at h2
  exact ⟨h1, h2⟩

/-- The quotient that Dither makes. -/
def dthQ (v st : Nat) : Nat := (floatBits .quo .f32 v st).getD 0
/-- What Dither makes of a cell, by the word of its hash. -/
def dthW (v st : Nat) (h : Int) : Nat :=
  (floatBits .mul .f32 (if (FloatKind.f32.format.order (unitW h) ((floatBits .sub .f32 (dthQ v st) (flW (dthQ v st))).getD 0) == some .lt) = true then (floatBits .add .f32 (flW (dthQ v st)) 1065353216).getD 0 else flW (dthQ v st)) st).getD 0

structure DthAt (v st : Nat) (h : Int) (q d : Nat) (c : Bool) (j r : Nat) : Prop where
  q1 : floatBits .quo .f32 v st = some q
  q2 : Same2 .quo 30 v st
  fq : ∃ a, vS q = some a
  bq : Bd 30 q
  d1 : floatBits .sub .f32 q (flW q) = some d
  d2 : Same2 .sub 32 q (flW q)
  c1 : (FloatKind.f32.format.order (unitW h) d == some .lt) = c
  j1 : c = true → floatBits .add .f32 (flW q) 1065353216 = some j
  j2 : c = true → Same2 .add 32 (flW q) 1065353216
  j3 : c = false → j = flW q
  r1 : floatBits .mul .f32 j st = some r
  r2 : Same2 .mul 43 j st
  w : dthW v st h = r
  lt : r < 4294967296

theorem fl_bd {q k : Nat} (h : Bd k q) (hk : k ≤ 50) : Bd (k + 1) (flW q) := by
  obtain ⟨a, ha, hb⟩ := val_bd h
  obtain ⟨_, _, _, _, _, _, _, _, _, hv⟩ := floor_parts ha h hk
  refine bd_val hv ?_
  obtain ⟨h1, h2⟩ := flV_near a
  obtain ⟨J, hJ⟩ : ∃ J : Nat, J = 1074 := ⟨_, rfl⟩
  have e : one ≤ 2 ^ (1074 + k) := by rw [one_pow hJ]; exact Nat.pow_le_pow_right (by omega) (by omega)
  rw [show 1074 + (k + 1) = 1074 + k + 1 by omega, Nat.pow_succ]
  generalize 2 ^ (1074 + k) = T at *
  generalize one = O at *
  omega

theorem bd_one (k : Nat) : Bd k 1065353216 := by
  obtain ⟨J, hJ⟩ : ∃ J : Nat, J = 1074 := ⟨_, rfl⟩
  refine bd_val vS_one ?_
  rw [Int.natAbs_natCast, one_pow hJ]; exact Nat.pow_le_pow_right (by omega) (by omega)

theorem dth_parts {v st : Nat} (h : Int) (hv : hgtB v = true) (hs : StepOk st) : ∃ q d c j r, DthAt v st h q d c j r := by
  obtain ⟨a, ha, hab⟩ := hgt_val hv
  have hs' := hs
  obtain ⟨b, hb, hb1, hb2⟩ := hs'
  have op := one_pos
  have q2 : Same2 .quo 30 v st := by
    refine div_val ha hb ?_ (by omega) ?_
    · generalize one = O at *; omega
    · rw [show (2 : Nat) ^ 30 = 1073741824 by decide]; generalize one = O at *; omega
  obtain ⟨_, _, _, q, _, _, _, _, q1, bq⟩ := q2.ex
  obtain ⟨aq, haq, _⟩ := val_bd bq
  have bf := fl_bd bq (by omega)
  have d2 : Same2 .sub 32 q (flW q) := sub_same (k := 31) (by omega) (bd_up bq (by omega)) bf
  obtain ⟨_, _, _, d, _, _, _, _, d1, _⟩ := d2.ex
  have j2 : Same2 .add 32 (flW q) 1065353216 := add_same (k := 31) (by omega) bf (bd_one 31)
  obtain ⟨_, _, _, j, _, _, _, _, j1, bj⟩ := j2.ex
  have eq : dthQ v st = q := by unfold dthQ; rw [q1]; rfl
  cases hc : (FloatKind.f32.format.order (unitW h) d == some .lt) with
  | true =>
    have r2 : Same2 .mul (32 + 11) j st := mul_same (by omega) bj (step_bd hs)
    obtain ⟨_, _, _, r, _, _, _, _, r1, _⟩ := r2.ex
    refine ⟨q, d, true, j, r, q1, q2, ⟨aq, haq⟩, bq, d1, d2, hc, fun _ => j1, fun _ => j2, (fun h => by cases h), r1, r2, ?_, opt_lt (d := (Ieee.single.read j).product (Ieee.single.read st)) r1⟩
    unfold dthW
    rw [eq, d1]
    show (floatBits .mul .f32 (if (FloatKind.f32.format.order (unitW h) d == some .lt) = true then (floatBits .add .f32 (flW q) 1065353216).getD 0 else flW q) st).getD 0 = r
    rw [if_pos hc, j1]
    show (floatBits .mul .f32 j st).getD 0 = r
    rw [r1]; rfl
  | false =>
    have r2 : Same2 .mul (32 + 11) (flW q) st := mul_same (by omega) (bd_up bf (by omega)) (step_bd hs)
    obtain ⟨_, _, _, r, _, _, _, _, r1, _⟩ := r2.ex
    refine ⟨q, d, false, flW q, r, q1, q2, ⟨aq, haq⟩, bq, d1, d2, hc, (fun h => by cases h), (fun h => by cases h), fun _ => rfl, r1, r2, ?_, opt_lt (d := (Ieee.single.read (flW q)).product (Ieee.single.read st)) r1⟩
    unfold dthW
    rw [eq, d1]
    show (floatBits .mul .f32 (if (FloatKind.f32.format.order (unitW h) d == some .lt) = true then (floatBits .add .f32 (flW q) 1065353216).getD 0 else flW q) st).getD 0 = r
    rw [if_neg (by rw [hc]; simp), r1]; rfl

/-- What Speckle makes of a cell. -/
def spkW (st : Nat) (h : Int) : Nat := if (FloatKind.f32.format.order (unitW h) st == some .lt) = true then 1065353216 else 0

/-- The place of a cell by its number. -/
theorem place_of {X Y x y : Int} {W i : Nat} (hW : 1 ≤ W) (h1 : X ≤ x) (h2 : x < X + W) (h3 : Y ≤ y) (hi : (i : Int) = (y - Y) * W + (x - X)) : X + ((i % W : Nat) : Int) = x ∧ Y + ((i / W : Nat) : Int) = y := by
  obtain ⟨a, ha⟩ := Int.eq_ofNat_of_zero_le (show 0 ≤ x - X by omega)
  obtain ⟨b, hb⟩ := Int.eq_ofNat_of_zero_le (show 0 ≤ y - Y by omega)
  rw [ha, hb, ← Int.natCast_mul, ← Int.natCast_add] at hi
  have hi' : i = b * W + a := Int.ofNat.inj hi
  have ha' : a < W := by omega
  have e1 : i % W = a := by rw [hi', Nat.mul_comm, Nat.mul_add_mod, Nat.mod_eq_of_lt ha']
  have e2 : i / W = b := by rw [hi', Nat.mul_comm, Nat.mul_add_div (by omega), Nat.div_eq_of_lt ha']; rfl
  rw [e1, e2]; omega

end Go.Proofs.Ythemmpmjjdpdfaa

/- The error of a single that should lie between two others, by the tests of the reference. -/
namespace Go.Proofs.Ythemmpmjjdpdfaa
open Go.RowKit Fl
set_option linter.unusedVariables false

/-- The error of a single that should be from lo to hi, told by the reference's tests. -/
def WithinCases (st lo hi : Nat) : Prop :=
    ((fldE 1 (fun _ => st) = 2 ∨ fldE 1 (fun _ => st) = 3) ∧ wiE st lo hi = fldE 1 (fun _ => st)) ∨
    (fldE 1 (fun _ => st) = 0 ∧ wiE st lo hi = 3 ∧ (FloatKind.f32.format.order st lo == some .lt) = true) ∨
    (fldE 1 (fun _ => st) = 0 ∧ wiE st lo hi = 3 ∧ (FloatKind.f32.format.order st lo == some .lt) = false ∧ (FloatKind.f32.format.order st hi == some .gt) = true) ∨
    (fldE 1 (fun _ => st) = 0 ∧ wiE st lo hi = 0 ∧ (FloatKind.f32.format.order st lo == some .lt) = false ∧ (FloatKind.f32.format.order st hi == some .gt) = false)
theorem within_cases {st lo hi : Nat} {l h : Int} (hl : vS lo = some l) (hh : vS hi = some h) (l1 : -vTop ≤ l) (h1 : h ≤ vTop) : WithinCases st lo hi := by
  unfold WithinCases
  cases hf : finB st with
  | false =>
    have e : fldE 1 (fun _ => st) = 2 := by simp [fldE, allB, List.range_succ, hf]
    exact .inl ⟨.inl e, by rw [e]; unfold wiE; rw [if_pos hf]⟩
  | true =>
    obtain ⟨a, ha⟩ := Option.isSome_iff_exists.1 (show (vS st).isSome = true from hf)
    have l0 := lss_val ha hl
    have g1 := gtr_val ha hh
    rw [← f32f] at l0 g1
    have hw : ((FloatKind.f32.format.order st lo == some .lt) = true ∨ (FloatKind.f32.format.order st hi == some .gt) = true) → wiE st lo hi = 3 := fun c => by
      unfold wiE; rw [if_neg (by rw [hf]; simp), if_pos c]
    cases hgt : hgtB st with
    | false =>
      have e : fldE 1 (fun _ => st) = 3 := by simp [fldE, hgtE, allB, List.range_succ, hf, hgt]
      refine .inl ⟨.inr e, ?_⟩
      rw [e]
      refine hw ?_
      unfold hgtB at hgt
      rw [ha] at hgt
      rw [l0, g1]
      simp at hgt ⊢
      omega
    | true =>
      have e : fldE 1 (fun _ => st) = 0 := fldE_one_ok hgt
      cases c1 : (FloatKind.f32.format.order st lo == some .lt) with
      | true => exact .inr (.inl ⟨e, hw (.inl c1), rfl⟩)
      | false =>
        cases c2 : (FloatKind.f32.format.order st hi == some .gt) with
        | true => exact .inr (.inr (.inl ⟨e, hw (.inr c2), rfl, rfl⟩))
        | false => exact .inr (.inr (.inr ⟨e, by unfold wiE; rw [if_neg (by rw [hf]; simp), if_neg (by rw [c1, c2]; simp)], rfl, rfl⟩))

theorem vTop_one : vTop = 1048576 * (one : Int) := by
  obtain ⟨J, hJ⟩ : ∃ J : Nat, J = 1074 := ⟨_, rfl⟩
  unfold vTop
  rw [one_pow hJ, Nat.one_mul, show ((20 : Int) + 1074).toNat = 20 + J by omega, Nat.pow_add, Int.natCast_mul]; rfl
theorem step_cases (st : Nat) : WithinCases st 981467136 1149239296 := by
  obtain ⟨j, hj⟩ : ∃ j : Nat, j = 1064 := ⟨_, rfl⟩
  have hj' : j + 20 = 1084 := by omega
  have e1 : one = 1024 * 2 ^ j := by rw [one_split (a := 10) (j := j) (by omega)]
  have e2 : 2 ^ (j + 20) = 1048576 * 2 ^ j := by rw [Nat.pow_add, Nat.mul_comm]
  have hp := Nat.two_pow_pos j
  exact within_cases (st := st) (vS_lo hj) (vS_hi hj') (by rw [vTop_one, e1]; generalize 2 ^ j = U at *; omega) (by rw [vTop_one, e1, e2]; generalize 2 ^ j = U at *; omega)

theorem flAt_one_of {w : World} {b x : Nat} (h : w.heap[b]? = some (flObj x)) : FlAt w b 0 1 (fun _ => x) := by
  intro i hi
  have : i = 0 := by omega
  subst this
  exact (blkC h).1 0
end Go.Proofs.Ythemmpmjjdpdfaa

/- Contracts: Project, ProjectOf. -/
namespace Go.Proofs.Ythemmpmjjdpdfaa
open Go.RowKit Fl
set_option linter.unusedVariables false

theorem at_world {P : Program} {F : Func} {Q : Ending → World → Prop} {x : Exit} {a : Act} {W : World} (C : World → Prop) (h : C W) (key : ∀ W4, C W4 → bodyPost P F Q x a W4) : bodyPost P F Q x a W := key W h
theorem wp_at {P : Program} {C : Code} {Q : Exit → Act → World → Prop} {a : Act} {W : World} (F : World → Prop) (h : F W) (key : ∀ W4, F W4 → Code.wp P C Q a W4) : Code.wp P C Q a W := key W h
theorem exit_at {Q : Exit → Act → World → Prop} {x : Exit} {a : Act} {W : World} (F : World → Prop) (h : F W) (key : ∀ W4, F W4 → Q x a W4) : Q x a W := key W h
theorem heap_drewN (w : World) (n : Nat) : (w.drewN n).heap = w.heap := rfl
theorem spot_end {W : World} {b : Nat} {u v x y : Value} {T : TypeId} (h : W.heap[b]? = some (.cells #[u, v] T)) : ((W.setCell ⟨b, 0, none⟩ x).setCell ⟨b, 1, none⟩ y).heap[b]? = some (.cells #[x, y] T) := by
  have h1 := heap_setCell_same W b 0 _ _ x h
  exact heap_setCell_same _ b 1 _ _ y h1

/-- What Project answers. -/
def PjPost (w : World) (sx sy a : Nat) (is : Bool) (er : Int) (en : Ending) (w' : World) : Prop :=
  en = .returned (.tuple #[.agg #[.float .f32 sx, .float .f32 sy], .float .f32 a, .bool is, .int .i64 er]) ∧ Below w.heap.size w w'

set_option maxHeartbeats 400000 in
set_option maxRecDepth 100000 in
theorem project_bad (c : Cam) (x y h : Nat) (er : Int) (h1 : er ≠ 0) (hV : ∀ w, Calls Try.prog 144 #[.agg c.vs] w (ViwPost w zeroCam er 0 0 0 0)) (w : World) :
    Calls Try.prog 76 #[.agg c.vs, .float .f32 x, .float .f32 y, .float .f32 h] w (PjPost w 0 0 0 false er) := by
  have VO := Lib.hid hV
  have h2 : (er != 0) = true := by simpa using h1
  have RS := fun (w : World) (a : Addr) (m : Mode) k b => run_store_float (P := Try.prog) (w := w) (a := a) (m := m) k b
  clear hV h1
  go_enter Try.func76, Try.ntmps76
  go_wp2_with (go_at_call 144; go_loud (refine (VO.out _).mono ?_; rintro en w2 ⟨rfl, hb2⟩; have HS2 := Lib.hid (blkStay (b := w.heap.size + 1) (o := .cells #[.float .f32 0, .float .f32 0] 126) (by (first | (rw [heap_alloc_get, if_pos rfl]; done) | ((simp only [heap_alloc_get, heap_size_alloc, if_true]) <;> ((repeat' split) <;> first | rfl | omega)))) hb2); have HB2 : Below w.heap.size w w2 := Below.trans (by repeat (first | exact Below.refl _ _ | refine Below.alloc ?_ (by first | omega | (simp; done) | (simp; omega)) _ | refine Below.setCell ?_ (by first | omega | (simp; done) | (simp; omega)) _ | refine Below.drew ?_)) (Below.mono hb2 (by first | omega | (simp; done) | (simp; omega))); clear hb2; obtain ⟨cS, fS, zS⟩ := blkC HS2.out))
  have zB := HB2.size
  refine at_world (fun W4 => W4.heap[w.heap.size + 1]? = some (.cells #[.float .f32 0, .float .f32 0] 126) ∧ Below w.heap.size w W4) ⟨(by (repeat (first | (with_reducible refine (heap_alloc_old _ _ (by first | omega | (simp; omega))).trans ?_) | (rw [heap_drewN]))); exact spot_end HS2.out), (by repeat' (first | (with_reducible exact Below.refl _ _) | (with_reducible exact HB2) | (with_reducible refine Below.setCell ?_ ?_ _) | (with_reducible refine Below.trans ?_ (Below.mono (below_drewN _ _) ?_)) | (with_reducible refine Below.alloc ?_ ?_ _) | (with_reducible refine Below.drew ?_) | omega | (simp; done) | (simp; omega)))⟩ ?_
  rintro W4 ⟨hE, hB4⟩
  obtain ⟨cE, fE, zE⟩ := blkC hE
  clear cS fS zS
  refine bodyPost_ret (v := .tuple #[.agg #[.float .f32 0, .float .f32 0], .float .f32 0, .bool false, .int .i64 er]) (by simp [results, Try.results76, go_sem, cE]) rfl ⟨rfl, hB4⟩

abbrev viewO (c : Cam) (fx fy ry e : Nat) : Obj := .cells #[.float .f32 c.x, .float .f32 c.y, .float .f32 c.h, .float .f32 c.dx, .float .f32 c.dy, .float .f32 c.dh, .float .f32 c.z, .float .f32 fx, .float .f32 fy, .float .f32 ry, .float .f32 fx, .float .f32 e] 208
abbrev threeO (x y h : Nat) : Obj := .cells #[.float .f32 x, .float .f32 y, .float .f32 h] 27

/-- A camera that is right. -/
def VoOk (c : Cam) (fx fy e : Nat) : Prop := ∀ w, Calls Try.prog 144 #[.agg c.vs] w (ViwPost w c 0 fx fy (negW fy) e)

set_option maxHeartbeats 1000000 in
set_option maxRecDepth 100000 in
theorem project_num (c : Cam) (x y hz : Nat) (er : Int) (he : fldE 3 (three x y hz) = er) (h1 : er ≠ 0) {fx fy e : Nat} (hV : VoOk c fx fy e) (w : World) :
    Calls Try.prog 76 #[.agg c.vs, .float .f32 x, .float .f32 y, .float .f32 hz] w (PjPost w 0 0 0 false er) := by
  have VO := Lib.hid hV
  unfold VoOk at hV
  have CH := Lib.hid (fun p w (hh : w.heap[p]? = some (.cells #[.float .f32 x, .float .f32 y, .float .f32 hz] 27)) => CheckHeights_row p 0 3 3 (three x y hz) (by omega) w (flAt_three hh))
  rw [he] at CH
  have RS := fun (w : World) (a : Addr) (m : Mode) k b => run_store_float (P := Try.prog) (w := w) (a := a) (m := m) k b
  have h2 : (er != 0) = true := by simpa using h1
  clear hV h1 he
  go_enter Try.func76, Try.ntmps76
  go_wp2_with (first | (go_at_call 144; go_loud (refine (VO.out _).mono ?_; rintro en w2 ⟨rfl, hb2⟩; have HS2 := Lib.hid (blkStay (b := w.heap.size + 1) (o := .cells #[.float .f32 0, .float .f32 0] 126) (by (first | (rw [heap_alloc_get, if_pos rfl]; done) | ((simp only [heap_alloc_get, heap_size_alloc, if_true]) <;> ((repeat' split) <;> first | rfl | omega)))) hb2); have HB2 := Lib.hid (show Below w.heap.size w w2 from Below.trans (by repeat (first | exact Below.refl _ _ | refine Below.alloc ?_ (by first | omega | (simp; done) | (simp; omega)) _ | refine Below.setCell ?_ (by first | omega | (simp; done) | (simp; omega)) _ | refine Below.drew ?_)) (Below.mono hb2 (by first | omega | (simp; done) | (simp; omega)))); clear hb2)) | (go_at_call 95; (with_reducible refine (CH.out _ _ (by (first | (rw [heap_alloc_get, if_pos rfl]; done) | ((simp only [heap_alloc_get, heap_size_alloc, if_true]) <;> ((repeat' split) <;> first | rfl | omega))))).mono ?_); rintro en w' ⟨rfl, rfl⟩; have zS := (blkC HS2.out).2.2; have HS3 := Lib.hid (show ((w2.alloc (viewO c fx fy (negW fy) e)).alloc (threeO x y hz)).heap[w.heap.size + 1]? = some (.cells #[.float .f32 0, .float .f32 0] 126) from (heap_alloc_old _ _ (by rw [heap_size_alloc]; omega)).trans ((heap_alloc_old _ _ zS).trans HS2.out)); have HV3 := Lib.hid (show ((w2.alloc (viewO c fx fy (negW fy) e)).alloc (threeO x y hz)).heap[w2.heap.size]? = some (viewO c fx fy (negW fy) e) by (first | (rw [heap_alloc_get, if_pos rfl]; done) | ((simp only [heap_alloc_get, heap_size_alloc, if_true]) <;> ((repeat' split) <;> first | rfl | omega)))); have HB3 := Lib.hid (show Below w.heap.size w ((w2.alloc (viewO c fx fy (negW fy) e)).alloc (threeO x y hz)) from (HB2.out.alloc HB2.out.size _).alloc (by have := HB2.out.size; rw [heap_size_alloc]; omega) _); generalize (w2.alloc (viewO c fx fy (negW fy) e)).alloc (threeO x y hz) = w3 at *; clear zS; obtain ⟨cS, fS, zS⟩ := blkC HS3.out; obtain ⟨cV, fV, zV⟩ := blkC HV3.out))
  have zB := HB3.out.size
  refine at_world (fun W4 => W4.heap[w.heap.size + 1]? = some (.cells #[.float .f32 0, .float .f32 0] 126) ∧ Below w.heap.size w W4) ⟨spot_end HS3.out, (by repeat' (first | (with_reducible exact Below.refl _ _) | (with_reducible exact HB3.out) | (with_reducible refine Below.setCell ?_ ?_ _) | (with_reducible refine Below.trans ?_ (Below.mono (below_drewN _ _) ?_)) | (with_reducible refine Below.alloc ?_ ?_ _) | (with_reducible refine Below.drew ?_) | omega | (simp; done) | (simp; omega)))⟩ ?_
  rintro W4 ⟨hE, hB4⟩
  obtain ⟨cE, fE, zE⟩ := blkC hE
  clear cS fS zS cV fV zV zB
  refine bodyPost_ret (v := .tuple #[.agg #[.float .f32 0, .float .f32 0], .float .f32 0, .bool false, .int .i64 er]) (by simp [results, Try.results76, go_sem, cE]) rfl ⟨rfl, hB4⟩

set_option maxHeartbeats 1000000 in
set_option maxRecDepth 100000 in
theorem project_far (c : Cam) (x y hz : Nat) (he : fldE 3 (three x y hz) = 0) {fx fy e : Nat} (hV : VoOk c fx fy e) {px py pz t1 t2 a t3 t4 b t5 u : Nat} (P : PrAt c x y hz fx fy e px py pz t1 t2 a t3 t4 b t5 u)
    (ha : (FloatKind.f32.format.order a 1065353216 == some .lt) = true) (w : World) :
    Calls Try.prog 76 #[.agg c.vs, .float .f32 x, .float .f32 y, .float .f32 hz] w (PjPost w 0 0 0 false 0) := by
  have VO := Lib.hid hV
  unfold VoOk at hV
  have CH := Lib.hid (fun p w (hh : w.heap[p]? = some (.cells #[.float .f32 x, .float .f32 y, .float .f32 hz] 27)) => CheckHeights_row p 0 3 3 (three x y hz) (by omega) w (flAt_three hh))
  rw [he] at CH
  have RS := fun (w : World) (a : Addr) (m : Mode) k b => run_store_float (P := Try.prog) (w := w) (a := a) (m := m) k b
  have a1 := fun (W : World) => run_float_arith (P := Try.prog) W .sub 27 .f32 _ _ _ P.epx
  have a2 := fun (W : World) => run_float_arith (P := Try.prog) W .sub 27 .f32 _ _ _ P.epy
  have a3 := fun (W : World) => run_float_arith (P := Try.prog) W .sub 27 .f32 _ _ _ P.epz
  have a4 := fun (W : World) => run_float_arith (P := Try.prog) W .mul 27 .f32 _ _ _ P.et1
  have a5 := fun (W : World) => run_float_arith (P := Try.prog) W .mul 27 .f32 _ _ _ P.et2
  have a6 := fun (W : World) => run_float_arith (P := Try.prog) W .add 27 .f32 _ _ _ P.ea
  clear hV he P
  go_enter Try.func76, Try.ntmps76
  go_wp2_with (first | (go_at_call 144; go_loud (refine (VO.out _).mono ?_; rintro en w2 ⟨rfl, hb2⟩; have HS2 := Lib.hid (blkStay (b := w.heap.size + 1) (o := .cells #[.float .f32 0, .float .f32 0] 126) (by (first | (rw [heap_alloc_get, if_pos rfl]; done) | ((simp only [heap_alloc_get, heap_size_alloc, if_true]) <;> ((repeat' split) <;> first | rfl | omega)))) hb2); have HB2 := Lib.hid (show Below w.heap.size w w2 from Below.trans (by repeat (first | exact Below.refl _ _ | refine Below.alloc ?_ (by first | omega | (simp; done) | (simp; omega)) _ | refine Below.setCell ?_ (by first | omega | (simp; done) | (simp; omega)) _ | refine Below.drew ?_)) (Below.mono hb2 (by first | omega | (simp; done) | (simp; omega)))); clear hb2)) | (go_at_call 95; (with_reducible refine (CH.out _ _ (by (first | (rw [heap_alloc_get, if_pos rfl]; done) | ((simp only [heap_alloc_get, heap_size_alloc, if_true]) <;> ((repeat' split) <;> first | rfl | omega))))).mono ?_); rintro en w' ⟨rfl, rfl⟩; have zS := (blkC HS2.out).2.2; have HS3 := Lib.hid (show ((w2.alloc (viewO c fx fy (negW fy) e)).alloc (threeO x y hz)).heap[w.heap.size + 1]? = some (.cells #[.float .f32 0, .float .f32 0] 126) from (heap_alloc_old _ _ (by rw [heap_size_alloc]; omega)).trans ((heap_alloc_old _ _ zS).trans HS2.out)); have HV3 := Lib.hid (show ((w2.alloc (viewO c fx fy (negW fy) e)).alloc (threeO x y hz)).heap[w2.heap.size]? = some (viewO c fx fy (negW fy) e) by (first | (rw [heap_alloc_get, if_pos rfl]; done) | ((simp only [heap_alloc_get, heap_size_alloc, if_true]) <;> ((repeat' split) <;> first | rfl | omega)))); have HB3 := Lib.hid (show Below w.heap.size w ((w2.alloc (viewO c fx fy (negW fy) e)).alloc (threeO x y hz)) from (HB2.out.alloc HB2.out.size _).alloc (by have := HB2.out.size; rw [heap_size_alloc]; omega) _); generalize (w2.alloc (viewO c fx fy (negW fy) e)).alloc (threeO x y hz) = w3 at *; clear zS; obtain ⟨cS, fS, zS⟩ := blkC HS3.out; obtain ⟨cV, fV, zV⟩ := blkC HV3.out))
  go_quiet (fail)
  refine exit_at (fun W4 => W4.heap[w.heap.size + 1]? = some (.cells #[.float .f32 0, .float .f32 0] 126) ∧ W4.heap[w2.heap.size]? = some (viewO c fx fy (negW fy) e) ∧ Below w.heap.size w W4) ?_ ?_
  · exact ⟨HS3.out, HV3.out, HB3.out.trans ((below_drewN _ _).mono HB3.out.size)⟩
  rintro w4 ⟨hS4, hV4, hB4⟩
  have HS4 := Lib.hid hS4
  have HV4 := Lib.hid hV4
  have HB4 := Lib.hid hB4
  clear hS4 hV4 hB4 cS fS zS cV fV zV
  obtain ⟨cS, fS, zS⟩ := blkC HS4.out
  obtain ⟨cV, fV, zV⟩ := blkC HV4.out
  go_wp2
  have zB := HB4.out.size
  refine at_world (fun W4 => W4.heap[w.heap.size + 1]? = some (.cells #[.float .f32 0, .float .f32 0] 126) ∧ Below w.heap.size w W4) ⟨spot_end HS4.out, (by repeat' (first | (with_reducible exact Below.refl _ _) | (with_reducible exact HB4.out) | (with_reducible refine Below.setCell ?_ ?_ _) | (with_reducible refine Below.trans ?_ (Below.mono (below_drewN _ _) ?_)) | (with_reducible refine Below.alloc ?_ ?_ _) | (with_reducible refine Below.drew ?_) | omega | (simp; done) | (simp; omega)))⟩ ?_
  rintro W4 ⟨hE, hB4⟩
  obtain ⟨cE, fE, zE⟩ := blkC hE
  clear cS fS zS cV fV zV zB
  refine bodyPost_ret (v := .tuple #[.agg #[.float .f32 0, .float .f32 0], .float .f32 0, .bool false, .int .i64 0]) (by simp [results, Try.results76, go_sem, cE]) rfl ⟨rfl, hB4⟩

set_option maxHeartbeats 1000000 in
set_option maxRecDepth 100000 in
theorem project_high (c : Cam) (x y hz : Nat) (he : fldE 3 (three x y hz) = 0) {fx fy e : Nat} (hV : VoOk c fx fy e) {px py pz t1 t2 a t3 t4 b t5 u : Nat} (P : PrAt c x y hz fx fy e px py pz t1 t2 a t3 t4 b t5 u)
    (ha : (FloatKind.f32.format.order a 1065353216 == some .lt) = false) (er : Int) (h1 : fldE 1 (fun _ => a) = er) (h2 : er ≠ 0) (w : World) :
    Calls Try.prog 76 #[.agg c.vs, .float .f32 x, .float .f32 y, .float .f32 hz] w (PjPost w 0 0 0 false er) := by
  have VO := Lib.hid hV
  unfold VoOk at hV
  have CH := Lib.hid (fun p w (hh : w.heap[p]? = some (.cells #[.float .f32 x, .float .f32 y, .float .f32 hz] 27)) => CheckHeights_row p 0 3 3 (three x y hz) (by omega) w (flAt_three hh))
  rw [he] at CH
  have RS := fun (w : World) (a : Addr) (m : Mode) k b => run_store_float (P := Try.prog) (w := w) (a := a) (m := m) k b
  have a1 := fun (W : World) => run_float_arith (P := Try.prog) W .sub 27 .f32 _ _ _ P.epx
  have a2 := fun (W : World) => run_float_arith (P := Try.prog) W .sub 27 .f32 _ _ _ P.epy
  have a3 := fun (W : World) => run_float_arith (P := Try.prog) W .sub 27 .f32 _ _ _ P.epz
  have a4 := fun (W : World) => run_float_arith (P := Try.prog) W .mul 27 .f32 _ _ _ P.et1
  have a5 := fun (W : World) => run_float_arith (P := Try.prog) W .mul 27 .f32 _ _ _ P.et2
  have a6 := fun (W : World) => run_float_arith (P := Try.prog) W .add 27 .f32 _ _ _ P.ea
  have CA := Lib.hid (fun p w (hh : w.heap[p]? = some (flObj a)) => CheckHeights_row p 0 1 1 (fun _ => a) (by omega) w (flAt_one_of hh))
  rw [h1] at CA
  have h3 : (er != 0) = true := by simpa using h2
  clear hV he P h1 h2
  go_enter Try.func76, Try.ntmps76
  go_wp2_with (first | (go_at_call 144; go_loud (refine (VO.out _).mono ?_; rintro en w2 ⟨rfl, hb2⟩; have HS2 := Lib.hid (blkStay (b := w.heap.size + 1) (o := .cells #[.float .f32 0, .float .f32 0] 126) (by (first | (rw [heap_alloc_get, if_pos rfl]; done) | ((simp only [heap_alloc_get, heap_size_alloc, if_true]) <;> ((repeat' split) <;> first | rfl | omega)))) hb2); have HB2 := Lib.hid (show Below w.heap.size w w2 from Below.trans (by repeat (first | exact Below.refl _ _ | refine Below.alloc ?_ (by first | omega | (simp; done) | (simp; omega)) _ | refine Below.setCell ?_ (by first | omega | (simp; done) | (simp; omega)) _ | refine Below.drew ?_)) (Below.mono hb2 (by first | omega | (simp; done) | (simp; omega)))); clear hb2)) | (go_at_call 95; (with_reducible refine (CH.out _ _ (by (first | (rw [heap_alloc_get, if_pos rfl]; done) | ((simp only [heap_alloc_get, heap_size_alloc, if_true]) <;> ((repeat' split) <;> first | rfl | omega))))).mono ?_); rintro en w' ⟨rfl, rfl⟩; have zS := (blkC HS2.out).2.2; have HS3 := Lib.hid (show ((w2.alloc (viewO c fx fy (negW fy) e)).alloc (threeO x y hz)).heap[w.heap.size + 1]? = some (.cells #[.float .f32 0, .float .f32 0] 126) from (heap_alloc_old _ _ (by rw [heap_size_alloc]; omega)).trans ((heap_alloc_old _ _ zS).trans HS2.out)); have HV3 := Lib.hid (show ((w2.alloc (viewO c fx fy (negW fy) e)).alloc (threeO x y hz)).heap[w2.heap.size]? = some (viewO c fx fy (negW fy) e) by (first | (rw [heap_alloc_get, if_pos rfl]; done) | ((simp only [heap_alloc_get, heap_size_alloc, if_true]) <;> ((repeat' split) <;> first | rfl | omega)))); have HB3 := Lib.hid (show Below w.heap.size w ((w2.alloc (viewO c fx fy (negW fy) e)).alloc (threeO x y hz)) from (HB2.out.alloc HB2.out.size _).alloc (by have := HB2.out.size; rw [heap_size_alloc]; omega) _); generalize (w2.alloc (viewO c fx fy (negW fy) e)).alloc (threeO x y hz) = w3 at *; clear zS; obtain ⟨cS, fS, zS⟩ := blkC HS3.out; obtain ⟨cV, fV, zV⟩ := blkC HV3.out))
  go_quiet (fail)
  refine exit_at (fun W4 => W4.heap[w.heap.size + 1]? = some (.cells #[.float .f32 0, .float .f32 0] 126) ∧ W4.heap[w2.heap.size]? = some (viewO c fx fy (negW fy) e) ∧ Below w.heap.size w W4) ?_ ?_
  · exact ⟨HS3.out, HV3.out, HB3.out.trans ((below_drewN _ _).mono HB3.out.size)⟩
  rintro w4 ⟨hS4, hV4, hB4⟩
  have HS4 := Lib.hid hS4
  have HV4 := Lib.hid hV4
  have HB4 := Lib.hid hB4
  clear hS4 hV4 hB4 cS fS zS cV fV zV
  obtain ⟨cS, fS, zS⟩ := blkC HS4.out
  obtain ⟨cV, fV, zV⟩ := blkC HV4.out
  go_wp2_with ((go_at_call 95; (with_reducible refine (CA.out _ _ (by (first | (rw [heap_alloc_get, if_pos rfl]; done) | ((simp only [heap_alloc_get, heap_size_alloc, if_true]) <;> ((repeat' split) <;> first | rfl | omega))))).mono ?_); rintro en w' ⟨rfl, rfl⟩; have HS5 := Lib.hid (show (w4.alloc (flObj a)).heap[w.heap.size + 1]? = some (.cells #[.float .f32 0, .float .f32 0] 126) from (heap_alloc_old _ _ zS).trans HS4.out); have HV5 := Lib.hid (show (w4.alloc (flObj a)).heap[w2.heap.size]? = some (viewO c fx fy (negW fy) e) from (heap_alloc_old _ _ zV).trans HV4.out); have HB5 := Lib.hid (show Below w.heap.size w (w4.alloc (flObj a)) from HB4.out.alloc HB4.out.size _); generalize w4.alloc (flObj a) = w5 at *; clear cS fS zS cV fV zV; obtain ⟨cS, fS, zS⟩ := blkC HS5.out; obtain ⟨cV, fV, zV⟩ := blkC HV5.out))
  have zB := HB5.out.size
  refine at_world (fun W4 => W4.heap[w.heap.size + 1]? = some (.cells #[.float .f32 0, .float .f32 0] 126) ∧ Below w.heap.size w W4) ⟨spot_end HS5.out, (by repeat' (first | (with_reducible exact Below.refl _ _) | (with_reducible exact HB5.out) | (with_reducible refine Below.setCell ?_ ?_ _) | (with_reducible refine Below.trans ?_ (Below.mono (below_drewN _ _) ?_)) | (with_reducible refine Below.alloc ?_ ?_ _) | (with_reducible refine Below.drew ?_) | omega | (simp; done) | (simp; omega)))⟩ ?_
  rintro W4 ⟨hE, hB4⟩
  obtain ⟨cE, fE, zE⟩ := blkC hE
  clear cS fS zS cV fV zV zB
  refine bodyPost_ret (v := .tuple #[.agg #[.float .f32 0, .float .f32 0], .float .f32 0, .bool false, .int .i64 er]) (by simp [results, Try.results76, go_sem, cE]) rfl ⟨rfl, hB4⟩

set_option maxHeartbeats 1000000 in
set_option maxRecDepth 100000 in
theorem project_ok (c : Cam) (x y hz : Nat) (he : fldE 3 (three x y hz) = 0) {fx fy e : Nat} (hV : VoOk c fx fy e) {px py pz t1 t2 a t3 t4 b t5 u : Nat} (P : PrAt c x y hz fx fy e px py pz t1 t2 a t3 t4 b t5 u)
    (ha : (FloatKind.f32.format.order a 1065353216 == some .lt) = false) (h1 : fldE 1 (fun _ => a) = 0) {q1 q2 sx sy : Nat} (S : SpAt a b u c.z q1 q2 sx sy) (w : World) :
    Calls Try.prog 76 #[.agg c.vs, .float .f32 x, .float .f32 y, .float .f32 hz] w (PjPost w sx sy a true 0) := by
  have VO := Lib.hid hV
  unfold VoOk at hV
  have CH := Lib.hid (fun p w (hh : w.heap[p]? = some (.cells #[.float .f32 x, .float .f32 y, .float .f32 hz] 27)) => CheckHeights_row p 0 3 3 (three x y hz) (by omega) w (flAt_three hh))
  rw [he] at CH
  have RS := fun (w : World) (a : Addr) (m : Mode) k b => run_store_float (P := Try.prog) (w := w) (a := a) (m := m) k b
  have a1 := fun (W : World) => run_float_arith (P := Try.prog) W .sub 27 .f32 _ _ _ P.epx
  have a2 := fun (W : World) => run_float_arith (P := Try.prog) W .sub 27 .f32 _ _ _ P.epy
  have a3 := fun (W : World) => run_float_arith (P := Try.prog) W .sub 27 .f32 _ _ _ P.epz
  have a4 := fun (W : World) => run_float_arith (P := Try.prog) W .mul 27 .f32 _ _ _ P.et1
  have a5 := fun (W : World) => run_float_arith (P := Try.prog) W .mul 27 .f32 _ _ _ P.et2
  have a6 := fun (W : World) => run_float_arith (P := Try.prog) W .add 27 .f32 _ _ _ P.ea
  have a7 := fun (W : World) => run_float_arith (P := Try.prog) W .mul 27 .f32 _ _ _ P.et3
  have a8 := fun (W : World) => run_float_arith (P := Try.prog) W .mul 27 .f32 _ _ _ P.et4
  have a9 := fun (W : World) => run_float_arith (P := Try.prog) W .add 27 .f32 _ _ _ P.eb
  have a10 := fun (W : World) => run_float_arith (P := Try.prog) W .mul 27 .f32 _ _ _ P.et5
  have a11 := fun (W : World) => run_float_arith (P := Try.prog) W .sub 27 .f32 _ _ _ P.eu
  have a12 := fun (W : World) => run_float_arith (P := Try.prog) W .quo 27 .f32 _ _ _ S.eq1
  have a13 := fun (W : World) => run_float_arith (P := Try.prog) W .quo 27 .f32 _ _ _ S.eq2
  have a14 := fun (W : World) => run_float_arith (P := Try.prog) W .mul 27 .f32 _ _ _ S.esx
  have a15 := fun (W : World) => run_float_arith (P := Try.prog) W .mul 27 .f32 _ _ _ S.esy
  have CA := Lib.hid (fun p w (hh : w.heap[p]? = some (flObj a)) => CheckHeights_row p 0 1 1 (fun _ => a) (by omega) w (flAt_one_of hh))
  rw [h1] at CA
  clear hV he P h1 S
  go_enter Try.func76, Try.ntmps76
  go_wp2_with (first | (go_at_call 144; go_loud (refine (VO.out _).mono ?_; rintro en w2 ⟨rfl, hb2⟩; have HS2 := Lib.hid (blkStay (b := w.heap.size + 1) (o := .cells #[.float .f32 0, .float .f32 0] 126) (by (first | (rw [heap_alloc_get, if_pos rfl]; done) | ((simp only [heap_alloc_get, heap_size_alloc, if_true]) <;> ((repeat' split) <;> first | rfl | omega)))) hb2); have HB2 := Lib.hid (show Below w.heap.size w w2 from Below.trans (by repeat (first | exact Below.refl _ _ | refine Below.alloc ?_ (by first | omega | (simp; done) | (simp; omega)) _ | refine Below.setCell ?_ (by first | omega | (simp; done) | (simp; omega)) _ | refine Below.drew ?_)) (Below.mono hb2 (by first | omega | (simp; done) | (simp; omega)))); clear hb2)) | (go_at_call 95; (with_reducible refine (CH.out _ _ (by (first | (rw [heap_alloc_get, if_pos rfl]; done) | ((simp only [heap_alloc_get, heap_size_alloc, if_true]) <;> ((repeat' split) <;> first | rfl | omega))))).mono ?_); rintro en w' ⟨rfl, rfl⟩; have zS := (blkC HS2.out).2.2; have HS3 := Lib.hid (show ((w2.alloc (viewO c fx fy (negW fy) e)).alloc (threeO x y hz)).heap[w.heap.size + 1]? = some (.cells #[.float .f32 0, .float .f32 0] 126) from (heap_alloc_old _ _ (by rw [heap_size_alloc]; omega)).trans ((heap_alloc_old _ _ zS).trans HS2.out)); have HV3 := Lib.hid (show ((w2.alloc (viewO c fx fy (negW fy) e)).alloc (threeO x y hz)).heap[w2.heap.size]? = some (viewO c fx fy (negW fy) e) by (first | (rw [heap_alloc_get, if_pos rfl]; done) | ((simp only [heap_alloc_get, heap_size_alloc, if_true]) <;> ((repeat' split) <;> first | rfl | omega)))); have HB3 := Lib.hid (show Below w.heap.size w ((w2.alloc (viewO c fx fy (negW fy) e)).alloc (threeO x y hz)) from (HB2.out.alloc HB2.out.size _).alloc (by have := HB2.out.size; rw [heap_size_alloc]; omega) _); generalize (w2.alloc (viewO c fx fy (negW fy) e)).alloc (threeO x y hz) = w3 at *; clear zS; obtain ⟨cS, fS, zS⟩ := blkC HS3.out; obtain ⟨cV, fV, zV⟩ := blkC HV3.out))
  go_quiet (fail)
  refine exit_at (fun W4 => W4.heap[w.heap.size + 1]? = some (.cells #[.float .f32 0, .float .f32 0] 126) ∧ W4.heap[w2.heap.size]? = some (viewO c fx fy (negW fy) e) ∧ Below w.heap.size w W4) ?_ ?_
  · exact ⟨HS3.out, HV3.out, HB3.out.trans ((below_drewN _ _).mono HB3.out.size)⟩
  rintro w4 ⟨hS4, hV4, hB4⟩
  have HS4 := Lib.hid hS4
  have HV4 := Lib.hid hV4
  have HB4 := Lib.hid hB4
  clear hS4 hV4 hB4 cS fS zS cV fV zV
  obtain ⟨cS, fS, zS⟩ := blkC HS4.out
  obtain ⟨cV, fV, zV⟩ := blkC HV4.out
  go_wp2_with ((go_at_call 95; (with_reducible refine (CA.out _ _ (by (first | (rw [heap_alloc_get, if_pos rfl]; done) | ((simp only [heap_alloc_get, heap_size_alloc, if_true]) <;> ((repeat' split) <;> first | rfl | omega))))).mono ?_); rintro en w' ⟨rfl, rfl⟩; have HS5 := Lib.hid (show (w4.alloc (flObj a)).heap[w.heap.size + 1]? = some (.cells #[.float .f32 0, .float .f32 0] 126) from (heap_alloc_old _ _ zS).trans HS4.out); have HV5 := Lib.hid (show (w4.alloc (flObj a)).heap[w2.heap.size]? = some (viewO c fx fy (negW fy) e) from (heap_alloc_old _ _ zV).trans HV4.out); have HB5 := Lib.hid (show Below w.heap.size w (w4.alloc (flObj a)) from HB4.out.alloc HB4.out.size _); generalize w4.alloc (flObj a) = w5 at *; clear cS fS zS cV fV zV; obtain ⟨cS, fS, zS⟩ := blkC HS5.out; obtain ⟨cV, fV, zV⟩ := blkC HV5.out))
  have zB := HB5.out.size
  refine at_world (fun W4 => W4.heap[w.heap.size + 1]? = some (.cells #[.float .f32 sx, .float .f32 sy] 126) ∧ Below w.heap.size w W4) ⟨spot_end HS5.out, (by repeat' (first | (with_reducible exact Below.refl _ _) | (with_reducible exact HB5.out) | (with_reducible refine Below.setCell ?_ ?_ _) | (with_reducible refine Below.trans ?_ (Below.mono (below_drewN _ _) ?_)) | (with_reducible refine Below.alloc ?_ ?_ _) | (with_reducible refine Below.drew ?_) | omega | (simp; done) | (simp; omega)))⟩ ?_
  rintro W4 ⟨hE, hB4⟩
  obtain ⟨cE, fE, zE⟩ := blkC hE
  clear cS fS zS cV fV zV zB
  refine bodyPost_ret (v := .tuple #[.agg #[.float .f32 sx, .float .f32 sy], .float .f32 a, .bool true, .int .i64 0]) (by simp [results, Try.results76, go_sem, cE]) rfl ⟨rfl, hB4⟩

end Go.Proofs.Ythemmpmjjdpdfaa

/- Contract: ProjectOf. -/
namespace Go.Proofs.Ythemmpmjjdpdfaa
open Go.RowKit Fl
set_option linter.unusedVariables false

/-- What ProjectOf answers. -/
def PoPost (w : World) (sx sy a : Nat) (is : Bool) (en : Ending) (w' : World) : Prop :=
  en = .returned (.tuple #[.agg #[.float .f32 sx, .float .f32 sy], .float .f32 a, .bool is]) ∧ Below w.heap.size w w'
/-- A camera that is right. -/
def FrOk (c : Cam) (fx fy e : Nat) : Prop := ∀ w, Calls Try.prog 146 #[.agg c.vs] w (FrmPost w fx fy (negW fy) e)

set_option maxHeartbeats 1000000 in
set_option maxRecDepth 100000 in
theorem projectOf_far (c : Cam) (x y hz : Nat) {fx fy e : Nat} (hF : FrOk c fx fy e) {px py pz t1 t2 a t3 t4 b t5 u : Nat} (P : PrAt c x y hz fx fy e px py pz t1 t2 a t3 t4 b t5 u)
    (ha : (FloatKind.f32.format.order a 1065353216 == some .lt) = true) (w : World) :
    Calls Try.prog 78 #[.agg c.vs, .float .f32 x, .float .f32 y, .float .f32 hz] w (PoPost w 0 0 0 false) := by
  have FR := Lib.hid hF
  unfold FrOk at hF
  have RS := fun (w : World) (a : Addr) (m : Mode) k b => run_store_float (P := Try.prog) (w := w) (a := a) (m := m) k b
  have a1 := fun (W : World) => run_float_arith (P := Try.prog) W .sub 27 .f32 _ _ _ P.epx
  have a2 := fun (W : World) => run_float_arith (P := Try.prog) W .sub 27 .f32 _ _ _ P.epy
  have a3 := fun (W : World) => run_float_arith (P := Try.prog) W .sub 27 .f32 _ _ _ P.epz
  have a4 := fun (W : World) => run_float_arith (P := Try.prog) W .mul 27 .f32 _ _ _ P.et1
  have a5 := fun (W : World) => run_float_arith (P := Try.prog) W .mul 27 .f32 _ _ _ P.et2
  have a6 := fun (W : World) => run_float_arith (P := Try.prog) W .add 27 .f32 _ _ _ P.ea
  have a7 := fun (W : World) => run_float_arith (P := Try.prog) W .mul 27 .f32 _ _ _ P.et3
  have a8 := fun (W : World) => run_float_arith (P := Try.prog) W .mul 27 .f32 _ _ _ P.et4
  have a9 := fun (W : World) => run_float_arith (P := Try.prog) W .add 27 .f32 _ _ _ P.eb
  have a10 := fun (W : World) => run_float_arith (P := Try.prog) W .mul 27 .f32 _ _ _ P.et5
  have a11 := fun (W : World) => run_float_arith (P := Try.prog) W .sub 27 .f32 _ _ _ P.eu
  clear hF P
  go_enter Try.func78, Try.ntmps78
  go_wp2_with (go_at_call 146; go_loud (refine (FR.out _).mono ?_; rintro en w2 ⟨rfl, hb2⟩; have HC2 := Lib.hid (blkStay (b := w.heap.size) (o := .cells c.vs 124) (by (first | (rw [heap_alloc_get, if_pos rfl]; done) | ((simp only [heap_alloc_get, heap_size_alloc, if_true]) <;> ((repeat' split) <;> first | rfl | omega)))) hb2); have HS2 := Lib.hid (blkStay (b := w.heap.size + 1) (o := .cells #[.float .f32 0, .float .f32 0] 126) (by (first | (rw [heap_alloc_get, if_pos rfl]; done) | ((simp only [heap_alloc_get, heap_size_alloc, if_true]) <;> ((repeat' split) <;> first | rfl | omega)))) hb2); have HB2 := Lib.hid (show Below w.heap.size w w2 from Below.trans (by repeat (first | exact Below.refl _ _ | refine Below.alloc ?_ (by first | omega | (simp; done) | (simp; omega)) _ | refine Below.setCell ?_ (by first | omega | (simp; done) | (simp; omega)) _ | refine Below.drew ?_)) (Below.mono hb2 (by first | omega | (simp; done) | (simp; omega)))); clear hb2; obtain ⟨cS, fS, zS⟩ := blkC HS2.out; obtain ⟨cC, fC, zC⟩ := blkC HC2.out))
  go_quiet (fail)
  refine exit_at (fun W4 => W4.heap[w.heap.size + 1]? = some (.cells #[.float .f32 0, .float .f32 0] 126) ∧ W4.heap[w.heap.size]? = some (.cells c.vs 124) ∧ Below w.heap.size w W4) ?_ ?_
  · exact ⟨HS2.out, HC2.out, HB2.out.trans ((below_drewN _ _).mono HB2.out.size)⟩
  rintro w4 ⟨hS4, hV4, hB4⟩
  have HS4 := Lib.hid hS4
  have HV4 := Lib.hid hV4
  have HB4 := Lib.hid hB4
  clear hS4 hV4 hB4 cS fS zS cC fC zC
  obtain ⟨cS, fS, zS⟩ := blkC HS4.out
  obtain ⟨cV, fV, zV⟩ := blkC HV4.out
  go_wp2
  have zB := HB4.out.size
  refine at_world (fun W4 => W4.heap[w.heap.size + 1]? = some (.cells #[.float .f32 0, .float .f32 0] 126) ∧ Below w.heap.size w W4) ⟨spot_end HS4.out, (by repeat' (first | (with_reducible exact Below.refl _ _) | (with_reducible exact HB4.out) | (with_reducible refine Below.setCell ?_ ?_ _) | (with_reducible refine Below.trans ?_ (Below.mono (below_drewN _ _) ?_)) | (with_reducible refine Below.alloc ?_ ?_ _) | (with_reducible refine Below.drew ?_) | omega | (simp; done) | (simp; omega)))⟩ ?_
  rintro W4 ⟨hE, hB4⟩
  obtain ⟨cE, fE, zE⟩ := blkC hE
  clear cS fS zS cV fV zV zB
  refine bodyPost_ret (v := .tuple #[.agg #[.float .f32 0, .float .f32 0], .float .f32 0, .bool false]) (by simp [results, Try.results78, go_sem, cE]) rfl ⟨rfl, hB4⟩

set_option maxHeartbeats 1000000 in
set_option maxRecDepth 100000 in
theorem projectOf_ok (c : Cam) (x y hz : Nat) {fx fy e : Nat} (hF : FrOk c fx fy e) {px py pz t1 t2 a t3 t4 b t5 u : Nat} (P : PrAt c x y hz fx fy e px py pz t1 t2 a t3 t4 b t5 u)
    (ha : (FloatKind.f32.format.order a 1065353216 == some .lt) = false) {q1 q2 sx sy : Nat} (S : SpAt a b u c.z q1 q2 sx sy) (w : World) :
    Calls Try.prog 78 #[.agg c.vs, .float .f32 x, .float .f32 y, .float .f32 hz] w (PoPost w sx sy a true) := by
  have FR := Lib.hid hF
  unfold FrOk at hF
  have RS := fun (w : World) (a : Addr) (m : Mode) k b => run_store_float (P := Try.prog) (w := w) (a := a) (m := m) k b
  have a1 := fun (W : World) => run_float_arith (P := Try.prog) W .sub 27 .f32 _ _ _ P.epx
  have a2 := fun (W : World) => run_float_arith (P := Try.prog) W .sub 27 .f32 _ _ _ P.epy
  have a3 := fun (W : World) => run_float_arith (P := Try.prog) W .sub 27 .f32 _ _ _ P.epz
  have a4 := fun (W : World) => run_float_arith (P := Try.prog) W .mul 27 .f32 _ _ _ P.et1
  have a5 := fun (W : World) => run_float_arith (P := Try.prog) W .mul 27 .f32 _ _ _ P.et2
  have a6 := fun (W : World) => run_float_arith (P := Try.prog) W .add 27 .f32 _ _ _ P.ea
  have a7 := fun (W : World) => run_float_arith (P := Try.prog) W .mul 27 .f32 _ _ _ P.et3
  have a8 := fun (W : World) => run_float_arith (P := Try.prog) W .mul 27 .f32 _ _ _ P.et4
  have a9 := fun (W : World) => run_float_arith (P := Try.prog) W .add 27 .f32 _ _ _ P.eb
  have a10 := fun (W : World) => run_float_arith (P := Try.prog) W .mul 27 .f32 _ _ _ P.et5
  have a11 := fun (W : World) => run_float_arith (P := Try.prog) W .sub 27 .f32 _ _ _ P.eu
  have a12 := fun (W : World) => run_float_arith (P := Try.prog) W .quo 27 .f32 _ _ _ S.eq1
  have a13 := fun (W : World) => run_float_arith (P := Try.prog) W .quo 27 .f32 _ _ _ S.eq2
  have a14 := fun (W : World) => run_float_arith (P := Try.prog) W .mul 27 .f32 _ _ _ S.esx
  have a15 := fun (W : World) => run_float_arith (P := Try.prog) W .mul 27 .f32 _ _ _ S.esy
  clear hF P S
  go_enter Try.func78, Try.ntmps78
  go_wp2_with (go_at_call 146; go_loud (refine (FR.out _).mono ?_; rintro en w2 ⟨rfl, hb2⟩; have HC2 := Lib.hid (blkStay (b := w.heap.size) (o := .cells c.vs 124) (by (first | (rw [heap_alloc_get, if_pos rfl]; done) | ((simp only [heap_alloc_get, heap_size_alloc, if_true]) <;> ((repeat' split) <;> first | rfl | omega)))) hb2); have HS2 := Lib.hid (blkStay (b := w.heap.size + 1) (o := .cells #[.float .f32 0, .float .f32 0] 126) (by (first | (rw [heap_alloc_get, if_pos rfl]; done) | ((simp only [heap_alloc_get, heap_size_alloc, if_true]) <;> ((repeat' split) <;> first | rfl | omega)))) hb2); have HB2 := Lib.hid (show Below w.heap.size w w2 from Below.trans (by repeat (first | exact Below.refl _ _ | refine Below.alloc ?_ (by first | omega | (simp; done) | (simp; omega)) _ | refine Below.setCell ?_ (by first | omega | (simp; done) | (simp; omega)) _ | refine Below.drew ?_)) (Below.mono hb2 (by first | omega | (simp; done) | (simp; omega)))); clear hb2; obtain ⟨cS, fS, zS⟩ := blkC HS2.out; obtain ⟨cC, fC, zC⟩ := blkC HC2.out))
  go_quiet (fail)
  refine exit_at (fun W4 => W4.heap[w.heap.size + 1]? = some (.cells #[.float .f32 0, .float .f32 0] 126) ∧ W4.heap[w.heap.size]? = some (.cells c.vs 124) ∧ Below w.heap.size w W4) ?_ ?_
  · exact ⟨HS2.out, HC2.out, HB2.out.trans ((below_drewN _ _).mono HB2.out.size)⟩
  rintro w4 ⟨hS4, hV4, hB4⟩
  have HS4 := Lib.hid hS4
  have HV4 := Lib.hid hV4
  have HB4 := Lib.hid hB4
  clear hS4 hV4 hB4 cS fS zS cC fC zC
  obtain ⟨cS, fS, zS⟩ := blkC HS4.out
  obtain ⟨cV, fV, zV⟩ := blkC HV4.out
  go_wp2
  have zB := HB4.out.size
  refine at_world (fun W4 => W4.heap[w.heap.size + 1]? = some (.cells #[.float .f32 sx, .float .f32 sy] 126) ∧ Below w.heap.size w W4) ⟨spot_end HS4.out, (by repeat' (first | (with_reducible exact Below.refl _ _) | (with_reducible exact HB4.out) | (with_reducible refine Below.setCell ?_ ?_ _) | (with_reducible refine Below.trans ?_ (Below.mono (below_drewN _ _) ?_)) | (with_reducible refine Below.alloc ?_ ?_ _) | (with_reducible refine Below.drew ?_) | omega | (simp; done) | (simp; omega)))⟩ ?_
  rintro W4 ⟨hE, hB4⟩
  obtain ⟨cE, fE, zE⟩ := blkC hE
  clear cS fS zS cV fV zV zB
  refine bodyPost_ret (v := .tuple #[.agg #[.float .f32 sx, .float .f32 sy], .float .f32 a, .bool true]) (by simp [results, Try.results78, go_sem, cE]) rfl ⟨rfl, hB4⟩

end Go.Proofs.Ythemmpmjjdpdfaa

/- Bytes that are appended to a list of one's own; contract: appendBytes. -/
namespace Go.Proofs.Ythemmpmjjdpdfaa
open Go.RowKit Fl
set_option linter.unusedVariables false

/-- Bytes, as cells. -/
def btL (L : List Int) : List Value := L.map (Value.int .u8)
theorem btL_len (L : List Int) : (btL L).length = L.length := by simp [btL]
theorem btL_app (L M : List Int) : btL (L ++ M) = btL L ++ btL M := by simp [btL]

theorem grownBy_on {w w1 w2 : World} {o : Option Nat} {g : Nat} (h : w.grownBy w1 o) (ho : o = some g ∨ w.heap.size ≤ g) (h2 : w1.grownBy w2 (some g)) : w.grownBy w2 o := by
  refine ⟨h2.os.trans h.os, h2.tape.trans h.tape, h2.output.trans h.output, Nat.le_trans h.size h2.size, fun i hi hne => ?_⟩
  rw [h2.block i (Nat.lt_of_lt_of_le hi h.size) ?_]
  · exact h.block i hi hne
  · rcases ho with rfl | hg
    · exact hne
    · intro c; have := Option.some.inj c; omega
theorem grownBy_below {w w1 w2 : World} {o : Option Nat} (h : w.grownBy w1 o) (h2 : Below w1.heap.size w1 w2) : w.grownBy w2 o :=
  ⟨h2.os.trans h.os, h2.tape.trans h.tape, h2.output.trans h.output, Nat.le_trans h.size h2.size, fun i hi hne => (h2.block i (Nat.lt_of_lt_of_le hi h.size)).trans (h.block i hi hne)⟩

/-- A list of bytes of one's own (from the block base on), since the world w0, in which it began as o0. -/
structure BtAt (w0 : World) (base : Nat) (o0 : Option Nat) (L : List Int) (ov : Value) (wr : World) : Prop where
  own : wr.ownsRow base 5 1 ov L.length (btL L)
  gr : w0.grownBy wr o0
  seat : ov.ownBlock = o0 ∨ ∃ g, ov.ownBlock = some g ∧ w0.heap.size ≤ g
  size : base ≤ wr.heap.size

theorem BtAt.push {w0 wr w5 w6 : World} {base g' cap' x : Nat} {o0 : Option Nat} {L : List Int} {ov : Value} {o : Obj} {B : List Int} (h : BtAt w0 base o0 L ov wr) (h5 : Below wr.heap.size wr w5)
    (hgrow : (w5.alloc o).grownBy w6 ov.ownBlock) (hat : ov.ownBlock = some g' ∨ g' = x) (hx : w5.heap.size ≤ x) (hown : w6.ownsRow base 5 1 (.slice (some ⟨g', 0, none⟩) (L.length + B.length) cap') (L.length + B.length) (btL L ++ btL B)) :
    BtAt w0 base o0 (L ++ B) (.slice (some ⟨g', 0, none⟩) (L.length + B.length) cap') w6 := by
  have g5 : w0.grownBy (w5.alloc o) o0 := grownBy_below (grownBy_below h.gr h5) (((Below.refl _ _).alloc (Nat.le_refl _) _))
  have s5 : wr.heap.size ≤ w5.heap.size := h5.size
  refine ⟨?_, ?_, ?_, ?_⟩
  · rw [List.length_append, btL_app]; exact hown
  · cases hv : ov.ownBlock with
    | none =>
      rw [hv] at hgrow
      exact ⟨hgrow.os.trans g5.os, hgrow.tape.trans g5.tape, hgrow.output.trans g5.output, Nat.le_trans g5.size hgrow.size, fun i hi hne => (hgrow.block i (Nat.lt_of_lt_of_le hi g5.size) (by simp)).trans (g5.block i hi hne)⟩
    | some g =>
      rw [hv] at hgrow
      refine grownBy_on g5 ?_ hgrow
      rcases h.seat with e | ⟨q, e, hq⟩
      · exact .inl (e.symm.trans hv)
      · rw [hv] at e; have := Option.some.inj e; exact .inr (by omega)
  · rcases hat with e | e
    · rcases h.seat with s | ⟨q, s, hq⟩
      · exact .inl (by rw [← s, e]; rfl)
      · exact .inr ⟨g', rfl, by rw [e] at s; have := Option.some.inj s; omega⟩
    · exact .inr ⟨g', rfl, by have := h.gr.size; omega⟩
  · have := hgrow.size
    rw [heap_size_alloc] at this
    have := h.size
    omega

/-- The lowest bytes of a number, the highest of them first. -/
def byteL (n : Nat) : Nat → List Int
  | 0 => []
  | k + 1 => ((n / 256 ^ k % 256 : Nat) : Int) :: byteL n k
theorem byteL_len (n : Nat) : ∀ k, (byteL n k).length = k
  | 0 => rfl
  | k + 1 => by simp [byteL, byteL_len n k]

theorem byte_eq (n k : Nat) : ((n / 256 ^ k % 256 : Nat) : Int) = (n : Int) / 2 ^ (8 * k) % 256 := by
  rw [Int.natCast_emod, Int.natCast_ediv, Int.natCast_pow, Int.pow_mul]
  rfl

set_option maxHeartbeats 1000000 in
set_option maxRecDepth 100000 in
theorem appendBytes_any (w0 : World) (base : Nat) (o0 : Option Nat) (L : List Int) (ov : Value) (n m : Nat) (w : World) (h : BtAt w0 base o0 L ov w) (hn : n < 4294967296) (hm : m ≤ 4) (hL : L.length ≤ 1073741824) :
    Calls Try.prog 171 #[ov, .int .u32 n, .int .i64 m] w fun e w' => ∃ ov', e = .returned ov' ∧ BtAt w0 base o0 (L ++ byteL n m) ov' w' := by
  have HB := Lib.hid h
  have hinfo : (Try.prog.info? 5).map (fun i => (i.zero, i.size, i.bytes)) = some (some (.int .u8 0), 1, 1) := by kernel_rfl
  obtain ⟨ti, hi, hz0, hz1, hz2⟩ := info_parts hinfo
  have HTI := Lib.hid hi
  have HL := Lib.hid hL
  clear h hinfo hi hL
  go_enter Try.func171, Try.ntmps171
  go_wp2
  go_loopw [0, 2] (fun t c wr => ∃ (k : Nat) (P : List Int), k ≤ m ∧ c = .int .i64 k ∧ P.length + k = m ∧ P ++ byteL n k = byteL n m ∧ BtAt w0 base o0 (L ++ P) t wr) (fun _ c _ => (intOf c).toNat)
  case atStart => exact ⟨m, [], Nat.le_refl _, rfl, by simp, rfl, by rw [List.append_nil]; exact HB.out⟩
  case round =>
    obtain ⟨k, P, hk, rfl, hP, hPe, hA⟩ := hrel
    have HA := Lib.hid hA
    have HPE := Lib.hid hPe
    have HPL := Lib.hid hP
    clear hA hPe hP
    cases k with
    | zero =>
      go_wp2
      go_ret
      refine ⟨_, rfl, ?_⟩
      have e := HPE.out
      rw [show byteL n 0 = [] from rfl, List.append_nil] at e
      rw [← e]
      exact HA.out
    | succ k =>
      have hi := HTI.out
      have HKE := Lib.hid (byte_eq n k)
      have HLT := Lib.hid (show (L ++ P).length + 1 ≤ 1073741840 by have := HL.out; have := HPL.out; simp; omega)
      go_wp2_with (at_builtin; go_loud (refine wpList_append_lies _ rfl _ _ _ rfl base 5 ti _ 1 1 Try.underlying198 hi hz0 hz1 hz2 rfl (by omega) u0 (L ++ P).length (btL (L ++ P)) (by rfl) (HA.out.own.alloc _) ⟨wr.heap.size, 0, none⟩ 1 1 [.int .u8 ((n : Int) / 2 ^ (8 * k) % 256)] (by rfl) (by rfl) (World.news_of_block (cs := #[.int .u8 ((n : Int) / 2 ^ (8 * k) % 256)]) (t := 5) (fr := (0, 0)) (heap_alloc_new wr _)) (by simp [Value.oneCell']) (by omega) (by have := HLT.out; unfold maxLen; omega) (by have := HLT.out; omega) (by have := HA.out.size; simp; omega) (wr.heap.size + 1) (by simp) ?_; intro g' cap' w6 hown6 hgrow hat hlt6; have HN6 := Lib.hid (BtAt.push (B := [(n : Int) / 2 ^ (8 * k) % 256]) HA.out (Below.refl _ _) hgrow hat (Nat.le_succ _) hown6); clear hown6 hgrow hat hlt6))
      go_roundw
      case rel =>
        refine ⟨k, P ++ [(n : Int) / 2 ^ (8 * k) % 256], by omega, rfl, by have := HPL.out; simp; omega, ?_, by rw [← List.append_assoc, ← List.length_append]; exact HN6.out⟩
        rw [List.append_assoc, ← HPE.out]
        show _ = P ++ (((n / 256 ^ k % 256 : Nat) : Int) :: byteL n k)
        rw [HKE.out]; rfl
      case measure => simp [intOf]
end Go.Proofs.Ythemmpmjjdpdfaa

/- Contract: layouts: what stands in the map for whole singles. -/
namespace Go.Proofs.Ythemmpmjjdpdfaa
open Go.RowKit Fl Go.Maps Go.ChangeMaps
set_option linter.unusedVariables false

abbrev fnV (n : Nat) : Value := .func (.func n) #[] #[]
abbrev pt (b : Nat) : Value := .pointer (some ⟨b, 0, none⟩)

theorem run_store_func {P : Program} {w : World} {a : Addr} {m : Mode} (f : Fn) (x y : Array Value) : (store a (.func f x y) m).run P w = stored P w a (.func f x y) m := run_store P w a _ m rfl

theorem keyLaw : Keyed Try.prog 3 := int_keyed Try.underlying3

theorem ins_any (w : World) (mb : Nat) (es : Array MapEntry) (cl : Nat) (n : Int) (v : Value) (hb : w.heap[mb]? = some (.map es cl)) (hn : (Lit.int .i64 n).wf = true) (hk : ∀ x ∈ es.toList, ∃ m, x.key = .int .i64 m ∧ (Lit.int .i64 m).wf = true ∧ m ≠ n) :
    ∃ w', (Instr.mapUpdate 233 (.map (some mb)) (.int .i64 n) v).run Try.prog w = .ok () w' ∧ w'.heap[mb]? = some (.map (es.push ⟨.int .i64 n, v, cl⟩) (cl + 1)) ∧ w.grownBy w' (some mb) := by
  have hkey := keyOf_int_mk (P := Try.prog) Try.underlying3 hn
  rcases keyLaw.find w hkey es.toList (fun x hx => by obtain ⟨m, e, h, _⟩ := hk x hx; exact ⟨_, by rw [e]; exact keyOf_int_mk Try.underlying3 h⟩) with ⟨h1, h2⟩ | ⟨j, e0, h1, h2, h3⟩
  · refine ⟨_, ?_, heap_setBlock_same hb _, ⟨rfl, rfl, rfl, by simp [setBlock], fun i _ hi => heap_setBlock_other hb _ (fun e => hi (by rw [e]))⟩⟩
    simp [Instr.mapUpdate, run_underlying Try.underlying233, MapKept.run_getObj_map hb, keyLaw.check w false hkey, h1, MapKept.run_setObj_map _ hb, Result.andThen, setBlock]
  · obtain ⟨m, e, _, hne⟩ := hk e0 (List.mem_of_getElem? h2)
    rw [e] at h3
    injection h3 with _ q
    exact absurd q hne

theorem look_any (w : World) (mb : Nat) (es : Array MapEntry) (cl : Nat) (n : Int) (e0 : MapEntry) (hb : w.heap[mb]? = some (.map es cl)) (hn : (Lit.int .i64 n).wf = true) (hk : ∀ x ∈ es.toList, ∃ m, x.key = .int .i64 m ∧ (Lit.int .i64 m).wf = true)
    (h0 : e0 ∈ es.toList) (hk0 : e0.key = .int .i64 n) (hu : ∀ x ∈ es.toList, x.key = .int .i64 n → x = e0) :
    (Instr.lookup 233 (.map (some mb)) (.int .i64 n) true).run Try.prog w = .ok (.tuple #[e0.val, .bool true]) w := by
  have hkey := keyOf_int_mk (P := Try.prog) Try.underlying3 hn
  rcases keyLaw.find w hkey es.toList (fun x hx => by obtain ⟨m, e, h⟩ := hk x hx; exact ⟨_, by rw [e]; exact keyOf_int_mk Try.underlying3 h⟩) with ⟨h1, h2⟩ | ⟨j, e1, h1, h2, h3⟩
  · exact absurd hk0 (h2 e0 h0)
  · obtain rfl := hu e1 (List.mem_of_getElem? h2) h3
    simp [Instr.lookup, run_underlying Try.underlying233, MapKept.run_getObj_map hb, keyLaw.check w _ hkey, h1, Result.andThen]

/-- A layout of codes. -/
structure CodV (w : World) (c : Int) (f g : Nat) (V : Value) (p q r : Nat) : Prop where
  val : V = .agg #[.bool false, .func (.func 199) #[] #[pt p, pt q, pt r], .func (.func 200) #[] #[pt p, pt r]]
  h1 : w.heap[p]? = some (.cells #[.int .i64 c] 3)
  h2 : w.heap[q]? = some (.cells #[fnV f] 94)
  h3 : w.heap[r]? = some (.cells #[fnV g] 179)
theorem CodV.stay {w w' : World} {c : Int} {f g : Nat} {V : Value} {p q r : Nat} (h : CodV w c f g V p q r) (hb : Below w.heap.size w w') : CodV w' c f g V p q r :=
  ⟨h.val, blkStay h.h1 hb, blkStay h.h2 hb, blkStay h.h3 hb⟩
theorem CodV.grown {w w' : World} {c : Int} {f g : Nat} {V : Value} {p q r m : Nat} (h : CodV w c f g V p q r) (hg : w.grownBy w' (some m)) (hp : p ≠ m) (hq : q ≠ m) (hr : r ≠ m) : CodV w' c f g V p q r := by
  have st : ∀ {b : Nat} {o : Obj}, w.heap[b]? = some o → b ≠ m → w'.heap[b]? = some o := fun {b o} hb hne => by
    rw [hg.block b ?_ (by simpa using hne)]; · exact hb
    rcases Nat.lt_or_ge b w.heap.size with l | l
    · exact l
    · rw [Array.getElem?_eq_none l] at hb; cases hb
  exact ⟨h.val, st h.h1 hp, st h.h2 hq, st h.h3 hr⟩

set_option maxHeartbeats 1000000 in
theorem byCodes_any (c : Int) (f g : Nat) (w : World) : Calls Try.prog 188 #[.int .i64 c, fnV f, fnV g] w fun e w' => ∃ V p q r, e = .returned V ∧ CodV w' c f g V p q r ∧ w.heap.size ≤ p ∧ w.heap.size ≤ q ∧ w.heap.size ≤ r ∧ Below w.heap.size w w' := by
  have RS := fun (w : World) (a : Addr) (m : Mode) f x y => run_store_func (P := Try.prog) (w := w) (a := a) (m := m) f x y
  go_enter Try.func188, Try.ntmps188
  go_wp2
  refine bodyPost_ret (v := .agg #[.bool false, .func (.func 199) #[] #[pt w.heap.size, pt (w.heap.size + 1), pt (w.heap.size + 2)], .func (.func 200) #[] #[pt w.heap.size, pt (w.heap.size + 2)]]) (by simp [results, Try.results188, go_sem]) rfl ⟨_, w.heap.size, w.heap.size + 1, w.heap.size + 2, rfl, ⟨rfl, ?_, ?_, ?_⟩, Nat.le_refl _, by omega, by omega, (by repeat (first | exact Below.refl _ _ | refine Below.alloc ?_ (by first | omega | (simp; done) | (simp; omega)) _ | refine Below.setCell ?_ (by first | omega | (simp; done) | (simp; omega)) _ | refine Below.drew ?_))⟩
  all_goals (first | (rw [heap_alloc_get, if_pos rfl]; done) | ((simp only [heap_alloc_get, heap_size_alloc, if_true]) <;> ((repeat' split) <;> first | rfl | omega)))
set_option maxHeartbeats 1000000 in
theorem byLevels_any (f g : Nat) (w : World) : Calls Try.prog 191 #[fnV f, fnV g] w fun e w' => ∃ V, e = .returned V ∧ Below w.heap.size w w' := by
  have RS := fun (w : World) (a : Addr) (m : Mode) f x y => run_store_func (P := Try.prog) (w := w) (a := a) (m := m) f x y
  go_enter Try.func191, Try.ntmps191
  go_wp2
  refine bodyPost_ret (v := .agg #[.bool true, .func (.func 202) #[] #[pt w.heap.size], .func (.func 203) #[] #[pt (w.heap.size + 1)]]) (by simp [results, Try.results191, go_sem]) rfl ⟨_, rfl, (by repeat (first | exact Below.refl _ _ | refine Below.alloc ?_ (by first | omega | (simp; done) | (simp; omega)) _ | refine Below.setCell ?_ (by first | omega | (simp; done) | (simp; omega)) _ | refine Below.drew ?_))⟩

/-- What layouts answers: its map, with the layout of whole singles at 1. -/
def LayPost (w : World) (e : Ending) (w' : World) : Prop :=
  ∃ mb V p q r, e = .returned (.map (some mb)) ∧ CodV w' 4 189 190 V p q r ∧ w.heap.size ≤ p ∧ w.heap.size ≤ q ∧ w.heap.size ≤ r ∧ Below w.heap.size w w' ∧
    (Instr.lookup 233 (.map (some mb)) (.int .i64 1) true).run Try.prog w' = .ok (.tuple #[V, .bool true]) w'

theorem grownBy_far {w w' : World} {m B : Nat} (h : w.grownBy w' (some m)) (hm : B ≤ m) (hB : B ≤ w.heap.size) : Below B w w' :=
  ⟨h.os, h.tape, h.output, h.size, fun j hj => h.block j (by omega) (by intro c; have := Option.some.inj c; omega)⟩

/-- At the k-th entry. -/
structure LyAt (w0 : World) (es : Array MapEntry) (cl : Nat) (w : World) : Prop where
  map : w.heap[w0.heap.size]? = some (.map es cl)
  bel : Below w0.heap.size w0 w
theorem LyAt.call {w0 w w' : World} {es : Array MapEntry} {cl : Nat} (h : LyAt w0 es cl w) (hb : Below w.heap.size w w') : LyAt w0 es cl w' := ⟨blkStay h.map hb, h.bel.trans (hb.mono h.bel.size)⟩
theorem LyAt.ins {w0 w : World} {es : Array MapEntry} {cl : Nat} (h : LyAt w0 es cl w) (n : Int) (v : Value) (hn : (Lit.int .i64 n).wf = true) (hk : ∀ x ∈ es.toList, ∃ m, x.key = .int .i64 m ∧ (Lit.int .i64 m).wf = true ∧ m ≠ n) :
    ∃ w', (Instr.mapUpdate 233 (.map (some w0.heap.size)) (.int .i64 n) v).run Try.prog w = .ok () w' ∧ LyAt w0 (es.push ⟨.int .i64 n, v, cl⟩) (cl + 1) w' ∧ w.grownBy w' (some w0.heap.size) := by
  obtain ⟨w', h1, h2, h3⟩ := ins_any w _ es cl n v h.map hn hk
  exact ⟨w', h1, ⟨h2, h.bel.trans (grownBy_far h3 (Nat.le_refl _) h.bel.size)⟩, h3⟩

/-- .. and the layout of whole singles is there. -/
structure LcAt (w0 : World) (es : Array MapEntry) (cl : Nat) (V : Value) (p q r : Nat) (w : World) : Prop where
  ly : LyAt w0 es cl w
  cod : CodV w 4 189 190 V p q r
  hp : w0.heap.size < p
  hq : w0.heap.size < q
  hr : w0.heap.size < r
theorem LcAt.step {w0 w w' : World} {es : Array MapEntry} {cl : Nat} {V : Value} {p q r : Nat} (h : LcAt w0 es cl V p q r w) (hb : Below w.heap.size w w') (n : Int) (v : Value) (hn : (Lit.int .i64 n).wf = true) (hk : ∀ x ∈ es.toList, ∃ m, x.key = .int .i64 m ∧ (Lit.int .i64 m).wf = true ∧ m ≠ n) :
    ∃ w2, (Instr.mapUpdate 233 (.map (some w0.heap.size)) (.int .i64 n) v).run Try.prog w' = .ok () w2 ∧ LcAt w0 (es.push ⟨.int .i64 n, v, cl⟩) (cl + 1) V p q r w2 := by
  obtain ⟨w2, h1, h2, h3⟩ := (h.ly.call hb).ins n v hn hk
  have := h.hp
  have := h.hq
  have := h.hr
  exact ⟨w2, h1, h2, (h.cod.stay hb).grown h3 (by omega) (by omega) (by omega), h.hp, h.hq, h.hr⟩

theorem key_ne {n : Int} {l : List Int} (h : n ∉ l) {es : List MapEntry} (he : es.map (·.key) = l.map (Value.int .i64)) (hw : ∀ m ∈ l, (Lit.int .i64 m).wf = true) : ∀ x ∈ es, ∃ m, x.key = .int .i64 m ∧ (Lit.int .i64 m).wf = true ∧ m ≠ n := by
  intro x hx
  have : x.key ∈ es.map (·.key) := List.mem_map.2 ⟨x, hx, rfl⟩
  rw [he] at this
  obtain ⟨m, hm, e⟩ := List.mem_map.1 this
  exact ⟨m, e.symm, hw m hm, fun c => h (c ▸ hm)⟩

set_option maxHeartbeats 4000000 in
set_option maxRecDepth 100000 in
theorem layouts_any (w : World) : Calls Try.prog 169 #[] w (LayPost w) := by
  have BC := Lib.hid byCodes_any
  have BL := Lib.hid byLevels_any
  have hmm := @run_makeMap Try.prog
  have L0 := Lib.hid (show LyAt w #[] 0 (w.alloc (.map #[] 0)) from ⟨by (first | (rw [heap_alloc_get, if_pos rfl]; done) | ((simp only [heap_alloc_get, heap_size_alloc, if_true]) <;> ((repeat' split) <;> first | rfl | omega))), (by repeat (first | exact Below.refl _ _ | refine Below.alloc ?_ (by first | omega | (simp; done) | (simp; omega)) _ | refine Below.setCell ?_ (by first | omega | (simp; done) | (simp; omega)) _ | refine Below.drew ?_))⟩)
  have Z0 := Lib.hid (show w.heap.size < (w.alloc (.map #[] 0)).heap.size by rw [heap_size_alloc]; omega)
  go_enter Try.func169, Try.ntmps169
  go_wp2_with (first
    | (go_at_call 188; (with_reducible refine (BC.out 4 _ _ _).mono ?_); rintro e w1 ⟨V1, p, q, r, rfl, hc1, hp, hq, hr, hb1⟩; obtain ⟨w2, I1, L2, G2⟩ := (L0.out.call hb1).ins 1 V1 rfl (by simp); have L2 := Lib.hid (show LcAt w _ _ V1 p q r w2 from ⟨L2, hc1.grown G2 (by have := Z0.out; omega) (by have := Z0.out; omega) (by have := Z0.out; omega), (by have := Z0.out; omega), (by have := Z0.out; omega), (by have := Z0.out; omega)⟩); clear hc1 hp hq hr hb1 G2)
    | (go_at_call 188; (with_reducible refine (BC.out 2 120 _ _).mono ?_); rintro e w3 ⟨V2, _, _, _, rfl, _, _, _, _, hb1⟩; obtain ⟨w4, I2, L4⟩ := L2.out.step hb1 2 V2 rfl (key_ne (l := [1]) (by decide) rfl (by decide)); have L4 := Lib.hid L4; clear hb1)
    | (go_at_call 188; (with_reducible refine (BC.out 2 55 _ _).mono ?_); rintro e w5 ⟨V3, _, _, _, rfl, _, _, _, _, hb1⟩; obtain ⟨w6, I3, L6⟩ := L4.out.step hb1 3 V3 rfl (key_ne (l := [1, 2]) (by decide) rfl (by decide)); have L6 := Lib.hid L6; clear hb1)
    | (go_at_call 191; (with_reducible refine (BL.out 192 _ _).mono ?_); rintro e w7 ⟨V4, rfl, hb1⟩; obtain ⟨w8, I4, L8⟩ := L6.out.step hb1 4 V4 rfl (key_ne (l := [1, 2, 3]) (by decide) rfl (by decide)); have L8 := Lib.hid L8; clear hb1)
    | (go_at_call 191; (with_reducible refine (BL.out 194 _ _).mono ?_); rintro e w9 ⟨V5, rfl, hb1⟩; obtain ⟨w10, I5, L10⟩ := L8.out.step hb1 5 V5 rfl (key_ne (l := [1, 2, 3, 4]) (by decide) rfl (by decide)); have L10 := Lib.hid L10; clear hb1))
  go_ret
  refine ⟨_, V1, p, q, r, rfl, L10.out.cod, Nat.le_of_lt L10.out.hp, Nat.le_of_lt L10.out.hq, Nat.le_of_lt L10.out.hr, L10.out.ly.bel, ?_⟩
  refine look_any w10 _ _ _ 1 _ L10.out.ly.map rfl (fun x hx => ?_) (List.mem_cons_self) rfl (fun x hx he => ?_)
  · obtain ⟨m, e, h, _⟩ := key_ne (n := 0) (l := [1, 2, 3, 4, 5]) (by decide) rfl (by decide) x hx
    exact ⟨m, e, h⟩
  · have hx' : x ∈ [MapEntry.mk (.int .i64 1) V1 0, ⟨.int .i64 2, V2, 1⟩, ⟨.int .i64 3, V3, 2⟩, ⟨.int .i64 4, V4, 3⟩, ⟨.int .i64 5, V5, 4⟩] := hx
    simp only [List.mem_cons, List.not_mem_nil, or_false] at hx'
    rcases hx' with rfl | rfl | rfl | rfl | rfl
    · rfl
    all_goals simp at he
end Go.Proofs.Ythemmpmjjdpdfaa

/- What the format of whole singles writes: layouts' first entry. -/
namespace Go.Proofs.Ythemmpmjjdpdfaa
open Go.RowKit Fl
set_option linter.unusedVariables false

theorem make0_byte (n : Nat) (hn : n ≤ 1073741824) (w : World) :
    (Instr.makeSlice 198 (.int .i64 0) (.int .i64 (n : Int))).run Try.prog w = .ok (.slice (some ⟨w.heap.size, 0, none⟩) 0 n) (w.alloc (.cells (madeCells #[Value.int .u8 0] n) 5)) := by
  have h : (Try.prog.info? 5).map (fun i => (i.zero, i.size, i.bytes)) = some (some (.int .u8 0), 1, 1) := by kernel_rfl
  obtain ⟨i0, hi, hz0, hz1, hz2⟩ := info_parts h
  have hr := run_make (P := Try.prog) w 198 5 i0 (.int .u8 0) Try.underlying198 hi hz0 .i64 .i64 0 n (by omega) (by omega) (by rw [hz2]; omega) (by omega)
  rw [hz1, Nat.mul_one, Int.toNat_natCast] at hr
  exact hr

/-- The bytes of the first k singles. -/
def fullL (v : Nat → Nat) : Nat → List Int
  | 0 => []
  | k + 1 => fullL v k ++ byteL (v k) 4
theorem fullL_len (v : Nat → Nat) : ∀ k, (fullL v k).length = 4 * k
  | 0 => rfl
  | k + 1 => by simp [fullL, fullL_len v k, byteL_len]; omega

set_option maxHeartbeats 400000 in
theorem layouts1_any (x : Nat) (hx : x < 4294967296) (w : World) : Calls Try.prog 189 #[.float .f32 x] w fun e w' => e = .returned (.int .i64 x) ∧ w = w' := by
  have h1 := f32bits
  go_enter Try.func189, Try.ntmps189
  go_wp2
  go_ret
  exact ⟨rfl, rfl⟩

set_option maxHeartbeats 400000 in
theorem layouts2_any (x : Nat) (hx : x < 4294967296) (w : World) : Calls Try.prog 190 #[.int .i64 x] w fun e w' => e = .returned (.float .f32 x) ∧ w = w' := by
  have h1 := f32from
  go_enter Try.func190, Try.ntmps190
  go_wp2
  go_ret
  exact ⟨rfl, rfl⟩

/-- A scaling. -/
abbrev scV (lo st : Nat) (bi : Int) : Value := .agg #[.float .f32 lo, .float .f32 st, .int .i64 bi]

theorem flAt_stay {w w' : World} {b off n : Nat} {v : Nat → Nat} (h : FlAt w b off n v) (hb : Below w.heap.size w w') : FlAt w' b off n v := fun i hi => by
  have := h i hi
  exact (Below.cell (p := ⟨b, off + i, none⟩) hb (World.block_lt_of_cell? w _ this)).trans this

/-- A list of bytes that a call has made. -/
def BtsPost (w : World) (L : List Int) (e : Ending) (w' : World) : Prop :=
  ∃ ov, e = .returned (.tuple #[ov, .bool true]) ∧ w'.ownsRow w.heap.size 5 1 ov L.length (btL L) ∧ Below w.heap.size w w'

set_option maxHeartbeats 1000000 in
set_option maxRecDepth 100000 in
theorem codes_any (b off n cap : Nat) (v : Nat → Nat) (lo st : Nat) (bi : Int) (p q r : Nat) (V : Value) (w : World) (hV : CodV w 4 189 190 V p q r) (hr : FlAt w b off n v) (hw : wf32 n v) (hf : ∀ i, i < n → finB (v i) = true) (h1 : 1 ≤ n) (h2 : n ≤ 65536) :
    Calls Try.prog 199 #[.slice (some ⟨b, off, none⟩) n cap, scV lo st bi, pt p, pt q, pt r] w (BtsPost w (fullL v n)) := by
  have hm : ∀ W : World, (Instr.makeSlice 198 (.int .i64 0) (.int .i64 (4 * (n : Int)))).run Try.prog W = .ok (.slice (some ⟨W.heap.size, 0, none⟩) 0 (4 * n)) (W.alloc (.cells (madeCells #[Value.int .u8 0] (4 * n)) 5)) := fun W => by
    have := make0_byte (4 * n) (by omega) W
    rwa [Int.natCast_mul] at this
  have HV := Lib.hid hV
  have HR := Lib.hid hr
  have HW := Lib.hid hw
  have HF := Lib.hid hf
  obtain ⟨c2, f2, z2⟩ := blkC hV.h1
  have H1 := Lib.hid h1
  have B1 := Lib.hid (show Below w.heap.size w ((w.alloc (.cells #[.float .f32 lo, .float .f32 st, .int .i64 bi] 101)).alloc (.cells (madeCells #[Value.int .u8 0] (4 * n)) 5)) from (by repeat (first | exact Below.refl _ _ | refine Below.alloc ?_ (by first | omega | (simp; done) | (simp; omega)) _ | refine Below.setCell ?_ (by first | omega | (simp; done) | (simp; omega)) _ | refine Below.drew ?_)))
  have A1 := Lib.hid (show BtAt ((w.alloc (.cells #[.float .f32 lo, .float .f32 st, .int .i64 bi] 101)).alloc (.cells (madeCells #[Value.int .u8 0] (4 * n)) 5)) w.heap.size (some (w.heap.size + 1)) [] (.slice (some ⟨w.heap.size + 1, 0, none⟩) 0 (4 * n)) ((w.alloc (.cells #[.float .f32 lo, .float .f32 st, .int .i64 bi] 101)).alloc (.cells (madeCells #[Value.int .u8 0] (4 * n)) 5)) from
    ⟨by
      have := World.ownsRow_made (w.alloc (.cells #[.float .f32 lo, .float .f32 st, .int .i64 bi] 101)) (base := w.heap.size) (e := 5) (size := 1) (madeCells #[Value.int .u8 0] (4 * n)) (4 * n) (by rw [heap_size_alloc]; omega) (by unfold maxLen; omega) (by simp [size_madeCells])
      rw [heap_size_alloc] at this
      exact this, ⟨rfl, rfl, rfl, Nat.le_refl _, fun _ _ _ => rfl⟩, .inl rfl, by simp; omega⟩)
  clear hV hr hw hf h1
  go_enter Try.func199, Try.ntmps199
  go_wp2
  generalize (w.alloc (.cells #[.float .f32 lo, .float .f32 st, .int .i64 bi] 101)).alloc (.cells (madeCells #[Value.int .u8 0] (4 * n)) 5) = w1 at *
  clear hm c2 f2 z2
  go_loopw [9, 20] (fun t i wr => ∃ k : Nat, k ≤ n ∧ i = .int .i64 k ∧ BtAt w1 w.heap.size (some (w.heap.size + 1)) (fullL v k) t wr) (fun _ i _ => n - (intOf i).toNat)
  case atStart => exact ⟨0, Nat.zero_le _, rfl, A1.out⟩
  case round =>
    obtain ⟨k, hk, rfl, hA⟩ := hrel
    have HA := Lib.hid hA
    have BW := Lib.hid (B1.out.trans (grownBy_far hA.gr (Nat.le_succ _) B1.out.size))
    clear hA
    by_cases hlt : k < n
    · have hcell := flAt_stay HR.out BW.out k hlt
      obtain ⟨c2, f2, z2⟩ := blkC (HV.out.stay BW.out).h1
      obtain ⟨c3, f3, z3⟩ := blkC (HV.out.stay BW.out).h2
      obtain ⟨c4, f4, z4⟩ := blkC (HV.out.stay BW.out).h3
      have hx := HW.out k hlt
      rcases step1 (v k) with ⟨_, _, X, e1, e2, e3⟩ | ⟨e1, _⟩ | ⟨e1, _⟩
      · have AB := Lib.hid (appendBytes_any w1 w.heap.size (some (w.heap.size + 1)) (fullL v k) · (v k) 4 wr · hx (by omega) (by rw [fullL_len]; omega))
        have HE := Lib.hid (show fullL v (k + 1) = fullL v k ++ byteL (v k) 4 from rfl)
        have d1 := fun (W : World) => run_convert_float_float (P := Try.prog) W 27 97 .f32 .f64 (v k) X (by kernel_rfl) Try.underlying97 e1
        have C1 := Lib.hid (fun w => layouts1_any (v k) hx w)
        have C2 := Lib.hid (fun w => layouts2_any (v k) hx w)
        have C3 := Lib.hid (fun w => isInf_any X false e2 e3 w)
        have HLT := Lib.hid hlt
        clear e1 e2 e3
        generalize v k = x at *
        go_wp2_with (first | (go_at_call 189; refine (C1.out _).mono ?_; rintro e w' ⟨rfl, rfl⟩) | (go_at_call 190; refine (C2.out _).mono ?_; rintro e w' ⟨rfl, rfl⟩) | (go_at_call 124; refine (C3.out _).mono ?_; rintro e w' ⟨rfl, rfl⟩) | (go_at_call 171; refine (AB.out _ HA.out).mono ?_; rintro e w6 ⟨ov', rfl, hA6⟩; have HA6 := Lib.hid hA6; clear hA6))
        go_roundw
        case rel => exact ⟨k + 1, HLT.out, by go_num, by rw [HE.out]; exact HA6.out⟩
        case measure => have := HLT.out; simp [intOf]; omega
      all_goals exfalso; rw [HF.out k hlt] at e1; cases e1
    · obtain rfl : k = n := by omega
      go_wp2
      go_ret2
      exact ⟨_, rfl, HA.out.own, BW.out⟩
end Go.Proofs.Ythemmpmjjdpdfaa

/- The sum of the bytes of a text: both sides. -/
namespace Go.Proofs.Ythemmpmjjdpdfaa
open Go.RowKit Fl
set_option linter.unusedVariables false

/-- The byte number k. -/
def chI (s : ByteArray) (k : Nat) : Int := (((s.data[k]?).getD 0).toNat : Int)
theorem chI_in (s : ByteArray) (k : Nat) : 0 ≤ chI s k ∧ chI s k < 256 := by
  unfold chI
  have := ((s.data[k]?).getD 0).toNat_lt
  omega
theorem index_ch (s : ByteArray) (k : Nat) (hk : k < s.size) (w : World) : (Instr.index 9 (.string s) (.int .i64 (k : Int))).run Try.prog w = .ok (.int .u8 (chI s k)) w := by
  rw [run_index_string (w := w) 9 _ _ _ Try.underlying9, dif_pos (by omega)]
  congr 3
  simp only [Int.toNat_natCast]
  rw [Array.getElem?_eq_getElem (by exact hk)]
  rfl

/-- Both sums behind k bytes. -/
def smI (s : ByteArray) : Nat → Int × Int
  | 0 => (1, 0)
  | k + 1 => (((smI s k).1 + chI s k) % 65521, ((smI s k).2 + ((smI s k).1 + chI s k) % 65521) % 65521)
theorem smI_in (s : ByteArray) : ∀ k, 0 ≤ (smI s k).1 ∧ (smI s k).1 < 65521 ∧ 0 ≤ (smI s k).2 ∧ (smI s k).2 < 65521
  | 0 => by show (0 : Int) ≤ 1 ∧ (1 : Int) < 65521 ∧ (0 : Int) ≤ 0 ∧ (0 : Int) < 65521; omega
  | k + 1 => by show 0 ≤ _ % _ ∧ _ % _ < _ ∧ 0 ≤ _ % _ ∧ _ % _ < _; omega
/-- The sum of a text. -/
def sumI (s : ByteArray) : Int := (smI s s.size).2 * 65536 + (smI s s.size).1
theorem sumI_in (s : ByteArray) : 0 ≤ sumI s ∧ sumI s < 4294967296 := by
  have := smI_in s s.size
  unfold sumI; omega

set_option maxHeartbeats 1000000 in
theorem sum_any (s : ByteArray) (w : World) (hs : s.size ≤ 9223372036854775807) :
    Calls Try.prog 73 #[.string s] w fun e w' => e = .returned (.int .i64 (sumI s)) ∧ w = w' := by
  go_enter Try.func73, Try.ntmps73
  go_wp2
  go_loop [3, 4, 8] (fun a b i => ∃ k : Nat, k ≤ s.size ∧ a = .int .i64 (smI s k).1 ∧ b = .int .i64 (smI s k).2 ∧ i = .int .i64 k) (fun _ _ i => s.size - (intOf i).toNat)
  case atStart => exact ⟨0, Nat.zero_le _, rfl, rfl, rfl⟩
  case round =>
    obtain ⟨k, hk, rfl, rfl, rfl⟩ := hrel
    by_cases hlt : k < s.size
    · have hx := fun w => index_ch s k hlt w
      obtain ⟨b1, b2⟩ := chI_in s k
      obtain ⟨d1, d2, d3, d4⟩ := smI_in s k
      have H1 := Lib.hid (show ((smI s k).1 + chI s k) % 65521 = (smI s (k + 1)).1 from rfl)
      have H2 := Lib.hid (show ((smI s k).2 + ((smI s k).1 + chI s k) % 65521) % 65521 = (smI s (k + 1)).2 from rfl)
      generalize chI s k = c at *
      generalize (smI s k).1 = p at *
      generalize (smI s k).2 = q at *
      go_wp2
      go_round
      case rel => exact ⟨k + 1, by omega, by rw [H1.out], by rw [H2.out], by go_num⟩
      case measure => simp [intOf]; omega
    · obtain rfl : k = s.size := by omega
      obtain ⟨d1, d2, d3, d4⟩ := smI_in s s.size
      have H1 := Lib.hid (show (smI s s.size).2 * 65536 + (smI s s.size).1 = sumI s from rfl)
      generalize (smI s s.size).1 = p at *
      generalize (smI s s.size).2 = q at *
      go_wp2
      go_ret
      exact ⟨ret_int (by rw [← H1.out]; try omega), rfl⟩

set_option maxHeartbeats 1000000 in
theorem qSumOf_any (s : ByteArray) (w : World) (hs : s.size ≤ 9223372036854775807) :
    Calls Try.prog 74 #[.string s] w fun e w' => e = .returned (.int .i64 (sumI s)) ∧ w = w' := by
  go_enter Try.func74, Try.ntmps74
  go_wp2
  go_loop [3, 4, 8] (fun a b i => ∃ k : Nat, k ≤ s.size ∧ a = .int .i64 (smI s k).1 ∧ b = .int .i64 (smI s k).2 ∧ i = .int .i64 k) (fun _ _ i => s.size - (intOf i).toNat)
  case atStart => exact ⟨0, Nat.zero_le _, rfl, rfl, rfl⟩
  case round =>
    obtain ⟨k, hk, rfl, rfl, rfl⟩ := hrel
    by_cases hlt : k < s.size
    · have hx := fun w => index_ch s k hlt w
      obtain ⟨b1, b2⟩ := chI_in s k
      obtain ⟨d1, d2, d3, d4⟩ := smI_in s k
      have H1 := Lib.hid (show ((smI s k).1 + chI s k) % 65521 = (smI s (k + 1)).1 from rfl)
      have H2 := Lib.hid (show ((smI s k).2 + ((smI s k).1 + chI s k) % 65521) % 65521 = (smI s (k + 1)).2 from rfl)
      generalize chI s k = c at *
      generalize (smI s k).1 = p at *
      generalize (smI s k).2 = q at *
      go_wp2
      go_round
      case rel => exact ⟨k + 1, by omega, by rw [H1.out], by rw [H2.out], by go_num⟩
      case measure => simp [intOf]; omega
    · obtain rfl : k = s.size := by omega
      obtain ⟨d1, d2, d3, d4⟩ := smI_in s s.size
      have H1 := Lib.hid (show (smI s s.size).2 * 65536 + (smI s s.size).1 = sumI s from rfl)
      generalize (smI s s.size).1 = p at *
      generalize (smI s s.size).2 = q at *
      go_wp2
      go_ret
      exact ⟨ret_int (by rw [← H1.out]; try omega), rfl⟩
end Go.Proofs.Ythemmpmjjdpdfaa

/- Contracts: Check of any field, and the references' FieldError: one answer. -/
namespace Go.Proofs.Ythemmpmjjdpdfaa
open Go.RowKit Fl
set_option linter.unusedVariables false

/-- The error of a field whose numbers have the error er. -/
def fldChk (X Y W H : Int) (n : Nat) (er : Int) : Int := if checkR X Y W H ≠ 0 then checkR X Y W H else if (n : Int) ≠ W * H then 2 else er

set_option maxHeartbeats 1000000 in
theorem checkA_any (X Y W H : Int) (a : Option Addr) (n cap : Nat) (er : Int) (w : World) (CH0 : ∀ W', Below w.heap.size w W' → Calls Try.prog 95 #[.slice a n cap] W' fun e w' => e = .returned (.int .i64 er) ∧ W' = w') :
    Calls Try.prog 85 #[fldV X Y W H (.slice a n cap)] w fun e w' => e = .returned (.int .i64 (fldChk X Y W H n er)) ∧ Below w.heap.size w w' := by
  have CH := Lib.hid CH0
  clear CH0
  have RC := Lib.hid (fun w => checkRegion_any X Y W H w)
  unfold fldChk
  by_cases h0 : checkR X Y W H = 0
  · obtain ⟨b1, b2, b3, b4, b5, _⟩ := checkR_zero h0
    rw [if_neg (by simp [h0])]
    rw [h0] at RC
    have en : wrap64 (W * H) = W * H := IntWalk.wrap64_in _ ⟨by have := (mul_side b1 b2 b3 b4).1; omega, by omega⟩
    by_cases hl : (n : Int) = W * H
    · rw [if_neg (by simp [hl])]
      have en : wrap64 (W * H) = (n : Int) := by rw [en, hl]
      clear h0 b1 b2 b3 b4 b5 hl
      go_enter Try.func85, Try.ntmps85
      go_wp2_with (first | (go_at_call 105; refine (RC.out _).mono ?_; rintro e w' ⟨rfl, rfl⟩) | (go_at_call 95; refine (CH.out _ (by repeat (first | exact Below.refl _ _ | refine Below.alloc ?_ (by first | omega | (simp; done) | (simp; omega)) _ | refine Below.setCell ?_ (by first | omega | (simp; done) | (simp; omega)) _ | refine Below.drew ?_))).mono ?_; rintro e w' ⟨rfl, rfl⟩))
      go_ret
      exact ⟨rfl, (by repeat (first | exact Below.refl _ _ | refine Below.alloc ?_ (by first | omega | (simp; done) | (simp; omega)) _ | refine Below.setCell ?_ (by first | omega | (simp; done) | (simp; omega)) _ | refine Below.drew ?_))⟩
    · rw [if_pos hl]
      have hl' : ((n : Int) != W * H) = true := by simpa using hl
      clear h0 b1 b2 b3 b4 b5 hl CH
      go_enter Try.func85, Try.ntmps85
      go_wp2_with (first | (go_at_call 105; refine (RC.out _).mono ?_; rintro e w' ⟨rfl, rfl⟩))
      go_ret
      exact ⟨rfl, (by repeat (first | exact Below.refl _ _ | refine Below.alloc ?_ (by first | omega | (simp; done) | (simp; omega)) _ | refine Below.setCell ?_ (by first | omega | (simp; done) | (simp; omega)) _ | refine Below.drew ?_))⟩
  · rw [if_pos h0]
    generalize checkR X Y W H = r at *
    have h1 : (r != 0) = true := by simpa using h0
    clear h0 CH
    go_enter Try.func85, Try.ntmps85
    go_wp2_with (first | (go_at_call 105; refine (RC.out _).mono ?_; rintro e w' ⟨rfl, rfl⟩))
    go_ret
    exact ⟨rfl, (by repeat (first | exact Below.refl _ _ | refine Below.alloc ?_ (by first | omega | (simp; done) | (simp; omega)) _ | refine Below.setCell ?_ (by first | omega | (simp; done) | (simp; omega)) _ | refine Below.drew ?_))⟩

set_option maxHeartbeats 1000000 in
theorem qFieldError_any (X Y W H : Int) (a : Option Addr) (n cap : Nat) (er : Int) (w : World) (CH0 : ∀ W', Below w.heap.size w W' → Calls Try.prog 33 #[.slice a n cap] W' fun e w' => e = .returned (.int .i64 er) ∧ W' = w') :
    Calls Try.prog 14 #[fldV X Y W H (.slice a n cap)] w fun e w' => e = .returned (.int .i64 (fldChk X Y W H n er)) ∧ Below w.heap.size w w' := by
  have CH := Lib.hid CH0
  clear CH0
  have RC := Lib.hid (fun w => qRegionError_any X Y W H w)
  unfold fldChk
  by_cases h0 : checkR X Y W H = 0
  · obtain ⟨b1, b2, b3, b4, b5, _⟩ := checkR_zero h0
    rw [if_neg (by simp [h0])]
    rw [h0] at RC
    have en : wrap64 (W * H) = W * H := IntWalk.wrap64_in _ ⟨by have := (mul_side b1 b2 b3 b4).1; omega, by omega⟩
    by_cases hl : (n : Int) = W * H
    · rw [if_neg (by simp [hl])]
      have en : wrap64 (W * H) = (n : Int) := by rw [en, hl]
      clear h0 b1 b2 b3 b4 b5 hl
      go_enter Try.func14, Try.ntmps14
      go_wp2_with (first | (go_at_call 79; refine (RC.out _).mono ?_; rintro e w' ⟨rfl, rfl⟩) | (go_at_call 33; refine (CH.out _ (by repeat (first | exact Below.refl _ _ | refine Below.alloc ?_ (by first | omega | (simp; done) | (simp; omega)) _ | refine Below.setCell ?_ (by first | omega | (simp; done) | (simp; omega)) _ | refine Below.drew ?_))).mono ?_; rintro e w' ⟨rfl, rfl⟩))
      go_ret
      exact ⟨rfl, (by repeat (first | exact Below.refl _ _ | refine Below.alloc ?_ (by first | omega | (simp; done) | (simp; omega)) _ | refine Below.setCell ?_ (by first | omega | (simp; done) | (simp; omega)) _ | refine Below.drew ?_))⟩
    · rw [if_pos hl]
      have hl' : ((n : Int) != W * H) = true := by simpa using hl
      clear h0 b1 b2 b3 b4 b5 hl CH
      go_enter Try.func14, Try.ntmps14
      go_wp2_with (first | (go_at_call 79; refine (RC.out _).mono ?_; rintro e w' ⟨rfl, rfl⟩))
      go_ret
      exact ⟨rfl, (by repeat (first | exact Below.refl _ _ | refine Below.alloc ?_ (by first | omega | (simp; done) | (simp; omega)) _ | refine Below.setCell ?_ (by first | omega | (simp; done) | (simp; omega)) _ | refine Below.drew ?_))⟩
  · rw [if_pos h0]
    generalize checkR X Y W H = r at *
    have h1 : (r != 0) = true := by simpa using h0
    clear h0 CH
    go_enter Try.func14, Try.ntmps14
    go_wp2_with (first | (go_at_call 79; refine (RC.out _).mono ?_; rintro e w' ⟨rfl, rfl⟩))
    go_ret
    exact ⟨rfl, (by repeat (first | exact Below.refl _ _ | refine Below.alloc ?_ (by first | omega | (simp; done) | (simp; omega)) _ | refine Below.setCell ?_ (by first | omega | (simp; done) | (simp; omega)) _ | refine Below.drew ?_))⟩

set_option maxHeartbeats 400000 in
theorem empty_no (w : World) : Calls Try.prog 22 #[fldV 0 0 0 0 (.slice none 0 0)] w fun e w' => e = .returned (.bool true) ∧ Below w.heap.size w w' := by
  go_enter Try.func22, Try.ntmps22
  go_wp2
  go_ret
  exact ⟨rfl, (by repeat (first | exact Below.refl _ _ | refine Below.alloc ?_ (by first | omega | (simp; done) | (simp; omega)) _ | refine Below.setCell ?_ (by first | omega | (simp; done) | (simp; omega)) _ | refine Below.drew ?_))⟩
end Go.Proofs.Ythemmpmjjdpdfaa

/- Contract: Encode in the format of whole singles; the law's writes. -/
namespace Go.Proofs.Ythemmpmjjdpdfaa
open Go.RowKit Fl Go.Maps Go.ChangeMaps
set_option linter.unusedVariables false

/-- Bytes as a text. -/
def txB (L : List Int) : ByteArray := ⟨(L.map fun x => UInt8.ofNat x.toNat).toArray⟩
theorem txB_size (L : List Int) : (txB L).size = L.length := by simp [txB, ByteArray.size]
def isB (L : List Int) : Prop := ∀ x ∈ L, 0 ≤ x ∧ x < 256
theorem byteL_isB (n : Nat) : ∀ k, isB (byteL n k)
  | 0 => fun x hx => by cases hx
  | k + 1 => fun x hx => by
    rcases List.mem_cons.1 hx with rfl | hx
    · omega
    · exact byteL_isB n k x hx
theorem fullL_isB (v : Nat → Nat) : ∀ k, isB (fullL v k)
  | 0 => fun x hx => by cases hx
  | k + 1 => fun x hx => by
    rcases List.mem_append.1 hx with hx | hx
    · exact fullL_isB v k x hx
    · exact byteL_isB _ _ x hx
theorem isB_app {L M : List Int} (h : isB L) (h2 : isB M) : isB (L ++ M) := fun x hx => by
  rcases List.mem_append.1 hx with hx | hx
  · exact h x hx
  · exact h2 x hx

/-- The text of bytes of one's own. -/
theorem text_of {w : World} {base g cap : Nat} {L : List Int} (h : w.ownsRow base 5 1 (.slice (some ⟨g, 0, none⟩) L.length cap) L.length (btL L)) (hB : isB L) :
    (convert 198 9 (.slice (some ⟨g, 0, none⟩) L.length cap)).run Try.prog w = .ok (.string (txB L)) w := by
  have hc := h.cells (g := g) rfl
  have := run_convert_bytes_back (P := Try.prog) w 198 9 5 ⟨g, 0, none⟩ cap (L.map fun x => UInt8.ofNat x.toNat) Try.underlying198 Try.underlying5 Try.underlying9 (fun j hj => by
    rw [List.length_map] at hj
    refine hc j _ ?_
    have hm := hB L[j] (List.getElem_mem hj)
    simp [btL, List.getElem?_eq_getElem hj]
    omega)
  rw [List.length_map] at this
  exact this

/-- A number modulo 2 ^ 32. -/
def u32N (x : Int) : Nat := (x % 4294967296).toNat
theorem u32N_lt (x : Int) : u32N x < 4294967296 := by unfold u32N; omega
theorem u32N_eq (x : Int) : (u32N x : Int) = x % 4294967296 := by unfold u32N; omega

/-- The four numbers of a region. -/
def rgI (X Y W H : Int) (k : Nat) : Int := if k = 0 then X else if k = 1 then Y else if k = 2 then W else H
/-- What stands ahead of the values, when k numbers are written. -/
def headL (fmt X Y W H : Int) : Nat → List Int
  | 0 => [84, 65, 82, 78, fmt]
  | k + 1 => headL fmt X Y W H k ++ byteL (u32N (rgI X Y W H k)) 4
theorem headL_len (fmt X Y W H : Int) : ∀ k, (headL fmt X Y W H k).length = 5 + 4 * k
  | 0 => rfl
  | k + 1 => by simp [headL, headL_len fmt X Y W H k, byteL_len]; omega

/-- The text of a field in whole singles. -/
def encL (X Y W H : Int) (v : Nat → Nat) (n : Nat) : List Int := headL 1 X Y W H 4 ++ fullL v n
def encT (X Y W H : Int) (v : Nat → Nat) (n : Nat) : ByteArray := txB (encL X Y W H v n ++ byteL (u32N (sumI (txB (encL X Y W H v n)))) 4)

theorem headL_isB (fmt X Y W H : Int) (hf : 0 ≤ fmt ∧ fmt < 256) : ∀ k, isB (headL fmt X Y W H k)
  | 0 => fun x hx => by
    have : x = 84 ∨ x = 65 ∨ x = 82 ∨ x = 78 ∨ x = fmt := by simpa [headL] using hx
    omega
  | k + 1 => isB_app (headL_isB fmt X Y W H hf k) (byteL_isB _ 4)
theorem encL_isB (X Y W H : Int) (v : Nat → Nat) (n : Nat) : isB (encL X Y W H v n) := isB_app (headL_isB 1 X Y W H (by omega) 4) (fullL_isB v n)
theorem tx_of {w : World} {base g cap : Nat} {L M : List Int} (h : w.ownsRow base 5 1 (.slice (some ⟨g, 0, none⟩) (L.length + M.length) cap) (L ++ M).length (btL (L ++ M))) (h1 : isB L) (h2 : isB M) :
    (convert 198 9 (.slice (some ⟨g, 0, none⟩) (L.length + M.length) cap)).run Try.prog w = .ok (.string (txB (L ++ M))) w := by
  have := text_of (L := L ++ M) (w := w) (base := base) (g := g) (cap := cap) (by have h' := h; rw [List.length_append] at h' ⊢; exact h') (isB_app h1 h2)
  rwa [List.length_append] at this

set_option maxHeartbeats 400000 in
set_option maxRecDepth 100000 in
theorem checkScale_full (w : World) (p q r : Nat) :
    Calls Try.prog 170 #[.agg #[.bool false, .func (.func 199) #[] #[pt p, pt q, pt r], .func (.func 200) #[] #[pt p, pt r]], scV 0 0 0] w fun e w' => e = .returned (.int .i64 0) ∧ Below w.heap.size w w' := by
  have NE : ∀ W : World, (binOp .neq 101 (scV 0 0 0) (scV 0 0 0)).run Try.prog W = .ok (.bool false) W := fun W => by kernel_rfl
  go_enter Try.func170, Try.ntmps170
  go_wp2
  go_ret
  exact ⟨rfl, (by repeat (first | exact Below.refl _ _ | refine Below.alloc ?_ (by first | omega | (simp; done) | (simp; omega)) _ | refine Below.setCell ?_ (by first | omega | (simp; done) | (simp; omega)) _ | refine Below.drew ?_))⟩

theorem check_okay (X Y : Int) (W H n b off cap : Nat) (v : Nat → Nat) (w : World) (hr : FlAt w b off n v) (hh : ∀ i, i < n → hgtB (v i) = true) (h0 : checkR X Y W H = 0) (hn : n = W * H) :
    Calls Try.prog 85 #[fldV X Y W H (.slice (some ⟨b, off, none⟩) n cap)] w fun e w' => e = .returned (.int .i64 0) ∧ Below w.heap.size w w' := by
  obtain ⟨b1, b2, b3, b4, b5, _⟩ := checkR_zero h0
  have hn2 : (n : Int) = W * H := by rw [hn]; simp
  have e0 : fldE n v = 0 := fldE_zero.2 (allB_iff.2 hh)
  have := checkA_any X Y W H (some ⟨b, off, none⟩) n cap 0 w (fun W' hb => by
    have := CheckHeights_row b off cap n v (by omega) W' (flAt_stay hr hb)
    rwa [e0] at this)
  rwa [show fldChk X Y W H n 0 = 0 by unfold fldChk; rw [if_neg (by simp [h0]), if_neg (by simp [hn2])]] at this

theorem BtAt.on {w0 wr w6 : World} {base g' cap' : Nat} {o0 : Option Nat} {L : List Int} {ov : Value} {B : List Int} (h : BtAt w0 base o0 L ov wr)
    (hgrow : wr.grownBy w6 ov.ownBlock) (hat : ov.ownBlock = some g' ∨ g' = wr.heap.size) (hown : w6.ownsRow base 5 1 (.slice (some ⟨g', 0, none⟩) (L.length + B.length) cap') (L.length + B.length) (btL L ++ btL B)) :
    BtAt w0 base o0 (L ++ B) (.slice (some ⟨g', 0, none⟩) (L.length + B.length) cap') w6 := by
  refine ⟨?_, ?_, ?_, ?_⟩
  · rw [List.length_append, btL_app]; exact hown
  · cases hv : ov.ownBlock with
    | none =>
      rw [hv] at hgrow
      exact ⟨hgrow.os.trans h.gr.os, hgrow.tape.trans h.gr.tape, hgrow.output.trans h.gr.output, Nat.le_trans h.gr.size hgrow.size, fun i hi hne => (hgrow.block i (Nat.lt_of_lt_of_le hi h.gr.size) (by simp)).trans (h.gr.block i hi hne)⟩
    | some g =>
      rw [hv] at hgrow
      refine grownBy_on h.gr ?_ hgrow
      rcases h.seat with e | ⟨q, e, hq⟩
      · exact .inl (e.symm.trans hv)
      · rw [hv] at e; have := Option.some.inj e; exact .inr (by omega)
  · rcases hat with e | e
    · rcases h.seat with s | ⟨q, s, hq⟩
      · exact .inl (by rw [← s, e]; rfl)
      · exact .inr ⟨g', rfl, by rw [e] at s; have := Option.some.inj s; omega⟩
    · exact .inr ⟨g', rfl, by have := h.gr.size; omega⟩
  · have := hgrow.size
    have := h.size
    omega

theorem ownsRow_base {w : World} {b B : Nat} {e : TypeId} {size : Nat} {v : Value} {n : Nat} {xs : List Value} (h : w.ownsRow B e size v n xs) (hb : b ≤ B) : w.ownsRow b e size v n xs := by
  rcases h.2 with h2 | ⟨g, cap, cur, h2, h3, h4⟩
  · exact ⟨h.1, .inl h2⟩
  · exact ⟨h.1, .inr ⟨g, cap, cur, h2, Nat.le_trans hb h3, h4⟩⟩
/-- The mark's block: it is no longer to be written. -/
abbrev tarnO : Obj := .cells #[.int .u8 84, .int .u8 65, .int .u8 82, .int .u8 78] 5 (4, 5)
theorem tarn_cells (w : World) (o : Obj) (j : Nat) (u : Value) (h : (btL [84, 65, 82, 78])[j]? = some u) : ((w.alloc tarnO).alloc o).cell? ((⟨w.heap.size, 0, none⟩ : Addr).add j) = some u := by
  rw [Go.WideShapes.add_plain]
  have hb : ((w.alloc tarnO).alloc o).heap[w.heap.size]? = some tarnO := by (first | (rw [heap_alloc_get, if_pos rfl]; done) | ((simp only [heap_alloc_get, heap_size_alloc, if_true]) <;> ((repeat' split) <;> first | rfl | omega)))
  simp only [World.cell?, hb, Nat.zero_add]
  rw [if_neg (by simp), show (#[.int .u8 84, .int .u8 65, .int .u8 82, .int .u8 78] : Array Value) = (btL [84, 65, 82, 78]).toArray from rfl, List.getElem?_toArray]
  exact h
theorem index_rg (X Y W H : Int) (k : Nat) (hk : k < 4) (w : World) : (Instr.index 236 (.agg #[.int .i64 X, .int .i64 Y, .int .i64 W, .int .i64 H]) (.int .i64 (k : Int))).run Try.prog w = .ok (.int .i64 (rgI X Y W H k)) w := by
  have : k = 0 ∨ k = 1 ∨ k = 2 ∨ k = 3 := by omega
  rcases this with rfl | rfl | rfl | rfl
  · show _ = Result.ok (Value.int .i64 X) w; kernel_rfl
  · show _ = Result.ok (Value.int .i64 Y) w; kernel_rfl
  · show _ = Result.ok (Value.int .i64 W) w; kernel_rfl
  · show _ = Result.ok (Value.int .i64 H) w; kernel_rfl
theorem start_at {w5 w6 w7 : World} {v : Value} {L : List Int} (h : w7.ownsRow w6.heap.size 5 1 v L.length (btL L)) (hz : w5.heap.size ≤ w6.heap.size) (hg : w6.grownBy w7 none) : BtAt w7 w5.heap.size v.ownBlock L v w7 :=
  ⟨ownsRow_base h hz, ⟨rfl, rfl, rfl, Nat.le_refl _, fun _ _ _ => rfl⟩, .inl rfl, Nat.le_trans hz hg.size⟩

set_option maxHeartbeats 4000000 in
set_option maxRecDepth 100000 in
theorem encFull_any (X Y : Int) (W H n b off cap : Nat) (v : Nat → Nat) (w : World) (hr : FlAt w b off n v) (hw : wf32 n v) (hh : ∀ i, i < n → hgtB (v i) = true) (h0 : checkR X Y W H = 0) (hn : n = W * H) :
    Calls Try.prog 128 #[fldV X Y W H (.slice (some ⟨b, off, none⟩) n cap), .int .i64 1, scV 0 0 0] w fun e w' => e = .returned (.tuple #[.string (encT X Y W H v n), .int .i64 0]) ∧ Below w.heap.size w w' := by
  obtain ⟨b1, b2, b3, b4, b5, b6, b7, b8, b9⟩ := checkR_zero h0
  have n1 : 1 ≤ n := by rw [hn]; exact Nat.mul_pos (by omega) (by omega)
  have n2 : n ≤ 65536 := by have : (n : Int) = W * H := by rw [hn]; simp
                            omega
  have CK := Lib.hid (fun W' (hB : Below w.heap.size w W') => check_okay X Y W H n b off cap v W' (flAt_stay hr hB) hh h0 hn)
  have LY := Lib.hid layouts_any
  have CD := Lib.hid (fun (p q r : Nat) (V : Value) W' (hV : CodV W' 4 189 190 V p q r) (hB : Below w.heap.size w W') => codes_any b off n cap v 0 0 0 p q r V W' hV (flAt_stay hr hB) hw (fun i hi => hgt_fin (hh i hi)) n1 n2)
  have CS := Lib.hid checkScale_full
  have B1 := Lib.hid (show Below w.heap.size w ((w.alloc (fldO X Y W H (.slice (some ⟨b, off, none⟩) n cap))).alloc (.cells #[.float .f32 0, .float .f32 0, .int .i64 0] 101)) from (by repeat (first | exact Below.refl _ _ | refine Below.alloc ?_ (by first | omega | (simp; done) | (simp; omega)) _ | refine Below.setCell ?_ (by first | omega | (simp; done) | (simp; omega)) _ | refine Below.drew ?_)))
  have HF1 := Lib.hid (show ((w.alloc (fldO X Y W H (.slice (some ⟨b, off, none⟩) n cap))).alloc (.cells #[.float .f32 0, .float .f32 0, .int .i64 0] 101)).heap[w.heap.size]? = some (fldO X Y W H (.slice (some ⟨b, off, none⟩) n cap)) by (first | (rw [heap_alloc_get, if_pos rfl]; done) | ((simp only [heap_alloc_get, heap_size_alloc, if_true]) <;> ((repeat' split) <;> first | rfl | omega))))
  have HS1 := Lib.hid (show ((w.alloc (fldO X Y W H (.slice (some ⟨b, off, none⟩) n cap))).alloc (.cells #[.float .f32 0, .float .f32 0, .int .i64 0] 101)).heap[w.heap.size + 1]? = some (.cells #[.float .f32 0, .float .f32 0, .int .i64 0] 101) by (first | (rw [heap_alloc_get, if_pos rfl]; done) | ((simp only [heap_alloc_get, heap_size_alloc, if_true]) <;> ((repeat' split) <;> first | rfl | omega))))
  have N1 := Lib.hid n1
  have N2 := Lib.hid n2
  clear hr hw hh h0 hn b1 b2 b3 b4 b5 b6 b7 b8 b9 n1 n2
  have hinfo : (Try.prog.info? 5).map (fun i => (i.zero, i.size, i.bytes)) = some (some (.int .u8 0), 1, 1) := by kernel_rfl
  obtain ⟨ti, hi, hz0, hz1, hz2⟩ := info_parts hinfo
  have HTI := Lib.hid hi
  clear hinfo hi
  have RS := fun (w : World) (a : Addr) (m : Mode) f x y => run_store_func (P := Try.prog) (w := w) (a := a) (m := m) f x y
  have KC := fun (w : World) (C : Array Value) (n c : Nat) => Lib.run_convert_bytes_const (P := Try.prog) w 198 5 C n c Try.underlying198 Try.underlying5
  go_enter Try.func128, Try.ntmps128
  go_upto_region 1 with fail
  generalize (w.alloc (fldO X Y W H (.slice (some ⟨b, off, none⟩) n cap))).alloc (.cells #[.float .f32 0, .float .f32 0, .int .i64 0] 101) = w1 at *
  obtain ⟨cF, fF, zF⟩ := blkC HF1.out
  go_wp2_with (first
    | (go_at_call 85; refine (CK.out _ B1.out).mono ?_; rintro e w2 ⟨rfl, hb2⟩; have B2 := Lib.hid (B1.out.trans (hb2.mono B1.out.size)); have HF2 := Lib.hid (blkStay HF1.out hb2); have HS2 := Lib.hid (blkStay HS1.out hb2); clear hb2 cF fF zF)
    | (go_at_call 169; refine (LY.out _).mono ?_; rintro e w3 ⟨mb, V, p, q, r, rfl, hV, hp, hq, hr, hb3, LK⟩; obtain rfl := hV.val; have HV := Lib.hid hV; have B3 := Lib.hid (B2.out.trans (hb3.mono B2.out.size)); have HF3 := Lib.hid (blkStay HF2.out hb3); have HS3 := Lib.hid (blkStay HS2.out hb3); clear hV hp hq hr hb3; obtain ⟨cS, fS, zS⟩ := blkC HS3.out)
    | (go_at_call 170; (with_reducible refine (CS.out _ p q r).mono ?_); rintro e w4 ⟨rfl, hb4⟩; clear cS fS zS LK; have HL4 := Lib.hid (blkStay (b := w3.heap.size) (o := .cells #[.bool false, .func (.func 199) #[] #[pt p, pt q, pt r], .func (.func 200) #[] #[pt p, pt r]] 231) (by (first | (rw [heap_alloc_get, if_pos rfl]; done) | ((simp only [heap_alloc_get, heap_size_alloc, if_true]) <;> ((repeat' split) <;> first | rfl | omega)))) hb4); have hb4' : Below w3.heap.size w3 w4 := (((Below.refl _ _).alloc (Nat.le_refl _) _).trans (hb4.mono (by simp))); have B4 := Lib.hid (B3.out.trans (hb4'.mono B3.out.size)); have HF4 := Lib.hid (blkStay HF3.out hb4'); have HS4 := Lib.hid (blkStay HS3.out hb4'); have HV4 := Lib.hid (HV.out.stay hb4'); clear hb4 hb4'; obtain ⟨cS, fS, zS⟩ := blkC HS4.out; obtain ⟨cF, fF, zF⟩ := blkC HF4.out; obtain ⟨cL, fL, zL⟩ := blkC HL4.out)
    | (go_at_call 199; (with_reducible refine (CD.out p q r _ _ HV4.out B4.out).mono ?_); rintro e w5 ⟨ov, rfl, own5, hb5⟩; clear cF fF zF cS fS zS cL fL zL; have OW5 := Lib.hid own5; have HF5 := Lib.hid (blkStay HF4.out hb5); have B5 := Lib.hid (B4.out.trans (hb5.mono B4.out.size)); have B45 := Lib.hid hb5; obtain ⟨cF, fF, zF⟩ := blkC HF5.out; clear own5 hb5; obtain ⟨gv, cv, rfl, _, _⟩ := OW5.out.form (by rw [fullL_len]; have := N1.out; omega); have hi := HTI.out)
    | (at_builtin; go_loud (refine wpList_append_grows _ rfl _ _ _ rfl 5 ti _ 1 1 Try.underlying198 hi hz0 hz1 hz2 rfl (by omega) (some ⟨w5.heap.size, 0, none⟩) 4 4 (btL [84, 65, 82, 78]) (by rfl) (by simp) (by rfl) (fun b hb j u hu => by cases hb; exact tarn_cells w5 _ j u hu) ⟨w5.heap.size + 1, 0, none⟩ 1 1 [.int .u8 1] (by rfl) (by rfl) (World.news_of_block (cs := #[.int .u8 1]) (t := 5) (fr := (0, 0)) (by (first | (rw [heap_alloc_get, if_pos rfl]; done) | ((simp only [heap_alloc_get, heap_size_alloc, if_true]) <;> ((repeat' split) <;> first | rfl | omega))))) (by simp [Value.oneCell']) (by omega) (by unfold maxLen; omega) (by omega) ?_; intro v7 w7 hown7 hgrow; have A7 := Lib.hid (start_at (w5 := w5) (L := [84, 65, 82, 78, 1]) hown7 (by simp; omega) hgrow); have B57 := Lib.hid (show Below w5.heap.size w5 w7 from (((Below.refl _ _).alloc (Nat.le_refl _) _).alloc (by simp) _).trans ⟨hgrow.os, hgrow.tape, hgrow.output, hgrow.size, fun j hj => hgrow.block j (by simp; omega) (by simp)⟩); have HF7 := Lib.hid (blkStay HF5.out B57.out); have OW7 := Lib.hid (ownsRow_below OW5.out B57.out); obtain ⟨g7, c7, rfl, hg7, _⟩ := hown7.form (by omega); clear hown7 hgrow hi cF fF zF; obtain ⟨cF, fF, zF⟩ := blkC HF7.out)))
  have HG7 := Lib.hid (show w5.heap.size ≤ g7 by simp at hg7; omega)
  have B7 := Lib.hid (B5.out.trans (B57.out.mono B5.out.size))
  clear hg7 cF fF zF
  have IX := Lib.hid (fun (k : Nat) (hk : k < 4) (w : World) => index_rg X Y W H k hk w)
  have HN := Lib.hid (show 0 < (fullL v n).length ∧ (fullL v n).length ≤ 262144 by rw [fullL_len]; have := N1.out; have := N2.out; omega)
  go_loopw [14, 66] (fun t i wr => ∃ k : Nat, k ≤ 4 ∧ i = .int .i64 k ∧ BtAt w7 w5.heap.size (some g7) (headL 1 X Y W H k) t wr) (fun _ i _ => 4 - (intOf i).toNat)
  case atStart => exact ⟨0, by omega, rfl, A7.out⟩
  case round =>
    obtain ⟨k, hk, rfl, hA⟩ := hrel
    have HA := Lib.hid hA
    clear hA
    by_cases hlt : k < 4
    · have ix := IX.out k hlt
      have AB := Lib.hid (fun t wr h => appendBytes_any w7 w5.heap.size (some g7) (headL 1 X Y W H k) t (u32N (rgI X Y W H k)) 4 wr h (u32N_lt _) (by omega) (by rw [headL_len]; omega))
      rw [u32N_eq] at AB
      have HE := Lib.hid (show headL 1 X Y W H (k + 1) = headL 1 X Y W H k ++ byteL (u32N (rgI X Y W H k)) 4 from rfl)
      generalize rgI X Y W H k = x at *
      go_wp2_with (go_at_call 171; refine (AB.out _ _ HA.out).mono ?_; rintro e w8 ⟨ov', rfl, hA8⟩; have HA8 := Lib.hid hA8; clear hA8)
      go_roundw
      case rel => exact ⟨k + 1, by omega, by go_num, by rw [HE.out]; exact HA8.out⟩
      case measure => simp [intOf]; omega
    · obtain rfl : k = 4 := by omega
      have hi := HTI.out
      have OWr := Lib.hid (OW7.out.kept HA.out.gr (.inr (by have := OW5.out.lt gv rfl; have := HG7.out; simp [Value.ownBlock]; omega)))
      obtain ⟨l1, l2⟩ := HN.out
      have HC := Lib.hid (OWr.out.cells (g := gv) rfl)
      have HL1 := Lib.hid (btL_len (fullL v n))
      have hL5 := headL_len 1 X Y W H 4
      have SM := Lib.hid (fun w => sum_any (txB (encL X Y W H v n)) w (by rw [txB_size]; unfold encL; rw [List.length_append, fullL_len]; have := N2.out; omega))
      have AB := Lib.hid (fun t wr h => appendBytes_any w7 w5.heap.size (some g7) (encL X Y W H v n) t (u32N (sumI (txB (encL X Y W H v n)))) 4 wr h (u32N_lt _) (by omega) (by unfold encL; rw [List.length_append, fullL_len]; have := N2.out; omega))
      have HT := Lib.hid (show encT X Y W H v n = txB (encL X Y W H v n ++ byteL (u32N (sumI (txB (encL X Y W H v n)))) 4) from rfl)
      obtain ⟨s1, s2⟩ := sumI_in (txB (encL X Y W H v n))
      rw [u32N_eq, Int.emod_eq_of_lt s1 s2, show ((4 : Nat) : Int) = 4 from rfl] at AB
      go_wp2_with (first
        | (at_builtin; go_loud (refine wpList_append_lies _ rfl _ _ _ rfl w5.heap.size 5 ti _ 1 1 Try.underlying198 hi hz0 hz1 hz2 rfl (by omega) u14 (headL 1 X Y W H 4).length (btL (headL 1 X Y W H 4)) (by rfl) HA.out.own ⟨gv, 0, none⟩ (fullL v n).length cv (btL (fullL v n)) (by rfl) (by rw [btL_len]; omega) HC.out (by simp [btL, Value.oneCell']) l1 (by unfold maxLen; omega) (by omega) HA.out.size wr.heap.size rfl ?_; intro g8 c8 w8 hown8 hgrow hat hlt8; have A8 := Lib.hid (BtAt.on (B := fullL v n) HA.out hgrow hat hown8); have A8' := Lib.hid (show BtAt w7 w5.heap.size (some g7) (encL X Y W H v n) _ w8 from A8.out); have TX := tx_of A8.out.own (headL_isB 1 X Y W H (by omega) 4) (fullL_isB v n); rw [show headL 1 X Y W H 4 ++ fullL v n = encL X Y W H v n from rfl] at TX; clear hown8 hgrow hat hlt8 hi l1 l2 hL5))
        | (go_at_call 73; (with_reducible refine (SM.out _).mono ?_); rintro e w' ⟨rfl, rfl⟩)
        | (go_at_call 171; (with_reducible refine (AB.out _ _ A8'.out).mono ?_); rintro e w9 ⟨ov', rfl, hA9⟩; obtain ⟨g9, c9, rfl, _, _⟩ := hA9.own.form (by simp [byteL_len]); have HA9 := Lib.hid hA9; have TX2 := text_of hA9.own (isB_app (encL_isB X Y W H v n) (byteL_isB _ 4)); generalize (encL X Y W H v n ++ byteL (u32N (sumI (txB (encL X Y W H v n)))) 4).length = N9 at TX2 ⊢; rw [← HT.out] at TX2; clear hA9 TX))
      go_ret2
      exact ⟨rfl, B7.out.trans (grownBy_far HA9.out.gr (by have := HG7.out; have := B5.out.size; omega) B7.out.size)⟩
end Go.Proofs.Ythemmpmjjdpdfaa

/- Contract: the law's writes. -/
namespace Go.Proofs.Ythemmpmjjdpdfaa
open Go.RowKit Fl
set_option linter.unusedVariables false

theorem encT_size (X Y W H : Int) (v : Nat → Nat) (n : Nat) : (encT X Y W H v n).size = 25 + 4 * n := by
  unfold encT; rw [txB_size, List.length_append, byteL_len]; unfold encL; rw [List.length_append, headL_len, fullL_len]; omega

set_option maxHeartbeats 1000000 in
set_option maxRecDepth 100000 in
theorem writes_any (w : World) : Calls Try.prog 54 #[] w fun e w' => e = .returned (.bool true) ∧ Below w.heap.size w w' := by
  have EN := Lib.hid (fun (b : Nat) (W : World) (hb : W.heap[b]? = some (.cells #[.float .f32 1065353216] 27)) => encFull_any 0 0 1 1 1 b 0 1 (fun _ => 1065353216) W (flAt_one_of hb) (fun _ _ => by show 1065353216 < 4294967296; omega) (fun _ _ => by show hgtB 1065353216 = true; kernel_rfl) (by decide) rfl)
  have HS := Lib.hid (encT_size 0 0 (1 : Nat) (1 : Nat) (fun _ => 1065353216) 1)
  generalize encT 0 0 (1 : Nat) (1 : Nat) (fun _ => 1065353216) 1 = s at *
  go_enter Try.func54, Try.ntmps54
  go_wp2_with (go_at_call 128; go_loud (refine (EN.out _ _ (by (first | (rw [heap_alloc_get, if_pos rfl]; done) | ((simp only [heap_alloc_get, heap_size_alloc, if_true]) <;> ((repeat' split) <;> first | rfl | omega))))).mono ?_; rintro e w2 ⟨rfl, hb2⟩; have B2 := Lib.hid (show Below w.heap.size w w2 from ((Below.refl _ _).alloc (Nat.le_refl _) _).trans (hb2.mono (by simp))); clear hb2; have hs := HS.out))
  go_ret
  exact ⟨rfl, B2.out⟩
end Go.Proofs.Ythemmpmjjdpdfaa
