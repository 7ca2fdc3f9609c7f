/- Bilinear of the program. -/
import Derived.Test.YtaieokamfhpfbaaBtw3
namespace Go.Proofs.Ytaieokamfhpfbaa
open Go.RowKit Fl
set_option linter.unusedVariables false

/-- A place of magnitude 2 ^ 23 at most, its floor, its share. -/
structure NearAt (x : Nat) (g : Int) (s : Nat) (cs : Bool) : Prop where
  fin : finB x = true
  flo : ∀ w, Calls Try.prog 135 #[.float .f32 x] w fun e w' => e = .returned (.float .f32 (flW x)) ∧ w = w'
  rflo : ∀ w, Calls Try.prog 137 #[.float .f32 x] w fun e w' => e = .returned (.float .f32 (flW x)) ∧ w = w'
  int : floatToIntVal .f32 (flW x) .i64 = some g
  sub : floatBits .sub .f32 x (flW x) = some s
  same : Same2 .sub 25 x (flW x)
  cs1 : (FloatKind.f32.format.order s 0 == some .eq) = cs
  bs : Bd 1 s
  lo : -8388608 ≤ g
  hi : g ≤ 8388608

theorem near_parts {x : Nat} {a : Int} (ha : vS x = some a) (hb : a.natAbs ≤ 8388608 * one) : ∃ s cs, NearAt x (a / (one : Int)) s cs := by
  obtain ⟨J, hJ⟩ : ∃ J : Nat, J = 1074 := ⟨_, rfl⟩
  have e23 : 2 ^ (23 + J) = 8388608 * one := by rw [one_pow hJ, Nat.pow_add]
  have bx : Bd 23 x := bd_val' (j := 23 + J) ha (by omega) (by rw [e23]; exact hb)
  obtain ⟨_, _, _, _, _, _, _, _, _, hv⟩ := floor_parts ha bx (by omega)
  have bf := fl_bd bx (by omega)
  have S : Same2 .sub 25 x (flW x) := sub_same (k := 24) (by omega) (bd_up bx (by omega)) bf
  obtain ⟨_, _, _, s, _, _, _, _, es, _⟩ := S.ex
  obtain ⟨n1, n2⟩ := flV_near a
  have hp : (0 : Int) < (one : Int) := Int.natCast_pos.2 one_pos
  have g1 : -8388608 ≤ a / (one : Int) := by
    rw [Int.le_ediv_iff_mul_le hp]; generalize one = O at *; omega
  have g2 : a / (one : Int) ≤ 8388608 := by
    have := Int.ediv_le_ediv hp (show a ≤ 8388608 * (one : Int) by generalize one = O at *; omega)
    rwa [Int.mul_ediv_cancel _ (Int.ne_of_gt hp)] at this
  have hs : vS s = some (rdS (a - flV a)) := by
    obtain ⟨B, hB⟩ : ∃ B : Nat, B = 1100 := ⟨_, rfl⟩
    refine vS_sub (B := B) es ha hv ?_ (by omega)
    refine small_of (n := 0) (by omega) ?_ (by omega)
    rw [Nat.pow_zero]; generalize one = O at *; omega
  have r0 := rdS_nonneg (show 0 ≤ a - flV a by omega)
  have r1 : rdS (a - flV a) ≤ (one : Int) := by
    have := rdS_mono (show a - flV a ≤ (one : Int) by omega)
    rwa [rdS_self vS_one] at this
  have bs : Bd 1 s := bd_up (bd_unit hs (by omega) r1) (by omega)
  refine ⟨s, _, ⟨?_, fun w => floor_any x 23 a ha bx (by omega) w, fun w => refFloor_any x 23 a ha bx (by omega) w, toInt_whole hv (by omega) (by omega), es, S, rfl, bs, g1, g2⟩⟩
  unfold finB; rw [ha]; rfl

/-- isNear as words. -/
def nearB (x : Nat) : Bool := (FloatKind.f32.format.order 3397386240 x == some .lt || FloatKind.f32.format.order 3397386240 x == some .eq) && (FloatKind.f32.format.order x 1249902592 == some .lt || FloatKind.f32.format.order x 1249902592 == some .eq)
theorem vS_p22 : vS 1249902592 = some (4194304 * (one : Int)) := by
  have h : Ieee.single.read 1249902592 = .number false 8388608 (-1) := by decide
  obtain ⟨j, hj⟩ : ∃ j : Nat, j = 1074 := ⟨_, rfl⟩
  rw [vS_lit (t := 4194304) (k := 1) (j := j) h (by decide) (by rw [hj]; decide), one_pow hj]; simp
theorem vS_m22 : vS 3397386240 = some (-(4194304 * (one : Int))) := by
  have h : Ieee.single.read 3397386240 = .number true 8388608 (-1) := by decide
  obtain ⟨j, hj⟩ : ∃ j : Nat, j = 1074 := ⟨_, rfl⟩
  rw [vS_lit (t := 4194304) (k := 1) (j := j) h (by decide) (by rw [hj]; decide), one_pow hj]; simp
theorem vS_p23 : vS 1258291200 = some (8388608 * (one : Int)) := by
  have h : Ieee.single.read 1258291200 = .number false 8388608 0 := by decide
  obtain ⟨j, hj⟩ : ∃ j : Nat, j = 1074 := ⟨_, rfl⟩
  rw [vS_lit (t := 8388608) (k := 0) (j := j) h (by decide) (by rw [hj]; decide), one_pow hj]; simp
theorem near_val {x : Nat} {a : Int} (h : vS x = some a) : nearB x = decide (-(4194304 * (one : Int)) ≤ a ∧ a ≤ 4194304 * (one : Int)) := by
  unfold nearB
  rw [f32f, leq_val vS_m22 h, leq_val h vS_p22]; simp

set_option maxHeartbeats 400000 in
theorem isNear_any (x : Nat) (w : World) :
    Calls Try.prog 134 #[.float .f32 x] w fun e w' => e = .returned (.bool (nearB x)) ∧ w = w' := by
  unfold nearB
  go_enter Try.func134, Try.ntmps134
  go_wp2
  all_goals go_ret
  · exact ⟨rfl, rfl⟩
  · rename_i h
    refine ⟨ret_bool (Eq.symm ?_), rfl⟩
    rw [Bool.and_eq_false_iff]; left
    simpa using h

set_option maxHeartbeats 400000 in
theorem height_any (x : Nat) (w : World) :
    Calls Try.prog 123 #[.float .f32 x] w fun e w' => e = .returned (.tuple #[.float .f32 (if hgtB x then x else 0), .int .i64 (if hgtB x then 0 else 3)]) ∧ w = w' := by
  have IH := Lib.hid (fun w => isHeight_any x w)
  cases h : hgtB x
  all_goals
    rw [h] at IH
    clear h
    go_enter Try.func123, Try.ntmps123
    go_wp2_with (go_at_call 165; refine (IH.out _).mono ?_; rintro e w' ⟨rfl, rfl⟩)
    go_ret2
    exact ⟨rfl, rfl⟩

section
variable (X Y : Int) (W H n b cap : Nat) (v : Nat → Nat) (x y : Nat) (w : World)

set_option maxHeartbeats 2000000 in
theorem bil_form (h0 : checkR X Y W H = 0) (hn : n = W * H) (hc : FlAt w b 0 n v) (hh : allB n (fun i => hgtB (v i)) = true) (hf : finB x = false ∨ finB y = false) :
    Calls Try.prog 52 #[fldV X Y W H (.slice (some ⟨b, 0, none⟩) n cap), .float .f32 x, .float .f32 y] w fun e w' => e = .returned (.tuple #[.float .f32 0, .int .i64 2]) ∧ Below w.heap.size w w' := by
  have hlt : b < w.heap.size := World.block_lt_of_cell? w _ (hc 0 (by
    obtain ⟨b1, b2, b3, b4, b5, _⟩ := checkR_zero h0
    rw [hn]; exact Nat.mul_pos (by omega) (by omega)))
  have CK := Lib.hid (fun W' (hb : Below w.heap.size w W') => check_ok X Y W H n b cap v W' h0 hn (flAt_congr hc (hb.block _ hlt)) hh)
  have F1 := Lib.hid (fun w => isFinite_any x w)
  have F2 := Lib.hid (fun w => isFinite_any y w)
  clear h0 hn hc hh
  cases hx : finB x with
  | false =>
    rw [hx] at F1
    clear hf hx
    go_enter Try.func52, Try.ntmps52
    go_wp2_with (first | (go_at_call 89; refine (CK.out _ (by repeat (first | exact Below.refl _ _ | refine Below.alloc ?_ (by first | omega | (simp; done) | (simp; omega)) _ | refine Below.setCell ?_ (by first | omega | (simp; done) | (simp; omega)) _ | refine Below.drew ?_))).mono ?_; rintro e w2 ⟨rfl, hb2⟩; have B2 := Lib.hid (Below.trans (show Below w.heap.size w _ from (by repeat (first | exact Below.refl _ _ | refine Below.alloc ?_ (by first | omega | (simp; done) | (simp; omega)) _ | refine Below.setCell ?_ (by first | omega | (simp; done) | (simp; omega)) _ | refine Below.drew ?_))) (hb2.mono (by simp))); clear hb2) | (go_at_call 133; refine (F1.out _).mono ?_; rintro e w' ⟨rfl, rfl⟩))
    go_ret2
    exact ⟨rfl, B2.out⟩
  | true =>
    have hy : finB y = false := by rcases hf with h | h; rw [hx] at h; cases h; exact h
    rw [hx] at F1
    rw [hy] at F2
    clear hf hx hy
    go_enter Try.func52, Try.ntmps52
    go_wp2_with (first | (go_at_call 89; refine (CK.out _ (by repeat (first | exact Below.refl _ _ | refine Below.alloc ?_ (by first | omega | (simp; done) | (simp; omega)) _ | refine Below.setCell ?_ (by first | omega | (simp; done) | (simp; omega)) _ | refine Below.drew ?_))).mono ?_; rintro e w2 ⟨rfl, hb2⟩; have B2 := Lib.hid (Below.trans (show Below w.heap.size w _ from (by repeat (first | exact Below.refl _ _ | refine Below.alloc ?_ (by first | omega | (simp; done) | (simp; omega)) _ | refine Below.setCell ?_ (by first | omega | (simp; done) | (simp; omega)) _ | refine Below.drew ?_))) (hb2.mono (by simp))); clear hb2))
    go_wp2_with (first | (go_at_call 133; (with_reducible refine (F1.out _).mono ?_); rintro e w' ⟨rfl, rfl⟩) | (go_at_call 133; (with_reducible refine (F2.out _).mono ?_); rintro e w' ⟨rfl, rfl⟩))
    go_ret2
    exact ⟨rfl, B2.out⟩

set_option maxHeartbeats 2000000 in
theorem bil_far (h0 : checkR X Y W H = 0) (hn : n = W * H) (hc : FlAt w b 0 n v) (hh : allB n (fun i => hgtB (v i)) = true) (hx : finB x = true) (hy : finB y = true) (hf : nearB x = false ∨ nearB y = false) :
    Calls Try.prog 52 #[fldV X Y W H (.slice (some ⟨b, 0, none⟩) n cap), .float .f32 x, .float .f32 y] w fun e w' => e = .returned (.tuple #[.float .f32 0, .int .i64 5]) ∧ Below w.heap.size w w' := by
  have hlt : b < w.heap.size := World.block_lt_of_cell? w _ (hc 0 (by
    obtain ⟨b1, b2, b3, b4, b5, _⟩ := checkR_zero h0
    rw [hn]; exact Nat.mul_pos (by omega) (by omega)))
  have CK := Lib.hid (fun W' (hb : Below w.heap.size w W') => check_ok X Y W H n b cap v W' h0 hn (flAt_congr hc (hb.block _ hlt)) hh)
  have F1 := Lib.hid (fun w => isFinite_any x w)
  have F2 := Lib.hid (fun w => isFinite_any y w)
  have N1 := Lib.hid (fun w => isNear_any x w)
  have N2 := Lib.hid (fun w => isNear_any y w)
  rw [hx] at F1
  rw [hy] at F2
  clear h0 hn hc hh hx hy
  cases hx : nearB x with
  | false =>
    rw [hx] at N1
    clear hf hx
    go_enter Try.func52, Try.ntmps52
    go_wp2_with (first | (go_at_call 89; refine (CK.out _ (by repeat (first | exact Below.refl _ _ | refine Below.alloc ?_ (by first | omega | (simp; done) | (simp; omega)) _ | refine Below.setCell ?_ (by first | omega | (simp; done) | (simp; omega)) _ | refine Below.drew ?_))).mono ?_; rintro e w2 ⟨rfl, hb2⟩; have B2 := Lib.hid (Below.trans (show Below w.heap.size w _ from (by repeat (first | exact Below.refl _ _ | refine Below.alloc ?_ (by first | omega | (simp; done) | (simp; omega)) _ | refine Below.setCell ?_ (by first | omega | (simp; done) | (simp; omega)) _ | refine Below.drew ?_))) (hb2.mono (by simp))); clear hb2) | (go_at_call 133; (with_reducible refine (F1.out _).mono ?_); rintro e w' ⟨rfl, rfl⟩) | (go_at_call 133; (with_reducible refine (F2.out _).mono ?_); rintro e w' ⟨rfl, rfl⟩) | (go_at_call 134; (with_reducible refine (N1.out _).mono ?_); rintro e w' ⟨rfl, rfl⟩))
    go_ret2
    exact ⟨rfl, B2.out⟩
  | true =>
    have hy : nearB y = false := by rcases hf with h | h; rw [hx] at h; cases h; exact h
    rw [hx] at N1
    rw [hy] at N2
    clear hf hx hy
    go_enter Try.func52, Try.ntmps52
    go_wp2_with (first | (go_at_call 89; refine (CK.out _ (by repeat (first | exact Below.refl _ _ | refine Below.alloc ?_ (by first | omega | (simp; done) | (simp; omega)) _ | refine Below.setCell ?_ (by first | omega | (simp; done) | (simp; omega)) _ | refine Below.drew ?_))).mono ?_; rintro e w2 ⟨rfl, hb2⟩; have B2 := Lib.hid (Below.trans (show Below w.heap.size w _ from (by repeat (first | exact Below.refl _ _ | refine Below.alloc ?_ (by first | omega | (simp; done) | (simp; omega)) _ | refine Below.setCell ?_ (by first | omega | (simp; done) | (simp; omega)) _ | refine Below.drew ?_))) (hb2.mono (by simp))); clear hb2) | (go_at_call 133; (with_reducible refine (F1.out _).mono ?_); rintro e w' ⟨rfl, rfl⟩) | (go_at_call 133; (with_reducible refine (F2.out _).mono ?_); rintro e w' ⟨rfl, rfl⟩) | (go_at_call 134; (with_reducible refine (N1.out _).mono ?_); rintro e w' ⟨rfl, rfl⟩) | (go_at_call 134; (with_reducible refine (N2.out _).mono ?_); rintro e w' ⟨rfl, rfl⟩))
    go_ret2
    exact ⟨rfl, B2.out⟩

/-- What Bilinear answers where both coordinates are near. -/
def bilV (g h : Int) (s t : Nat) (cs ct : Bool) : Nat := if thereB X Y W H g h cs ct then (if hgtB (btwW v W (numC X Y W g h) cs ct s t) then btwW v W (numC X Y W g h) cs ct s t else 0) else 0
def bilE (g h : Int) (s t : Nat) (cs ct : Bool) : Int := if thereB X Y W H g h cs ct then (if hgtB (btwW v W (numC X Y W g h) cs ct s t) then 0 else 3) else 5

set_option maxHeartbeats 4000000 in
theorem bil_near (h0 : checkR X Y W H = 0) (hn : n = W * H) (hcap : n ≤ cap) (hc : FlAt w b 0 n v) (hh : allB n (fun i => hgtB (v i)) = true) {g h : Int} {s t : Nat} {cs ct : Bool} (A : NearAt x g s cs) (B : NearAt y h t ct) (nx : nearB x = true) (ny : nearB y = true) :
    Calls Try.prog 52 #[fldV X Y W H (.slice (some ⟨b, 0, none⟩) n cap), .float .f32 x, .float .f32 y] w fun e w' => e = .returned (.tuple #[.float .f32 (bilV X Y W H v g h s t cs ct), .int .i64 (bilE X Y W H v g h s t cs ct)]) ∧ Below w.heap.size w w' := by
  have hlt : b < w.heap.size := World.block_lt_of_cell? w _ (hc 0 (by
    obtain ⟨b1, b2, b3, b4, b5, _⟩ := checkR_zero h0
    rw [hn]; exact Nat.mul_pos (by omega) (by omega)))
  have CK := Lib.hid (fun W' (hb : Below w.heap.size w W') => check_ok X Y W H n b cap v W' h0 hn (flAt_congr hc (hb.block _ hlt)) hh)
  have F1 := Lib.hid (fun w => isFinite_any x w)
  have F2 := Lib.hid (fun w => isFinite_any y w)
  have N1 := Lib.hid (fun w => isNear_any x w)
  have N2 := Lib.hid (fun w => isNear_any y w)
  rw [A.fin] at F1
  rw [B.fin] at F2
  rw [nx] at N1
  rw [ny] at N2
  have FX := Lib.hid A.flo
  have FY := Lib.hid B.flo
  have c1 := fun (W : World) => run_convert_float_int (P := Try.prog) W 37 3 .f32 .i64 (flW x) g (by kernel_rfl) Try.underlying3 A.int
  have c2 := fun (W : World) => run_convert_float_int (P := Try.prog) W 37 3 .f32 .i64 (flW y) h (by kernel_rfl) Try.underlying3 B.int
  have a1 := fun (W : World) => run_float_arith (P := Try.prog) W .sub 37 .f32 x (flW x) s A.sub
  have a2 := fun (W : World) => run_float_arith (P := Try.prog) W .sub 37 .f32 y (flW y) t B.sub
  have g1 := A.lo
  have g2 := A.hi
  have g3 := B.lo
  have g4 := B.hi
  unfold bilV bilE
  cases hth : thereB X Y W H g h cs ct with
  | false =>
    have BT := Lib.hid (fun w => between_no X Y W H n b cap g h s t cs ct w h0 (by omega) (by omega) (by omega) (by omega) A.cs1 B.cs1 hth)
    clear h0 hn hc hh hth A B nx ny
    go_enter Try.func52, Try.ntmps52
    go_wp2_with (first | (go_at_call 89; refine (CK.out _ (by repeat (first | exact Below.refl _ _ | refine Below.alloc ?_ (by first | omega | (simp; done) | (simp; omega)) _ | refine Below.setCell ?_ (by first | omega | (simp; done) | (simp; omega)) _ | refine Below.drew ?_))).mono ?_; rintro e w2 ⟨rfl, hb2⟩; have B2 := Lib.hid (Below.trans (show Below w.heap.size w _ from (by repeat (first | exact Below.refl _ _ | refine Below.alloc ?_ (by first | omega | (simp; done) | (simp; omega)) _ | refine Below.setCell ?_ (by first | omega | (simp; done) | (simp; omega)) _ | refine Below.drew ?_))) (hb2.mono (by simp))); obtain ⟨cA, fA, zA⟩ := blkC (blkStay (b := w.heap.size) (o := fldO X Y W H (.slice (some ⟨b, 0, none⟩) n cap)) (by ((simp only [heap_alloc_get, heap_size_alloc, if_true]) <;> ((repeat' split) <;> first | rfl | omega))) hb2); clear hb2) | (go_at_call 133; (with_reducible refine (F1.out _).mono ?_); rintro e w' ⟨rfl, rfl⟩) | (go_at_call 133; (with_reducible refine (F2.out _).mono ?_); rintro e w' ⟨rfl, rfl⟩) | (go_at_call 134; (with_reducible refine (N1.out _).mono ?_); rintro e w' ⟨rfl, rfl⟩) | (go_at_call 134; (with_reducible refine (N2.out _).mono ?_); rintro e w' ⟨rfl, rfl⟩) | (go_at_call 135; (with_reducible refine (FX.out _).mono ?_); rintro e w' ⟨rfl, rfl⟩) | (go_at_call 135; (with_reducible refine (FY.out _).mono ?_); rintro e w' ⟨rfl, rfl⟩) | (go_at_call 136; refine (BT.out _).mono ?_; rintro e w3 ⟨rfl, hb3⟩; have B3 := Lib.hid (B2.out.trans (hb3.mono B2.out.size)); clear hb3))
    go_ret2
    exact ⟨rfl, B3.out⟩
  | true =>
    have BT := Lib.hid (fun W' (hb : Below w.heap.size w W') => between_ok X Y W H n b cap v g h s t cs ct W' h0 hn hcap (flAt_congr hc (hb.block _ hlt)) hh A.cs1 B.cs1 hth A.bs B.bs)
    have HT := Lib.hid (fun w => height_any (btwW v W (numC X Y W g h) cs ct s t) w)
    simp only [if_true]
    generalize btwW v W (numC X Y W g h) cs ct s t = P at *
    generalize (if hgtB P = true then P else 0) = V at *
    generalize (if hgtB P = true then (0 : Int) else 3) = er at *
    clear h0 hn hc hh hth A B nx ny
    go_enter Try.func52, Try.ntmps52
    go_wp2_with (first | (go_at_call 89; refine (CK.out _ (by repeat (first | exact Below.refl _ _ | refine Below.alloc ?_ (by first | omega | (simp; done) | (simp; omega)) _ | refine Below.setCell ?_ (by first | omega | (simp; done) | (simp; omega)) _ | refine Below.drew ?_))).mono ?_; rintro e w2 ⟨rfl, hb2⟩; have B2 := Lib.hid (Below.trans (show Below w.heap.size w _ from (by repeat (first | exact Below.refl _ _ | refine Below.alloc ?_ (by first | omega | (simp; done) | (simp; omega)) _ | refine Below.setCell ?_ (by first | omega | (simp; done) | (simp; omega)) _ | refine Below.drew ?_))) (hb2.mono (by simp))); obtain ⟨cA, fA, zA⟩ := blkC (blkStay (b := w.heap.size) (o := fldO X Y W H (.slice (some ⟨b, 0, none⟩) n cap)) (by ((simp only [heap_alloc_get, heap_size_alloc, if_true]) <;> ((repeat' split) <;> first | rfl | omega))) hb2); clear hb2) | (go_at_call 133; (with_reducible refine (F1.out _).mono ?_); rintro e w' ⟨rfl, rfl⟩) | (go_at_call 133; (with_reducible refine (F2.out _).mono ?_); rintro e w' ⟨rfl, rfl⟩) | (go_at_call 134; (with_reducible refine (N1.out _).mono ?_); rintro e w' ⟨rfl, rfl⟩) | (go_at_call 134; (with_reducible refine (N2.out _).mono ?_); rintro e w' ⟨rfl, rfl⟩) | (go_at_call 135; (with_reducible refine (FX.out _).mono ?_); rintro e w' ⟨rfl, rfl⟩) | (go_at_call 135; (with_reducible refine (FY.out _).mono ?_); rintro e w' ⟨rfl, rfl⟩) | (go_at_call 136; refine (BT.out _ B2.out).mono ?_; rintro e w3 ⟨rfl, hb3⟩; have B3 := Lib.hid (B2.out.trans (hb3.mono B2.out.size)); clear hb3) | (go_at_call 123; refine (HT.out _).mono ?_; rintro e w' ⟨rfl, rfl⟩))
    go_ret2
    exact ⟨rfl, B3.out⟩
end
end Go.Proofs.Ytaieokamfhpfbaa
