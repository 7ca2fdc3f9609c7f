/- BrushesMatch, for every brush, every field and every place: CheckBrush, Weight, Stamp and Box answer as the references do; weights lie from 0 to 1, and are 0 outside of the box. No condition. -/
import Derived.Test.YtmbiohopcfglcaaBruJB
import Derived.ProofKit
import Derived.OpenShut
import Derived.Lib.SmallJoins
import Derived.Laws.Cover2
import Derived.Deep.Slices

/- Contracts of the regions' functions, continued: the reference's Grow; Common, Inside. -/
namespace Go.Proofs.Ytmbiohopcfglcaa
open Go.RowKit

set_option maxHeartbeats 1000000 in
theorem landed_any (w : World) : Calls Try.prog 14 #[] w fun e w' => e = .returned (.bool true) ∧ Below w.heap.size w w' := by
  go_enter Try.func14, Try.ntmps14
  go_wp2
  go_ret
  exact ⟨rfl, (by repeat (first | exact Below.refl _ _ | refine Below.alloc ?_ (by first | omega | (simp; done) | (simp; omega)) _ | refine Below.setCell ?_ (by first | omega | (simp; done) | (simp; omega)) _ | refine Below.drew ?_))⟩

def insideB (x y w h x' y' w' h' : Int) : Bool := decide (x' ≤ x) && decide (y' ≤ y) && decide (x + w ≤ x' + w') && decide (y + h ≤ y' + h')
theorem insideB_iff {x y w h x' y' w' h' : Int} : insideB x y w h x' y' w' h' = true ↔ x' ≤ x ∧ y' ≤ y ∧ x + w ≤ x' + w' ∧ y + h ≤ y' + h' := by simp [insideB]; omega

end Go.Proofs.Ytmbiohopcfglcaa

/- Contracts: slices.Contains of the three kinds, CheckPlace, CheckBrush of both sides, the boxes. -/
namespace Go.Proofs.Ytmbiohopcfglcaa
open Go.RowKit Fl
set_option linter.unusedVariables false

abbrev kindsObj : Obj := .cells #[.int .i64 1, .int .i64 2, .int .i64 3] 3

set_option maxHeartbeats 1000000 in
theorem kindIndex_any (b : Nat) (k : Int) (w : World) (h : w.heap[b]? = some kindsObj) :
    Calls Try.prog 177 #[.slice (some ⟨b, 0, none⟩) 3 3, .int .i64 k] w fun e w' => e = .returned (.int .i64 (if 1 ≤ k ∧ k ≤ 3 then k - 1 else -1)) ∧ w = w' := by
  obtain ⟨cB, fB, zB⟩ := blkC h
  clear h
  go_enter Try.func177, Try.ntmps177
  go_wp2
  go_loop [8] (fun i => ∃ j : Nat, j ≤ 3 ∧ i = .int .i64 j ∧ ∀ m : Nat, m < j → k ≠ (m : Int) + 1) (fun i => 3 - (intOf i).toNat)
  case atStart => exact ⟨0, by omega, rfl, fun m hm => by omega⟩
  case round =>
    obtain ⟨j, hj, rfl, hall⟩ := hrel
    have HA := Lib.hid hall
    clear hall
    have : j = 0 ∨ j = 1 ∨ j = 2 ∨ j = 3 := by omega
    rcases this with rfl | rfl | rfl | rfl
    · by_cases c : k = 1
      · subst c
        go_wp2
        go_ret
        exact ⟨rfl, rfl⟩
      · go_wp2
        go_round
        case rel => exact ⟨1, by omega, by go_num, fun m hm => by have : m = 0 := by omega
                                                                  subst this; simpa using c⟩
        case measure => simp [intOf]
    · by_cases c : k = 2
      · subst c
        go_wp2
        go_ret
        exact ⟨rfl, rfl⟩
      · go_wp2
        go_round
        case rel => exact ⟨2, by omega, by go_num, fun m hm => by
                      have : m < 1 ∨ m = 1 := by omega
                      rcases this with q | rfl
                      · exact HA.out m q
                      · simpa using c⟩
        case measure => simp [intOf]
    · by_cases c : k = 3
      · subst c
        go_wp2
        go_ret
        exact ⟨rfl, rfl⟩
      · go_wp2
        go_round
        case rel => exact ⟨3, by omega, by go_num, fun m hm => by
                      have : m < 2 ∨ m = 2 := by omega
                      rcases this with q | rfl
                      · exact HA.out m q
                      · simpa using c⟩
        case measure => simp [intOf]
    · go_wp2
      all_goals go_ret
      all_goals exact ⟨ret_int (by
        have h0 := HA.out 0 (by omega)
        have h1 := HA.out 1 (by omega)
        have h2 := HA.out 2 (by omega)
        first | omega | (split <;> omega)), rfl⟩

set_option maxHeartbeats 1000000 in
theorem kindIn_any (b : Nat) (k : Int) (w : World) (h : w.heap[b]? = some kindsObj) :
    Calls Try.prog 85 #[.slice (some ⟨b, 0, none⟩) 3 3, .int .i64 k] w fun e w' => e = .returned (.bool (withinB k 1 3)) ∧ w = w' := by
  have IX := Lib.hid (kindIndex_any b k w h)
  clear h
  cases c : withinB k 1 3 with
  | true =>
    have hk := withinB_iff.1 c
    rw [if_pos hk] at IX
    clear c
    go_enter Try.func85, Try.ntmps85
    go_wp2_with (first | (go_at_call 177; refine (IX.out).mono ?_; rintro e w' ⟨rfl, rfl⟩))
    go_ret
    exact ⟨ret_bool (by first | (simp; done) | (simp; omega)), rfl⟩
  | false =>
    have hk := withinB_no.1 c
    rw [if_neg (by omega)] at IX
    clear c
    go_enter Try.func85, Try.ntmps85
    go_wp2_with (first | (go_at_call 177; refine (IX.out).mono ?_; rintro e w' ⟨rfl, rfl⟩))
    go_ret
    exact ⟨rfl, rfl⟩

/-- The error of a place. -/
def plcE (x y : Int) : Int := if withinB x (-4194304) 4194304 = true ∧ withinB y (-4194304) 4194304 = true then 0 else 5

set_option maxHeartbeats 400000 in
theorem isPlace_any (x : Int) (w : World) :
    Calls Try.prog 178 #[.int .i64 x] w fun e w' => e = .returned (.bool (withinB x (-4194304) 4194304)) ∧ w = w' := by
  go_enter Try.func178, Try.ntmps178
  go_wp2_with (go_at_call 87; refine (within_any _ _ _ _).mono ?_; rintro e w' ⟨rfl, rfl⟩)
  go_ret
  exact ⟨rfl, rfl⟩

set_option maxHeartbeats 400000 in
theorem checkPlace_any (x y : Int) (w : World) :
    Calls Try.prog 86 #[.int .i64 x, .int .i64 y] w fun e w' => e = .returned (.int .i64 (plcE x y)) ∧ w = w' := by
  have PX := Lib.hid (fun w => isPlace_any x w)
  have PY := Lib.hid (fun w => isPlace_any y w)
  unfold plcE
  generalize withinB x (-4194304) 4194304 = c at *
  generalize withinB y (-4194304) 4194304 = d at *
  cases c <;> cases d
  all_goals go_enter Try.func86, Try.ntmps86
  all_goals go_wp2_with (first | (go_at_call 178; (with_reducible refine (PX.out _).mono ?_); rintro e w' ⟨rfl, rfl⟩) | (go_at_call 178; (with_reducible refine (PY.out _).mono ?_); rintro e w' ⟨rfl, rfl⟩))
  all_goals go_ret
  all_goals exact ⟨rfl, rfl⟩

/-- A brush as a value; its cells. -/
abbrev bru (k X Y R : Int) (h : Nat) : Value := .agg #[.int .i64 k, .int .i64 X, .int .i64 Y, .int .i64 R, .float .f32 h]
abbrev bruObj (k X Y R : Int) (h : Nat) : Obj := .cells #[.int .i64 k, .int .i64 X, .int .i64 Y, .int .i64 R, .float .f32 h] 24
/-- The error of a brush. -/
def bruE (k X Y R : Int) (h : Nat) : Int := if withinB k 1 3 = false then 1 else if plcE X Y ≠ 0 then plcE X Y else if withinB R 1 256 = false then 3 else fldE 1 (fun _ => h)

theorem plcE_cases (x y : Int) : plcE x y = 0 ∨ plcE x y = 5 := by unfold plcE; split <;> simp

set_option maxHeartbeats 1000000 in
set_option maxRecDepth 100000 in
theorem checkBrush_any (k X Y R : Int) (h : Nat) (w : World) :
    Calls Try.prog 16 #[bru k X Y R h] w fun e w' => e = .returned (.int .i64 (bruE k X Y R h)) ∧ Below w.heap.size w w' := by
  have KI := Lib.hid (fun bb w (hb : w.heap[bb]? = some kindsObj) => kindIn_any bb k w hb)
  have CP := Lib.hid (fun w => checkPlace_any X Y w)
  have WR := Lib.hid (fun w => within_any R 1 256 w)
  have CH := Lib.hid (fun bb w (hb : w.heap[bb]? = some (flObj h)) => CheckHeights_row bb 0 1 1 (fun _ => h) (by omega) w (flAt_one_of hb))
  have hp := plcE_cases X Y
  unfold bruE
  generalize plcE X Y = pe at *
  generalize withinB k 1 3 = c1 at *
  generalize withinB R 1 256 = c2 at *
  generalize fldE 1 (fun _ => h) = er at *
  cases c1 with
  | false =>
    rw [if_pos rfl]
    go_enter Try.func16, Try.ntmps16
    go_wp2_with (first | (go_at_call 85; refine (KI.out _ _ (by ((simp only [heap_alloc_get, heap_size_alloc, if_true]) <;> ((repeat' split) <;> first | rfl | omega)))).mono ?_; rintro e w' ⟨rfl, rfl⟩))
    go_ret
    exact ⟨rfl, (by repeat (first | exact Below.refl _ _ | refine Below.alloc ?_ (by first | omega | (simp; done) | (simp; omega)) _ | refine Below.setCell ?_ (by first | omega | (simp; done) | (simp; omega)) _ | refine Below.drew ?_))⟩
  | true =>
    rw [if_neg (by simp)]
    rcases hp with rfl | rfl
    · rw [if_neg (by simp)]
      cases c2 with
      | false =>
        rw [if_pos rfl]
        go_enter Try.func16, Try.ntmps16
        go_wp2_with (first | (go_at_call 85; refine (KI.out _ _ (by ((simp only [heap_alloc_get, heap_size_alloc, if_true]) <;> ((repeat' split) <;> first | rfl | omega)))).mono ?_; rintro e w' ⟨rfl, rfl⟩) | (go_at_call 86; refine (CP.out _).mono ?_; rintro e w' ⟨rfl, rfl⟩) | (go_at_call 87; refine (WR.out _).mono ?_; rintro e w' ⟨rfl, rfl⟩))
        go_ret
        exact ⟨rfl, (by repeat (first | exact Below.refl _ _ | refine Below.alloc ?_ (by first | omega | (simp; done) | (simp; omega)) _ | refine Below.setCell ?_ (by first | omega | (simp; done) | (simp; omega)) _ | refine Below.drew ?_))⟩
      | true =>
        rw [if_neg (by simp)]
        go_enter Try.func16, Try.ntmps16
        go_wp2_with (first | (go_at_call 85; refine (KI.out _ _ (by ((simp only [heap_alloc_get, heap_size_alloc, if_true]) <;> ((repeat' split) <;> first | rfl | omega)))).mono ?_; rintro e w' ⟨rfl, rfl⟩) | (go_at_call 86; refine (CP.out _).mono ?_; rintro e w' ⟨rfl, rfl⟩) | (go_at_call 87; refine (WR.out _).mono ?_; rintro e w' ⟨rfl, rfl⟩) | (go_at_call 88; refine (CH.out _ _ (by ((simp only [heap_alloc_get, heap_size_alloc, if_true]) <;> ((repeat' split) <;> first | rfl | omega)))).mono ?_; rintro e w' ⟨rfl, rfl⟩))
        go_ret
        exact ⟨rfl, (by repeat (first | exact Below.refl _ _ | refine Below.alloc ?_ (by first | omega | (simp; done) | (simp; omega)) _ | refine Below.setCell ?_ (by first | omega | (simp; done) | (simp; omega)) _ | refine Below.drew ?_))⟩
    · rw [if_pos (by simp)]
      go_enter Try.func16, Try.ntmps16
      go_wp2_with (first | (go_at_call 85; refine (KI.out _ _ (by ((simp only [heap_alloc_get, heap_size_alloc, if_true]) <;> ((repeat' split) <;> first | rfl | omega)))).mono ?_; rintro e w' ⟨rfl, rfl⟩) | (go_at_call 86; refine (CP.out _).mono ?_; rintro e w' ⟨rfl, rfl⟩))
      go_ret
      exact ⟨rfl, (by repeat (first | exact Below.refl _ _ | refine Below.alloc ?_ (by first | omega | (simp; done) | (simp; omega)) _ | refine Below.setCell ?_ (by first | omega | (simp; done) | (simp; omega)) _ | refine Below.drew ?_))⟩

set_option maxHeartbeats 1000000 in
set_option maxRecDepth 100000 in
theorem refCheckBrush_any (k X Y R : Int) (h : Nat) (hh : h < 4294967296) (w : World) :
    Calls Try.prog 15 #[bru k X Y R h] w fun e w' => e = .returned (.int .i64 (bruE k X Y R h)) ∧ Below w.heap.size w w' := by
  have HT := Lib.hid (fun bb w (hb : w.heap[bb]? = some (flObj h)) => refHeight_of h hh bb w hb)
  obtain ⟨er, her⟩ : ∃ er, fldE 1 (fun _ => h) = er := ⟨_, rfl⟩
  rw [her] at HT
  have HE := Lib.hid her
  clear her hh
  go_enter Try.func15, Try.ntmps15
  go_wp2_with (first | (go_at_call 84; refine (HT.out _ _ (by ((simp only [heap_alloc_get, heap_size_alloc, if_true]) <;> ((repeat' split) <;> first | rfl | omega)))).mono ?_; rintro e w' ⟨rfl, rfl⟩))
  all_goals go_ret
  all_goals refine ⟨ret_int (Eq.symm ?_), (by repeat (first | exact Below.refl _ _ | refine Below.alloc ?_ (by first | omega | (simp; done) | (simp; omega)) _ | refine Below.setCell ?_ (by first | omega | (simp; done) | (simp; omega)) _ | refine Below.drew ?_))⟩
  all_goals unfold bruE plcE
  all_goals simp only [HE.out]
  all_goals first
    | (rw [if_pos (by rw [withinB_no]; omega)])
    | (rw [if_neg (by rw [Bool.not_eq_false, withinB_iff]; omega), if_pos (by rw [if_neg (by rw [withinB_iff, withinB_iff]; omega)]; decide), if_neg (by rw [withinB_iff, withinB_iff]; omega)])
    | (rw [if_neg (by rw [Bool.not_eq_false, withinB_iff]; omega), if_neg (by rw [if_pos (by rw [withinB_iff, withinB_iff]; omega)]; decide), if_pos (by rw [withinB_no]; omega)])
    | (rw [if_neg (by rw [Bool.not_eq_false, withinB_iff]; omega), if_neg (by rw [if_pos (by rw [withinB_iff, withinB_iff]; omega)]; decide), if_neg (by rw [Bool.not_eq_false, withinB_iff]; omega)])
end Go.Proofs.Ytmbiohopcfglcaa

/- Contracts: weight of the program; square and Weight of the reference. -/
namespace Go.Proofs.Ytmbiohopcfglcaa
open Go.RowKit Fl
set_option linter.unusedVariables false

theorem side_sq {d : Int} (a : -8388608 ≤ d) (b : d ≤ 8388608) : 0 ≤ d * d ∧ d * d ≤ 70368744177664 := by
  have := Int.natAbs_mul d d
  have h : d * d = ((d.natAbs * d.natAbs : Nat) : Int) := by rw [Int.natCast_mul]; exact (Int.natAbs_mul_self' d).symm
  have l : d.natAbs * d.natAbs ≤ 8388608 * 8388608 := Nat.mul_le_mul (by omega) (by omega)
  omega
theorem rad_sq {R : Int} (r1 : 1 ≤ R) (r2 : R ≤ 256) : 1 ≤ R * R ∧ R * R ≤ 65536 := by
  have a := Int.mul_le_mul r2 r2 (by omega) (by omega)
  have b := Int.mul_le_mul r1 r1 (by omega) (by omega)
  omega

theorem drewBox (w : World) (o : Obj) (k : Nat) {w' : World} (h : w' = (w.alloc o).drewN k) : Below w.heap.size w w' := by
  rw [h]
  exact ((Below.refl _ _).alloc (Nat.le_refl _) _).trans ((below_drewN _ _).mono (by simp))
theorem drewBox2 (w : World) (o : Obj) (j k : Nat) {w' : World} (h : w' = ((w.alloc o).drewN j).drewN k) : Below w.heap.size w w' := by
  rw [h, World.drewN_drewN]; exact drewBox w o _ rfl

set_option maxHeartbeats 4000000 in
set_option maxRecDepth 100000 in
theorem weight_any (k X Y R : Int) (h : Nat) (x y : Int) (w : World) (k1 : 1 ≤ k) (k3 : k ≤ 3) (X1 : -4194304 ≤ X) (X2 : X ≤ 4194304) (Y1 : -4194304 ≤ Y) (Y2 : Y ≤ 4194304) (r1 : 1 ≤ R) (r2 : R ≤ 256)
    (x1 : -4194304 ≤ x) (x2 : x ≤ 4194304) (y1 : -4194304 ≤ y) (y2 : y ≤ 4194304) :
    Calls Try.prog 89 #[bru k X Y R h, .int .i64 x, .int .i64 y] w fun e w' => e = .returned (.float .f32 (weiW k (sqD x y X Y) R)) ∧ Below w.heap.size w w' := by
  obtain ⟨a0, a1⟩ := side_sq (d := x - X) (by omega) (by omega)
  obtain ⟨b0, b1⟩ := side_sq (d := y - Y) (by omega) (by omega)
  obtain ⟨f0, f1⟩ := rad_sq r1 r2
  obtain ⟨A, hA⟩ : ∃ A, (x - X) * (x - X) = A := ⟨_, rfl⟩
  obtain ⟨B, hB⟩ : ∃ B, (y - Y) * (y - Y) = B := ⟨_, rfl⟩
  obtain ⟨F, hF⟩ : ∃ F, R * R = F := ⟨_, rfl⟩
  have hS : sqD x y X Y = A + B := by unfold sqD; rw [hA, hB]
  rw [hA] at a0 a1
  rw [hB] at b0 b1
  rw [hF] at f0 f1
  have n0 : 0 ≤ A + B := by omega
  have wei : ∀ v, (if F ≤ A + B then 0 else if k = 2 then coneW (A + B) R else if k = 3 then mulW (bellT (A + B) F) (bellT (A + B) F) else 1065353216) = v → weiW k (sqD x y X Y) R = v := fun v h => by rw [hS]; unfold weiW; rw [hF]; exact h
  have u1 : wrap64 ((x - X) * (x - X)) = A := by rw [hA]; exact IntWalk.wrap64_in _ ⟨by omega, by omega⟩
  have u2 : wrap64 ((y - Y) * (y - Y)) = B := by rw [hB]; exact IntWalk.wrap64_in _ ⟨by omega, by omega⟩
  have u3 : wrap64 (R * R) = F := by rw [hF]; exact IntWalk.wrap64_in _ ⟨by omega, by omega⟩
  have v6 : wrap64 (A + B) = A + B := IntWalk.wrap64_in _ ⟨by omega, by omega⟩
  by_cases c : F ≤ A + B
  · rw [wei 0 (if_pos c)]
    clear wei hS n0 hA hB hF
    go_enter Try.func89, Try.ntmps89
    go_wp2
    go_quiet (fail)
    go_wp2
    go_quiet (fail)
    go_wp2
    go_ret
    exact ⟨rfl, by first | exact drewBox w _ _ rfl | exact drewBox2 w _ _ _ rfl⟩
  · rcases (show k = 1 ∨ k = 2 ∨ k = 3 by omega) with rfl | rfl | rfl
    · rw [wei 1065353216 (by rw [if_neg c, if_neg (by decide), if_neg (by decide)])]
      clear wei hS n0 hA hB hF
      go_enter Try.func89, Try.ntmps89
      go_wp2
      go_quiet (fail)
      go_wp2
      go_quiet (fail)
      go_wp2
      go_ret
      exact ⟨rfl, by first | exact drewBox w _ _ rfl | exact drewBox2 w _ _ _ rfl⟩
    · obtain ⟨XX, Z, cc, q, r, C⟩ := cone_parts n0 r1 r2 (by rw [hF]; omega)
      rw [wei r (by rw [if_neg c, if_pos rfl]; exact C.w)]
      have RT := Lib.hid (fun w => root_any C.rt w)
      have a2 := fun (W : World) => run_float_arith (P := Try.prog) W .quo 22 .f32 _ _ q C.q1
      have a3 := fun (W : World) => run_float_arith (P := Try.prog) W .sub 22 .f32 1065353216 q r C.r1
      clear C
      generalize rootW (floatOfInt .f32 (A + B)) = rt at *
      clear wei hS n0 hA hB hF
      go_enter Try.func89, Try.ntmps89
      go_wp2
      go_quiet (fail)
      go_wp2
      go_quiet (fail)
      go_wp2
      go_quiet ((go_at_call 181; exact (RT.out _).mono fun _ _ h => ⟨h.1, _, h.2.symm⟩))
      go_wp2
      go_ret
      exact ⟨rfl, by first | exact drewBox w _ _ rfl | exact drewBox2 w _ _ _ rfl⟩
    · obtain ⟨q, t, r, C⟩ := bell_parts n0 f1 (by omega)
      rw [wei r (by rw [if_neg c, if_neg (by decide), if_pos rfl]; exact C.w)]
      have a2 := fun (W : World) => run_float_arith (P := Try.prog) W .quo 22 .f32 _ _ q C.q1
      have a3 := fun (W : World) => run_float_arith (P := Try.prog) W .sub 22 .f32 1065353216 q t C.t1
      have a4 := fun (W : World) => run_float_arith (P := Try.prog) W .mul 22 .f32 t t r C.r1
      clear C
      clear wei hS n0 hA hB hF
      go_enter Try.func89, Try.ntmps89
      go_wp2
      go_quiet (fail)
      go_wp2
      go_quiet (fail)
      go_wp2
      go_ret
      exact ⟨rfl, by first | exact drewBox w _ _ rfl | exact drewBox2 w _ _ _ rfl⟩
end Go.Proofs.Ytmbiohopcfglcaa

/- Contracts: square and Weight of the reference; Weight and Box of the program; the reference's box. -/
namespace Go.Proofs.Ytmbiohopcfglcaa
open Go.RowKit Fl
set_option linter.unusedVariables false

abbrev pnt (x y : Int) : Value := .agg #[.int .i64 x, .int .i64 y]

set_option maxHeartbeats 1000000 in
theorem square_any (x y X Y : Int) (w : World) (X1 : -4194304 ≤ X) (X2 : X ≤ 4194304) (Y1 : -4194304 ≤ Y) (Y2 : Y ≤ 4194304) (x1 : -4194304 ≤ x) (x2 : x ≤ 4194304) (y1 : -4194304 ≤ y) (y2 : y ≤ 4194304) :
    Calls Try.prog 100 #[pnt x y, pnt X Y] w fun e w' => e = .returned (.int .i64 (sqD x y X Y)) ∧ Below w.heap.size w w' := by
  obtain ⟨a0, a1⟩ := side_sq (d := x - X) (by omega) (by omega)
  obtain ⟨b0, b1⟩ := side_sq (d := y - Y) (by omega) (by omega)
  unfold sqD
  obtain ⟨A, hA⟩ : ∃ A, (x - X) * (x - X) = A := ⟨_, rfl⟩
  obtain ⟨B, hB⟩ : ∃ B, (y - Y) * (y - Y) = B := ⟨_, rfl⟩
  rw [hA] at a0 a1 ⊢
  rw [hB] at b0 b1 ⊢
  have u1 : wrap64 ((x - X) * (x - X)) = A := by rw [hA]; exact IntWalk.wrap64_in _ ⟨by omega, by omega⟩
  have u2 : wrap64 ((y - Y) * (y - Y)) = B := by rw [hB]; exact IntWalk.wrap64_in _ ⟨by omega, by omega⟩
  clear hA hB
  go_enter Try.func100, Try.ntmps100
  go_wp2
  go_ret
  exact ⟨rfl, (by repeat (first | exact Below.refl _ _ | refine Below.alloc ?_ (by first | omega | (simp; done) | (simp; omega)) _ | refine Below.setCell ?_ (by first | omega | (simp; done) | (simp; omega)) _ | refine Below.drew ?_))⟩

set_option maxHeartbeats 4000000 in
set_option maxRecDepth 100000 in
theorem rweight_any (k X Y R : Int) (h : Nat) (x y : Int) (w : World) (k1 : 1 ≤ k) (k3 : k ≤ 3) (X1 : -4194304 ≤ X) (X2 : X ≤ 4194304) (Y1 : -4194304 ≤ Y) (Y2 : Y ≤ 4194304) (r1 : 1 ≤ R) (r2 : R ≤ 256)
    (x1 : -4194304 ≤ x) (x2 : x ≤ 4194304) (y1 : -4194304 ≤ y) (y2 : y ≤ 4194304) :
    Calls Try.prog 25 #[bru k X Y R h, .int .i64 x, .int .i64 y] w fun e w' => e = .returned (.float .f32 (weiW k (sqD x y X Y) R)) ∧ Below w.heap.size w w' := by
  have SQ := Lib.hid (fun w => square_any x y X Y w X1 X2 Y1 Y2 x1 x2 y1 y2)
  obtain ⟨f0, f1⟩ := rad_sq r1 r2
  obtain ⟨N, hN⟩ : ∃ N, sqD x y X Y = N := ⟨_, rfl⟩
  have n0 : 0 ≤ N := by
    obtain ⟨a0, a1⟩ := side_sq (d := x - X) (by omega) (by omega)
    obtain ⟨b0, b1⟩ := side_sq (d := y - Y) (by omega) (by omega)
    rw [← hN]; unfold sqD; omega
  rw [hN] at SQ ⊢
  obtain ⟨F, hF⟩ : ∃ F, R * R = F := ⟨_, rfl⟩
  rw [hF] at f0 f1
  have wei : ∀ v, (if F ≤ N then 0 else if k = 2 then coneW N R else if k = 3 then mulW (bellT N F) (bellT N F) else 1065353216) = v → weiW k N R = v := fun v h => by unfold weiW; rw [hF]; exact h
  have u3 : wrap64 (R * R) = F := by rw [hF]; exact IntWalk.wrap64_in _ ⟨by omega, by omega⟩
  have u4 : IntKind.i64.wrap (R * R) = F := by rw [hF]; exact IntWalk.i64_in _ (by omega)
  have GB := Lib.hid (show (w.alloc (bruObj k X Y R h)).heap[w.heap.size]? = some (bruObj k X Y R h) from heap_alloc_new _ _)
  have zB : w.heap.size < (w.alloc (bruObj k X Y R h)).heap.size := by simp
  by_cases c : F ≤ N
  · rw [wei 0 (if_pos c)]
    clear wei hN hF n0
    go_enter Try.func25, Try.ntmps25
    go_wp2
    go_region_held3 (fun w' => (∀ o, w'.cell? ⟨w.heap.size, o, none⟩ = #[.int .i64 k, .int .i64 X, .int .i64 Y, .int .i64 R, .float .f32 h][o]?) ∧ Below (w.alloc (bruObj k X Y R h)).heap.size (w.alloc (bruObj k X Y R h)) w') (first | exact ⟨(blkC (blkStay GB.out hb9)).1, hb9⟩ | exact ⟨(blkC (blkStay GB.out (by repeat (first | exact Below.refl _ _ | refine Below.alloc ?_ (by first | omega | (simp; done) | (simp; omega)) _ | refine Below.setCell ?_ (by first | omega | (simp; done) | (simp; omega)) _ | refine Below.drew ?_)))).1, (by repeat (first | exact Below.refl _ _ | refine Below.alloc ?_ (by first | omega | (simp; done) | (simp; omega)) _ | refine Below.setCell ?_ (by first | omega | (simp; done) | (simp; omega)) _ | refine Below.drew ?_))⟩) (first | (go_at_call 100; (with_reducible refine Calls.mono (SQ.out _) ?_); rintro e w' ⟨rfl, hb8⟩; have hb9 : Below (w.alloc (bruObj k X Y R h)).heap.size (w.alloc (bruObj k X Y R h)) w' := Below.trans (by repeat (first | exact Below.refl _ _ | refine Below.alloc ?_ (by first | omega | (simp; done) | (simp; omega)) _ | refine Below.setCell ?_ (by first | omega | (simp; done) | (simp; omega)) _ | refine Below.drew ?_)) (Below.mono hb8 (by first | exact Nat.le_refl _ | (simp; done) | (simp; omega))); clear hb8))
    rename_i wh hHeld
    go_wp2
    go_ret
    exact ⟨rfl, Below.trans (by repeat (first | exact Below.refl _ _ | refine Below.alloc ?_ (by first | omega | (simp; done) | (simp; omega)) _ | refine Below.setCell ?_ (by first | omega | (simp; done) | (simp; omega)) _ | refine Below.drew ?_)) (hHeld.2.mono (by simp))⟩
  · rcases (show k = 1 ∨ k = 2 ∨ k = 3 by omega) with rfl | rfl | rfl
    · rw [wei 1065353216 (by rw [if_neg c, if_neg (by decide), if_neg (by decide)])]
      clear wei hN hF n0
      go_enter Try.func25, Try.ntmps25
      go_wp2
      go_region_held3 (fun w' => (∀ o, w'.cell? ⟨w.heap.size, o, none⟩ = #[.int .i64 1, .int .i64 X, .int .i64 Y, .int .i64 R, .float .f32 h][o]?) ∧ Below (w.alloc (bruObj 1 X Y R h)).heap.size (w.alloc (bruObj 1 X Y R h)) w') (first | exact ⟨(blkC (blkStay GB.out hb9)).1, hb9⟩ | exact ⟨(blkC (blkStay GB.out (by repeat (first | exact Below.refl _ _ | refine Below.alloc ?_ (by first | omega | (simp; done) | (simp; omega)) _ | refine Below.setCell ?_ (by first | omega | (simp; done) | (simp; omega)) _ | refine Below.drew ?_)))).1, (by repeat (first | exact Below.refl _ _ | refine Below.alloc ?_ (by first | omega | (simp; done) | (simp; omega)) _ | refine Below.setCell ?_ (by first | omega | (simp; done) | (simp; omega)) _ | refine Below.drew ?_))⟩) (first | (go_at_call 100; (with_reducible refine Calls.mono (SQ.out _) ?_); rintro e w' ⟨rfl, hb8⟩; have hb9 : Below (w.alloc (bruObj 1 X Y R h)).heap.size (w.alloc (bruObj 1 X Y R h)) w' := Below.trans (by repeat (first | exact Below.refl _ _ | refine Below.alloc ?_ (by first | omega | (simp; done) | (simp; omega)) _ | refine Below.setCell ?_ (by first | omega | (simp; done) | (simp; omega)) _ | refine Below.drew ?_)) (Below.mono hb8 (by first | exact Nat.le_refl _ | (simp; done) | (simp; omega))); clear hb8))
      rename_i wh hHeld
      go_wp2
      go_ret
      exact ⟨rfl, Below.trans (by repeat (first | exact Below.refl _ _ | refine Below.alloc ?_ (by first | omega | (simp; done) | (simp; omega)) _ | refine Below.setCell ?_ (by first | omega | (simp; done) | (simp; omega)) _ | refine Below.drew ?_)) (hHeld.2.mono (by simp))⟩
    · obtain ⟨XX, Z, cc, q, r, C⟩ := cone_parts n0 r1 r2 (by rw [hF]; omega)
      rw [wei r (by rw [if_neg c, if_pos rfl]; exact C.w)]
      have RT := Lib.hid (fun w => refRoot_any C.rt w)
      have DV := Lib.hid (fun w => refDiv_any 0 _ _ q C.q2 C.q1 w)
      have SB := Lib.hid (fun w => refSub_any 1 1065353216 q r C.r2 C.r1 w)
      clear C wei hN hF n0
      generalize rootW (floatOfInt .f32 N) = rt at *
      go_enter Try.func25, Try.ntmps25
      go_wp2
      go_region_held3 (fun w' => (∀ o, w'.cell? ⟨w.heap.size, o, none⟩ = #[.int .i64 2, .int .i64 X, .int .i64 Y, .int .i64 R, .float .f32 h][o]?) ∧ Below (w.alloc (bruObj 2 X Y R h)).heap.size (w.alloc (bruObj 2 X Y R h)) w') (first | exact ⟨(blkC (blkStay GB.out hb9)).1, hb9⟩ | exact ⟨(blkC (blkStay GB.out (by repeat (first | exact Below.refl _ _ | refine Below.alloc ?_ (by first | omega | (simp; done) | (simp; omega)) _ | refine Below.setCell ?_ (by first | omega | (simp; done) | (simp; omega)) _ | refine Below.drew ?_)))).1, (by repeat (first | exact Below.refl _ _ | refine Below.alloc ?_ (by first | omega | (simp; done) | (simp; omega)) _ | refine Below.setCell ?_ (by first | omega | (simp; done) | (simp; omega)) _ | refine Below.drew ?_))⟩) (first | (go_at_call 100; (with_reducible refine Calls.mono (SQ.out _) ?_); rintro e w' ⟨rfl, hb8⟩; have hb9 : Below (w.alloc (bruObj 2 X Y R h)).heap.size (w.alloc (bruObj 2 X Y R h)) w' := Below.trans (by repeat (first | exact Below.refl _ _ | refine Below.alloc ?_ (by first | omega | (simp; done) | (simp; omega)) _ | refine Below.setCell ?_ (by first | omega | (simp; done) | (simp; omega)) _ | refine Below.drew ?_)) (Below.mono hb8 (by first | exact Nat.le_refl _ | (simp; done) | (simp; omega))); clear hb8))
      rename_i wh hHeld
      obtain ⟨cB, hbh⟩ := hHeld
      go_wp2
      go_quiet (first | (go_at_call 104; exact Calls.quiet_of_same ((refConv_any _ _).mono fun _ _ h => ⟨h.1, h.2.symm⟩)) | (go_at_call 103; exact Calls.quiet_of_same ((RT.out _).mono fun _ _ h => ⟨h.1, h.2.symm⟩)) | (go_at_call 102; exact Calls.quiet_of_same ((DV.out _).mono fun _ _ h => ⟨h.1, h.2.symm⟩)) | (go_at_call 101; exact Calls.quiet_of_same ((SB.out _).mono fun _ _ h => ⟨h.1, h.2.symm⟩)))
      go_wp2
      go_ret
      exact ⟨rfl, Below.trans (Below.trans (show Below w.heap.size w _ from (by repeat (first | exact Below.refl _ _ | refine Below.alloc ?_ (by first | omega | (simp; done) | (simp; omega)) _ | refine Below.setCell ?_ (by first | omega | (simp; done) | (simp; omega)) _ | refine Below.drew ?_))) (hbh.mono (by simp))) ((below_drewN _ _).mono (by have := hbh.size; simp at this; omega))⟩
    · obtain ⟨q, t, r, C⟩ := bell_parts n0 f1 (by omega)
      rw [wei r (by rw [if_neg c, if_neg (by decide), if_pos rfl]; exact C.w)]
      have DV := Lib.hid (fun w => refDiv_any 0 _ _ q C.q2 C.q1 w)
      have SB := Lib.hid (fun w => refSub_any 1 1065353216 q t C.t2 C.t1 w)
      have ML := Lib.hid (fun w => refMul_any 0 t t r C.r2 C.r1 w)
      clear C wei hN hF n0
      go_enter Try.func25, Try.ntmps25
      go_wp2
      go_region_held3 (fun w' => (∀ o, w'.cell? ⟨w.heap.size, o, none⟩ = #[.int .i64 3, .int .i64 X, .int .i64 Y, .int .i64 R, .float .f32 h][o]?) ∧ Below (w.alloc (bruObj 3 X Y R h)).heap.size (w.alloc (bruObj 3 X Y R h)) w') (first | exact ⟨(blkC (blkStay GB.out hb9)).1, hb9⟩ | exact ⟨(blkC (blkStay GB.out (by repeat (first | exact Below.refl _ _ | refine Below.alloc ?_ (by first | omega | (simp; done) | (simp; omega)) _ | refine Below.setCell ?_ (by first | omega | (simp; done) | (simp; omega)) _ | refine Below.drew ?_)))).1, (by repeat (first | exact Below.refl _ _ | refine Below.alloc ?_ (by first | omega | (simp; done) | (simp; omega)) _ | refine Below.setCell ?_ (by first | omega | (simp; done) | (simp; omega)) _ | refine Below.drew ?_))⟩) (first | (go_at_call 100; (with_reducible refine Calls.mono (SQ.out _) ?_); rintro e w' ⟨rfl, hb8⟩; have hb9 : Below (w.alloc (bruObj 3 X Y R h)).heap.size (w.alloc (bruObj 3 X Y R h)) w' := Below.trans (by repeat (first | exact Below.refl _ _ | refine Below.alloc ?_ (by first | omega | (simp; done) | (simp; omega)) _ | refine Below.setCell ?_ (by first | omega | (simp; done) | (simp; omega)) _ | refine Below.drew ?_)) (Below.mono hb8 (by first | exact Nat.le_refl _ | (simp; done) | (simp; omega))); clear hb8))
      rename_i wh hHeld
      obtain ⟨cB, hbh⟩ := hHeld
      go_wp2_with (first | (go_at_call 104; refine (refConv_any _ _).mono ?_; rintro e w' ⟨rfl, rfl⟩) | (go_at_call 102; refine (DV.out _).mono ?_; rintro e w' ⟨rfl, rfl⟩) | (go_at_call 101; refine (SB.out _).mono ?_; rintro e w' ⟨rfl, rfl⟩) | (go_at_call 97; refine (ML.out _).mono ?_; rintro e w' ⟨rfl, rfl⟩))
      go_ret
      exact ⟨rfl, Below.trans (by repeat (first | exact Below.refl _ _ | refine Below.alloc ?_ (by first | omega | (simp; done) | (simp; omega)) _ | refine Below.setCell ?_ (by first | omega | (simp; done) | (simp; omega)) _ | refine Below.drew ?_)) (hbh.mono (by simp))⟩
end Go.Proofs.Ytmbiohopcfglcaa

/- Contracts: Weight and Box of the program; the reference's box. -/
namespace Go.Proofs.Ytmbiohopcfglcaa
open Go.RowKit Fl
set_option linter.unusedVariables false

theorem plc_ok {x y : Int} (h : plcE x y = 0) : -4194304 ≤ x ∧ x ≤ 4194304 ∧ -4194304 ≤ y ∧ y ≤ 4194304 := by
  unfold plcE at h
  split at h
  · rename_i c
    obtain ⟨a, b⟩ := c
    have := withinB_iff.1 a
    have := withinB_iff.1 b
    omega
  · cases h

structure BruOk (k X Y R : Int) (h : Nat) : Prop where
  k1 : 1 ≤ k
  k3 : k ≤ 3
  X1 : -4194304 ≤ X
  X2 : X ≤ 4194304
  Y1 : -4194304 ≤ Y
  Y2 : Y ≤ 4194304
  r1 : 1 ≤ R
  r2 : R ≤ 256
  hg : hgtB h = true
theorem bru_ok {k X Y R : Int} {h : Nat} (e : bruE k X Y R h = 0) : BruOk k X Y R h := by
  unfold bruE at e
  split at e
  · cases e
  · rename_i c1
    split at e
    · rename_i c2; exact absurd e c2
    · rename_i c2
      split at e
      · cases e
      · rename_i c3
        have k := withinB_iff.1 (by simpa using c1)
        have r := withinB_iff.1 (by simpa using c3)
        obtain ⟨p1, p2, p3, p4⟩ := plc_ok (x := X) (y := Y) (by simpa using c2)
        exact ⟨k.1, k.2, p1, p2, p3, p4, r.1, r.2, by have := allB_iff.1 (fldE_zero.1 e) 0 (by omega); exact this⟩

/-- What Weight answers. -/
def weiE (k X Y R : Int) (h : Nat) (x y : Int) : Int := if bruE k X Y R h = 0 then plcE x y else bruE k X Y R h
def weiV (k X Y R : Int) (h : Nat) (x y : Int) : Nat := if weiE k X Y R h x y = 0 then weiW k (sqD x y X Y) R else 0

set_option maxHeartbeats 1000000 in
theorem weightX_any (k X Y R : Int) (h : Nat) (x y : Int) (w : World) :
    Calls Try.prog 17 #[bru k X Y R h, .int .i64 x, .int .i64 y] w fun e w' => e = .returned (.tuple #[.float .f32 (weiV k X Y R h x y), .int .i64 (weiE k X Y R h x y)]) ∧ Below w.heap.size w w' := by
  have CB := Lib.hid (fun w => checkBrush_any k X Y R h w)
  have CP := Lib.hid (fun w => checkPlace_any x y w)
  unfold weiV weiE
  by_cases c : bruE k X Y R h = 0
  · have K := bru_ok c
    rw [if_pos c]
    rw [c] at CB
    rcases plcE_cases x y with d | d
    · obtain ⟨p1, p2, p3, p4⟩ := plc_ok d
      rw [d] at CP ⊢
      rw [if_pos rfl]
      have WT := Lib.hid (fun w => weight_any k X Y R h x y w K.k1 K.k3 K.X1 K.X2 K.Y1 K.Y2 K.r1 K.r2 p1 p2 p3 p4)
      generalize weiW k (sqD x y X Y) R = r at *
      clear K c d p1 p2 p3 p4
      go_enter Try.func17, Try.ntmps17
      go_wp2_with (first | (go_at_call 16; refine (CB.out _).mono ?_; rintro e w2 ⟨rfl, hb2⟩; have HB2 := Lib.hid (blkStay (b := w.heap.size) (o := bruObj k X Y R h) (by ((simp only [heap_alloc_get, if_true]) <;> ((repeat' split) <;> first | rfl | omega))) hb2); have hB2 : Below w.heap.size w w2 := Below.trans (by repeat (first | exact Below.refl _ _ | refine Below.alloc ?_ (by first | omega | (simp; done) | (simp; omega)) _ | refine Below.setCell ?_ (by first | omega | (simp; done) | (simp; omega)) _ | refine Below.drew ?_)) (Below.mono hb2 (by first | omega | (simp; done) | (simp; omega))); obtain ⟨cB, fB, zB⟩ := blkC HB2.out; clear hb2) | (go_at_call 86; refine (CP.out _).mono ?_; rintro e w' ⟨rfl, rfl⟩) | (go_at_call 89; refine (WT.out _).mono ?_; rintro e w3 ⟨rfl, hb3⟩; have hB3 := hB2.trans (hb3.mono hB2.size); clear hb3))
      go_ret2
      exact ⟨rfl, hB3⟩
    · rw [d] at CP ⊢
      rw [if_neg (by decide)]
      clear K c d
      go_enter Try.func17, Try.ntmps17
      go_wp2_with (first | (go_at_call 16; refine (CB.out _).mono ?_; rintro e w2 ⟨rfl, hb2⟩; have HB2 := Lib.hid (blkStay (b := w.heap.size) (o := bruObj k X Y R h) (by ((simp only [heap_alloc_get, if_true]) <;> ((repeat' split) <;> first | rfl | omega))) hb2); have hB2 : Below w.heap.size w w2 := Below.trans (by repeat (first | exact Below.refl _ _ | refine Below.alloc ?_ (by first | omega | (simp; done) | (simp; omega)) _ | refine Below.setCell ?_ (by first | omega | (simp; done) | (simp; omega)) _ | refine Below.drew ?_)) (Below.mono hb2 (by first | omega | (simp; done) | (simp; omega))); obtain ⟨cB, fB, zB⟩ := blkC HB2.out; clear hb2) | (go_at_call 86; refine (CP.out _).mono ?_; rintro e w' ⟨rfl, rfl⟩))
      go_ret2
      exact ⟨rfl, hB2⟩
  · rw [if_neg c, if_neg c]
    have hzb : (bruE k X Y R h != 0) = true := by simp [c]
    generalize bruE k X Y R h = er at *
    clear c
    go_enter Try.func17, Try.ntmps17
    go_wp2_with (first | (go_at_call 16; refine (CB.out _).mono ?_; rintro e w2 ⟨rfl, hb2⟩; have HB2 := Lib.hid (blkStay (b := w.heap.size) (o := bruObj k X Y R h) (by ((simp only [heap_alloc_get, if_true]) <;> ((repeat' split) <;> first | rfl | omega))) hb2); have hB2 : Below w.heap.size w w2 := Below.trans (by repeat (first | exact Below.refl _ _ | refine Below.alloc ?_ (by first | omega | (simp; done) | (simp; omega)) _ | refine Below.setCell ?_ (by first | omega | (simp; done) | (simp; omega)) _ | refine Below.drew ?_)) (Below.mono hb2 (by first | omega | (simp; done) | (simp; omega))); obtain ⟨cB, fB, zB⟩ := blkC HB2.out; clear hb2))
    go_ret2
    exact ⟨rfl, hB2⟩

/-- The box of a brush; of a wrong one nothing. -/
def boxR (k X Y R : Int) (h : Nat) : Value := if bruE k X Y R h = 0 then reg (X - R + 1) (Y - R + 1) (2 * R - 1) (2 * R - 1) else reg 0 0 0 0

set_option maxHeartbeats 1000000 in
theorem box_any (k X Y R : Int) (h : Nat) (w : World) :
    Calls Try.prog 18 #[bru k X Y R h] w fun e w' => e = .returned (.tuple #[boxR k X Y R h, .int .i64 (bruE k X Y R h)]) ∧ Below w.heap.size w w' := by
  have CB := Lib.hid (fun w => checkBrush_any k X Y R h w)
  unfold boxR
  by_cases c : bruE k X Y R h = 0
  · obtain ⟨k1, k3, X1, X2, Y1, Y2, r1, r2, _⟩ := bru_ok c
    rw [if_pos c]
    rw [c] at CB ⊢
    clear c
    go_enter Try.func18, Try.ntmps18
    go_wp2_with (first | (go_at_call 16; refine (CB.out _).mono ?_; rintro e w2 ⟨rfl, hb2⟩; have HB2 := Lib.hid (blkStay (b := w.heap.size) (o := bruObj k X Y R h) (by ((simp only [heap_alloc_get, heap_size_alloc, if_true]) <;> ((repeat' split) <;> first | rfl | omega))) hb2); have HS2 := Lib.hid (blkStay (b := w.heap.size + 1) (o := regObj 0 0 0 0) (by ((simp only [heap_alloc_get, heap_size_alloc, if_true]) <;> ((repeat' split) <;> first | rfl | omega))) hb2); have hB2 : Below w.heap.size w w2 := Below.trans (by repeat (first | exact Below.refl _ _ | refine Below.alloc ?_ (by first | omega | (simp; done) | (simp; omega)) _ | refine Below.setCell ?_ (by first | omega | (simp; done) | (simp; omega)) _ | refine Below.drew ?_)) (Below.mono hb2 (by first | omega | (simp; done) | (simp; omega))); obtain ⟨cB, fB, zB⟩ := blkC HB2.out; obtain ⟨cS, fS, zS⟩ := blkC HS2.out; clear hb2))
    refine bodyPost_ret (v := .tuple #[reg (X - R + 1) (Y - R + 1) (2 * R - 1) (2 * R - 1), .int .i64 0]) (by simp [results, Try.results18, go_sem, cS]) rfl ?_
    exact ⟨rfl, ((((hB2.setCell (by simp) _).setCell (by simp) _).setCell (by simp) _).setCell (by simp) _)⟩
  · rw [if_neg c]
    have hzb : (bruE k X Y R h != 0) = true := by simp [c]
    generalize bruE k X Y R h = er at *
    clear c
    go_enter Try.func18, Try.ntmps18
    go_wp2_with (first | (go_at_call 16; refine (CB.out _).mono ?_; rintro e w2 ⟨rfl, hb2⟩; have HS2 := Lib.hid (blkStay (b := w.heap.size + 1) (o := regObj 0 0 0 0) (by ((simp only [heap_alloc_get, heap_size_alloc, if_true]) <;> ((repeat' split) <;> first | rfl | omega))) hb2); have hB2 : Below w.heap.size w w2 := Below.trans (by repeat (first | exact Below.refl _ _ | refine Below.alloc ?_ (by first | omega | (simp; done) | (simp; omega)) _ | refine Below.setCell ?_ (by first | omega | (simp; done) | (simp; omega)) _ | refine Below.drew ?_)) (Below.mono hb2 (by first | omega | (simp; done) | (simp; omega))); obtain ⟨cS, fS, zS⟩ := blkC HS2.out; clear hb2))
    refine bodyPost_ret (v := .tuple #[reg 0 0 0 0, .int .i64 er]) (by simp [results, Try.results18, go_sem, cS]) rfl ?_
    exact ⟨rfl, ((((hB2.setCell (by simp) _).setCell (by simp) _).setCell (by simp) _).setCell (by simp) _)⟩

set_option maxHeartbeats 1000000 in
theorem brushBox_any (k X Y R : Int) (h : Nat) (w : World) (K : BruOk k X Y R h) :
    Calls Try.prog 26 #[bru k X Y R h] w fun e w' => e = .returned (reg (X - R + 1) (Y - R + 1) (2 * R - 1) (2 * R - 1)) ∧ Below w.heap.size w w' := by
  obtain ⟨k1, k3, X1, X2, Y1, Y2, r1, r2, _⟩ := K
  go_enter Try.func26, Try.ntmps26
  go_wp2
  refine bodyPost_ret (v := reg (X - R + 1) (Y - R + 1) (2 * R - 1) (2 * R - 1)) (by simp [results, Try.results26, go_sem]) rfl ?_
  exact ⟨rfl, (by repeat (first | exact Below.refl _ _ | refine Below.alloc ?_ (by first | omega | (simp; done) | (simp; omega)) _ | refine Below.setCell ?_ (by first | omega | (simp; done) | (simp; omega)) _ | refine Below.drew ?_))⟩
end Go.Proofs.Ytmbiohopcfglcaa

/- Contracts: remade, whatever function of a value and its place it is given. -/
namespace Go.Proofs.Ytmbiohopcfglcaa
open Go.RowKit Fl
set_option linter.unusedVariables false

theorem enters_remade1 : Enters 182 := by intro args W; simp [callFunc, Try.func182, Try.f182]

/-- A function of a value and its place, as a closure: over the cells of a field with the values v it answers f. -/
def Clos3 (g : Nat) (caps : Array Value) (X Y W H : Int) (v f : Nat → Nat) (w : World) : Prop :=
  ∀ (x y : Int) (i : Nat) (W' : World), X ≤ x → x < X + W → Y ≤ y → y < Y + H → (i : Int) = (y - Y) * W + (x - X) → Below w.heap.size w W' →
    Calls Try.prog g (#[.float .f32 (v i), .int .i64 x, .int .i64 y] ++ caps) W' fun e W'' => e = .returned (.float .f32 (f i)) ∧ Below W'.heap.size W' W''
theorem Clos3.stay {g : Nat} {caps : Array Value} {X Y W H : Int} {v f : Nat → Nat} {w w' : World} (h : Clos3 g caps X Y W H v f w) (hb : Below w.heap.size w w') : Clos3 g caps X Y W H v f w' :=
  fun x y i W' h1 h2 h3 h4 h5 hb' => h x y i W' h1 h2 h3 h4 h5 (hb.trans (hb'.mono hb.size))

/-- Such a function value in a box. -/
abbrev fn3Obj (g : Nat) (caps : Array Value) : Obj := .cells #[.func (.func g) #[] caps] 122

set_option maxHeartbeats 4000000 in
set_option maxRecDepth 100000 in
theorem remade1_any (X Y : Int) (W H n b cap : Nat) (v f : Nat → Nat) (g : Nat) (caps : Array Value) (p q : Nat) (w : World) (hcall : Enters g) (hcl : Clos3 g caps X Y W H v f w)
    (hp : w.heap[p]? = some (fldO X Y W H (.slice (some ⟨b, 0, none⟩) n cap))) (hq : w.heap[q]? = some (fn3Obj g caps)) (hc : FlAt w b 0 n v) (hn : n ≤ 65536)
    (hX1 : -16777216 ≤ X) (hX2 : X ≤ 16777216) (hY1 : -16777216 ≤ Y) (hY2 : Y ≤ 16777216) (hW1 : 1 ≤ W) (hW2 : W ≤ 512) (hH2 : H ≤ 512) (hnn : n = H * W) :
    Clos2 182 #[.pointer (some ⟨q, 0, none⟩), .pointer (some ⟨p, 0, none⟩)] X Y W H f w := by
  intro x y i w2 h1 h2 h3 h4 h5 hb
  have hi : i < n := num_lt hW1 h1 h2 h4 h5 hnn
  have CC := Lib.hid (fun W' (hB : Below w2.heap.size w2 W') => hcl x y i W' h1 h2 h3 h4 h5 (hb.trans (hB.mono hb.size)))
  have IX := Lib.hid (fun w => index_any X Y W H i x y w hX1 hX2 hY1 hY2 hW1 hW2 hH2 h1 h2 h3 h4 h5 (by omega))
  have P := blkStay hp hb
  have Q := blkStay hq hb
  have hcell : w2.cell? ⟨b, i, none⟩ = some (.float .f32 (v i)) := by
    have := flAt_congr hc (hb.block b (World.block_lt_of_cell? w _ (hc i hi))) i hi
    rwa [Nat.zero_add] at this
  have zb : b < w2.heap.size := World.block_lt_of_cell? w2 _ hcell
  have HC := Lib.hid hcell
  have HP := Lib.hid P
  have HQ := Lib.hid Q
  obtain ⟨cP, fP, zP⟩ := blkC P
  obtain ⟨cQ, fQ, zQ⟩ := blkC Q
  unfold Enters at hcall
  have hi2 : (i : Int) < (n : Int) := by omega
  have hi3 : (0 : Int) ≤ (i : Int) := by omega
  clear hp hq P Q hb h1 h2 h3 h4 h5 hX1 hX2 hY1 hY2 hW1 hW2 hH2 hnn hcl hc hi hn
  go_enter Try.func182, Try.ntmps182
  go_wp2
  go_region_held3 (fun w' => (∀ o, w'.cell? ⟨p, o, none⟩ = #[.int .i64 X, .int .i64 Y, .int .i64 W, .int .i64 H, .slice (some ⟨b, 0, none⟩) n cap][o]?) ∧ (∀ o, w'.cell? ⟨q, o, none⟩ = #[.func (.func g) #[] caps][o]?) ∧ w'.cell? ⟨b, i, none⟩ = some (.float .f32 (v i)) ∧ Below w2.heap.size w2 w') (first | exact ⟨(blkC (blkStay HP.out hb9)).1, (blkC (blkStay HQ.out hb9)).1, (Below.cell (p := ⟨b, i, none⟩) (w := w2) (B := w2.heap.size) hb9 zb).trans HC.out, hb9⟩ | exact ⟨(blkC (blkStay HP.out (by repeat (first | exact Below.refl _ _ | refine Below.alloc ?_ (by first | omega | (simp; done) | (simp; omega)) _ | refine Below.setCell ?_ (by first | omega | (simp; done) | (simp; omega)) _ | refine Below.drew ?_)))).1, (blkC (blkStay HQ.out (by repeat (first | exact Below.refl _ _ | refine Below.alloc ?_ (by first | omega | (simp; done) | (simp; omega)) _ | refine Below.setCell ?_ (by first | omega | (simp; done) | (simp; omega)) _ | refine Below.drew ?_)))).1, (Below.cell (p := ⟨b, i, none⟩) (w := w2) (B := w2.heap.size) (by repeat (first | exact Below.refl _ _ | refine Below.alloc ?_ (by first | omega | (simp; done) | (simp; omega)) _ | refine Below.setCell ?_ (by first | omega | (simp; done) | (simp; omega)) _ | refine Below.drew ?_)) zb).trans HC.out, (by repeat (first | exact Below.refl _ _ | refine Below.alloc ?_ (by first | omega | (simp; done) | (simp; omega)) _ | refine Below.setCell ?_ (by first | omega | (simp; done) | (simp; omega)) _ | refine Below.drew ?_))⟩) (first | (go_at_call 183; (with_reducible refine Calls.mono (IX.out _) ?_); rintro e w' ⟨rfl, rfl⟩) | (go_simp; (with_reducible refine Calls.mono (CC.out _ ?_) ?_); exact (by repeat (first | exact Below.refl _ _ | refine Below.alloc ?_ (by first | omega | (simp; done) | (simp; omega)) _ | refine Below.setCell ?_ (by first | omega | (simp; done) | (simp; omega)) _ | refine Below.drew ?_)); rintro e w' ⟨rfl, hb8⟩; have hb9 : Below w2.heap.size w2 w' := Below.trans (by repeat (first | exact Below.refl _ _ | refine Below.alloc ?_ (by first | omega | (simp; done) | (simp; omega)) _ | refine Below.setCell ?_ (by first | omega | (simp; done) | (simp; omega)) _ | refine Below.drew ?_)) (Below.mono hb8 (by first | exact Nat.le_refl _ | (simp; done) | (simp; omega))); clear hb8))
  rename_i hHeld
  go_wp2
  go_ret
  exact ⟨rfl, hHeld.2.2.2⟩

set_option maxHeartbeats 2000000 in
theorem remade_any (X Y : Int) (W H n b cap : Nat) (v f : Nat → Nat) (g : Nat) (caps : Array Value) (w : World) (hcall : Enters g) (hcl : Clos3 g caps X Y W H v f w) (h0 : checkR X Y W H = 0) (hnn : n = H * W) (hc : FlAt w b 0 n v) :
    Calls Try.prog 91 #[fldV X Y W H (.slice (some ⟨b, 0, none⟩) n cap), .func (.func g) #[] caps] w (MadePost w X Y W H n f) := by
  obtain ⟨b1, b2, b3, b4, b5, b6, b7, b8, b9⟩ := checkR_zero h0
  have hn2 : n ≤ 65536 := by
    have : ((W : Int) * (H : Int)) = (n : Int) := by rw [hnn, Nat.mul_comm]; simp
    omega
  have n1 : 1 ≤ n := by rw [hnn]; exact Nat.mul_pos (by omega) (by omega)
  have hlt : b < w.heap.size := World.block_lt_of_cell? w _ (hc 0 n1)
  have hB : Below w.heap.size w (((w.alloc (fldO X Y W H (.slice (some ⟨b, 0, none⟩) n cap))).alloc (fn3Obj g caps)).alloc (fldO 0 0 0 0 (.slice none 0 0))) := (by repeat (first | exact Below.refl _ _ | refine Below.alloc ?_ (by first | omega | (simp; done) | (simp; omega)) _ | refine Below.setCell ?_ (by first | omega | (simp; done) | (simp; omega)) _ | refine Below.drew ?_))
  have MK := Lib.hid (make_ok X Y W H n 182 #[.pointer (some ⟨w.heap.size + 1, 0, none⟩), .pointer (some ⟨w.heap.size, 0, none⟩)] f (((w.alloc (fldO X Y W H (.slice (some ⟨b, 0, none⟩) n cap))).alloc (fn3Obj g caps)).alloc (fldO 0 0 0 0 (.slice none 0 0))) enters_remade1
    (remade1_any X Y W H n b cap v f g caps w.heap.size (w.heap.size + 1) _ hcall (hcl.stay hB) (by ((simp only [heap_alloc_get, heap_size_alloc, if_true]) <;> ((repeat' split) <;> first | rfl | omega))) (by ((simp only [heap_alloc_get, heap_size_alloc, if_true]) <;> ((repeat' split) <;> first | rfl | omega))) (flAt_congr hc (hB.block b hlt)) hn2 (by omega) (by omega) (by omega) (by omega) (by omega) (by omega) (by omega) hnn) h0 hnn)
  clear hcl hcall hc h0 b1 b2 b3 b4 b5 b6 b7 b8 b9 hnn hn2 n1 hlt hB
  go_enter Try.func91, Try.ntmps91
  go_wp2_with fail
  refine MK.out.mono ?_
  intro e w4 hmade
  rcases hmade with ⟨hall, b', cap', rfl, hb', hlt', hrow, hbel⟩ | ⟨hall, rfl, hbel⟩
  · have hS := Lib.hid (blkStay (b := w.heap.size + 1 + 1) (o := fldO 0 0 0 0 (.slice none 0 0)) (by ((simp only [heap_alloc_get, heap_size_alloc, if_true]) <;> ((repeat' split) <;> first | rfl | omega))) hbel)
    have hB : Below w.heap.size w w4 := Below.trans (by repeat (first | exact Below.refl _ _ | refine Below.alloc ?_ (by first | omega | (simp; done) | (simp; omega)) _ | refine Below.setCell ?_ (by first | omega | (simp; done) | (simp; omega)) _ | refine Below.drew ?_)) (Below.mono hbel (by simp; omega))
    obtain ⟨cS, fS, zS⟩ := blkC hS.out
    have HB := Lib.hid hb'
    clear hb'
    go_wp2
    refine bodyPost_ret (v := .tuple #[fldV X Y W H (.slice (some ⟨b', 0, none⟩) n cap'), .int .i64 0]) (by simp [results, Try.results91, go_sem, cS]) rfl ?_
    have hb' := HB.out
    simp only [heap_size_alloc] at hb'
    exact .inl ⟨hall, b', cap', rfl, by omega, by rw [set5_size]; exact hlt', flAt_congr hrow (set5_heap w4 _ _ _ _ _ _ _ (by omega)), set5_below hB _ _ _ _ _ _ (by omega)⟩
  · have hS := Lib.hid (blkStay (b := w.heap.size + 1 + 1) (o := fldO 0 0 0 0 (.slice none 0 0)) (by ((simp only [heap_alloc_get, heap_size_alloc, if_true]) <;> ((repeat' split) <;> first | rfl | omega))) hbel)
    have hB : Below w.heap.size w w4 := Below.trans (by repeat (first | exact Below.refl _ _ | refine Below.alloc ?_ (by first | omega | (simp; done) | (simp; omega)) _ | refine Below.setCell ?_ (by first | omega | (simp; done) | (simp; omega)) _ | refine Below.drew ?_)) (Below.mono hbel (by simp; omega))
    obtain ⟨cS, fS, zS⟩ := blkC hS.out
    go_wp2
    refine bodyPost_ret (v := .tuple #[fldV 0 0 0 0 (.slice none 0 0), .int .i64 3]) (by simp [results, Try.results91, go_sem, cS]) rfl ?_
    exact .inr ⟨hall, rfl, set5_below hB _ _ _ _ _ _ (by omega)⟩
end Go.Proofs.Ytmbiohopcfglcaa

/- Contracts: Same$1, EqualFunc, Same, same. -/
namespace Go.Proofs.Ytmbiohopcfglcaa
open Go.RowKit Fl
set_option linter.unusedVariables false

theorem enters_Same1 : Enters 186 := by intro args W; simp [callFunc, Try.func186, Try.f186]

set_option maxHeartbeats 400000 in
theorem same1_self (x : Nat) (w : World) :
    Calls Try.prog 186 #[.float .f32 x, .float .f32 x] w fun e w' => e = .returned (.bool true) ∧ w = w' := by
  have h1 := f32bits
  go_enter Try.func186, Try.ntmps186
  go_wp2
  go_ret
  exact ⟨rfl, rfl⟩

set_option maxHeartbeats 1000000 in
theorem equalFunc_row (b b' cap cap' n : Nat) (v : Nat → Nat) (hl : n ≤ 9223372036854775807) (w : World) (hc : FlAt w b 0 n v) (hc' : FlAt w b' 0 n v) :
    Calls Try.prog 185 #[.slice (some ⟨b, 0, none⟩) n cap, .slice (some ⟨b', 0, none⟩) n cap', .func (.func 186) #[] #[]] w fun e w' => e = .returned (.bool true) ∧ w = w' := by
  have hcall := enters_Same1
  unfold Enters at hcall
  go_enter Try.func185, Try.ntmps185
  go_wp2
  go_loop [17] (fun i => ∃ k : Nat, k ≤ n ∧ i = .int .i64 k) (fun i => n - (intOf i).toNat)
  case atStart => exact ⟨0, Nat.zero_le _, rfl⟩
  case round =>
    obtain ⟨k, hk, rfl⟩ := hrel
    by_cases hlt : k < n
    · have hcell := hc k hlt
      have hcell' := hc' k hlt
      rw [Nat.zero_add] at hcell hcell'
      have IH := Lib.hid (fun w => same1_self (v k) w)
      go_wp2_with fail
      refine (IH.out _).mono ?_
      rintro e w' ⟨rfl, rfl⟩
      go_wp2
      go_round
      case rel => exact ⟨k + 1, by omega, by go_num⟩
      case measure => simp [intOf]; omega
    · go_wp2
      go_ret
      exact ⟨rfl, rfl⟩

set_option maxHeartbeats 1000000 in
theorem same_ok (X Y W H : Int) (b b' cap cap' n : Nat) (v : Nat → Nat) (hl : n ≤ 9223372036854775807) (h1 : 1 ≤ n) (w : World) (hc : FlAt w b 0 n v) (hc' : FlAt w b' 0 n v) :
    Calls Try.prog 98 #[fldV X Y W H (.slice (some ⟨b, 0, none⟩) n cap), fldV X Y W H (.slice (some ⟨b', 0, none⟩) n cap')] w fun e w' => e = .returned (.bool true) ∧ Below w.heap.size w w' := by
  have z := World.block_lt_of_cell? w _ (hc 0 h1)
  have z' := World.block_lt_of_cell? w _ (hc' 0 h1)
  have EF := Lib.hid (fun W' (hb : Below w.heap.size w W') => equalFunc_row b b' cap cap' n v hl W' (flAt_congr hc (hb.block _ z)) (flAt_congr hc' (hb.block _ z')))
  clear hc hc'
  go_enter Try.func98, Try.ntmps98
  go_wp2_with (first | (go_at_call 185; refine (EF.out _ (by repeat (first | exact Below.refl _ _ | refine Below.alloc ?_ (by first | omega | (simp; done) | (simp; omega)) _ | refine Below.setCell ?_ (by first | omega | (simp; done) | (simp; omega)) _ | refine Below.drew ?_))).mono ?_; rintro e w' ⟨rfl, rfl⟩))
  go_ret
  exact ⟨rfl, (by repeat (first | exact Below.refl _ _ | refine Below.alloc ?_ (by first | omega | (simp; done) | (simp; omega)) _ | refine Below.setCell ?_ (by first | omega | (simp; done) | (simp; omega)) _ | refine Below.drew ?_))⟩

set_option maxHeartbeats 1000000 in
theorem law_same_ok (X Y W H : Int) (b b' cap cap' n : Nat) (v : Nat → Nat) (hl : n ≤ 9223372036854775807) (h1 : 1 ≤ n) (w : World) (hc : FlAt w b 0 n v) (hc' : FlAt w b' 0 n v) :
    Calls Try.prog 22 #[fldV X Y W H (.slice (some ⟨b, 0, none⟩) n cap), .int .i64 0, fldV X Y W H (.slice (some ⟨b', 0, none⟩) n cap'), .int .i64 0] w fun e w' => e = .returned (.bool true) ∧ Below w.heap.size w w' := by
  have z := World.block_lt_of_cell? w _ (hc 0 h1)
  have z' := World.block_lt_of_cell? w _ (hc' 0 h1)
  have SM := Lib.hid (fun W' (hb : Below w.heap.size w W') => same_ok X Y W H b b' cap cap' n v hl h1 W' (flAt_congr hc (hb.block _ z)) (flAt_congr hc' (hb.block _ z')))
  clear hc hc'
  go_enter Try.func22, Try.ntmps22
  go_wp2_with (first | (go_at_call 98; refine (SM.out _ (by repeat (first | exact Below.refl _ _ | refine Below.alloc ?_ (by first | omega | (simp; done) | (simp; omega)) _ | refine Below.setCell ?_ (by first | omega | (simp; done) | (simp; omega)) _ | refine Below.drew ?_))).mono ?_; rintro e w2 ⟨rfl, hb2⟩))
  go_ret
  exact ⟨rfl, Below.trans (by repeat (first | exact Below.refl _ _ | refine Below.alloc ?_ (by first | omega | (simp; done) | (simp; omega)) _ | refine Below.setCell ?_ (by first | omega | (simp; done) | (simp; omega)) _ | refine Below.drew ?_)) (Below.mono hb2 (by simp; try omega))⟩

set_option maxHeartbeats 1000000 in
theorem law_same_err (e1 : Int) (he : e1 ≠ 0) (w : World) :
    Calls Try.prog 22 #[fldV 0 0 0 0 (.slice none 0 0), .int .i64 e1, fldV 0 0 0 0 (.slice none 0 0), .int .i64 e1] w fun e w' => e = .returned (.bool true) ∧ Below w.heap.size w w' := by
  have hb : (e1 != 0) = true := by simp [he]
  go_enter Try.func22, Try.ntmps22
  go_wp2
  go_ret
  exact ⟨rfl, (by repeat (first | exact Below.refl _ _ | refine Below.alloc ?_ (by first | omega | (simp; done) | (simp; omega)) _ | refine Below.setCell ?_ (by first | omega | (simp; done) | (simp; omega)) _ | refine Below.drew ?_))⟩

end Go.Proofs.Ytmbiohopcfglcaa

/- What the two sides answer, told alike: so the law's walk has one way. -/
namespace Go.Proofs.Ytmbiohopcfglcaa
open Go.RowKit Fl
set_option linter.unusedVariables false

/-- A result (the field x y u h s, the error k) of a function that makes f over a region, behind the error er. -/
def Res (lo : Nat) (w : World) (X Y W H : Int) (n : Nat) (f : Nat → Nat) (er : Int) (x y u h : Int) (s : Value) (k : Int) : Prop :=
  (er ≠ 0 ∧ x = 0 ∧ y = 0 ∧ u = 0 ∧ h = 0 ∧ s = .slice none 0 0 ∧ k = er) ∨
  (er = 0 ∧ allB n (fun i => hgtB (f i)) = true ∧ x = X ∧ y = Y ∧ u = W ∧ h = H ∧ (∃ b cap, s = .slice (some ⟨b, 0, none⟩) n cap ∧ lo ≤ b ∧ b < w.heap.size ∧ FlAt w b 0 n f) ∧ k = 0) ∨
  (er = 0 ∧ allB n (fun i => hgtB (f i)) = false ∧ x = 0 ∧ y = 0 ∧ u = 0 ∧ h = 0 ∧ s = .slice none 0 0 ∧ k = 3)
theorem Res.stay {lo : Nat} {w w' : World} {X Y W H : Int} {n : Nat} {f : Nat → Nat} {er x y u h : Int} {s : Value} {k : Int} (r : Res lo w X Y W H n f er x y u h s k) (hb : Below w.heap.size w w') : Res lo w' X Y W H n f er x y u h s k := by
  rcases r with r | ⟨r1, r2, r3, r4, r5, r6, ⟨b, cap, r7, r0, r8, r9⟩, r10⟩ | r
  · exact .inl r
  · exact .inr (.inl ⟨r1, r2, r3, r4, r5, r6, ⟨b, cap, r7, r0, Nat.lt_of_lt_of_le r8 hb.size, flAt_congr r9 (hb.block _ r8)⟩, r10⟩)
  · exact .inr (.inr r)
theorem Res.heap {lo : Nat} {w w' : World} {X Y W H : Int} {n : Nat} {f : Nat → Nat} {er x y u h : Int} {s : Value} {k : Int} (r : Res lo w X Y W H n f er x y u h s k) {p : Nat} (hz : w.heap.size ≤ w'.heap.size) (hne : p < lo) (hb : ∀ b, b ≠ p → b < w.heap.size → w'.heap[b]? = w.heap[b]?) : Res lo w' X Y W H n f er x y u h s k := by
  rcases r with r | ⟨r1, r2, r3, r4, r5, r6, ⟨b, cap, r7, r0, r8, r9⟩, r10⟩ | r
  · exact .inl r
  · exact .inr (.inl ⟨r1, r2, r3, r4, r5, r6, ⟨b, cap, r7, r0, Nat.lt_of_lt_of_le r8 hz, flAt_congr r9 (hb _ (by omega) r8)⟩, r10⟩)
  · exact .inr (.inr r)

theorem made_res {w w' : World} {X Y W H : Int} {n : Nat} {f : Nat → Nat} {er : Int} {e : Ending} (h : ScPost w X Y W H n f er e w') :
    ∃ x y u hh : Int, ∃ a : Option Addr, ∃ l cp : Nat, ∃ k : Int, e = .returned (.tuple #[fldV x y u hh (.slice a l cp), .int .i64 k]) ∧ Res w.heap.size w' X Y W H n f er x y u hh (.slice a l cp) k ∧ Below w.heap.size w w' := by
  rcases h with ⟨h1, h2, h3⟩ | ⟨h1, ⟨h2, b, cap, h3, h4, h5, h6, h7⟩ | ⟨h2, h3, h4⟩⟩
  · exact ⟨_, _, _, _, _, _, _, _, h2, .inl ⟨h1, rfl, rfl, rfl, rfl, rfl, rfl⟩, h3⟩
  · exact ⟨_, _, _, _, _, _, _, _, h3, .inr (.inl ⟨h1, h2, rfl, rfl, rfl, rfl, ⟨b, cap, rfl, h4, h5, h6⟩, rfl⟩), h7⟩
  · exact ⟨_, _, _, _, _, _, _, _, h3, .inr (.inr ⟨h1, h2, rfl, rfl, rfl, rfl, rfl, rfl⟩), h4⟩

/-- Two results of one thing are the same to the law. -/
theorem same_res {W0 : World} {X Y W H : Int} {n : Nat} {f : Nat → Nat} {er x y u h x' y' u' h' : Int} {s s' : Value} {k k' : Int} (hn : 1 ≤ n) (hl : n ≤ 9223372036854775807)
    {lo lo' : Nat} (r : Res lo W0 X Y W H n f er x y u h s k) (r' : Res lo' W0 X Y W H n f er x' y' u' h' s' k') :
    Calls Try.prog 22 #[fldV x y u h s, .int .i64 k, fldV x' y' u' h' s', .int .i64 k'] W0 fun e w' => e = .returned (.bool true) ∧ Below W0.heap.size W0 w' := by
  rcases r with ⟨a1, rfl, rfl, rfl, rfl, rfl, rfl⟩ | ⟨a1, a2, rfl, rfl, rfl, rfl, ⟨b, cap, rfl, _, _, c⟩, rfl⟩ | ⟨a1, a2, rfl, rfl, rfl, rfl, rfl, rfl⟩ <;>
  rcases r' with ⟨b1, rfl, rfl, rfl, rfl, rfl, rfl⟩ | ⟨b1, b2, rfl, rfl, rfl, rfl, ⟨b', cap', rfl, _, _, c'⟩, rfl⟩ | ⟨b1, b2, rfl, rfl, rfl, rfl, rfl, rfl⟩
  · exact law_same_err _ a1 W0
  · exact absurd b1 a1
  · exact absurd b1 a1
  · exact absurd a1 b1
  · exact law_same_ok _ _ _ _ b b' cap cap' n f hl hn W0 c c'
  · rw [a2] at b2; cases b2
  · exact absurd a1 b1
  · rw [a2] at b2; cases b2
  · exact law_same_err 3 (by decide) W0

theorem set5_self {wr : World} {b : Nat} {a1 a2 a3 a4 a5 : Value} {t : TypeId} (u1 u2 u3 u4 u5 : Value) (h : wr.heap[b]? = some (.cells #[a1, a2, a3, a4, a5] t (0, 0))) :
    (set5 wr b u1 u2 u3 u4 u5).heap[b]? = some (.cells #[u1, u2, u3, u4, u5] t (0, 0)) := by
  have h1 := heap_setCell_same wr b 0 _ _ u1 h
  have h2 := heap_setCell_same _ b 1 _ _ u2 h1
  have h3 := heap_setCell_same _ b 2 _ _ u3 h2
  have h4 := heap_setCell_same _ b 3 _ _ u4 h3
  have h5 := heap_setCell_same _ b 4 _ _ u5 h4
  exact h5
/-- A field stored into a block of its own: what stands elsewhere stays. -/
theorem box_old (wr : World) (o : Obj) (u1 u2 u3 u4 u5 : Value) {k : Nat} (h : k < wr.heap.size) : (set5 (wr.alloc o) wr.heap.size u1 u2 u3 u4 u5).heap[k]? = wr.heap[k]? := by
  rw [set5_heap _ _ _ _ _ _ _ _ (by omega), heap_alloc_old _ _ h]
theorem box_below (wr : World) (o : Obj) (u1 u2 u3 u4 u5 : Value) : Below wr.heap.size wr (set5 (wr.alloc o) wr.heap.size u1 u2 u3 u4 u5) :=
  set5_below ((Below.refl _ _).alloc (Nat.le_refl _) o) _ _ _ _ _ _ (Nat.le_refl _)

/-- What a fit field is, its singles by a function. -/
theorem fit_fn {w : World} {b n : Nat} (h : FitRow w b n n) : ∃ v : Nat → Nat, FlAt w b 0 n v ∧ wf32 n v ∧ allB n (fun i => hgtB (v i)) = true ∧ b < w.heap.size := by
  obtain ⟨cs, h1, h2, h3⟩ := h
  refine ⟨fun j => if hj : j < n then (h3 j hj).choose else 0, fun i hi => ?_, fun i hi => ?_, allB_iff.2 fun i hi => ?_, (blkC h1).2.2⟩
  · rw [Nat.zero_add, (blkC h1).1 i]; simp only [dif_pos hi]; exact (h3 i hi).choose_spec.1
  · simp only [dif_pos hi]; exact (h3 i hi).choose_spec.2.1
  · simp only [dif_pos hi]; exact (h3 i hi).choose_spec.2.2 hi
theorem fit_check {X Y : Int} {W H n : Nat} (x1 : -5000 ≤ X) (x2 : X ≤ 5000) (y1 : -5000 ≤ Y) (y2 : Y ≤ 5000) (w1 : (1 : Int) ≤ W) (w2 : (W : Int) ≤ 16) (h1 : (1 : Int) ≤ H) (h2 : (H : Int) ≤ 16) (hn : (n : Int) = W * H) (hn2 : n ≤ 256) : checkR X Y W H = 0 := by
  unfold checkR
  rw [if_neg (by omega), if_neg (by rw [← hn]; omega), if_neg (by omega)]

end Go.Proofs.Ytmbiohopcfglcaa

/- Stamp of both sides, of a right field. -/
namespace Go.Proofs.Ytmbiohopcfglcaa
open Go.RowKit Fl
set_option linter.unusedVariables false

theorem enters_Stamp1 : Enters 92 := by intro args W; simp [callFunc, Try.func92, Try.f92]
theorem enters_rStamp1 : Enters 94 := by intro args W; simp [callFunc, Try.func94, Try.f94]

/-- Stamp of one value. -/
def staW (v h q : Nat) : Nat := addW v (mulW h q)
theorem sta_parts {v h q : Nat} {d : Int} (hv : hgtB v = true) (hh : hgtB h = true) (hq : vS q = some d) (d0 : 0 ≤ d) (d1 : d ≤ (one : Int)) :
    ∃ m r, floatBits .mul .f32 h q = some m ∧ Same2 .mul 20 h q ∧ floatBits .add .f32 v m = some r ∧ Same2 .add 21 v m ∧ staW v h q = r ∧ r < 4294967296 := by
  have s1 : Same2 .mul (20 + 0) h q := mul_same (by omega) (hgt_bd hh) (bd_unit hq (by omega) d1)
  obtain ⟨m, e1, b1⟩ := same_ex s1
  have s2 : Same2 .add 21 v m := add_same (k := 20) (by omega) (hgt_bd hv) b1
  obtain ⟨r, e2, _⟩ := same_ex s2
  exact ⟨m, r, e1, s1, e2, s2, by unfold staW mulW addW; rw [e1]; show (floatBits .add .f32 v m).getD 0 = r; rw [e2]; rfl, add_lt e2⟩

set_option maxHeartbeats 4000000 in
set_option maxRecDepth 100000 in
theorem stamp1_any (k X Y R : Int) (h v : Nat) (x y : Int) (p : Nat) (w : World) (kB : w.heap[p]? = some (bruObj k X Y R h)) (K : BruOk k X Y R h) (hv : hgtB v = true) (x1 : -4194304 ≤ x) (x2 : x ≤ 4194304) (y1 : -4194304 ≤ y) (y2 : y ≤ 4194304) :
    Calls Try.prog 92 #[.float .f32 v, .int .i64 x, .int .i64 y, .pointer (some ⟨p, 0, none⟩)] w fun e w' => e = .returned (.float .f32 (staW v h (weiW k (sqD x y X Y) R))) ∧ Below w.heap.size w w' := by
  have n0 : 0 ≤ sqD x y X Y := by
    obtain ⟨a0, a1⟩ := side_sq (d := x - X) (by have := K.X1; have := K.X2; omega) (by have := K.X1; have := K.X2; omega)
    obtain ⟨b0, b1⟩ := side_sq (d := y - Y) (by have := K.Y1; have := K.Y2; omega) (by have := K.Y1; have := K.Y2; omega)
    unfold sqD; omega
  obtain ⟨d, hd, d0, d1⟩ := wei_in (k := k) n0 K.r1 K.r2
  obtain ⟨m, r, e1, _, e2, _, e3, _⟩ := sta_parts hv K.hg hd d0 d1
  rw [e3]
  have WT := Lib.hid (fun w => weight_any k X Y R h x y w K.k1 K.k3 K.X1 K.X2 K.Y1 K.Y2 K.r1 K.r2 x1 x2 y1 y2)
  have a1 := fun (W : World) => run_float_arith (P := Try.prog) W .mul 22 .f32 h _ m e1
  have a2 := fun (W : World) => run_float_arith (P := Try.prog) W .add 22 .f32 v m r e2
  generalize weiW k (sqD x y X Y) R = q at *
  have GB := Lib.hid kB
  obtain ⟨cB, fB, zB⟩ := blkC kB
  clear K hv x1 x2 y1 y2 n0 hd d0 d1 e1 e2 e3 kB
  go_enter Try.func92, Try.ntmps92
  go_wp2
  go_region_held3 (fun w' => (∀ o, w'.cell? ⟨p, o, none⟩ = #[.int .i64 k, .int .i64 X, .int .i64 Y, .int .i64 R, .float .f32 h][o]?) ∧ Below w.heap.size w w') (first | exact ⟨(blkC (blkStay GB.out hb9)).1, hb9⟩ | exact ⟨(blkC (blkStay GB.out (by repeat (first | exact Below.refl _ _ | refine Below.alloc ?_ (by first | omega | (simp; done) | (simp; omega)) _ | refine Below.setCell ?_ (by first | omega | (simp; done) | (simp; omega)) _ | refine Below.drew ?_)))).1, (by repeat (first | exact Below.refl _ _ | refine Below.alloc ?_ (by first | omega | (simp; done) | (simp; omega)) _ | refine Below.setCell ?_ (by first | omega | (simp; done) | (simp; omega)) _ | refine Below.drew ?_))⟩) (first | (go_at_call 89; (with_reducible refine Calls.mono (WT.out _) ?_); rintro e w' ⟨rfl, hb8⟩; have hb9 : Below w.heap.size w w' := Below.trans (by repeat (first | exact Below.refl _ _ | refine Below.alloc ?_ (by first | omega | (simp; done) | (simp; omega)) _ | refine Below.setCell ?_ (by first | omega | (simp; done) | (simp; omega)) _ | refine Below.drew ?_)) (Below.mono hb8 (by first | exact Nat.le_refl _ | (simp; done) | (simp; omega))); clear hb8))
  rename_i wh hHeld
  go_wp2
  go_ret
  exact ⟨rfl, hHeld.2⟩

/-- What Stamp makes of the cell number i of a region that begins at (X', Y') and is W' wide. -/
def staF (v : Nat → Nat) (k X Y R : Int) (h : Nat) (X' Y' : Int) (W' : Nat) (i : Nat) : Nat := staW (v i) h (weiW k (sqD (X' + ((i % W' : Nat) : Int)) (Y' + ((i / W' : Nat) : Int)) X Y) R)

set_option maxHeartbeats 2000000 in
theorem stamp_any (X Y : Int) (W H n b cap : Nat) (v : Nat → Nat) (k X' Y' R : Int) (h : Nat) (w : World) (h0 : checkR X Y W H = 0) (hn : n = W * H) (hc : FlAt w b 0 n v) (hh : allB n (fun i => hgtB (v i)) = true) :
    Calls Try.prog 20 #[fldV X Y W H (.slice (some ⟨b, 0, none⟩) n cap), bru k X' Y' R h] w (ScPost w X Y W H n (staF v k X' Y' R h X Y W) (bruE k X' Y' R h)) := by
  obtain ⟨b1, b2, b3, b4, b5, b6, b7, b8, b9⟩ := checkR_zero h0
  have hnn : n = H * W := by rw [hn]; exact Nat.mul_comm _ _
  have h1 : 1 ≤ n := by rw [hn]; exact Nat.mul_pos (by omega) (by omega)
  have hlt : b < w.heap.size := World.block_lt_of_cell? w _ (hc 0 h1)
  have CK := Lib.hid (fun W' (hb : Below w.heap.size w W') => check_ok X Y W H n b cap v W' h0 hn (flAt_congr hc (hb.block _ hlt)) hh)
  have CB := Lib.hid (fun w => checkBrush_any k X' Y' R h w)
  by_cases hz : bruE k X' Y' R h = 0
  · have K := bru_ok hz
    rw [hz] at CB ⊢
    have HC := Lib.hid hc
    have RM := Lib.hid (fun W' p (k1 : W'.heap[p + 1]? = some (bruObj k X' Y' R h)) (hc' : FlAt W' b 0 n v) =>
      remade_any X Y W H n b cap v (staF v k X' Y' R h X Y W) 92 #[.pointer (some ⟨p + 1, 0, none⟩)] W' enters_Stamp1
        (fun x y i W'' h1 h2 h3 h4 h5 hb => by
          obtain ⟨ex, ey⟩ := place_of (show 1 ≤ W by omega) h1 h2 h3 h5
          unfold staF; rw [ex, ey]
          exact stamp1_any k X' Y' R h (v i) x y (p + 1) W'' (blkStay k1 hb) K (allB_iff.1 hh i (num_lt (by omega) h1 h2 h4 h5 hnn)) (by omega) (by omega) (by omega) (by omega)) h0 hnn hc')
    clear hc hn h0 hh hz b1 b2 b3 b4 b5 b6 b7 b8 b9 hnn K
    go_enter Try.func20, Try.ntmps20
    go_wp2_with (first | (go_at_call 90; refine (CK.out _ (by repeat (first | exact Below.refl _ _ | refine Below.alloc ?_ (by first | omega | (simp; done) | (simp; omega)) _ | refine Below.setCell ?_ (by first | omega | (simp; done) | (simp; omega)) _ | refine Below.drew ?_))).mono ?_; rintro e w2 ⟨rfl, hb2⟩; have HF2 := Lib.hid (blkStay (b := w.heap.size) (o := fldO X Y W H (.slice (some ⟨b, 0, none⟩) n cap)) (by ((simp only [heap_alloc_get, heap_size_alloc, if_true]) <;> ((repeat' split) <;> first | rfl | omega))) hb2); have HL2 := Lib.hid (blkStay (b := w.heap.size + 1) (o := bruObj k X' Y' R h) (by ((simp only [heap_alloc_get, heap_size_alloc, if_true]) <;> ((repeat' split) <;> first | rfl | omega))) hb2); have HS2 := Lib.hid (blkStay (b := w.heap.size + 1 + 1) (o := fldO 0 0 0 0 (.slice none 0 0)) (by ((simp only [heap_alloc_get, heap_size_alloc, if_true]) <;> ((repeat' split) <;> first | rfl | omega))) hb2); have hB2 : Below w.heap.size w w2 := Below.trans (by repeat (first | exact Below.refl _ _ | refine Below.alloc ?_ (by first | omega | (simp; done) | (simp; omega)) _ | refine Below.setCell ?_ (by first | omega | (simp; done) | (simp; omega)) _ | refine Below.drew ?_)) (Below.mono hb2 (by first | omega | (simp; done) | (simp; omega))); obtain ⟨cL, fL, zL⟩ := blkC HL2.out; clear hb2) | (go_at_call 16; refine (CB.out _).mono ?_; rintro e w3 ⟨rfl, hb23⟩; clear cL fL zL; have HF3 := Lib.hid (blkStay HF2.out hb23); have HL3 := Lib.hid (blkStay HL2.out hb23); have HS3 := Lib.hid (blkStay HS2.out hb23); have hB3 := hB2.trans (hb23.mono hB2.size); clear hb23 hB2 HF2 HL2 HS2; obtain ⟨cF, fF, zF⟩ := blkC HF3.out; obtain ⟨cL, fL, zL⟩ := blkC HL3.out; obtain ⟨cS, fS, zS⟩ := blkC HS3.out))
    clear cS fS cF fF zF
    refine (RM.out _ w.heap.size HL3.out (flAt_congr HC.out (hB3.block _ hlt))).mono ?_
    intro e w4 hmade
    rcases hmade with ⟨hall, b', cap', rfl, hb', hlt', hrow, hbel⟩ | ⟨hall, rfl, hbel⟩
    · obtain ⟨cS, fS, zS4⟩ := blkC (blkStay HS3.out hbel)
      have HB := Lib.hid hb'
      clear hb'
      go_wp2
      refine bodyPost_ret (v := .tuple #[fldV X Y W H (.slice (some ⟨b', 0, none⟩) n cap'), .int .i64 0]) (by simp [results, Try.results20, go_sem, cS]) rfl ?_
      have z3 := hB3.size
      have hb' := HB.out
      exact .inr ⟨rfl, .inl ⟨hall, b', cap', rfl, by omega, by rw [set5_size]; exact hlt', flAt_congr hrow (set5_heap w4 _ _ _ _ _ _ _ (by omega)), set5_below (hB3.trans (hbel.mono z3)) _ _ _ _ _ _ (by omega)⟩⟩
    · obtain ⟨cS, fS, zS4⟩ := blkC (blkStay HS3.out hbel)
      go_wp2
      refine bodyPost_ret (v := .tuple #[fldV 0 0 0 0 (.slice none 0 0), .int .i64 3]) (by simp [results, Try.results20, go_sem, cS]) rfl ?_
      have z3 := hB3.size
      exact .inr ⟨rfl, .inr ⟨hall, rfl, set5_below (hB3.trans (hbel.mono z3)) _ _ _ _ _ _ (by omega)⟩⟩
  · have hzb : (bruE k X' Y' R h != 0) = true := by simp [hz]
    have HZ := Lib.hid hz
    generalize bruE k X' Y' R h = er at *
    clear hc hn h0 hh hz b1 b2 b3 b4 b5 b6 b7 b8 b9 hnn
    go_enter Try.func20, Try.ntmps20
    go_wp2_with (first | (go_at_call 90; refine (CK.out _ (by repeat (first | exact Below.refl _ _ | refine Below.alloc ?_ (by first | omega | (simp; done) | (simp; omega)) _ | refine Below.setCell ?_ (by first | omega | (simp; done) | (simp; omega)) _ | refine Below.drew ?_))).mono ?_; rintro e w2 ⟨rfl, hb2⟩; have HF2 := Lib.hid (blkStay (b := w.heap.size) (o := fldO X Y W H (.slice (some ⟨b, 0, none⟩) n cap)) (by ((simp only [heap_alloc_get, heap_size_alloc, if_true]) <;> ((repeat' split) <;> first | rfl | omega))) hb2); have HL2 := Lib.hid (blkStay (b := w.heap.size + 1) (o := bruObj k X' Y' R h) (by ((simp only [heap_alloc_get, heap_size_alloc, if_true]) <;> ((repeat' split) <;> first | rfl | omega))) hb2); have HS2 := Lib.hid (blkStay (b := w.heap.size + 1 + 1) (o := fldO 0 0 0 0 (.slice none 0 0)) (by ((simp only [heap_alloc_get, heap_size_alloc, if_true]) <;> ((repeat' split) <;> first | rfl | omega))) hb2); have hB2 : Below w.heap.size w w2 := Below.trans (by repeat (first | exact Below.refl _ _ | refine Below.alloc ?_ (by first | omega | (simp; done) | (simp; omega)) _ | refine Below.setCell ?_ (by first | omega | (simp; done) | (simp; omega)) _ | refine Below.drew ?_)) (Below.mono hb2 (by first | omega | (simp; done) | (simp; omega))); obtain ⟨cL, fL, zL⟩ := blkC HL2.out; clear hb2) | (go_at_call 16; refine (CB.out _).mono ?_; rintro e w3 ⟨rfl, hb23⟩; clear cL fL zL; have HF3 := Lib.hid (blkStay HF2.out hb23); have HL3 := Lib.hid (blkStay HL2.out hb23); have HS3 := Lib.hid (blkStay HS2.out hb23); have hB3 := hB2.trans (hb23.mono hB2.size); clear hb23 hB2 HF2 HL2 HS2; obtain ⟨cF, fF, zF⟩ := blkC HF3.out; obtain ⟨cL, fL, zL⟩ := blkC HL3.out; obtain ⟨cS, fS, zS⟩ := blkC HS3.out))
    refine bodyPost_ret (v := .tuple #[fldV 0 0 0 0 (.slice none 0 0), .int .i64 er]) (by simp [results, Try.results20, go_sem, cS]) rfl ?_
    exact .inl ⟨HZ.out, rfl, set5_below hB3 _ _ _ _ _ _ (by omega)⟩
end Go.Proofs.Ytmbiohopcfglcaa

/- Stamp of the reference, of a right field. -/
namespace Go.Proofs.Ytmbiohopcfglcaa
open Go.RowKit Fl
set_option linter.unusedVariables false

set_option maxHeartbeats 4000000 in
set_option maxRecDepth 100000 in
theorem rstamp1_any (X Y : Int) (W H n b cap : Nat) (v : Nat → Nat) (p : Nat) (k X' Y' R : Int) (h : Nat) (w : World) (kF : w.heap[p]? = some (fldO X Y W H (.slice (some ⟨b, 0, none⟩) n cap))) (k1 : w.heap[p + 1]? = some (bruObj k X' Y' R h)) (hc : FlAt w b 0 n v)
    (hh : allB n (fun i => hgtB (v i)) = true) (K : BruOk k X' Y' R h) (h0 : checkR X Y W H = 0) (hnn : n = H * W) :
    Clos2 94 #[.pointer (some ⟨p, 0, none⟩), .pointer (some ⟨p + 1, 0, none⟩)] X Y W H (staF v k X' Y' R h X Y W) w := by
  intro x y i w2 h1 h2 h3 h4 h5 hb
  obtain ⟨b1, b2, b3, b4, b5, b6, b7, b8, b9⟩ := checkR_zero h0
  have hn : n ≤ 65536 := by
    have : ((W : Int) * (H : Int)) = (n : Int) := by rw [hnn, Nat.mul_comm]; simp
    omega
  have hi' : i < n := num_lt (by omega) h1 h2 h4 h5 hnn
  have hrow := flAt_congr hc (hb.block b (World.block_lt_of_cell? w _ (hc i hi')))
  have z1 := World.block_lt_of_cell? w2 _ (hrow i hi')
  have AT := Lib.hid (fun W' (hb : Below w2.heap.size w2 W') => refAt_any X Y W H n b cap i v x y W' (by omega) (by omega) (by omega) (by omega) (by omega) (by omega) (by omega) h1 h2 h3 h4 h5 hi' hn (flAt_congr hrow (hb.block _ z1)))
  have WT := Lib.hid (fun w => rweight_any k X' Y' R h x y w K.k1 K.k3 K.X1 K.X2 K.Y1 K.Y2 K.r1 K.r2 (by omega) (by omega) (by omega) (by omega))
  obtain ⟨ex, ey⟩ := place_of (show 1 ≤ W by omega) h1 h2 h3 h5
  unfold staF
  rw [ex, ey]
  have n0 : 0 ≤ sqD x y X' Y' := by
    obtain ⟨a0, a1⟩ := side_sq (d := x - X') (by have := K.X1; have := K.X2; omega) (by have := K.X1; have := K.X2; omega)
    obtain ⟨b0, b1⟩ := side_sq (d := y - Y') (by have := K.Y1; have := K.Y2; omega) (by have := K.Y1; have := K.Y2; omega)
    unfold sqD; omega
  obtain ⟨d, hd, d0, d1⟩ := wei_in (k := k) n0 K.r1 K.r2
  obtain ⟨m, r, e1, s1, e2, s2, e3, _⟩ := sta_parts (allB_iff.1 hh i hi') K.hg hd d0 d1
  rw [e3]
  have ML := Lib.hid (fun w => refMul_any 20 h _ m s1 e1 w)
  have AD := Lib.hid (fun w => refAdd_any 21 (v i) m r s2 e2 w)
  generalize weiW k (sqD x y X' Y') R = q at *
  have GF := Lib.hid (blkStay kF hb)
  have G1 := Lib.hid (blkStay k1 hb)
  obtain ⟨cF, fF, zF⟩ := blkC GF.out
  obtain ⟨c1, f1, z2⟩ := blkC G1.out
  clear hb h1 h2 h3 h4 h5 b1 b2 b3 b4 b5 b6 b7 b8 b9 hnn hh h0 hi' hn hrow kF k1 hc K n0 hd d0 d1 s1 e1 s2 e2 e3 ex ey
  go_enter Try.func94, Try.ntmps94
  go_wp2
  go_region_held3 (fun w' => (∀ o, w'.cell? ⟨p, o, none⟩ = #[.int .i64 X, .int .i64 Y, .int .i64 W, .int .i64 H, .slice (some ⟨b, 0, none⟩) n cap][o]?) ∧ (∀ o, w'.cell? ⟨p + 1, o, none⟩ = #[.int .i64 k, .int .i64 X', .int .i64 Y', .int .i64 R, .float .f32 h][o]?) ∧ Below w2.heap.size w2 w') (first | exact ⟨(blkC (blkStay GF.out hb9)).1, (blkC (blkStay G1.out hb9)).1, hb9⟩ | exact ⟨(blkC (blkStay GF.out (by repeat (first | exact Below.refl _ _ | refine Below.alloc ?_ (by first | omega | (simp; done) | (simp; omega)) _ | refine Below.setCell ?_ (by first | omega | (simp; done) | (simp; omega)) _ | refine Below.drew ?_)))).1, (blkC (blkStay G1.out (by repeat (first | exact Below.refl _ _ | refine Below.alloc ?_ (by first | omega | (simp; done) | (simp; omega)) _ | refine Below.setCell ?_ (by first | omega | (simp; done) | (simp; omega)) _ | refine Below.drew ?_)))).1, (by repeat (first | exact Below.refl _ _ | refine Below.alloc ?_ (by first | omega | (simp; done) | (simp; omega)) _ | refine Below.setCell ?_ (by first | omega | (simp; done) | (simp; omega)) _ | refine Below.drew ?_))⟩) (first | (go_at_call 96; (with_reducible refine Calls.mono (AT.out _ ?_) ?_); exact (by repeat (first | exact Below.refl _ _ | refine Below.alloc ?_ (by first | omega | (simp; done) | (simp; omega)) _ | refine Below.setCell ?_ (by first | omega | (simp; done) | (simp; omega)) _ | refine Below.drew ?_)); rintro e w' ⟨rfl, rfl⟩) | (go_at_call 25; (with_reducible refine Calls.mono (WT.out _) ?_); rintro e w' ⟨rfl, hb8⟩; have hb9 : Below w2.heap.size w2 w' := Below.trans (by repeat (first | exact Below.refl _ _ | refine Below.alloc ?_ (by first | omega | (simp; done) | (simp; omega)) _ | refine Below.setCell ?_ (by first | omega | (simp; done) | (simp; omega)) _ | refine Below.drew ?_)) (Below.mono hb8 (by first | exact Nat.le_refl _ | (simp; done) | (simp; omega))); clear hb8) | (go_at_call 97; refine (ML.out _).mono ?_; rintro e w' ⟨rfl, rfl⟩) | (go_at_call 95; refine (AD.out _).mono ?_; rintro e w' ⟨rfl, rfl⟩))
  rename_i wh hHeld
  go_wp2
  go_ret
  exact ⟨rfl, hHeld.2.2⟩

theorem sta_wf {n : Nat} {v : Nat → Nat} {k X Y R : Int} {h : Nat} {X' Y' : Int} {W' : Nat} (hh : allB n (fun i => hgtB (v i)) = true) (K : BruOk k X Y R h) : wf32 n (staF v k X Y R h X' Y' W') := by
  intro i hi
  unfold staF
  have n0 : 0 ≤ sqD (X' + ((i % W' : Nat) : Int)) (Y' + ((i / W' : Nat) : Int)) X Y := by
    unfold sqD
    have sq : ∀ d : Int, 0 ≤ d * d := fun d => by rw [← Int.natAbs_mul_self' d]; exact Int.mul_nonneg (Int.natCast_nonneg _) (Int.natCast_nonneg _)
    have := sq (X' + ((i % W' : Nat) : Int) - X)
    have := sq (Y' + ((i / W' : Nat) : Int) - Y)
    omega
  obtain ⟨d, hd, d0, d1⟩ := wei_in (k := k) n0 K.r1 K.r2
  obtain ⟨m, r, _, _, _, _, e3, lt⟩ := sta_parts (allB_iff.1 hh i hi) K.hg hd d0 d1
  rw [e3]; exact lt

set_option maxHeartbeats 2000000 in
theorem rstamp_any (X Y : Int) (W H n b cap : Nat) (v : Nat → Nat) (k X' Y' R : Int) (h : Nat) (w : World) (h0 : checkR X Y W H = 0) (hn : n = W * H) (hc : FlAt w b 0 n v) (hh : allB n (fun i => hgtB (v i)) = true) (hl : h < 4294967296) :
    Calls Try.prog 21 #[fldV X Y W H (.slice (some ⟨b, 0, none⟩) n cap), bru k X' Y' R h] w (ScPost w X Y W H n (staF v k X' Y' R h X Y W) (bruE k X' Y' R h)) := by
  obtain ⟨b1, b2, b3, b4, b5, b6, b7, b8, b9⟩ := checkR_zero h0
  have hnn : n = H * W := by rw [hn]; exact Nat.mul_comm _ _
  have h1 : 1 ≤ n := by rw [hn]; exact Nat.mul_pos (by omega) (by omega)
  have hlt : b < w.heap.size := World.block_lt_of_cell? w _ (hc 0 h1)
  have CB := Lib.hid (fun w => refCheckBrush_any k X' Y' R h hl w)
  by_cases hz : bruE k X' Y' R h = 0
  · have K := bru_ok hz
    have BY := Lib.hid (fun W' p (kF : W'.heap[p]? = some (fldO X Y W H (.slice (some ⟨b, 0, none⟩) n cap))) (k1 : W'.heap[p + 1]? = some (bruObj k X' Y' R h)) (hc' : FlAt W' b 0 n v) =>
      made_any X Y W H n 94 #[.pointer (some ⟨p, 0, none⟩), .pointer (some ⟨p + 1, 0, none⟩)] (staF v k X' Y' R h X Y W) W' enters_rStamp1
        (rstamp1_any X Y W H n b cap v p k X' Y' R h W' kF k1 hc' hh K h0 hnn) (sta_wf hh K) (by omega) (by omega) (by omega) (by omega) (by omega) (by omega) (by omega) (by omega) hnn)
    rw [hz] at CB ⊢
    have HC := Lib.hid hc
    clear hc hn h0 hh hz b1 b2 b3 b4 b5 b6 b7 b8 b9 hnn K
    go_enter Try.func21, Try.ntmps21
    go_wp2_with (first | (go_at_call 15; refine (CB.out _).mono ?_; rintro e w2 ⟨rfl, hb2⟩; have HF2 := Lib.hid (blkStay (b := w.heap.size) (o := fldO X Y W H (.slice (some ⟨b, 0, none⟩) n cap)) (by ((simp only [heap_alloc_get, heap_size_alloc, if_true]) <;> ((repeat' split) <;> first | rfl | omega))) hb2); have HL2 := Lib.hid (blkStay (b := w.heap.size + 1) (o := bruObj k X' Y' R h) (by ((simp only [heap_alloc_get, heap_size_alloc, if_true]) <;> ((repeat' split) <;> first | rfl | omega))) hb2); have HS2 := Lib.hid (blkStay (b := w.heap.size + 1 + 1) (o := fldO 0 0 0 0 (.slice none 0 0)) (by ((simp only [heap_alloc_get, heap_size_alloc, if_true]) <;> ((repeat' split) <;> first | rfl | omega))) hb2); have hB2 : Below w.heap.size w w2 := Below.trans (by repeat (first | exact Below.refl _ _ | refine Below.alloc ?_ (by first | omega | (simp; done) | (simp; omega)) _ | refine Below.setCell ?_ (by first | omega | (simp; done) | (simp; omega)) _ | refine Below.drew ?_)) (Below.mono hb2 (by first | omega | (simp; done) | (simp; omega))); obtain ⟨cF, fF, zF⟩ := blkC HF2.out; clear hb2))
    refine (BY.out _ w.heap.size HF2.out HL2.out (flAt_congr HC.out (hB2.block _ hlt))).mono ?_
    intro e w4 hmade
    clear cF fF zF
    rcases hmade with ⟨hall, b', cap', rfl, hb', hlt', hrow, hbel⟩ | ⟨hall, rfl, hbel⟩
    · obtain ⟨cS, fS, zS4⟩ := blkC (blkStay HS2.out hbel)
      have zS2 := (blkC HS2.out).2.2
      have HB := Lib.hid hb'
      clear hb'
      go_wp2
      refine bodyPost_ret (v := .tuple #[fldV X Y W H (.slice (some ⟨b', 0, none⟩) n cap'), .int .i64 0]) (by simp [results, Try.results21, go_sem, cS]) rfl ?_
      have z2 := hB2.size
      have hb' := HB.out
      exact .inr ⟨rfl, .inl ⟨hall, b', cap', rfl, by omega, by rw [set5_size]; exact hlt', flAt_congr hrow (set5_heap w4 _ _ _ _ _ _ _ (by omega)), set5_below (hB2.trans (hbel.mono z2)) _ _ _ _ _ _ (by omega)⟩⟩
    · obtain ⟨cS, fS, zS4⟩ := blkC (blkStay HS2.out hbel)
      go_wp2
      refine bodyPost_ret (v := .tuple #[fldV 0 0 0 0 (.slice none 0 0), .int .i64 3]) (by simp [results, Try.results21, go_sem, cS]) rfl ?_
      have z2 := hB2.size
      exact .inr ⟨rfl, .inr ⟨hall, rfl, set5_below (hB2.trans (hbel.mono z2)) _ _ _ _ _ _ (by omega)⟩⟩
  · have hzb : (bruE k X' Y' R h != 0) = true := by simp [hz]
    have HZ := Lib.hid hz
    generalize bruE k X' Y' R h = er at *
    clear hc hn h0 hh hz b1 b2 b3 b4 b5 b6 b7 b8 b9 hnn
    go_enter Try.func21, Try.ntmps21
    go_wp2_with (first | (go_at_call 15; refine (CB.out _).mono ?_; rintro e w2 ⟨rfl, hb2⟩; have HS2 := Lib.hid (blkStay (b := w.heap.size + 1 + 1) (o := fldO 0 0 0 0 (.slice none 0 0)) (by ((simp only [heap_alloc_get, heap_size_alloc, if_true]) <;> ((repeat' split) <;> first | rfl | omega))) hb2); have hB2 : Below w.heap.size w w2 := Below.trans (by repeat (first | exact Below.refl _ _ | refine Below.alloc ?_ (by first | omega | (simp; done) | (simp; omega)) _ | refine Below.setCell ?_ (by first | omega | (simp; done) | (simp; omega)) _ | refine Below.drew ?_)) (Below.mono hb2 (by first | omega | (simp; done) | (simp; omega))); obtain ⟨cS, fS, zS⟩ := blkC HS2.out; clear hb2))
    refine bodyPost_ret (v := .tuple #[fldV 0 0 0 0 (.slice none 0 0), .int .i64 er]) (by simp [results, Try.results21, go_sem, cS]) rfl ?_
    exact .inl ⟨HZ.out, rfl, set5_below hB2 _ _ _ _ _ _ (by omega)⟩
end Go.Proofs.Ytmbiohopcfglcaa

/- Contracts: the laws' bits, one: a single, with its error, told by both sides. -/
namespace Go.Proofs.Ytmbiohopcfglcaa
open Go.RowKit Fl
set_option linter.unusedVariables false

set_option maxHeartbeats 400000 in
theorem bits_self (x : Nat) (w : World) :
    Calls Try.prog 24 #[.float .f32 x, .float .f32 x] w fun e w' => e = .returned (.bool true) ∧ w = w' := by
  have h1 := f32bits
  go_enter Try.func24, Try.ntmps24
  go_wp2
  go_ret
  exact ⟨rfl, rfl⟩

set_option maxHeartbeats 400000 in
theorem one_ok (x : Nat) (w : World) :
    Calls Try.prog 39 #[.float .f32 x, .int .i64 0, .float .f32 x, .int .i64 0] w fun e w' => e = .returned (.bool true) ∧ w = w' := by
  go_enter Try.func39, Try.ntmps39
  go_wp2_with (go_at_call 24; refine (bits_self _ _).mono ?_; rintro e w' ⟨rfl, rfl⟩)
  go_ret
  exact ⟨rfl, rfl⟩

set_option maxHeartbeats 400000 in
theorem one_err (b : Nat) (k : Int) (hk : k = 2 ∨ k = 3 ∨ k = 4 ∨ k = 5) (w : World) :
    Calls Try.prog 39 #[.float .f32 0, .int .i64 k, .float .f32 b, .int .i64 k] w fun e w' => e = .returned (.bool true) ∧ w = w' := by
  rcases hk with rfl | rfl | rfl | rfl
  all_goals go_enter Try.func39, Try.ntmps39
  all_goals go_wp2_with (go_at_call 24; refine (bits_self _ _).mono ?_; rintro e w' ⟨rfl, rfl⟩)
  all_goals go_ret
  all_goals exact ⟨rfl, rfl⟩

set_option maxHeartbeats 400000 in
theorem one_errX (b : Nat) (k : Int) (hk : k ≠ 0) (w : World) :
    Calls Try.prog 39 #[.float .f32 0, .int .i64 k, .float .f32 b, .int .i64 k] w fun e w' => e = .returned (.bool true) ∧ w = w' := by
  have hb : (k != 0) = true := by simp [hk]
  clear hk
  go_enter Try.func39, Try.ntmps39
  go_wp2_with (go_at_call 24; refine (bits_self _ _).mono ?_; rintro e w' ⟨rfl, rfl⟩)
  go_ret
  exact ⟨rfl, rfl⟩

end Go.Proofs.Ytmbiohopcfglcaa

/- Contracts of the regions' functions, continued: the reference's Inside; Common. -/
namespace Go.Proofs.Ytmbiohopcfglcaa
open Go.RowKit

set_option maxHeartbeats 1000000 in
theorem refInside_any (x y ww hh x' y' ww' hh' : Int) (w : World) (_ : -1073741824 ≤ x) (_ : x ≤ 1073741824) (_ : -1073741824 ≤ y) (_ : y ≤ 1073741824) (a5 : 1 ≤ ww) (a6 : ww ≤ 1073741824) (a7 : 1 ≤ hh) (a8 : hh ≤ 1073741824)
    (b1 : -1073741824 ≤ x') (b2 : x' ≤ 1073741824) (b3 : -1073741824 ≤ y') (b4 : y' ≤ 1073741824) (b5 : 1 ≤ ww') (b6 : ww' ≤ 1073741824) (b7 : 1 ≤ hh') (b8 : hh' ≤ 1073741824) :
    Calls Try.prog 23 #[reg x y ww hh, reg x' y' ww' hh'] w fun e w' => e = .returned (.bool (insideB x y ww hh x' y' ww' hh')) ∧ Below w.heap.size w w' := by
  go_enter Try.func23, Try.ntmps23
  go_wp2
  all_goals go_ret
  all_goals refine ⟨ret_bool ?_, (by repeat (first | exact Below.refl _ _ | refine Below.alloc ?_ (by first | omega | (simp; done) | (simp; omega)) _ | refine Below.setCell ?_ (by first | omega | (simp; done) | (simp; omega)) _ | refine Below.drew ?_))⟩
  all_goals (rw [Bool.eq_iff_iff, insideB_iff]; simp; omega)


def maxI (a b : Int) : Int := if a < b then b else a
def minI (a b : Int) : Int := if b < a then b else a
theorem maxI_le (a b : Int) : a ≤ maxI a b ∧ b ≤ maxI a b ∧ (maxI a b = a ∨ maxI a b = b) := by unfold maxI; split <;> omega
theorem minI_le (a b : Int) : minI a b ≤ a ∧ minI a b ≤ b ∧ (minI a b = a ∨ minI a b = b) := by unfold minI; split <;> omega

/-- What Common answers. -/
def comB (x y w h x' y' w' h' : Int) : Bool := decide (1 ≤ minI (x + w) (x' + w') - maxI x x') && decide (1 ≤ minI (y + h) (y' + h') - maxI y y')
def comR (x y w h x' y' w' h' : Int) : Value :=
  if comB x y w h x' y' w' h' then reg (maxI x x') (maxI y y') (minI (x + w) (x' + w') - maxI x x') (minI (y + h) (y' + h') - maxI y y') else reg 0 0 0 0
theorem comB_iff {x y w h x' y' w' h' : Int} : comB x y w h x' y' w' h' = true ↔ 1 ≤ minI (x + w) (x' + w') - maxI x x' ∧ 1 ≤ minI (y + h) (y' + h') - maxI y y' := by simp [comB]
theorem comB_no {x y w h x' y' w' h' : Int} : comB x y w h x' y' w' h' = false ↔ minI (x + w) (x' + w') - maxI x x' < 1 ∨ minI (y + h) (y' + h') - maxI y y' < 1 := by
  rw [← Bool.not_eq_true, comB_iff]; omega

end Go.Proofs.Ytmbiohopcfglcaa

/- HashesMatch: Hash, Unit and Signed answer as the references do; units are from 0 to below 1, signed ones from -1. -/
namespace Go.Proofs.Ytmbiohopcfglcaa
open Go.RowKit Fl
set_option linter.unusedVariables false

theorem unit_cmp {h : Int} (h0 : 0 ≤ h) (h1 : h < 4294967296) : (FloatKind.f32.format.order (unitW h) 0 == some .gt || FloatKind.f32.format.order (unitW h) 0 == some .eq) = true ∧ (FloatKind.f32.format.order (unitW h) 1065353216 == some .lt) = true := by
  obtain ⟨a, v, a0, a1⟩ := unit_in h0 h1
  rw [show FloatKind.f32.format = Ieee.single from rfl]
  exact ⟨by rw [geq_val v vS_zero]; simpa using a0, by rw [lss_val v vS_one]; simpa using a1⟩
theorem sgn_cmp {h : Int} (h0 : 0 ≤ h) (h1 : h < 4294967296) : (FloatKind.f32.format.order (sgnW h) 3212836864 == some .gt || FloatKind.f32.format.order (sgnW h) 3212836864 == some .eq) = true ∧ (FloatKind.f32.format.order (sgnW h) 1065353216 == some .lt) = true := by
  obtain ⟨a, v, a0, a1⟩ := sgn_in h0 h1
  rw [show FloatKind.f32.format = Ieee.single from rfl]
  exact ⟨by rw [geq_val v vS_mone]; simpa using a0, by rw [lss_val v vS_one]; simpa using a1⟩

end Go.Proofs.Ytmbiohopcfglcaa

/- BrushesMatch: CheckBrush, Weight, Stamp and Box answer as the references do; weights lie from 0 to 1, and are 0 outside of the box. -/
namespace Go.Proofs.Ytmbiohopcfglcaa
open Go.RowKit Fl
set_option linter.unusedVariables false

theorem al_below (w : World) (o : Obj) : Below w.heap.size w (w.alloc o) := (Below.refl _ _).alloc (Nat.le_refl _) o

/-- What the law asks of a weight V, its error E and a box, behind the brush's error er. -/
def BruSaid (k X Y R : Int) (h : Nat) (x y er : Int) (V : Nat) (E q1 q2 q3 q4 : Int) : Prop :=
  (er ≠ 0 ∧ E = er ∧ V = 0 ∧ q1 = 0 ∧ q2 = 0 ∧ q3 = 0 ∧ q4 = 0) ∨
  (er = 0 ∧ E = 5 ∧ V = 0 ∧ (x < -4194304 ∨ (-4194304 ≤ x ∧ 4194304 < x) ∨ (-4194304 ≤ x ∧ x ≤ 4194304 ∧ y < -4194304) ∨ (-4194304 ≤ x ∧ x ≤ 4194304 ∧ -4194304 ≤ y ∧ 4194304 < y))) ∨
  (er = 0 ∧ E = 0 ∧ V = weiW k (sqD x y X Y) R ∧ BruOk k X Y R h ∧ -4194304 ≤ x ∧ x ≤ 4194304 ∧ -4194304 ≤ y ∧ y ≤ 4194304 ∧ q1 = X - R + 1 ∧ q2 = Y - R + 1 ∧ q3 = 2 * R - 1 ∧ q4 = 2 * R - 1)

theorem bru_said (k X Y R : Int) (h : Nat) (x y : Int) : ∃ q1 q2 q3 q4, boxR k X Y R h = reg q1 q2 q3 q4 ∧ BruSaid k X Y R h x y (bruE k X Y R h) (weiV k X Y R h x y) (weiE k X Y R h x y) q1 q2 q3 q4 := by
  unfold boxR weiV weiE
  by_cases c : bruE k X Y R h = 0
  · have K := bru_ok c
    rw [if_pos c]
    refine ⟨_, _, _, _, rfl, ?_⟩
    rw [if_pos c]
    rcases plcE_cases x y with d | d
    · obtain ⟨p1, p2, p3, p4⟩ := plc_ok d
      rw [d, if_pos rfl, c]
      exact .inr (.inr ⟨rfl, rfl, rfl, K, p1, p2, p3, p4, rfl, rfl, rfl, rfl⟩)
    · have o : ¬ (-4194304 ≤ x ∧ x ≤ 4194304 ∧ -4194304 ≤ y ∧ y ≤ 4194304) := by
        intro q
        unfold plcE at d
        rw [if_pos ⟨withinB_iff.2 ⟨q.1, q.2.1⟩, withinB_iff.2 ⟨q.2.2.1, q.2.2.2⟩⟩] at d
        cases d
      rw [d, if_neg (by decide), c]
      exact .inr (.inl ⟨rfl, rfl, rfl, by omega⟩)
  · rw [if_neg c]
    refine ⟨0, 0, 0, 0, rfl, ?_⟩
    rw [if_neg c, if_neg c]
    exact .inl ⟨c, rfl, rfl, rfl, rfl, rfl, rfl⟩

theorem sq_far {d R : Int} (r1 : 1 ≤ R) (h : d ≤ -R ∨ R ≤ d) : R * R ≤ d * d := by
  rcases h with h | h
  · have := Int.mul_le_mul (show R ≤ -d by omega) (show R ≤ -d by omega) (by omega) (by omega)
    rwa [Int.neg_mul_neg] at this
  · exact Int.mul_le_mul h h (by omega) (by omega)

/-- Outside of its box a brush weighs nothing. -/
theorem wei_out {k X Y R : Int} {h : Nat} {x y : Int} (K : BruOk k X Y R h) (o : insideB x y 1 1 (X - R + 1) (Y - R + 1) (2 * R - 1) (2 * R - 1) = false) : weiW k (sqD x y X Y) R = 0 := by
  have o' : ¬ (X - R + 1 ≤ x ∧ Y - R + 1 ≤ y ∧ x + 1 ≤ X - R + 1 + (2 * R - 1) ∧ y + 1 ≤ Y - R + 1 + (2 * R - 1)) := by
    intro q
    have := insideB_iff.2 q
    rw [this] at o; cases o
  have r1 := K.r1
  have sq : ∀ d : Int, 0 ≤ d * d := fun d => by rw [← Int.natAbs_mul_self' d]; exact Int.mul_nonneg (Int.natCast_nonneg _) (Int.natCast_nonneg _)
  have a := sq (x - X)
  have b := sq (y - Y)
  unfold weiW
  rw [if_pos]
  unfold sqD
  by_cases c : x - X ≤ -R ∨ R ≤ x - X
  · have := sq_far r1 c; omega
  · have := sq_far (d := y - Y) r1 (by omega); omega

set_option maxHeartbeats 8000000 in
set_option maxRecDepth 100000 in
theorem brushesMatch_any (k X' Y' R : Int) (h : Nat) (X0 Y0 W0 H0 : Int) (sl : Value) (x y : Int) (w : World) (hl : h < 4294967296)
    (hfit : ∀ W', Below w.heap.size w W' → Calls Try.prog 19 #[fldV X0 Y0 W0 H0 sl] W' (FitPost W')) :
    Calls Try.prog 3 #[bru k X' Y' R h, fldV X0 Y0 W0 H0 sl, .int .i64 x, .int .i64 y] w fun e w' => e = .returned (.bool true) ∧ Below w.heap.size w w' := by
  have HF := Lib.hid hfit
  have CR := Lib.hid (fun w => refCheckBrush_any k X' Y' R h hl w)
  have CB := Lib.hid (fun w => checkBrush_any k X' Y' R h w)
  have WX := Lib.hid (fun w => weightX_any k X' Y' R h x y w)
  have BX := Lib.hid (fun w => box_any k X' Y' R h w)
  have SP := Lib.hid (fun (X Y : Int) (W H n b : Nat) (v : Nat → Nat) W' h0 hnn hf hv => stamp_any X Y W H n b n v k X' Y' R h W' h0 hnn hf hv)
  have SR := Lib.hid (fun (X Y : Int) (W H n b : Nat) (v : Nat → Nat) W' h0 hnn hf hv => rstamp_any X Y W H n b n v k X' Y' R h W' h0 hnn hf hv hl)
  obtain ⟨q1, q2, q3, q4, hq, hsaid⟩ := bru_said k X' Y' R h x y
  rw [hq] at BX
  have SA := Lib.hid hsaid
  generalize bruE k X' Y' R h = er at *
  generalize weiV k X' Y' R h x y = V at *
  generalize weiE k X' Y' R h x y = E at *
  clear hfit hq hsaid
  go_enter Try.func3, Try.ntmps3
  go_wp2_with (first | (go_at_call 14; refine (landed_any _).mono ?_; rintro e w1 ⟨rfl, hb1⟩; have HB1 := Lib.hid (blkStay (b := w.heap.size) (o := bruObj k X' Y' R h) (by ((simp only [heap_alloc_get, heap_size_alloc, if_true]) <;> ((repeat' split) <;> first | rfl | omega))) hb1); have HA1 := Lib.hid (blkStay (b := w.heap.size + 1) (o := fldO X0 Y0 W0 H0 sl) (by ((simp only [heap_alloc_get, heap_size_alloc, if_true]) <;> ((repeat' split) <;> first | rfl | omega))) hb1); have hB1 : Below w.heap.size w w1 := Below.trans (by repeat (first | exact Below.refl _ _ | refine Below.alloc ?_ (by first | omega | (simp; done) | (simp; omega)) _ | refine Below.setCell ?_ (by first | omega | (simp; done) | (simp; omega)) _ | refine Below.drew ?_)) (Below.mono hb1 (by first | omega | (simp; done) | (simp; omega))); clear hb1; obtain ⟨cB, fB, zB⟩ := blkC HB1.out; obtain ⟨cA, fA, zA⟩ := blkC HA1.out) | (go_at_call 15; refine (CR.out _).mono ?_; rintro e w2 ⟨rfl, hb2⟩; clear cB fB zB cA fA zA; have HB2 := Lib.hid (blkStay HB1.out hb2); have HA2 := Lib.hid (blkStay HA1.out hb2); have hB2 := hB1.trans (hb2.mono hB1.size); clear HB1 HA1 hB1; clear hb2; obtain ⟨cB, fB, zB⟩ := blkC HB2.out; obtain ⟨cA, fA, zA⟩ := blkC HA2.out) | (go_at_call 16; refine (CB.out _).mono ?_; rintro e w3 ⟨rfl, hb3⟩; clear cB fB zB cA fA zA; have HB3 := Lib.hid (blkStay HB2.out hb3); have HA3 := Lib.hid (blkStay HA2.out hb3); have hB3 := hB2.trans (hb3.mono hB2.size); clear HB2 HA2 hB2; clear hb3; obtain ⟨cB, fB, zB⟩ := blkC HB3.out; obtain ⟨cA, fA, zA⟩ := blkC HA3.out) | (go_at_call 17; refine (WX.out _).mono ?_; rintro e w4 ⟨rfl, hb4⟩; clear cB fB zB cA fA zA; have HB4 := Lib.hid (blkStay HB3.out hb4); have HA4 := Lib.hid (blkStay HA3.out hb4); have hB4 := hB3.trans (hb4.mono hB3.size); clear HB3 HA3 hB3; clear hb4; obtain ⟨cB, fB, zB⟩ := blkC HB4.out; obtain ⟨cA, fA, zA⟩ := blkC HA4.out) | (go_at_call 18; refine (BX.out _).mono ?_; rintro e w5 ⟨rfl, hb5⟩; clear cB fB zB cA fA zA; have HB5 := Lib.hid (blkStay HB4.out hb5); have HA5 := Lib.hid (blkStay HA4.out hb5); have hB5 := hB4.trans (hb5.mono hB4.size); clear HB4 HA4 hB4; clear hb5; obtain ⟨cB, fB, zB⟩ := blkC HB5.out; obtain ⟨cA, fA, zA⟩ := blkC HA5.out))
  -- fit
  have hB5a := hB5.alloc hB5.size (regObj q1 q2 q3 q4)
  refine (HF.out _ hB5a).mono ?_
  rintro e w6 ⟨X, Y, W', H', b, n, rfl, x1, x2, y1, y2, u1, u2, h1, h2, hn, hn1, hn2, hlo, hrow, hb6⟩
  have HB6 := Lib.hid (blkStay ((heap_alloc_old w5 (regObj q1 q2 q3 q4) zB).trans HB5.out) hb6)
  have HA6 := Lib.hid (blkStay ((heap_alloc_old w5 (regObj q1 q2 q3 q4) zA).trans HA5.out) hb6)
  have HX6 := Lib.hid (blkStay (heap_alloc_new w5 (regObj q1 q2 q3 q4)) hb6)
  have hB6 : Below w.heap.size w w6 := hB5a.trans (hb6.mono hB5a.size)
  have z5 := hB5.size
  have z56 : w5.heap.size < w6.heap.size := by have := hb6.size; simp at this; omega
  obtain ⟨W, rfl⟩ : ∃ W : Nat, W' = W := ⟨W'.toNat, by omega⟩
  obtain ⟨H, rfl⟩ : ∃ H : Nat, H' = H := ⟨H'.toNat, by omega⟩
  obtain ⟨v, fv, wv, hv, bv⟩ := fit_fn hrow
  have h0 := fit_check x1 x2 y1 y2 u1 u2 h1 h2 hn hn2
  have hnn : n = W * H := by
    have : (n : Int) = ((W * H : Nat) : Int) := by rw [hn]; simp
    omega
  have S1 := Lib.hid (fun W' (hf : FlAt W' b 0 n v) => SP.out X Y W H n b v W' h0 hnn hf hv)
  have S2 := Lib.hid (fun W' (hf : FlAt W' b 0 n v) => SR.out X Y W H n b v W' h0 hnn hf hv)
  simp only [heap_size_alloc] at hlo
  have hbp : b ≠ w.heap.size + 1 := by omega
  generalize staF v k X' Y' R h X Y W = sF at *
  clear cB fB cA fA HB5 HA5 hB5 hB5a hb6 hrow hv x1 x2 y1 y2 u1 u2 h1 h2 hn h0 hnn SP SR CR CB WX BX
  obtain ⟨cA, fA, zA6⟩ := blkC HA6.out
  obtain ⟨cB, fB, zB6⟩ := blkC HB6.out
  have HA7 := Lib.hid (set5_self (.int .i64 X) (.int .i64 Y) (.int .i64 W) (.int .i64 H) (.slice (some ⟨b, 0, none⟩) n n) HA6.out)
  have HB7 := Lib.hid ((set5_heap w6 (w.heap.size + 1) w.heap.size (.int .i64 X) (.int .i64 Y) (.int .i64 W) (.int .i64 H) (.slice (some ⟨b, 0, none⟩) n n) (by omega)).trans HB6.out)
  have HX7 := Lib.hid ((set5_heap w6 (w.heap.size + 1) w5.heap.size (.int .i64 X) (.int .i64 Y) (.int .i64 W) (.int .i64 H) (.slice (some ⟨b, 0, none⟩) n n) (by omega)).trans HX6.out)
  have F7 := Lib.hid (flAt_congr fv (set5_heap w6 (w.heap.size + 1) b (.int .i64 X) (.int .i64 Y) (.int .i64 W) (.int .i64 H) (.slice (some ⟨b, 0, none⟩) n n) hbp))
  have hB7 := set5_below hB6 (w.heap.size + 1) (.int .i64 X) (.int .i64 Y) (.int .i64 W) (.int .i64 H) (.slice (some ⟨b, 0, none⟩) n n) (by omega)
  have hx := set5_size w6 (w.heap.size + 1) (.int .i64 X) (.int .i64 Y) (.int .i64 W) (.int .i64 H) (.slice (some ⟨b, 0, none⟩) n n)
  go_wp2_with fail
  refine (S1.out _ F7.out).mono ?_
  intro e w8 hp
  obtain ⟨x1, y1, u1, h1, p1, l1, g1, k1, rfl, r1, hb8⟩ := made_res hp
  have F8 := Lib.hid (flAt_congr F7.out (hb8.block b (by rw [hx]; exact bv)))
  have HA8 := Lib.hid (blkStay HA7.out hb8)
  have HB8 := Lib.hid (blkStay HB7.out hb8)
  have HX8 := Lib.hid (blkStay HX7.out hb8)
  have hB8 := hB7.trans (hb8.mono hB7.size)
  have bv8 : b < w8.heap.size := by have := hb8.size; rw [hx] at this; omega
  have z58 : w5.heap.size < w8.heap.size := by have := hb8.size; rw [hx] at this; omega
  clear hp
  rw [hx] at r1
  clear hb8 HA7 HB7 HX7 F7 hB7 hx cA fA zA6 cB fB zB6 HA6 HB6 HX6 hB6 hlo fv bv z56 hbp
  obtain ⟨cA, fA, zA8⟩ := blkC HA8.out
  obtain ⟨cB, fB, zB8⟩ := blkC HB8.out
  -- the reference's Stamp
  have hb9 := al_below w8 (fldO x1 y1 u1 h1 (.slice p1 l1 g1))
  have F9 := Lib.hid (flAt_congr F8.out (heap_alloc_old w8 (fldO x1 y1 u1 h1 (.slice p1 l1 g1)) bv8))
  have HA9 := Lib.hid ((heap_alloc_old w8 (fldO x1 y1 u1 h1 (.slice p1 l1 g1)) zA8).trans HA8.out)
  have HB9 := Lib.hid ((heap_alloc_old w8 (fldO x1 y1 u1 h1 (.slice p1 l1 g1)) zB8).trans HB8.out)
  have HX9 := Lib.hid ((heap_alloc_old w8 (fldO x1 y1 u1 h1 (.slice p1 l1 g1)) z58).trans HX8.out)
  have HQ9 := Lib.hid (heap_alloc_new w8 (fldO x1 y1 u1 h1 (.slice p1 l1 g1)))
  have R9 := Lib.hid (r1.stay hb9)
  go_wp2_with fail
  refine (S2.out _ F9.out).mono ?_
  intro e w10 hp
  obtain ⟨x2, y2, u2, h2, p2, l2, g2, k2, rfl, r2, hb10⟩ := made_res hp
  have hb810 := hb9.trans (hb10.mono hb9.size)
  have HB10 := Lib.hid (blkStay HB9.out hb10)
  have HX10 := Lib.hid (blkStay HX9.out hb10)
  have HQ10 := Lib.hid (blkStay HQ9.out hb10)
  have R10 := Lib.hid (R9.out.stay hb10)
  have hB10 := hB8.trans (hb810.mono hB8.size)
  clear r1 R9 HQ9 HA9 HB9 HX9 F9 hb9 hb810 hp F8 HA8 HB8 HX8 hb10 cA fA cB fB
  obtain ⟨cB, fB, zB10⟩ := blkC HB10.out
  obtain ⟨cX, fX, zX10⟩ := blkC HX10.out
  obtain ⟨cQ, fQ, zQ10⟩ := blkC HQ10.out
  -- same
  have hb11 := al_below w10 (fldO x2 y2 u2 h2 (.slice p2 l2 g2))
  have HB11 := Lib.hid ((heap_alloc_old w10 (fldO x2 y2 u2 h2 (.slice p2 l2 g2)) zB10).trans HB10.out)
  have HX11 := Lib.hid ((heap_alloc_old w10 (fldO x2 y2 u2 h2 (.slice p2 l2 g2)) zX10).trans HX10.out)
  have R11 := Lib.hid (R10.out.stay hb11)
  have T11 := Lib.hid (r2.stay hb11)
  go_wp2_with fail
  refine (same_res hn1 (by omega) R11.out T11.out).mono ?_
  rintro e w12 ⟨rfl, hb12⟩
  have HB12 := Lib.hid (blkStay HB11.out hb12)
  have HX12 := Lib.hid (blkStay HX11.out hb12)
  have hB12 : Below w.heap.size w w12 := (hB10.trans (hb11.mono hB10.size)).trans (hb12.mono (by have := hB10.size; have := hb11.size; omega))
  clear hb11 hb12 R11 T11 R10 r2 HB11 HX11 HB10 HX10 HQ10 hB10 cB fB zB10 cX fX zX10 cQ fQ zQ10 S1 S2 hB8 HF bv8 z58 zA8 zB8 wv hn1 hn2
  obtain ⟨cB, fB, zB12⟩ := blkC HB12.out
  obtain ⟨cX, fX, zX12⟩ := blkC HX12.out
  have z0 : (FloatKind.f32.format.order 0 0 == some .eq) = true := by rw [f32f, eql_val vS_zero vS_zero]; simp
  have hsaid := SA.out
  clear SA
  rcases hsaid with ⟨hne, rfl, rfl, rfl, rfl, rfl, rfl⟩ | ⟨rfl, rfl, rfl, hout⟩ | ⟨rfl, rfl, rfl, K, i1, i2, i3, i4, rfl, rfl, rfl, rfl⟩
  · have hzb : (E != 0) = true := by simp [hne]
    clear hne
    go_wp2
    go_ret
    exact ⟨rfl, hB12⟩
  · rcases hout with o | ⟨o, o'⟩ | ⟨o, o', o''⟩ | ⟨o, o', o'', o3⟩
    all_goals
      go_wp2
      go_ret
      exact ⟨rfl, hB12⟩
  · have n0 : 0 ≤ sqD x y X' Y' := by
      have sq : ∀ d : Int, 0 ≤ d * d := fun d => by rw [← Int.natAbs_mul_self' d]; exact Int.mul_nonneg (Int.natCast_nonneg _) (Int.natCast_nonneg _)
      have := sq (x - X')
      have := sq (y - Y')
      unfold sqD; omega
    obtain ⟨d, hd, d0, d1⟩ := wei_in (k := k) n0 K.r1 K.r2
    have RW := Lib.hid (fun w => rweight_any k X' Y' R h x y w K.k1 K.k3 K.X1 K.X2 K.Y1 K.Y2 K.r1 K.r2 i1 i2 i3 i4)
    have BB := Lib.hid (fun w => brushBox_any k X' Y' R h w K)
    have hk1 := K.X1
    have hk2 := K.X2
    have hk3 := K.Y1
    have hk4 := K.Y2
    have hk5 := K.r1
    have hk6 := K.r2
    have IN := Lib.hid (fun w => refInside_any x y 1 1 (X' - R + 1) (Y' - R + 1) (2 * R - 1) (2 * R - 1) w (by omega) (by omega) (by omega) (by omega) (by omega) (by omega) (by omega) (by omega) (by omega) (by omega) (by omega) (by omega) (by omega) (by omega) (by omega) (by omega))
    have hge : (FloatKind.f32.format.order (weiW k (sqD x y X' Y') R) 0 == some .gt || FloatKind.f32.format.order (weiW k (sqD x y X' Y') R) 0 == some .eq) = true := by rw [f32f, geq_val hd vS_zero]; simpa using d0
    have hle : (FloatKind.f32.format.order (weiW k (sqD x y X' Y') R) 1065353216 == some .lt || FloatKind.f32.format.order (weiW k (sqD x y X' Y') R) 1065353216 == some .eq) = true := by rw [f32f, leq_val hd vS_one]; simpa using d1
    have BS := Lib.hid (fun w => bits_self (weiW k (sqD x y X' Y') R) w)
    cases hin : insideB x y 1 1 (X' - R + 1) (Y' - R + 1) (2 * R - 1) (2 * R - 1) with
    | true =>
      rw [hin] at IN
      generalize weiW k (sqD x y X' Y') R = V at *
      clear hin n0 hd d0 d1 K
      go_wp2_with (first | (go_at_call 23; refine (IN.out _).mono ?_; rintro e w13 ⟨rfl, hb13⟩; have HB13 := Lib.hid (blkStay HB12.out hb13); have HX13 := Lib.hid (blkStay HX12.out hb13); have hB13 := hB12.trans (hb13.mono hB12.size); clear hb13 cB fB zB12 cX fX zX12; obtain ⟨cB, fB, zB13⟩ := blkC HB13.out; obtain ⟨cX, fX, zX13⟩ := blkC HX13.out))
      (first | go_region_held (fun w' => (∀ o, w'.cell? ⟨w.heap.size, o, none⟩ = #[.int .i64 k, .int .i64 X', .int .i64 Y', .int .i64 R, .float .f32 h][o]?) ∧ (∀ o, w'.cell? ⟨w5.heap.size, o, none⟩ = #[.int .i64 (X' - R + 1), .int .i64 (Y' - R + 1), .int .i64 (2 * R - 1), .int .i64 (2 * R - 1)][o]?) ∧ Below w13.heap.size w13 w') (first | exact ⟨(blkC (blkStay HB13.out hb9)).1, (blkC (blkStay HX13.out hb9)).1, hb9⟩ | exact ⟨(blkC (blkStay HB13.out (by repeat (first | exact Below.refl _ _ | refine Below.alloc ?_ (by first | omega | (simp; done) | (simp; omega)) _ | refine Below.setCell ?_ (by first | omega | (simp; done) | (simp; omega)) _ | refine Below.drew ?_)))).1, (blkC (blkStay HX13.out (by repeat (first | exact Below.refl _ _ | refine Below.alloc ?_ (by first | omega | (simp; done) | (simp; omega)) _ | refine Below.setCell ?_ (by first | omega | (simp; done) | (simp; omega)) _ | refine Below.drew ?_)))).1, (by repeat (first | exact Below.refl _ _ | refine Below.alloc ?_ (by first | omega | (simp; done) | (simp; omega)) _ | refine Below.setCell ?_ (by first | omega | (simp; done) | (simp; omega)) _ | refine Below.drew ?_))⟩) (first | (go_at_call 25; (with_reducible refine Calls.mono (RW.out _) ?_); rintro e w' ⟨rfl, hb8⟩; have hb9 : Below w13.heap.size w13 w' := Below.trans (by first | exact hb9 | exact hb9.drew | exact (by repeat (first | exact Below.refl _ _ | refine Below.alloc ?_ (by first | omega | (simp; done) | (simp; omega)) _ | refine Below.setCell ?_ (by first | omega | (simp; done) | (simp; omega)) _ | refine Below.drew ?_))) (Below.mono hb8 (by first | exact Nat.le_refl _ | (simp; done) | (simp; omega) | exact hb9.size)); clear hb8) | (go_at_call 26; (with_reducible refine Calls.mono (BB.out _) ?_); rintro e w' ⟨rfl, hb8⟩; have hb9 : Below w13.heap.size w13 w' := Below.trans (by first | exact hb9 | exact hb9.drew | exact (by repeat (first | exact Below.refl _ _ | refine Below.alloc ?_ (by first | omega | (simp; done) | (simp; omega)) _ | refine Below.setCell ?_ (by first | omega | (simp; done) | (simp; omega)) _ | refine Below.drew ?_))) (Below.mono hb8 (by first | exact hb9.size | exact Nat.le_refl _ | (simp; done) | (simp; omega))); clear hb8) | (go_at_call 24; refine (BS.out _).mono ?_; rintro e w' ⟨rfl, rfl⟩)) | fail)
      rename_i wh hHeld
      go_wp2
      go_ret
      exact ⟨rfl, hB13.trans (hHeld.2.2.mono hB13.size)⟩
    | false =>
      have hV := wei_out K hin
      rw [hin] at IN
      have hz : (FloatKind.f32.format.order (weiW k (sqD x y X' Y') R) 0 == some .eq) = true := by rw [hV]; exact z0
      generalize weiW k (sqD x y X' Y') R = V at *
      clear hin n0 hd d0 d1 K hV
      go_wp2_with (first | (go_at_call 23; refine (IN.out _).mono ?_; rintro e w13 ⟨rfl, hb13⟩; have HB13 := Lib.hid (blkStay HB12.out hb13); have HX13 := Lib.hid (blkStay HX12.out hb13); have hB13 := hB12.trans (hb13.mono hB12.size); clear hb13 cB fB zB12 cX fX zX12; obtain ⟨cB, fB, zB13⟩ := blkC HB13.out; obtain ⟨cX, fX, zX13⟩ := blkC HX13.out))
      go_region_held3 (fun w' => (∀ o, w'.cell? ⟨w.heap.size, o, none⟩ = #[.int .i64 k, .int .i64 X', .int .i64 Y', .int .i64 R, .float .f32 h][o]?) ∧ (∀ o, w'.cell? ⟨w5.heap.size, o, none⟩ = #[.int .i64 (X' - R + 1), .int .i64 (Y' - R + 1), .int .i64 (2 * R - 1), .int .i64 (2 * R - 1)][o]?) ∧ Below w13.heap.size w13 w') (first | exact ⟨(blkC (blkStay HB13.out hb9)).1, (blkC (blkStay HX13.out hb9)).1, hb9⟩ | exact ⟨(blkC (blkStay HB13.out (by repeat (first | exact Below.refl _ _ | refine Below.alloc ?_ (by first | omega | (simp; done) | (simp; omega)) _ | refine Below.setCell ?_ (by first | omega | (simp; done) | (simp; omega)) _ | refine Below.drew ?_)))).1, (blkC (blkStay HX13.out (by repeat (first | exact Below.refl _ _ | refine Below.alloc ?_ (by first | omega | (simp; done) | (simp; omega)) _ | refine Below.setCell ?_ (by first | omega | (simp; done) | (simp; omega)) _ | refine Below.drew ?_)))).1, (by repeat (first | exact Below.refl _ _ | refine Below.alloc ?_ (by first | omega | (simp; done) | (simp; omega)) _ | refine Below.setCell ?_ (by first | omega | (simp; done) | (simp; omega)) _ | refine Below.drew ?_))⟩) (first | (go_at_call 25; (with_reducible refine Calls.mono (RW.out _) ?_); rintro e w' ⟨rfl, hb8⟩; have hb9 : Below w13.heap.size w13 w' := Below.trans (by first | exact hb9 | exact hb9.drew | exact (by repeat (first | exact Below.refl _ _ | refine Below.alloc ?_ (by first | omega | (simp; done) | (simp; omega)) _ | refine Below.setCell ?_ (by first | omega | (simp; done) | (simp; omega)) _ | refine Below.drew ?_))) (Below.mono hb8 (by first | exact Nat.le_refl _ | (simp; done) | (simp; omega) | exact hb9.size)); clear hb8) | (go_at_call 26; (with_reducible refine Calls.mono (BB.out _) ?_); rintro e w' ⟨rfl, hb8⟩; have hb9 : Below w13.heap.size w13 w' := Below.trans (by first | exact hb9 | exact hb9.drew | exact (by repeat (first | exact Below.refl _ _ | refine Below.alloc ?_ (by first | omega | (simp; done) | (simp; omega)) _ | refine Below.setCell ?_ (by first | omega | (simp; done) | (simp; omega)) _ | refine Below.drew ?_))) (Below.mono hb8 (by first | exact hb9.size | exact Nat.le_refl _ | (simp; done) | (simp; omega))); clear hb8) | (go_at_call 24; refine (BS.out _).mono ?_; rintro e w' ⟨rfl, rfl⟩))
      rename_i wh hHeld
      go_wp2
      go_ret
      exact ⟨rfl, hB13.trans (hHeld.2.2.mono hB13.size)⟩
end Go.Proofs.Ytmbiohopcfglcaa

/- A field that came in, opened: four integers, and a slice of singles that is empty or known cell by cell. -/
namespace Go.Proofs.Ytmbiohopcfglcaa
open Go.ChangeShapes Go.WideShapes Go.ChangeAt Go.RowKit Go.Joins Fl

section
variable {H : Type} {enc : TypeId × Value → H} {w : World} {base : Nat} {spare : Nat → Bool} {held : Bool}

theorem trod_f32 {P : Program} {t : TypeId} {fuel : Nat} {v : Value} {y : DataW H × List MemPlace} (ht : P.underlying t = some (.float .f32)) (h : DataW.trod enc P w base spare held fuel t [v] = some y) : ∃ b, v = .float .f32 b ∧ b < 4294967296 := by
  cases fuel with
  | zero => simp [DataW.trod] at h
  | succ n =>
    unfold DataW.trod at h
    rw [ht] at h
    cases v <;> simp at h
    rename_i k b
    obtain ⟨⟨rfl, hw⟩, _⟩ := h
    exact ⟨b, rfl, by simpa [Lit.wf] using hw⟩

theorem array5 {α : Type} {cs : Array α} (h : cs.size = 5) : ∃ c0 c1 c2 c3 c4, cs = #[c0, c1, c2, c3, c4] := by
  obtain ⟨l⟩ := cs
  match l, h with
  | [c0, c1, c2, c3, c4], _ => exact ⟨c0, c1, c2, c3, c4, rfl⟩

theorem flAt_congr' {w w' : World} {b off n : Nat} {f : Nat → Nat} (h : FlAt w b off n f) (e : w'.heap[b]? = w.heap[b]?) : FlAt w' b off n f := fun i hi => by
  rw [← h i hi]; exact World.cell?_of_block (w := w) (a := ⟨b, off + i, none⟩) e

/-- What a slice of singles is: empty, or known cell by cell. -/
def SlF (w : World) (s : Value) : Prop :=
  (∃ a cap, s = .slice a 0 cap) ∨ ∃ b off len cap x, s = .slice (some ⟨b, off, none⟩) len cap ∧ 0 < len ∧ len ≤ 9223372036854775807 ∧ FlAt w b off len x ∧ wf32 len x

theorem open_singles {t e : TypeId} {fuel : Nat} {cs : List Value} {y : DataW H × List MemPlace} (ht : Try.prog.underlying t = some (.slice e)) (he : Try.prog.underlying e = some (.float .f32)) (hc : Try.prog.cellsOf e = 1)
    (h : DataW.trod enc Try.prog w base spare held fuel t cs = some y) : ∃ s, cs = [s] ∧ SlF w s := by
  rcases Go.Deep.open_slice1 ht hc h with ⟨rfl, _⟩ | ⟨a, len, cap, m, n, V, D, Pl, rfl, hb, hl, hm, hmm, _, hx⟩
  · exact ⟨_, rfl, .inl ⟨none, 0, rfl⟩⟩
  · refine ⟨_, rfl, ?_⟩
    rcases Nat.eq_zero_or_pos len with z | z
    · subst z; exact .inl ⟨_, _, rfl⟩
    · have hlm : len ≤ m := by rw [hmm]; split <;> omega
      have h0 := (hx 0 (by omega)).1
      obtain ⟨b, off, spot⟩ := a
      have hspot : spot = none := by simpa [Addr.add] using World.cell?_spot h0
      subst hspot
      have hv : ∀ i, i < len → ∃ x, V i = .float .f32 x ∧ x < 4294967296 := fun i hi => trod_f32 he (hx i (by omega)).2
      refine .inr ⟨b, off, len, cap, fun i => match V i with | .float _ x => x | _ => 0, rfl, z, ?_, fun i hi => ?_, fun i hi => ?_⟩
      · exact Nat.le_trans hl (Nat.le_trans hm (by decide))
      · have h1 := (hx i (by omega)).1
        obtain ⟨x, e1, _⟩ := hv i hi
        rw [← Go.WideShapes.add_plain, h1]
        simp only [e1]
      · obtain ⟨x, e1, e2⟩ := hv i hi
        simp only [e1]; exact e2

theorem cellsF : Try.prog.cellsOf 29 = 5 := by kernel_rfl
theorem cellsR : Try.prog.cellsOf 26 = 4 := by kernel_rfl
theorem cellsS : Try.prog.cellsOf 27 = 1 := by kernel_rfl
theorem cells1 : Try.prog.cellsOf 22 = 1 := by kernel_rfl
theorem cellsI : Try.prog.cellsOf 3 = 1 := by kernel_rfl

set_option maxRecDepth 100000 in
theorem open_field {r : Reach} {b0 : Nat} {v : Value} {d : DataW H} {p : List MemPlace} (hv : Value.okWide Try.prog w r b0 29 v) (h : DataW.Trod enc Try.prog w base spare held 29 v d p) :
    ∃ X Y W' H' : Int, ∃ s, v = fldV X Y W' H' s ∧ SlF w s := by
  obtain ⟨cs, rfl, hsz⟩ := okWide_struct Try.underlying29 hv
  obtain ⟨c0, c1, c2, c3, c4, rfl⟩ := array5 (hsz.trans cellsF)
  obtain ⟨fuel, hf⟩ := h
  obtain ⟨y0, y1, n, _, _, h0, h1⟩ := trod_struct2 Try.underlying29 hf
  rw [cellsR] at h0
  rw [cellsS] at h1
  obtain ⟨s, e4, hs⟩ := open_singles Try.underlying27 Try.underlying22 cells1 h1
  obtain ⟨z0, z1, z2, z3, n2, _, _, g0, g1, g2, g3⟩ := trod_struct4 Try.underlying26 h0
  rw [cellsI] at g0 g1 g2 g3
  obtain ⟨x0, e0, _, _⟩ := DataW.trod_int Try.underlying3 g0
  obtain ⟨x1, e1, _, _⟩ := DataW.trod_int Try.underlying3 g1
  obtain ⟨x2, e2, _, _⟩ := DataW.trod_int Try.underlying3 g2
  obtain ⟨x3, e3, _, _⟩ := DataW.trod_int Try.underlying3 g3
  simp [Value.cells] at e0 e1 e2 e3 e4
  subst e0 e1 e2 e3 e4
  exact ⟨x0, x1, x2, x3, _, rfl, hs⟩
end

theorem SlF.stay {w w' : World} {s : Value} (h : SlF w s) (hb : Below w.heap.size w w') : SlF w' s := by
  rcases h with h | ⟨b, off, len, cap, x, rfl, h1, h2, h3, h4⟩
  · exact .inl h
  · exact .inr ⟨b, off, len, cap, x, rfl, h1, h2, flAt_congr' h3 (hb.block _ (World.block_lt_of_cell? w _ (h3 0 h1))), h4⟩

/-- fit, of whatever slice. -/
theorem fit_any {X Y W H : Int} {s : Value} {w : World} (h : SlF w s) : Calls Try.prog 19 #[fldV X Y W H s] w (FitPost w) := by
  rcases h with ⟨a, cap, rfl⟩ | ⟨b, off, len, cap, x, rfl, h1, h2, h3, h4⟩
  · exact fit_none X Y W H a cap w
  · exact fit_some X Y W H b off len cap x w h1 h2 h3 h4

theorem laidOut : laidOutB Try.prog = true := by kernel_rfl
end Go.Proofs.Ytmbiohopcfglcaa

/- A brush that came in, opened: four integers and a single. -/
namespace Go.Proofs.Ytmbiohopcfglcaa
open Go.ChangeShapes Go.WideShapes Go.ChangeAt Go.RowKit Go.Joins Fl

section
variable {H : Type} {enc : TypeId × Value → H} {w : World} {base : Nat} {spare : Nat → Bool} {held : Bool}

theorem trod_struct5 {P : Program} {t : TypeId} {f0 f1 f2 f3 f4 : Go.Field} {fuel : Nat} {cs : List Value} {x : DataW H × List MemPlace} (ht : P.underlying t = some (.struct #[f0, f1, f2, f3, f4])) (h : DataW.trod enc P w base spare held fuel t cs = some x) :
    ∃ y0 y1 y2 y3 y4 n, DataW.trod enc P w base spare held n f0.type ((cs.drop f0.offset).take (P.cellsOf f0.type)) = some y0 ∧ DataW.trod enc P w base spare held n f1.type ((cs.drop f1.offset).take (P.cellsOf f1.type)) = some y1 ∧
      DataW.trod enc P w base spare held n f2.type ((cs.drop f2.offset).take (P.cellsOf f2.type)) = some y2 ∧ DataW.trod enc P w base spare held n f3.type ((cs.drop f3.offset).take (P.cellsOf f3.type)) = some y3 ∧
      DataW.trod enc P w base spare held n f4.type ((cs.drop f4.offset).take (P.cellsOf f4.type)) = some y4 := by
  obtain ⟨xs, n, _, rfl, hl, hlen, hf⟩ := DataW.trod_struct ht h
  match xs, hlen with
  | [y0, y1, y2, y3, y4], _ => exact ⟨y0, y1, y2, y3, y4, n, by simpa using hf 0 f0 rfl, by simpa using hf 1 f1 rfl, by simpa using hf 2 f2 rfl, by simpa using hf 3 f3 rfl, by simpa using hf 4 f4 rfl⟩

theorem cellsB : Try.prog.cellsOf 24 = 5 := by kernel_rfl

set_option maxRecDepth 100000 in
theorem open_brush {r : Reach} {b0 : Nat} {v : Value} {d : DataW H} {p : List MemPlace} (hv : Value.okWide Try.prog w r b0 24 v) (h : DataW.Trod enc Try.prog w base spare held 24 v d p) :
    ∃ k X Y R : Int, ∃ s : Nat, v = bru k X Y R s ∧ s < 4294967296 := by
  obtain ⟨cs, rfl, hsz⟩ := okWide_struct Try.underlying24 hv
  obtain ⟨c0, c1, c2, c3, c4, rfl⟩ := array5 (hsz.trans cellsB)
  obtain ⟨fuel, hf⟩ := h
  obtain ⟨y0, y1, y2, y3, y4, n, g0, g1, g2, g3, g4⟩ := trod_struct5 Try.underlying24 hf
  rw [cellsI] at g0 g1 g2 g3
  rw [cells1] at g4
  obtain ⟨x0, e0, _, _⟩ := DataW.trod_int Try.underlying3 g0
  obtain ⟨x1, e1, _, _⟩ := DataW.trod_int Try.underlying3 g1
  obtain ⟨x2, e2, _, _⟩ := DataW.trod_int Try.underlying3 g2
  obtain ⟨x3, e3, _, _⟩ := DataW.trod_int Try.underlying3 g3
  have e4 : ∃ s, c4 = .float .f32 s ∧ s < 4294967296 := by
    have e : List.take 1 (List.drop 4 (Value.agg #[c0, c1, c2, c3, c4]).cells.toList) = [c4] := by simp [Value.cells]
    simp only [e] at g4
    exact trod_f32 Try.underlying22 g4
  obtain ⟨s, rfl, ls⟩ := e4
  simp [Value.cells] at e0 e1 e2 e3
  subst e0 e1 e2 e3
  exact ⟨x0, x1, x2, x3, s, rfl, ls⟩
end
end Go.Proofs.Ytmbiohopcfglcaa

/- BrushesMatch, for every brush, every field and every place: CheckBrush, Weight, Stamp and Box answer as the references do; weights lie from 0 to 1, and are 0 outside of the box. No condition. -/
namespace Go.Proofs.Ytmbiohopcfglcaa.brushesMatch
open Go.ChangeShapes Go.WideShapes Go.ChangeAt Go.RowKit Go.Joins
set_option linter.unusedVariables false

theorem own : ownKnob Try.prog.godebug = none := by kernel_rfl

set_option maxRecDepth 100000 in
theorem lifted (os : Os) (started : os.Started) (H : Type) (enc : TypeId × Value → H) :
    ReturnsInHanded {} Try.checked os 3 .any (Rows.brushesMatchSpec.pre6 enc Try.prog Try.f3 Rows.brushesMatchRow.domain false) (Rows.brushesMatchSpec.post enc Try.prog Try.f3 false true false false) := by
  refine returnsInHanded_of_change (C := Try.checked) own started (by kernel_rfl) Try.func3
    (ChangeSpec.witness6 (enc := enc) (C := Try.checked) false ⟨#[], #[bru 0 0 0 0 0, fldV 0 0 0 0 (.slice none 0 0), .int .i64 0, .int .i64 0], []⟩ 8 (by kernel_rfl) (by kernel_rfl) (by kernel_rfl) (by kernel_rfl)) ?_
  intro W base args ds gs before hval0 hW hcnd _
  have hval : ∀ (j : Nat) t v, Try.f3.params[j]? = some t → args[j]? = some v → Value.okWide Try.prog W .any base t v := hval0
  have hW' := hW
  have hplt : ∀ x ∈ before, x.block < W.heap.size := fun x hx => by simpa using hW'.lt x hx
  obtain ⟨p, q, hA0, hV, rfl, hfz, hnd⟩ := hW
  have hA : DataW.TrodAll enc Try.prog W 0 (fun _ => true) true Try.f3.params.toList args.toList ds p := hA0
  rw [Try.params3] at hA hval
  obtain ⟨v0, vs0, d0, ds0, p0, q0, hargs, rfl, rfl, h0, r0⟩ := trodAll_cons hA
  obtain ⟨v1, vs1, d1, ds1, p1, q1, rfl, rfl, rfl, h1, r1⟩ := trodAll_cons r0
  obtain ⟨v2, vs2, d2, ds2, p2, q2, rfl, rfl, rfl, h2, r2⟩ := trodAll_cons r1
  obtain ⟨v3, vs3, d3, ds3, p3, q3, rfl, rfl, rfl, h3, r3⟩ := trodAll_cons r2
  obtain ⟨rfl, rfl, rfl⟩ := trodAll_nil r3
  obtain rfl : args = #[v0, v1, v2, v3] := by cases args; simp_all
  obtain ⟨rfl, rfl⟩ := trodVars_none hV
  obtain ⟨k, X', Y', R, h, rfl, lh⟩ := open_brush (hval 0 24 v0 rfl rfl) h0
  obtain ⟨X, Y, W0, H0, s, rfl, hs⟩ := open_field (hval 1 29 v1 rfl rfl) h1
  obtain ⟨x, rfl, rfl, rfl, wx⟩ := open_int Try.underlying3 (hval 2 3 v2 rfl rfl) h2
  obtain ⟨y, rfl, rfl, rfl, wy⟩ := open_int Try.underlying3 (hval 3 3 v3 rfl rfl) h3
  have hlt1 : ∀ x ∈ p1, x.block < W.heap.size := fun x hx => hplt x (by simp [hx])
  have hlt : ∀ x ∈ p0, x.block < W.heap.size := fun x hx => hplt x (by simp [hx])
  clear hA0 hval0 hplt
  simp only [List.append_nil] at hW'
  refine (brushesMatch_any k X' Y' R h X Y W0 H0 s x y W lh (fun W' hb => fit_any (hs.stay hb))).mono fun e W' ⟨he, hb⟩ => ?_
  subst he
  exact ⟨_, rfl, _, _, _, [], _, [], hW', trodAll_cons_mk (shut_bool Try.underlying4 _) trodAll_mk0, trodAll_cons_mk (Below.trod laidOut (by kernel_rfl) (of_decide_eq_true (by kernel_rfl)) h0 hb hlt) (trodAll_cons_mk (Below.trod laidOut (by kernel_rfl) (of_decide_eq_true (by kernel_rfl)) h1 hb hlt1) (trodAll_cons_mk (shut_int Try.underlying3 wx) (trodAll_cons_mk (shut_int Try.underlying3 wy) trodAll_mk0))), rfl, hb.frame _, fun h => by cases h⟩

theorem over : Rows.brushesMatchRow.holds Try.pinned (OpenSpec.ofChange Rows.brushesMatchSpec) :=
  OpenClaim.holds_of_wide 3 Try.f3 rfl rfl rfl rfl rfl rfl rfl ⟨rfl, rfl, rfl, rfl, rfl⟩ rfl rfl rfl rfl rfl (by kernel_rfl) Try.func3 (by kernel_rfl)
    (of_decide_eq_true (by kernel_rfl)) (by unfold Func.isWrapper; rw [if_neg (of_decide_eq_false (by kernel_rfl))]; exact ⟨rfl, rfl⟩)
    (fun os started H enc _ => lifted os started H enc)

theorem proved : Rows.BrushesMatchSaid :=
  over
#print axioms proved
end Go.Proofs.Ytmbiohopcfglcaa.brushesMatch
