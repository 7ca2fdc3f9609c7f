/- Contracts: slices.Contains of the three kinds, CheckPlace, CheckBrush of both sides, the boxes. -/
import Derived.Test.YtncgcjeihihkfaaBru
import Derived.Test.YtncgcjeihihkfaaReg3
namespace Go.Proofs.Ytncgcjeihihkfaa
open Go.RowKit Fl
set_option linter.unusedVariables false

abbrev kindsObj : Obj := .cells #[.int .i64 1, .int .i64 2, .int .i64 3] 3

set_option maxHeartbeats 1000000 in
theorem kindIndex_any (b : Nat) (k : Int) (w : World) (h : w.heap[b]? = some kindsObj) :
    Calls Try.prog 199 #[.slice (some ⟨b, 0, none⟩) 3 3, .int .i64 k] w fun e w' => e = .returned (.int .i64 (if 1 ≤ k ∧ k ≤ 3 then k - 1 else -1)) ∧ w = w' := by
  obtain ⟨cB, fB, zB⟩ := blkC h
  clear h
  go_enter Try.func199, Try.ntmps199
  go_wp2
  go_loop [8] (fun i => ∃ j : Nat, j ≤ 3 ∧ i = .int .i64 j ∧ ∀ m : Nat, m < j → k ≠ (m : Int) + 1) (fun i => 3 - (intOf i).toNat)
  case atStart => exact ⟨0, by omega, rfl, fun m hm => by omega⟩
  case round =>
    obtain ⟨j, hj, rfl, hall⟩ := hrel
    have HA := Lib.hid hall
    clear hall
    have : j = 0 ∨ j = 1 ∨ j = 2 ∨ j = 3 := by omega
    rcases this with rfl | rfl | rfl | rfl
    · by_cases c : k = 1
      · subst c
        go_wp2
        go_ret
        exact ⟨rfl, rfl⟩
      · go_wp2
        go_round
        case rel => exact ⟨1, by omega, by go_num, fun m hm => by have : m = 0 := by omega
                                                                  subst this; simpa using c⟩
        case measure => simp [intOf]
    · by_cases c : k = 2
      · subst c
        go_wp2
        go_ret
        exact ⟨rfl, rfl⟩
      · go_wp2
        go_round
        case rel => exact ⟨2, by omega, by go_num, fun m hm => by
                      have : m < 1 ∨ m = 1 := by omega
                      rcases this with q | rfl
                      · exact HA.out m q
                      · simpa using c⟩
        case measure => simp [intOf]
    · by_cases c : k = 3
      · subst c
        go_wp2
        go_ret
        exact ⟨rfl, rfl⟩
      · go_wp2
        go_round
        case rel => exact ⟨3, by omega, by go_num, fun m hm => by
                      have : m < 2 ∨ m = 2 := by omega
                      rcases this with q | rfl
                      · exact HA.out m q
                      · simpa using c⟩
        case measure => simp [intOf]
    · go_wp2
      all_goals go_ret
      all_goals exact ⟨ret_int (by
        have h0 := HA.out 0 (by omega)
        have h1 := HA.out 1 (by omega)
        have h2 := HA.out 2 (by omega)
        first | omega | (split <;> omega)), rfl⟩

set_option maxHeartbeats 1000000 in
theorem kindIn_any (b : Nat) (k : Int) (w : World) (h : w.heap[b]? = some kindsObj) :
    Calls Try.prog 188 #[.slice (some ⟨b, 0, none⟩) 3 3, .int .i64 k] w fun e w' => e = .returned (.bool (withinB k 1 3)) ∧ w = w' := by
  have IX := Lib.hid (kindIndex_any b k w h)
  clear h
  cases c : withinB k 1 3 with
  | true =>
    have hk := withinB_iff.1 c
    rw [if_pos hk] at IX
    clear c
    go_enter Try.func188, Try.ntmps188
    go_wp2_with (first | (go_at_call 199; refine (IX.out).mono ?_; rintro e w' ⟨rfl, rfl⟩))
    go_ret
    exact ⟨ret_bool (by first | (simp; done) | (simp; omega)), rfl⟩
  | false =>
    have hk := withinB_no.1 c
    rw [if_neg (by omega)] at IX
    clear c
    go_enter Try.func188, Try.ntmps188
    go_wp2_with (first | (go_at_call 199; refine (IX.out).mono ?_; rintro e w' ⟨rfl, rfl⟩))
    go_ret
    exact ⟨rfl, rfl⟩

/-- The error of a place. -/
def plcE (x y : Int) : Int := if withinB x (-4194304) 4194304 = true ∧ withinB y (-4194304) 4194304 = true then 0 else 5

set_option maxHeartbeats 400000 in
theorem isPlace_any (x : Int) (w : World) :
    Calls Try.prog 108 #[.int .i64 x] w fun e w' => e = .returned (.bool (withinB x (-4194304) 4194304)) ∧ w = w' := by
  go_enter Try.func108, Try.ntmps108
  go_wp2_with (go_at_call 104; refine (within_any _ _ _ _).mono ?_; rintro e w' ⟨rfl, rfl⟩)
  go_ret
  exact ⟨rfl, rfl⟩

set_option maxHeartbeats 400000 in
theorem checkPlace_any (x y : Int) (w : World) :
    Calls Try.prog 53 #[.int .i64 x, .int .i64 y] w fun e w' => e = .returned (.int .i64 (plcE x y)) ∧ w = w' := by
  have PX := Lib.hid (fun w => isPlace_any x w)
  have PY := Lib.hid (fun w => isPlace_any y w)
  unfold plcE
  generalize withinB x (-4194304) 4194304 = c at *
  generalize withinB y (-4194304) 4194304 = d at *
  cases c <;> cases d
  all_goals go_enter Try.func53, Try.ntmps53
  all_goals go_wp2_with (first | (go_at_call 108; (with_reducible refine (PX.out _).mono ?_); rintro e w' ⟨rfl, rfl⟩) | (go_at_call 108; (with_reducible refine (PY.out _).mono ?_); rintro e w' ⟨rfl, rfl⟩))
  all_goals go_ret
  all_goals exact ⟨rfl, rfl⟩

/-- A brush as a value; its cells. -/
abbrev bru (k X Y R : Int) (h : Nat) : Value := .agg #[.int .i64 k, .int .i64 X, .int .i64 Y, .int .i64 R, .float .f32 h]
abbrev bruObj (k X Y R : Int) (h : Nat) : Obj := .cells #[.int .i64 k, .int .i64 X, .int .i64 Y, .int .i64 R, .float .f32 h] 77
/-- The error of a brush. -/
def bruE (k X Y R : Int) (h : Nat) : Int := if withinB k 1 3 = false then 1 else if plcE X Y ≠ 0 then plcE X Y else if withinB R 1 256 = false then 3 else fldE 1 (fun _ => h)

theorem plcE_cases (x y : Int) : plcE x y = 0 ∨ plcE x y = 5 := by unfold plcE; split <;> simp

set_option maxHeartbeats 1000000 in
set_option maxRecDepth 100000 in
theorem checkBrush_any (k X Y R : Int) (h : Nat) (w : World) :
    Calls Try.prog 166 #[bru k X Y R h] w fun e w' => e = .returned (.int .i64 (bruE k X Y R h)) ∧ Below w.heap.size w w' := by
  have KI := Lib.hid (fun bb w (hb : w.heap[bb]? = some kindsObj) => kindIn_any bb k w hb)
  have CP := Lib.hid (fun w => checkPlace_any X Y w)
  have WR := Lib.hid (fun w => within_any R 1 256 w)
  have CH := Lib.hid (fun bb w (hb : w.heap[bb]? = some (flObj h)) => CheckHeights_row bb 0 1 1 (fun _ => h) (by omega) w (flAt_one_of hb))
  have hp := plcE_cases X Y
  unfold bruE
  generalize plcE X Y = pe at *
  generalize withinB k 1 3 = c1 at *
  generalize withinB R 1 256 = c2 at *
  generalize fldE 1 (fun _ => h) = er at *
  cases c1 with
  | false =>
    rw [if_pos rfl]
    go_enter Try.func166, Try.ntmps166
    go_wp2_with (first | (go_at_call 188; refine (KI.out _ _ (by ((simp only [heap_alloc_get, heap_size_alloc, if_true]) <;> ((repeat' split) <;> first | rfl | omega)))).mono ?_; rintro e w' ⟨rfl, rfl⟩))
    go_ret
    exact ⟨rfl, (by repeat (first | exact Below.refl _ _ | refine Below.alloc ?_ (by first | omega | (simp; done) | (simp; omega)) _ | refine Below.setCell ?_ (by first | omega | (simp; done) | (simp; omega)) _ | refine Below.drew ?_))⟩
  | true =>
    rw [if_neg (by simp)]
    rcases hp with rfl | rfl
    · rw [if_neg (by simp)]
      cases c2 with
      | false =>
        rw [if_pos rfl]
        go_enter Try.func166, Try.ntmps166
        go_wp2_with (first | (go_at_call 188; refine (KI.out _ _ (by ((simp only [heap_alloc_get, heap_size_alloc, if_true]) <;> ((repeat' split) <;> first | rfl | omega)))).mono ?_; rintro e w' ⟨rfl, rfl⟩) | (go_at_call 53; refine (CP.out _).mono ?_; rintro e w' ⟨rfl, rfl⟩) | (go_at_call 104; refine (WR.out _).mono ?_; rintro e w' ⟨rfl, rfl⟩))
        go_ret
        exact ⟨rfl, (by repeat (first | exact Below.refl _ _ | refine Below.alloc ?_ (by first | omega | (simp; done) | (simp; omega)) _ | refine Below.setCell ?_ (by first | omega | (simp; done) | (simp; omega)) _ | refine Below.drew ?_))⟩
      | true =>
        rw [if_neg (by simp)]
        go_enter Try.func166, Try.ntmps166
        go_wp2_with (first | (go_at_call 188; refine (KI.out _ _ (by ((simp only [heap_alloc_get, heap_size_alloc, if_true]) <;> ((repeat' split) <;> first | rfl | omega)))).mono ?_; rintro e w' ⟨rfl, rfl⟩) | (go_at_call 53; refine (CP.out _).mono ?_; rintro e w' ⟨rfl, rfl⟩) | (go_at_call 104; refine (WR.out _).mono ?_; rintro e w' ⟨rfl, rfl⟩) | (go_at_call 94; refine (CH.out _ _ (by ((simp only [heap_alloc_get, heap_size_alloc, if_true]) <;> ((repeat' split) <;> first | rfl | omega)))).mono ?_; rintro e w' ⟨rfl, rfl⟩))
        go_ret
        exact ⟨rfl, (by repeat (first | exact Below.refl _ _ | refine Below.alloc ?_ (by first | omega | (simp; done) | (simp; omega)) _ | refine Below.setCell ?_ (by first | omega | (simp; done) | (simp; omega)) _ | refine Below.drew ?_))⟩
    · rw [if_pos (by simp)]
      go_enter Try.func166, Try.ntmps166
      go_wp2_with (first | (go_at_call 188; refine (KI.out _ _ (by ((simp only [heap_alloc_get, heap_size_alloc, if_true]) <;> ((repeat' split) <;> first | rfl | omega)))).mono ?_; rintro e w' ⟨rfl, rfl⟩) | (go_at_call 53; refine (CP.out _).mono ?_; rintro e w' ⟨rfl, rfl⟩))
      go_ret
      exact ⟨rfl, (by repeat (first | exact Below.refl _ _ | refine Below.alloc ?_ (by first | omega | (simp; done) | (simp; omega)) _ | refine Below.setCell ?_ (by first | omega | (simp; done) | (simp; omega)) _ | refine Below.drew ?_))⟩

set_option maxHeartbeats 1000000 in
set_option maxRecDepth 100000 in
theorem refCheckBrush_any (k X Y R : Int) (h : Nat) (hh : h < 4294967296) (w : World) :
    Calls Try.prog 102 #[bru k X Y R h] w fun e w' => e = .returned (.int .i64 (bruE k X Y R h)) ∧ Below w.heap.size w w' := by
  have HT := Lib.hid (fun bb w (hb : w.heap[bb]? = some (flObj h)) => refHeight_of h hh bb w hb)
  obtain ⟨er, her⟩ : ∃ er, fldE 1 (fun _ => h) = er := ⟨_, rfl⟩
  rw [her] at HT
  have HE := Lib.hid her
  clear her hh
  go_enter Try.func102, Try.ntmps102
  go_wp2_with (first | (go_at_call 60; refine (HT.out _ _ (by ((simp only [heap_alloc_get, heap_size_alloc, if_true]) <;> ((repeat' split) <;> first | rfl | omega)))).mono ?_; rintro e w' ⟨rfl, rfl⟩))
  all_goals go_ret
  all_goals refine ⟨ret_int (Eq.symm ?_), (by repeat (first | exact Below.refl _ _ | refine Below.alloc ?_ (by first | omega | (simp; done) | (simp; omega)) _ | refine Below.setCell ?_ (by first | omega | (simp; done) | (simp; omega)) _ | refine Below.drew ?_))⟩
  all_goals unfold bruE plcE
  all_goals simp only [HE.out]
  all_goals first
    | (rw [if_pos (by rw [withinB_no]; omega)])
    | (rw [if_neg (by rw [Bool.not_eq_false, withinB_iff]; omega), if_pos (by rw [if_neg (by rw [withinB_iff, withinB_iff]; omega)]; decide), if_neg (by rw [withinB_iff, withinB_iff]; omega)])
    | (rw [if_neg (by rw [Bool.not_eq_false, withinB_iff]; omega), if_neg (by rw [if_pos (by rw [withinB_iff, withinB_iff]; omega)]; decide), if_pos (by rw [withinB_no]; omega)])
    | (rw [if_neg (by rw [Bool.not_eq_false, withinB_iff]; omega), if_neg (by rw [if_pos (by rw [withinB_iff, withinB_iff]; omega)]; decide), if_neg (by rw [Bool.not_eq_false, withinB_iff]; omega)])
end Go.Proofs.Ytncgcjeihihkfaa
