/- HalvesLeadBack, for every single and every integer: halves and shorts lead back to themselves, and what is lost is within the bounds. No condition. -/
import Derived.Test.YtkcehbnmcdppkaaHfJC
import Derived.Lib.SlBytesConst
import Derived.ArgAppend
import Derived.ProofKit
import Derived.OpenShut
import Derived.Lib.SmallJoins
import Derived.Laws.Cover2
import Derived.Deep.Slices
import Derived.WalkLawsBesides

/- Contracts: the laws' within, when, first (of two, of three). -/
namespace Go.Proofs.Ytkcehbnmcdppkaa
open Go.RowKit
set_option linter.unusedVariables false

set_option maxHeartbeats 400000 in
theorem mWithin_any (n a b : Int) (w : World) :
    Calls Try.prog 29 #[.int .i64 n, .int .i64 a, .int .i64 b] w fun e w' => e = .returned (.bool (withinB n a b)) ∧ w = w' := by
  go_enter Try.func29, Try.ntmps29
  go_wp2
  all_goals go_ret
  all_goals exact ⟨ret_bool (by rw [Bool.eq_iff_iff, withinB_iff]; simp; omega), rfl⟩

def whenE (c : Bool) (k : Int) : Int := if c = true then k else 0
set_option maxHeartbeats 400000 in
theorem when_any (c : Bool) (k : Int) (w : World) :
    Calls Try.prog 28 #[.bool c, .int .i64 k] w fun e w' => e = .returned (.int .i64 (whenE c k)) ∧ w = w' := by
  unfold whenE
  cases c
  all_goals
    go_enter Try.func28, Try.ntmps28
    go_wp2
    go_ret
    exact ⟨rfl, rfl⟩

inductive FirstAt (a b : Int) : Value → Prop where
  | z : FirstAt a b (.int .i64 0)
  | a (h : a = 0) : FirstAt a b (.int .i64 1)
  | b (h : a = 0) (h' : b = 0) : FirstAt a b (.int .i64 2)
def firstE (a b : Int) : Int := if a = 0 then b else a
set_option maxHeartbeats 1000000 in
theorem first2_any (a b : Int) (p : Nat) (w : World) (h : w.heap[p]? = some (.cells #[.int .i64 a, .int .i64 b] 25)) :
    Calls Try.prog 22 #[.slice (some ⟨p, 0, none⟩) 2 2] w fun e w' => e = .returned (.int .i64 (firstE a b)) ∧ w = w' := by
  unfold firstE
  obtain ⟨c, f, z⟩ := blkC h
  clear h
  go_enter Try.func22, Try.ntmps22
  go_wp2
  go_loop [7] (fun i => FirstAt a b i) (fun i => 2 - (intOf i).toNat)
  case atStart => exact .z
  case round =>
    rcases hrel with _ | ha | ⟨ha, hb⟩
    · by_cases h0 : a = 0
      · subst h0
        go_wp2
        go_round
        case rel => exact .a rfl
        case measure => simp [intOf]
      · go_wp2
        go_ret
        exact ⟨by simp, rfl⟩
    · subst ha
      by_cases h0 : b = 0
      · subst h0
        go_wp2
        go_round
        case rel => exact .b rfl rfl
        case measure => simp [intOf]
      · go_wp2
        go_ret
        exact ⟨rfl, rfl⟩
    · subst ha hb
      go_wp2
      go_ret
      exact ⟨rfl, rfl⟩

theorem firstE_zero {a b : Int} (h : firstE a b = 0) : a = 0 ∧ b = 0 := by
  unfold firstE at h
  by_cases q : a = 0
  · rw [if_pos q] at h; exact ⟨q, h⟩
  · rw [if_neg q] at h; exact absurd h q
theorem whenE_zero {c : Bool} {k : Int} (hk : k ≠ 0) (h : whenE c k = 0) : c = false := by
  unfold whenE at h
  cases c with
  | false => rfl
  | true => rw [if_pos rfl] at h; exact absurd h hk

inductive First3At (a b c : Int) : Value → Prop where
  | z : First3At a b c (.int .i64 0)
  | a (h : a = 0) : First3At a b c (.int .i64 1)
  | b (h : a = 0) (h' : b = 0) : First3At a b c (.int .i64 2)
  | c (h : a = 0) (h' : b = 0) (h'' : c = 0) : First3At a b c (.int .i64 3)
set_option maxHeartbeats 1000000 in
theorem first3_any (a b c : Int) (p : Nat) (w : World) (h : w.heap[p]? = some (.cells #[.int .i64 a, .int .i64 b, .int .i64 c] 25)) :
    Calls Try.prog 22 #[.slice (some ⟨p, 0, none⟩) 3 3] w fun e w' => e = .returned (.int .i64 (firstE (firstE a b) c)) ∧ w = w' := by
  unfold firstE
  obtain ⟨cc, f, z⟩ := blkC h
  clear h
  go_enter Try.func22, Try.ntmps22
  go_wp2
  go_loop [7] (fun i => First3At a b c i) (fun i => 3 - (intOf i).toNat)
  case atStart => exact .z
  case round =>
    rcases hrel with _ | ha | ⟨ha, hb⟩ | ⟨ha, hb, hc⟩
    · by_cases h0 : a = 0
      · subst h0
        go_wp2
        go_round
        case rel => exact .a rfl
        case measure => simp [intOf]
      · go_wp2
        go_ret
        exact ⟨by first | (simp; done) | simp [h0], rfl⟩
    · subst ha
      by_cases h0 : b = 0
      · subst h0
        go_wp2
        go_round
        case rel => exact .b rfl rfl
        case measure => simp [intOf]
      · go_wp2
        go_ret
        exact ⟨by first | (simp; done) | simp [h0], rfl⟩
    · subst ha hb
      by_cases h0 : c = 0
      · subst h0
        go_wp2
        go_round
        case rel => exact .c rfl rfl rfl
        case measure => simp [intOf]
      · go_wp2
        go_ret
        exact ⟨by first | (simp; done) | simp [h0], rfl⟩
    · subst ha hb hc
      go_wp2
      go_ret
      exact ⟨rfl, rfl⟩
end Go.Proofs.Ytkcehbnmcdppkaa

/- Contracts: the reference's RegionError, Place, Mixed; the law's within, when, first (of two). -/
namespace Go.Proofs.Ytkcehbnmcdppkaa
open Go.RowKit Fl
set_option linter.unusedVariables false

set_option maxHeartbeats 400000 in
theorem qRegionError_any (x y ww hh : Int) (w : World) :
    Calls Try.prog 83 #[reg x y ww hh] w fun e w' => e = .returned (.int .i64 (checkR x y ww hh)) ∧ w' = w.alloc (regObj x y ww hh) := by
  go_enter Try.func83, Try.ntmps83
  go_wp2
  all_goals go_ret
  all_goals refine ⟨ret_int (Eq.symm ?_), rfl⟩
  all_goals first
    | exact checkR_range (by simp only [withinB_no]; omega)
    | exact checkR_large (by simp only [withinB_iff]; omega) (by simp only [withinB_iff]; omega) (by omega)
    | exact checkR_place (by simp only [withinB_iff]; omega) (by simp only [withinB_iff]; omega) (by omega) (by simp only [withinB_no]; omega)
    | exact checkR_ok (by simp only [withinB_iff]; omega) (by simp only [withinB_iff]; omega) (by omega) (by simp only [withinB_iff]; omega) (by simp only [withinB_iff]; omega)

end Go.Proofs.Ytkcehbnmcdppkaa

/- Contracts: Check of any field, and the references' FieldError: one answer. -/
namespace Go.Proofs.Ytkcehbnmcdppkaa
open Go.RowKit Fl
set_option linter.unusedVariables false

/-- The error of a field whose numbers have the error er. -/
def fldChk (X Y W H : Int) (n : Nat) (er : Int) : Int := if checkR X Y W H ≠ 0 then checkR X Y W H else if (n : Int) ≠ W * H then 2 else er

set_option maxHeartbeats 1000000 in
theorem checkA_any (X Y W H : Int) (a : Option Addr) (n cap : Nat) (er : Int) (w : World) (CH0 : ∀ W', Below w.heap.size w W' → Calls Try.prog 76 #[.slice a n cap] W' fun e w' => e = .returned (.int .i64 er) ∧ W' = w') :
    Calls Try.prog 87 #[fldV X Y W H (.slice a n cap)] w fun e w' => e = .returned (.int .i64 (fldChk X Y W H n er)) ∧ Below w.heap.size w w' := by
  have CH := Lib.hid CH0
  clear CH0
  have RC := Lib.hid (fun w => checkRegion_any X Y W H w)
  unfold fldChk
  by_cases h0 : checkR X Y W H = 0
  · obtain ⟨b1, b2, b3, b4, b5, _⟩ := checkR_zero h0
    rw [if_neg (by simp [h0])]
    rw [h0] at RC
    have en : wrap64 (W * H) = W * H := IntWalk.wrap64_in _ ⟨by have := (mul_side b1 b2 b3 b4).1; omega, by omega⟩
    by_cases hl : (n : Int) = W * H
    · rw [if_neg (by simp [hl])]
      have en : wrap64 (W * H) = (n : Int) := by rw [en, hl]
      clear h0 b1 b2 b3 b4 b5 hl
      go_enter Try.func87, Try.ntmps87
      go_wp2_with (first | (go_at_call 84; refine (RC.out _).mono ?_; rintro e w' ⟨rfl, rfl⟩) | (go_at_call 76; refine (CH.out _ (by repeat (first | exact Below.refl _ _ | refine Below.alloc ?_ (by first | omega | (simp; done) | (simp; omega)) _ | refine Below.setCell ?_ (by first | omega | (simp; done) | (simp; omega)) _ | refine Below.drew ?_))).mono ?_; rintro e w' ⟨rfl, rfl⟩))
      go_ret
      exact ⟨rfl, (by repeat (first | exact Below.refl _ _ | refine Below.alloc ?_ (by first | omega | (simp; done) | (simp; omega)) _ | refine Below.setCell ?_ (by first | omega | (simp; done) | (simp; omega)) _ | refine Below.drew ?_))⟩
    · rw [if_pos hl]
      have hl' : ((n : Int) != W * H) = true := by simpa using hl
      clear h0 b1 b2 b3 b4 b5 hl CH
      go_enter Try.func87, Try.ntmps87
      go_wp2_with (first | (go_at_call 84; refine (RC.out _).mono ?_; rintro e w' ⟨rfl, rfl⟩))
      go_ret
      exact ⟨rfl, (by repeat (first | exact Below.refl _ _ | refine Below.alloc ?_ (by first | omega | (simp; done) | (simp; omega)) _ | refine Below.setCell ?_ (by first | omega | (simp; done) | (simp; omega)) _ | refine Below.drew ?_))⟩
  · rw [if_pos h0]
    generalize checkR X Y W H = r at *
    have h1 : (r != 0) = true := by simpa using h0
    clear h0 CH
    go_enter Try.func87, Try.ntmps87
    go_wp2_with (first | (go_at_call 84; refine (RC.out _).mono ?_; rintro e w' ⟨rfl, rfl⟩))
    go_ret
    exact ⟨rfl, (by repeat (first | exact Below.refl _ _ | refine Below.alloc ?_ (by first | omega | (simp; done) | (simp; omega)) _ | refine Below.setCell ?_ (by first | omega | (simp; done) | (simp; omega)) _ | refine Below.drew ?_))⟩

set_option maxHeartbeats 1000000 in
theorem qFieldError_any (X Y W H : Int) (a : Option Addr) (n cap : Nat) (er : Int) (w : World) (CH0 : ∀ W', Below w.heap.size w W' → Calls Try.prog 24 #[.slice a n cap] W' fun e w' => e = .returned (.int .i64 er) ∧ W' = w') :
    Calls Try.prog 32 #[fldV X Y W H (.slice a n cap)] w fun e w' => e = .returned (.int .i64 (fldChk X Y W H n er)) ∧ Below w.heap.size w w' := by
  have CH := Lib.hid CH0
  clear CH0
  have RC := Lib.hid (fun w => qRegionError_any X Y W H w)
  unfold fldChk
  by_cases h0 : checkR X Y W H = 0
  · obtain ⟨b1, b2, b3, b4, b5, _⟩ := checkR_zero h0
    rw [if_neg (by simp [h0])]
    rw [h0] at RC
    have en : wrap64 (W * H) = W * H := IntWalk.wrap64_in _ ⟨by have := (mul_side b1 b2 b3 b4).1; omega, by omega⟩
    by_cases hl : (n : Int) = W * H
    · rw [if_neg (by simp [hl])]
      have en : wrap64 (W * H) = (n : Int) := by rw [en, hl]
      clear h0 b1 b2 b3 b4 b5 hl
      go_enter Try.func32, Try.ntmps32
      go_wp2_with (first | (go_at_call 83; refine (RC.out _).mono ?_; rintro e w' ⟨rfl, rfl⟩) | (go_at_call 24; refine (CH.out _ (by repeat (first | exact Below.refl _ _ | refine Below.alloc ?_ (by first | omega | (simp; done) | (simp; omega)) _ | refine Below.setCell ?_ (by first | omega | (simp; done) | (simp; omega)) _ | refine Below.drew ?_))).mono ?_; rintro e w' ⟨rfl, rfl⟩))
      go_ret
      exact ⟨rfl, (by repeat (first | exact Below.refl _ _ | refine Below.alloc ?_ (by first | omega | (simp; done) | (simp; omega)) _ | refine Below.setCell ?_ (by first | omega | (simp; done) | (simp; omega)) _ | refine Below.drew ?_))⟩
    · rw [if_pos hl]
      have hl' : ((n : Int) != W * H) = true := by simpa using hl
      clear h0 b1 b2 b3 b4 b5 hl CH
      go_enter Try.func32, Try.ntmps32
      go_wp2_with (first | (go_at_call 83; refine (RC.out _).mono ?_; rintro e w' ⟨rfl, rfl⟩))
      go_ret
      exact ⟨rfl, (by repeat (first | exact Below.refl _ _ | refine Below.alloc ?_ (by first | omega | (simp; done) | (simp; omega)) _ | refine Below.setCell ?_ (by first | omega | (simp; done) | (simp; omega)) _ | refine Below.drew ?_))⟩
  · rw [if_pos h0]
    generalize checkR X Y W H = r at *
    have h1 : (r != 0) = true := by simpa using h0
    clear h0 CH
    go_enter Try.func32, Try.ntmps32
    go_wp2_with (first | (go_at_call 83; refine (RC.out _).mono ?_; rintro e w' ⟨rfl, rfl⟩))
    go_ret
    exact ⟨rfl, (by repeat (first | exact Below.refl _ _ | refine Below.alloc ?_ (by first | omega | (simp; done) | (simp; omega)) _ | refine Below.setCell ?_ (by first | omega | (simp; done) | (simp; omega)) _ | refine Below.drew ?_))⟩

set_option maxHeartbeats 400000 in
theorem empty_no (w : World) : Calls Try.prog 51 #[fldV 0 0 0 0 (.slice none 0 0)] w fun e w' => e = .returned (.bool true) ∧ Below w.heap.size w w' := by
  go_enter Try.func51, Try.ntmps51
  go_wp2
  go_ret
  exact ⟨rfl, (by repeat (first | exact Below.refl _ _ | refine Below.alloc ?_ (by first | omega | (simp; done) | (simp; omega)) _ | refine Below.setCell ?_ (by first | omega | (simp; done) | (simp; omega)) _ | refine Below.drew ?_))⟩
end Go.Proofs.Ytkcehbnmcdppkaa

/- Contract: Encode in the format of whole singles; the law's writes. -/
namespace Go.Proofs.Ytkcehbnmcdppkaa
open Go.RowKit Fl Go.Maps Go.ChangeMaps
set_option linter.unusedVariables false

/-- Bytes as a text. -/
def txB (L : List Int) : ByteArray := ⟨(L.map fun x => UInt8.ofNat x.toNat).toArray⟩
theorem txB_size (L : List Int) : (txB L).size = L.length := by simp [txB, ByteArray.size]
def isB (L : List Int) : Prop := ∀ x ∈ L, 0 ≤ x ∧ x < 256
theorem byteL_isB (n : Nat) : ∀ k, isB (byteL n k)
  | 0 => fun x hx => by cases hx
  | k + 1 => fun x hx => by
    rcases List.mem_cons.1 hx with rfl | hx
    · omega
    · exact byteL_isB n k x hx
theorem fullL_isB (v : Nat → Nat) : ∀ k, isB (fullL v k)
  | 0 => fun x hx => by cases hx
  | k + 1 => fun x hx => by
    rcases List.mem_append.1 hx with hx | hx
    · exact fullL_isB v k x hx
    · exact byteL_isB _ _ x hx
theorem isB_app {L M : List Int} (h : isB L) (h2 : isB M) : isB (L ++ M) := fun x hx => by
  rcases List.mem_append.1 hx with hx | hx
  · exact h x hx
  · exact h2 x hx

/-- The text of bytes of one's own. -/
theorem text_of {w : World} {base g cap : Nat} {L : List Int} (h : w.ownsRow base 5 1 (.slice (some ⟨g, 0, none⟩) L.length cap) L.length (btL L)) (hB : isB L) :
    (convert 153 9 (.slice (some ⟨g, 0, none⟩) L.length cap)).run Try.prog w = .ok (.string (txB L)) w := by
  have hc := h.cells (g := g) rfl
  have := run_convert_bytes_back (P := Try.prog) w 153 9 5 ⟨g, 0, none⟩ cap (L.map fun x => UInt8.ofNat x.toNat) Try.underlying153 Try.underlying5 Try.underlying9 (fun j hj => by
    rw [List.length_map] at hj
    refine hc j _ ?_
    have hm := hB L[j] (List.getElem_mem hj)
    simp [btL, List.getElem?_eq_getElem hj]
    omega)
  rw [List.length_map] at this
  exact this

/-- A number modulo 2 ^ 32. -/
def u32N (x : Int) : Nat := (x % 4294967296).toNat
theorem u32N_lt (x : Int) : u32N x < 4294967296 := by unfold u32N; omega
theorem u32N_eq (x : Int) : (u32N x : Int) = x % 4294967296 := by unfold u32N; omega

/-- The four numbers of a region. -/
def rgI (X Y W H : Int) (k : Nat) : Int := if k = 0 then X else if k = 1 then Y else if k = 2 then W else H
/-- What stands ahead of the values, when k numbers are written. -/
def headL (fmt X Y W H : Int) : Nat → List Int
  | 0 => [84, 65, 82, 78, fmt]
  | k + 1 => headL fmt X Y W H k ++ byteL (u32N (rgI X Y W H k)) 4
theorem headL_len (fmt X Y W H : Int) : ∀ k, (headL fmt X Y W H k).length = 5 + 4 * k
  | 0 => rfl
  | k + 1 => by simp [headL, headL_len fmt X Y W H k, byteL_len]; omega

/-- The text of a field in whole singles. -/
def encL (X Y W H : Int) (v : Nat → Nat) (n : Nat) : List Int := headL 1 X Y W H 4 ++ fullL v n
def encT (X Y W H : Int) (v : Nat → Nat) (n : Nat) : ByteArray := txB (encL X Y W H v n ++ byteL (u32N (sumI (txB (encL X Y W H v n)))) 4)

theorem headL_isB (fmt X Y W H : Int) (hf : 0 ≤ fmt ∧ fmt < 256) : ∀ k, isB (headL fmt X Y W H k)
  | 0 => fun x hx => by
    have : x = 84 ∨ x = 65 ∨ x = 82 ∨ x = 78 ∨ x = fmt := by simpa [headL] using hx
    omega
  | k + 1 => isB_app (headL_isB fmt X Y W H hf k) (byteL_isB _ 4)
theorem encL_isB (X Y W H : Int) (v : Nat → Nat) (n : Nat) : isB (encL X Y W H v n) := isB_app (headL_isB 1 X Y W H (by omega) 4) (fullL_isB v n)
theorem tx_of {w : World} {base g cap : Nat} {L M : List Int} (h : w.ownsRow base 5 1 (.slice (some ⟨g, 0, none⟩) (L.length + M.length) cap) (L ++ M).length (btL (L ++ M))) (h1 : isB L) (h2 : isB M) :
    (convert 153 9 (.slice (some ⟨g, 0, none⟩) (L.length + M.length) cap)).run Try.prog w = .ok (.string (txB (L ++ M))) w := by
  have := text_of (L := L ++ M) (w := w) (base := base) (g := g) (cap := cap) (by have h' := h; rw [List.length_append] at h' ⊢; exact h') (isB_app h1 h2)
  rwa [List.length_append] at this

set_option maxHeartbeats 400000 in
set_option maxRecDepth 100000 in
theorem checkScale_full (w : World) (p q r : Nat) :
    Calls Try.prog 129 #[.agg #[.bool false, .func (.func 178) #[] #[pt p, pt q, pt r], .func (.func 179) #[] #[pt p, pt r]], scV 0 0 0] w fun e w' => e = .returned (.int .i64 0) ∧ Below w.heap.size w w' := by
  have NE : ∀ W : World, (binOp .neq 36 (scV 0 0 0) (scV 0 0 0)).run Try.prog W = .ok (.bool false) W := fun W => by kernel_rfl
  go_enter Try.func129, Try.ntmps129
  go_wp2
  go_ret
  exact ⟨rfl, (by repeat (first | exact Below.refl _ _ | refine Below.alloc ?_ (by first | omega | (simp; done) | (simp; omega)) _ | refine Below.setCell ?_ (by first | omega | (simp; done) | (simp; omega)) _ | refine Below.drew ?_))⟩

theorem check_okay (X Y : Int) (W H n b off cap : Nat) (v : Nat → Nat) (w : World) (hr : FlAt w b off n v) (hh : ∀ i, i < n → hgtB (v i) = true) (h0 : checkR X Y W H = 0) (hn : n = W * H) :
    Calls Try.prog 87 #[fldV X Y W H (.slice (some ⟨b, off, none⟩) n cap)] w fun e w' => e = .returned (.int .i64 0) ∧ Below w.heap.size w w' := by
  obtain ⟨b1, b2, b3, b4, b5, _⟩ := checkR_zero h0
  have hn2 : (n : Int) = W * H := by rw [hn]; simp
  have e0 : fldE n v = 0 := fldE_zero.2 (allB_iff.2 hh)
  have := checkA_any X Y W H (some ⟨b, off, none⟩) n cap 0 w (fun W' hb => by
    have := CheckHeights_row b off cap n v (by omega) W' (flAt_stay hr hb)
    rwa [e0] at this)
  rwa [show fldChk X Y W H n 0 = 0 by unfold fldChk; rw [if_neg (by simp [h0]), if_neg (by simp [hn2])]] at this

theorem BtAt.on {w0 wr w6 : World} {base g' cap' : Nat} {o0 : Option Nat} {L : List Int} {ov : Value} {B : List Int} (h : BtAt w0 base o0 L ov wr)
    (hgrow : wr.grownBy w6 ov.ownBlock) (hat : ov.ownBlock = some g' ∨ g' = wr.heap.size) (hown : w6.ownsRow base 5 1 (.slice (some ⟨g', 0, none⟩) (L.length + B.length) cap') (L.length + B.length) (btL L ++ btL B)) :
    BtAt w0 base o0 (L ++ B) (.slice (some ⟨g', 0, none⟩) (L.length + B.length) cap') w6 := by
  refine ⟨?_, ?_, ?_, ?_⟩
  · rw [List.length_append, btL_app]; exact hown
  · cases hv : ov.ownBlock with
    | none =>
      rw [hv] at hgrow
      exact ⟨hgrow.os.trans h.gr.os, hgrow.tape.trans h.gr.tape, hgrow.output.trans h.gr.output, Nat.le_trans h.gr.size hgrow.size, fun i hi hne => (hgrow.block i (Nat.lt_of_lt_of_le hi h.gr.size) (by simp)).trans (h.gr.block i hi hne)⟩
    | some g =>
      rw [hv] at hgrow
      refine grownBy_on h.gr ?_ hgrow
      rcases h.seat with e | ⟨q, e, hq⟩
      · exact .inl (e.symm.trans hv)
      · rw [hv] at e; have := Option.some.inj e; exact .inr (by omega)
  · rcases hat with e | e
    · rcases h.seat with s | ⟨q, s, hq⟩
      · exact .inl (by rw [← s, e]; rfl)
      · exact .inr ⟨g', rfl, by rw [e] at s; have := Option.some.inj s; omega⟩
    · exact .inr ⟨g', rfl, by have := h.gr.size; omega⟩
  · have := hgrow.size
    have := h.size
    omega

theorem ownsRow_base {w : World} {b B : Nat} {e : TypeId} {size : Nat} {v : Value} {n : Nat} {xs : List Value} (h : w.ownsRow B e size v n xs) (hb : b ≤ B) : w.ownsRow b e size v n xs := by
  rcases h.2 with h2 | ⟨g, cap, cur, h2, h3, h4⟩
  · exact ⟨h.1, .inl h2⟩
  · exact ⟨h.1, .inr ⟨g, cap, cur, h2, Nat.le_trans hb h3, h4⟩⟩
/-- The mark's block: it is no longer to be written. -/
abbrev tarnO : Obj := .cells #[.int .u8 84, .int .u8 65, .int .u8 82, .int .u8 78] 5 (4, 5)
theorem tarn_cells (w : World) (o : Obj) (j : Nat) (u : Value) (h : (btL [84, 65, 82, 78])[j]? = some u) : ((w.alloc tarnO).alloc o).cell? ((⟨w.heap.size, 0, none⟩ : Addr).add j) = some u := by
  rw [Go.WideShapes.add_plain]
  have hb : ((w.alloc tarnO).alloc o).heap[w.heap.size]? = some tarnO := by (first | (rw [heap_alloc_get, if_pos rfl]; done) | ((simp only [heap_alloc_get, heap_size_alloc, if_true]) <;> ((repeat' split) <;> first | rfl | omega)))
  simp only [World.cell?, hb, Nat.zero_add]
  rw [if_neg (by simp), show (#[.int .u8 84, .int .u8 65, .int .u8 82, .int .u8 78] : Array Value) = (btL [84, 65, 82, 78]).toArray from rfl, List.getElem?_toArray]
  exact h
theorem index_rg (X Y W H : Int) (k : Nat) (hk : k < 4) (w : World) : (Instr.index 155 (.agg #[.int .i64 X, .int .i64 Y, .int .i64 W, .int .i64 H]) (.int .i64 (k : Int))).run Try.prog w = .ok (.int .i64 (rgI X Y W H k)) w := by
  have : k = 0 ∨ k = 1 ∨ k = 2 ∨ k = 3 := by omega
  rcases this with rfl | rfl | rfl | rfl
  · show _ = Result.ok (Value.int .i64 X) w; kernel_rfl
  · show _ = Result.ok (Value.int .i64 Y) w; kernel_rfl
  · show _ = Result.ok (Value.int .i64 W) w; kernel_rfl
  · show _ = Result.ok (Value.int .i64 H) w; kernel_rfl
theorem start_at {w5 w6 w7 : World} {v : Value} {L : List Int} (h : w7.ownsRow w6.heap.size 5 1 v L.length (btL L)) (hz : w5.heap.size ≤ w6.heap.size) (hg : w6.grownBy w7 none) : BtAt w7 w5.heap.size v.ownBlock L v w7 :=
  ⟨ownsRow_base h hz, ⟨rfl, rfl, rfl, Nat.le_refl _, fun _ _ _ => rfl⟩, .inl rfl, Nat.le_trans hz hg.size⟩

set_option maxHeartbeats 4000000 in
set_option maxRecDepth 100000 in
theorem encFull_any (X Y : Int) (W H n b off cap : Nat) (v : Nat → Nat) (w : World) (hr : FlAt w b off n v) (hw : wf32 n v) (hh : ∀ i, i < n → hgtB (v i) = true) (h0 : checkR X Y W H = 0) (hn : n = W * H) :
    Calls Try.prog 69 #[fldV X Y W H (.slice (some ⟨b, off, none⟩) n cap), .int .i64 1, scV 0 0 0] w fun e w' => e = .returned (.tuple #[.string (encT X Y W H v n), .int .i64 0]) ∧ Below w.heap.size w w' := by
  obtain ⟨b1, b2, b3, b4, b5, b6, b7, b8, b9⟩ := checkR_zero h0
  have n1 : 1 ≤ n := by rw [hn]; exact Nat.mul_pos (by omega) (by omega)
  have n2 : n ≤ 65536 := by have : (n : Int) = W * H := by rw [hn]; simp
                            omega
  have CK := Lib.hid (fun W' (hB : Below w.heap.size w W') => check_okay X Y W H n b off cap v W' (flAt_stay hr hB) hh h0 hn)
  have LY := Lib.hid layouts_any
  have CD := Lib.hid (fun (p q r : Nat) (V : Value) W' (hV : CodV W' 4 163 164 V p q r) (hB : Below w.heap.size w W') => codes_any b off n cap v 0 0 0 p q r V W' hV (flAt_stay hr hB) hw (fun i hi => hgt_fin (hh i hi)) n1 n2)
  have CS := Lib.hid checkScale_full
  have B1 := Lib.hid (show Below w.heap.size w ((w.alloc (fldO X Y W H (.slice (some ⟨b, off, none⟩) n cap))).alloc (.cells #[.float .f32 0, .float .f32 0, .int .i64 0] 36)) from (by repeat (first | exact Below.refl _ _ | refine Below.alloc ?_ (by first | omega | (simp; done) | (simp; omega)) _ | refine Below.setCell ?_ (by first | omega | (simp; done) | (simp; omega)) _ | refine Below.drew ?_)))
  have HF1 := Lib.hid (show ((w.alloc (fldO X Y W H (.slice (some ⟨b, off, none⟩) n cap))).alloc (.cells #[.float .f32 0, .float .f32 0, .int .i64 0] 36)).heap[w.heap.size]? = some (fldO X Y W H (.slice (some ⟨b, off, none⟩) n cap)) by (first | (rw [heap_alloc_get, if_pos rfl]; done) | ((simp only [heap_alloc_get, heap_size_alloc, if_true]) <;> ((repeat' split) <;> first | rfl | omega))))
  have HS1 := Lib.hid (show ((w.alloc (fldO X Y W H (.slice (some ⟨b, off, none⟩) n cap))).alloc (.cells #[.float .f32 0, .float .f32 0, .int .i64 0] 36)).heap[w.heap.size + 1]? = some (.cells #[.float .f32 0, .float .f32 0, .int .i64 0] 36) by (first | (rw [heap_alloc_get, if_pos rfl]; done) | ((simp only [heap_alloc_get, heap_size_alloc, if_true]) <;> ((repeat' split) <;> first | rfl | omega))))
  have N1 := Lib.hid n1
  have N2 := Lib.hid n2
  clear hr hw hh h0 hn b1 b2 b3 b4 b5 b6 b7 b8 b9 n1 n2
  have hinfo : (Try.prog.info? 5).map (fun i => (i.zero, i.size, i.bytes)) = some (some (.int .u8 0), 1, 1) := by kernel_rfl
  obtain ⟨ti, hi, hz0, hz1, hz2⟩ := info_parts hinfo
  have HTI := Lib.hid hi
  clear hinfo hi
  have RS := fun (w : World) (a : Addr) (m : Mode) f x y => run_store_func (P := Try.prog) (w := w) (a := a) (m := m) f x y
  have KC := fun (w : World) (C : Array Value) (n c : Nat) => Lib.run_convert_bytes_const (P := Try.prog) w 153 5 C n c Try.underlying153 Try.underlying5
  go_enter Try.func69, Try.ntmps69
  go_upto_region 1 with fail
  generalize (w.alloc (fldO X Y W H (.slice (some ⟨b, off, none⟩) n cap))).alloc (.cells #[.float .f32 0, .float .f32 0, .int .i64 0] 36) = w1 at *
  obtain ⟨cF, fF, zF⟩ := blkC HF1.out
  go_wp2_with (first
    | (go_at_call 87; refine (CK.out _ B1.out).mono ?_; rintro e w2 ⟨rfl, hb2⟩; have B2 := Lib.hid (B1.out.trans (hb2.mono B1.out.size)); have HF2 := Lib.hid (blkStay HF1.out hb2); have HS2 := Lib.hid (blkStay HS1.out hb2); clear hb2 cF fF zF)
    | (go_at_call 128; refine (LY.out _).mono ?_; rintro e w3 ⟨mb, V, p, q, r, rfl, hV, hp, hq, hr, hb3, LK⟩; obtain rfl := hV.val; have HV := Lib.hid hV; have B3 := Lib.hid (B2.out.trans (hb3.mono B2.out.size)); have HF3 := Lib.hid (blkStay HF2.out hb3); have HS3 := Lib.hid (blkStay HS2.out hb3); clear hV hp hq hr hb3; obtain ⟨cS, fS, zS⟩ := blkC HS3.out)
    | (go_at_call 129; (with_reducible refine (CS.out _ p q r).mono ?_); rintro e w4 ⟨rfl, hb4⟩; clear cS fS zS LK; have HL4 := Lib.hid (blkStay (b := w3.heap.size) (o := .cells #[.bool false, .func (.func 178) #[] #[pt p, pt q, pt r], .func (.func 179) #[] #[pt p, pt r]] 149) (by (first | (rw [heap_alloc_get, if_pos rfl]; done) | ((simp only [heap_alloc_get, heap_size_alloc, if_true]) <;> ((repeat' split) <;> first | rfl | omega)))) hb4); have hb4' : Below w3.heap.size w3 w4 := (((Below.refl _ _).alloc (Nat.le_refl _) _).trans (hb4.mono (by simp))); have B4 := Lib.hid (B3.out.trans (hb4'.mono B3.out.size)); have HF4 := Lib.hid (blkStay HF3.out hb4'); have HS4 := Lib.hid (blkStay HS3.out hb4'); have HV4 := Lib.hid (HV.out.stay hb4'); clear hb4 hb4'; obtain ⟨cS, fS, zS⟩ := blkC HS4.out; obtain ⟨cF, fF, zF⟩ := blkC HF4.out; obtain ⟨cL, fL, zL⟩ := blkC HL4.out)
    | (go_at_call 178; (with_reducible refine (CD.out p q r _ _ HV4.out B4.out).mono ?_); rintro e w5 ⟨ov, rfl, own5, hb5⟩; clear cF fF zF cS fS zS cL fL zL; have OW5 := Lib.hid own5; have HF5 := Lib.hid (blkStay HF4.out hb5); have B5 := Lib.hid (B4.out.trans (hb5.mono B4.out.size)); have B45 := Lib.hid hb5; obtain ⟨cF, fF, zF⟩ := blkC HF5.out; clear own5 hb5; obtain ⟨gv, cv, rfl, _, _⟩ := OW5.out.form (by rw [fullL_len]; have := N1.out; omega); have hi := HTI.out)
    | (at_builtin; go_loud (refine wpList_append_grows _ rfl _ _ _ rfl 5 ti _ 1 1 Try.underlying153 hi hz0 hz1 hz2 rfl (by omega) (some ⟨w5.heap.size, 0, none⟩) 4 4 (btL [84, 65, 82, 78]) (by rfl) (by simp) (by rfl) (fun b hb j u hu => by cases hb; exact tarn_cells w5 _ j u hu) ⟨w5.heap.size + 1, 0, none⟩ 1 1 [.int .u8 1] (by rfl) (by rfl) (World.news_of_block (cs := #[.int .u8 1]) (t := 5) (fr := (0, 0)) (by (first | (rw [heap_alloc_get, if_pos rfl]; done) | ((simp only [heap_alloc_get, heap_size_alloc, if_true]) <;> ((repeat' split) <;> first | rfl | omega))))) (by simp [Value.oneCell']) (by omega) (by unfold maxLen; omega) (by omega) ?_; intro v7 w7 hown7 hgrow; have A7 := Lib.hid (start_at (w5 := w5) (L := [84, 65, 82, 78, 1]) hown7 (by simp; omega) hgrow); have B57 := Lib.hid (show Below w5.heap.size w5 w7 from (((Below.refl _ _).alloc (Nat.le_refl _) _).alloc (by simp) _).trans ⟨hgrow.os, hgrow.tape, hgrow.output, hgrow.size, fun j hj => hgrow.block j (by simp; omega) (by simp)⟩); have HF7 := Lib.hid (blkStay HF5.out B57.out); have OW7 := Lib.hid (ownsRow_below OW5.out B57.out); obtain ⟨g7, c7, rfl, hg7, _⟩ := hown7.form (by omega); clear hown7 hgrow hi cF fF zF; obtain ⟨cF, fF, zF⟩ := blkC HF7.out)))
  have HG7 := Lib.hid (show w5.heap.size ≤ g7 by simp at hg7; omega)
  have B7 := Lib.hid (B5.out.trans (B57.out.mono B5.out.size))
  clear hg7 cF fF zF
  have IX := Lib.hid (fun (k : Nat) (hk : k < 4) (w : World) => index_rg X Y W H k hk w)
  have HN := Lib.hid (show 0 < (fullL v n).length ∧ (fullL v n).length ≤ 262144 by rw [fullL_len]; have := N1.out; have := N2.out; omega)
  go_loopw [14, 66] (fun t i wr => ∃ k : Nat, k ≤ 4 ∧ i = .int .i64 k ∧ BtAt w7 w5.heap.size (some g7) (headL 1 X Y W H k) t wr) (fun _ i _ => 4 - (intOf i).toNat)
  case atStart => exact ⟨0, by omega, rfl, A7.out⟩
  case round =>
    obtain ⟨k, hk, rfl, hA⟩ := hrel
    have HA := Lib.hid hA
    clear hA
    by_cases hlt : k < 4
    · have ix := IX.out k hlt
      have AB := Lib.hid (fun t wr h => appendBytes_any w7 w5.heap.size (some g7) (headL 1 X Y W H k) t (u32N (rgI X Y W H k)) 4 wr h (u32N_lt _) (by omega) (by rw [headL_len]; omega))
      rw [u32N_eq] at AB
      have HE := Lib.hid (show headL 1 X Y W H (k + 1) = headL 1 X Y W H k ++ byteL (u32N (rgI X Y W H k)) 4 from rfl)
      generalize rgI X Y W H k = x at *
      go_wp2_with (go_at_call 130; refine (AB.out _ _ HA.out).mono ?_; rintro e w8 ⟨ov', rfl, hA8⟩; have HA8 := Lib.hid hA8; clear hA8)
      go_roundw
      case rel => exact ⟨k + 1, by omega, by go_num, by rw [HE.out]; exact HA8.out⟩
      case measure => simp [intOf]; omega
    · obtain rfl : k = 4 := by omega
      have hi := HTI.out
      have OWr := Lib.hid (OW7.out.kept HA.out.gr (.inr (by have := OW5.out.lt gv rfl; have := HG7.out; simp [Value.ownBlock]; omega)))
      obtain ⟨l1, l2⟩ := HN.out
      have HC := Lib.hid (OWr.out.cells (g := gv) rfl)
      have HL1 := Lib.hid (btL_len (fullL v n))
      have hL5 := headL_len 1 X Y W H 4
      have SM := Lib.hid (fun w => sum_any (txB (encL X Y W H v n)) w (by rw [txB_size]; unfold encL; rw [List.length_append, fullL_len]; have := N2.out; omega))
      have AB := Lib.hid (fun t wr h => appendBytes_any w7 w5.heap.size (some g7) (encL X Y W H v n) t (u32N (sumI (txB (encL X Y W H v n)))) 4 wr h (u32N_lt _) (by omega) (by unfold encL; rw [List.length_append, fullL_len]; have := N2.out; omega))
      have HT := Lib.hid (show encT X Y W H v n = txB (encL X Y W H v n ++ byteL (u32N (sumI (txB (encL X Y W H v n)))) 4) from rfl)
      obtain ⟨s1, s2⟩ := sumI_in (txB (encL X Y W H v n))
      rw [u32N_eq, Int.emod_eq_of_lt s1 s2, show ((4 : Nat) : Int) = 4 from rfl] at AB
      go_wp2_with (first
        | (at_builtin; go_loud (refine wpList_append_lies _ rfl _ _ _ rfl w5.heap.size 5 ti _ 1 1 Try.underlying153 hi hz0 hz1 hz2 rfl (by omega) u14 (headL 1 X Y W H 4).length (btL (headL 1 X Y W H 4)) (by rfl) HA.out.own ⟨gv, 0, none⟩ (fullL v n).length cv (btL (fullL v n)) (by rfl) (by rw [btL_len]; omega) HC.out (by simp [btL, Value.oneCell']) l1 (by unfold maxLen; omega) (by omega) HA.out.size wr.heap.size rfl ?_; intro g8 c8 w8 hown8 hgrow hat hlt8; have A8 := Lib.hid (BtAt.on (B := fullL v n) HA.out hgrow hat hown8); have A8' := Lib.hid (show BtAt w7 w5.heap.size (some g7) (encL X Y W H v n) _ w8 from A8.out); have TX := tx_of A8.out.own (headL_isB 1 X Y W H (by omega) 4) (fullL_isB v n); rw [show headL 1 X Y W H 4 ++ fullL v n = encL X Y W H v n from rfl] at TX; clear hown8 hgrow hat hlt8 hi l1 l2 hL5))
        | (go_at_call 131; (with_reducible refine (SM.out _).mono ?_); rintro e w' ⟨rfl, rfl⟩)
        | (go_at_call 130; (with_reducible refine (AB.out _ _ A8'.out).mono ?_); rintro e w9 ⟨ov', rfl, hA9⟩; obtain ⟨g9, c9, rfl, _, _⟩ := hA9.own.form (by simp [byteL_len]); have HA9 := Lib.hid hA9; have TX2 := text_of hA9.own (isB_app (encL_isB X Y W H v n) (byteL_isB _ 4)); generalize (encL X Y W H v n ++ byteL (u32N (sumI (txB (encL X Y W H v n)))) 4).length = N9 at TX2 ⊢; rw [← HT.out] at TX2; clear hA9 TX))
      go_ret2
      exact ⟨rfl, B7.out.trans (grownBy_far HA9.out.gr (by have := HG7.out; have := B5.out.size; omega) B7.out.size)⟩
end Go.Proofs.Ytkcehbnmcdppkaa

/- Contracts: math.Floor, and the floors of both sides. -/
namespace Go.Proofs.Ytkcehbnmcdppkaa
open Go.RowKit Fl
set_option linter.unusedVariables false

theorem toIntegral_num (X : Nat) (d : Ieee.Datum) (h : FloatKind.f64.decode X = d) (hd : ∃ s M I, d = .number s M I) :
    Extern.MathFloor.toIntegral "math.archFloor" .down #[.float .f64 X] = pure (.float .f64 (FloatKind.f64.encode (d.integral .down))) := by
  obtain ⟨s, M, I, rfl⟩ := hd
  conv => lhs; whnf
  rw [h]

theorem archFloor_num (X : Nat) (s : Bool) (M : Nat) (I : Int) (h : Ieee.double.read X = .number s M I) (w : World) :
    (callFunc 186 #[.float .f64 X]).run Try.prog w = .ok (.value (.float .f64 (Ieee.double.write ((Ieee.double.read X).integral .down)))) w := by
  rw [run_callFunc_extern Try.func186 (by kernel_rfl) (by kernel_rfl) (by kernel_rfl) (e := Extern.MathFloor.toIntegral "math.archFloor" .down) (by kernel_rfl), toIntegral_num X _ rfl ⟨s, M, I, h⟩]
  rfl

set_option maxHeartbeats 400000 in
theorem mathFloor_num (X F : Nat) (s : Bool) (M : Nat) (I : Int) (h : Ieee.double.read X = .number s M I) (hF : Ieee.double.write ((Ieee.double.read X).integral .down) = F) (w : World) :
    Calls Try.prog 171 #[.float .f64 X] w fun e w' => e = .returned (.float .f64 F) ∧ w = w' := by
  have a1 := archFloor_num X s M I h
  rw [hF] at a1
  clear h hF
  go_enter Try.func171, Try.ntmps171
  go_wp2
  go_ret
  exact ⟨rfl, rfl⟩

set_option maxHeartbeats 400000 in
theorem floor_any (x k : Nat) (a : Int) (h : vS x = some a) (hb : Bd k x) (hk : k ≤ 50) (w : World) :
    Calls Try.prog 137 #[.float .f32 x] w fun e w' => e = .returned (.float .f32 (flW x)) ∧ w = w' := by
  obtain ⟨X, s, M, I, F, c1, c2, c3, c4, _⟩ := floor_parts h hb hk
  have d1 := fun (W : World) => run_convert_float_float (P := Try.prog) W 22 32 .f32 .f64 x X (by kernel_rfl) Try.underlying32 c1
  have d2 := fun (W : World) => run_convert_float_float (P := Try.prog) W 32 22 .f64 .f32 F (flW x) (by kernel_rfl) Try.underlying22 c4
  have MF := Lib.hid (fun w => mathFloor_num X F s M I c2 c3 w)
  clear c1 c2 c3 c4 h hb
  go_enter Try.func137, Try.ntmps137
  go_wp2_with (go_at_call 171; refine (MF.out _).mono ?_; rintro e w' ⟨rfl, rfl⟩)
  go_ret
  exact ⟨rfl, rfl⟩

end Go.Proofs.Ytkcehbnmcdppkaa

/- Dither and Speckle of one cell, as words; what the steps come to. -/
namespace Go.Proofs.Ytkcehbnmcdppkaa
open Go.RowKit Fl
set_option linter.unusedVariables false

theorem div_val {x y k : Nat} {a b : Int} (hx : vS x = some a) (hy : vS y = some b) (hb : b ≠ 0) (hk : k ≤ 120) (h : a.natAbs ≤ b.natAbs * 2 ^ k) : Same2 .quo k x y := by
  obtain ⟨s, m, i, e1, rfl⟩ := vS_some hx
  obtain ⟨t, n, j, e2, rfl⟩ := vS_some hy
  have n1 : (vOf s m i).natAbs = m * 2 ^ (i + 1074).toNat := by unfold vOf; rw [signed_eq, Int.natAbs_mul, Int.natAbs_natCast]; cases s <;> simp
  have n2 : (vOf t n j).natAbs = n * 2 ^ (j + 1074).toNat := by unfold vOf; rw [signed_eq, Int.natAbs_mul, Int.natAbs_natCast]; cases t <;> simp
  refine div_same hk e1 e2 ?_ (by rw [← n1, ← n2]; exact h)
  rcases Nat.eq_zero_or_pos n with z | z
  · exfalso; apply hb; subst z
    have : (vOf t 0 j).natAbs = 0 := by rw [n2]; simp
    omega
  · exact z

theorem vS_lo {j : Nat} (hj : j = 1064) : vS 981467136 = some ((2 ^ j : Nat) : Int) := by
  have h : Ieee.single.read 981467136 = .number false 8388608 (-33) := by decide
  rw [vS_lit (t := 1) (k := 23) (j := j) h (by decide) (by rw [hj]; decide)]; simp
theorem vS_hi {j : Nat} (hj : j = 1084) : vS 1149239296 = some ((2 ^ j : Nat) : Int) := by
  have h : Ieee.single.read 1149239296 = .number false 8388608 (-13) := by decide
  rw [vS_lit (t := 1) (k := 23) (j := j) h (by decide) (by rw [hj]; decide)]; simp

/-- A right step: its value is from 2 ^ -10 to 2 ^ 10. -/
def StepOk (st : Nat) : Prop := ∃ b, vS st = some b ∧ (one : Int) ≤ 1024 * b ∧ b ≤ 1024 * (one : Int)
theorem step_ok {st : Nat} (h : wiE st 981467136 1149239296 = 0) : StepOk st := by
  unfold wiE at h
  by_cases hf : finB st = false
  · rw [if_pos hf] at h; cases h
  · rw [if_neg hf] at h
    split at h
    · cases h
    · rename_i c
      obtain ⟨a, ha⟩ := Option.isSome_iff_exists.1 (show (vS st).isSome = true by simpa [finB, Option.isSome_iff_ne_none] using hf)
      obtain ⟨j, hj⟩ : ∃ j : Nat, j = 1064 := ⟨_, rfl⟩
      have hj' : j + 20 = 1084 := by omega
      rw [show FloatKind.f32.format = Ieee.single from rfl, lss_val ha (vS_lo hj), gtr_val ha (vS_hi hj')] at c
      refine ⟨a, ha, ?_⟩
      have e1 : one = 1024 * 2 ^ j := by rw [one_split (a := 10) (j := j) (by omega)]
      have e2 : 2 ^ (j + 20) = 1048576 * 2 ^ j := by rw [Nat.pow_add, Nat.mul_comm]
      rw [e2] at c
      rw [e1]
      generalize 2 ^ j = U at *
      simp at c
      omega
theorem step_bd {st : Nat} (h : StepOk st) : Bd 11 st := by
  obtain ⟨b, hb, h1, h2⟩ := h
  obtain ⟨J, hJ⟩ : ∃ J : Nat, J = 1074 := ⟨_, rfl⟩
  refine bd_val' (j := 11 + J) hb (by omega) ?_
  have e : 2 ^ (11 + J) = 2048 * one := by rw [one_pow hJ, Nat.pow_add]
  have := one_pos
  rw [e]
  generalize one = O at *
  omega

theorem hgt_val {x : Nat} (h : hgtB x = true) : ∃ a, vS x = some a ∧ a.natAbs ≤ 1048576 * one := by
  obtain ⟨a, ha, hb⟩ := val_bd (hgt_bd h)
  refine ⟨a, ha, ?_⟩
  obtain ⟨J, hJ⟩ : ∃ J : Nat, J = 1074 := ⟨_, rfl⟩
  have e : 2 ^ (1074 + 20) = 1048576 * one := by
    rw [one_pow hJ, show 1074 + 20 = 20 + J by omega, Nat.pow_add]
  rwa [e] at hb

theorem flV_near (a : Int) : flV a ≤ a ∧ a < flV a + (one : Int) := by
  have hp : (0 : Int) < (one : Int) := Int.natCast_pos.2 one_pos
  unfold flV
  have h1 := Int.ediv_mul_le a (Int.ne_of_gt hp)
  have h2 := Int.lt_ediv_add_one_mul_self a hp
  rw [Int.add_mul, Int.one_mul] at h2
  exact ⟨h1, h2⟩

/-- The quotient that Dither makes. -/
def dthQ (v st : Nat) : Nat := (floatBits .quo .f32 v st).getD 0
/-- What Dither makes of a cell, by the word of its hash. -/
def dthW (v st : Nat) (h : Int) : Nat :=
  (floatBits .mul .f32 (if (FloatKind.f32.format.order (unitW h) ((floatBits .sub .f32 (dthQ v st) (flW (dthQ v st))).getD 0) == some .lt) = true then (floatBits .add .f32 (flW (dthQ v st)) 1065353216).getD 0 else flW (dthQ v st)) st).getD 0

structure DthAt (v st : Nat) (h : Int) (q d : Nat) (c : Bool) (j r : Nat) : Prop where
  q1 : floatBits .quo .f32 v st = some q
  q2 : Same2 .quo 30 v st
  fq : ∃ a, vS q = some a
  bq : Bd 30 q
  d1 : floatBits .sub .f32 q (flW q) = some d
  d2 : Same2 .sub 32 q (flW q)
  c1 : (FloatKind.f32.format.order (unitW h) d == some .lt) = c
  j1 : c = true → floatBits .add .f32 (flW q) 1065353216 = some j
  j2 : c = true → Same2 .add 32 (flW q) 1065353216
  j3 : c = false → j = flW q
  r1 : floatBits .mul .f32 j st = some r
  r2 : Same2 .mul 43 j st
  w : dthW v st h = r
  lt : r < 4294967296

theorem fl_bd {q k : Nat} (h : Bd k q) (hk : k ≤ 50) : Bd (k + 1) (flW q) := by
  obtain ⟨a, ha, hb⟩ := val_bd h
  obtain ⟨_, _, _, _, _, _, _, _, _, hv⟩ := floor_parts ha h hk
  refine bd_val hv ?_
  obtain ⟨h1, h2⟩ := flV_near a
  obtain ⟨J, hJ⟩ : ∃ J : Nat, J = 1074 := ⟨_, rfl⟩
  have e : one ≤ 2 ^ (1074 + k) := by rw [one_pow hJ]; exact Nat.pow_le_pow_right (by omega) (by omega)
  rw [show 1074 + (k + 1) = 1074 + k + 1 by omega, Nat.pow_succ]
  generalize 2 ^ (1074 + k) = T at *
  generalize one = O at *
  omega

theorem bd_one (k : Nat) : Bd k 1065353216 := by
  obtain ⟨J, hJ⟩ : ∃ J : Nat, J = 1074 := ⟨_, rfl⟩
  refine bd_val vS_one ?_
  rw [Int.natAbs_natCast, one_pow hJ]; exact Nat.pow_le_pow_right (by omega) (by omega)

theorem dth_parts {v st : Nat} (h : Int) (hv : hgtB v = true) (hs : StepOk st) : ∃ q d c j r, DthAt v st h q d c j r := by
  obtain ⟨a, ha, hab⟩ := hgt_val hv
  have hs' := hs
  obtain ⟨b, hb, hb1, hb2⟩ := hs'
  have op := one_pos
  have q2 : Same2 .quo 30 v st := by
    refine div_val ha hb ?_ (by omega) ?_
    · generalize one = O at *; omega
    · rw [show (2 : Nat) ^ 30 = 1073741824 by decide]; generalize one = O at *; omega
  obtain ⟨_, _, _, q, _, _, _, _, q1, bq⟩ := q2.ex
  obtain ⟨aq, haq, _⟩ := val_bd bq
  have bf := fl_bd bq (by omega)
  have d2 : Same2 .sub 32 q (flW q) := sub_same (k := 31) (by omega) (bd_up bq (by omega)) bf
  obtain ⟨_, _, _, d, _, _, _, _, d1, _⟩ := d2.ex
  have j2 : Same2 .add 32 (flW q) 1065353216 := add_same (k := 31) (by omega) bf (bd_one 31)
  obtain ⟨_, _, _, j, _, _, _, _, j1, bj⟩ := j2.ex
  have eq : dthQ v st = q := by unfold dthQ; rw [q1]; rfl
  cases hc : (FloatKind.f32.format.order (unitW h) d == some .lt) with
  | true =>
    have r2 : Same2 .mul (32 + 11) j st := mul_same (by omega) bj (step_bd hs)
    obtain ⟨_, _, _, r, _, _, _, _, r1, _⟩ := r2.ex
    refine ⟨q, d, true, j, r, q1, q2, ⟨aq, haq⟩, bq, d1, d2, hc, fun _ => j1, fun _ => j2, (fun h => by cases h), r1, r2, ?_, opt_lt (d := (Ieee.single.read j).product (Ieee.single.read st)) r1⟩
    unfold dthW
    rw [eq, d1]
    show (floatBits .mul .f32 (if (FloatKind.f32.format.order (unitW h) d == some .lt) = true then (floatBits .add .f32 (flW q) 1065353216).getD 0 else flW q) st).getD 0 = r
    rw [if_pos hc, j1]
    show (floatBits .mul .f32 j st).getD 0 = r
    rw [r1]; rfl
  | false =>
    have r2 : Same2 .mul (32 + 11) (flW q) st := mul_same (by omega) (bd_up bf (by omega)) (step_bd hs)
    obtain ⟨_, _, _, r, _, _, _, _, r1, _⟩ := r2.ex
    refine ⟨q, d, false, flW q, r, q1, q2, ⟨aq, haq⟩, bq, d1, d2, hc, (fun h => by cases h), (fun h => by cases h), fun _ => rfl, r1, r2, ?_, opt_lt (d := (Ieee.single.read (flW q)).product (Ieee.single.read st)) r1⟩
    unfold dthW
    rw [eq, d1]
    show (floatBits .mul .f32 (if (FloatKind.f32.format.order (unitW h) d == some .lt) = true then (floatBits .add .f32 (flW q) 1065353216).getD 0 else flW q) st).getD 0 = r
    rw [if_neg (by rw [hc]; simp), r1]; rfl

/-- What Speckle makes of a cell. -/
def spkW (st : Nat) (h : Int) : Nat := if (FloatKind.f32.format.order (unitW h) st == some .lt) = true then 1065353216 else 0

/-- The place of a cell by its number. -/
theorem place_of {X Y x y : Int} {W i : Nat} (hW : 1 ≤ W) (h1 : X ≤ x) (h2 : x < X + W) (h3 : Y ≤ y) (hi : (i : Int) = (y - Y) * W + (x - X)) : X + ((i % W : Nat) : Int) = x ∧ Y + ((i / W : Nat) : Int) = y := by
  obtain ⟨a, ha⟩ := Int.eq_ofNat_of_zero_le (show 0 ≤ x - X by omega)
  obtain ⟨b, hb⟩ := Int.eq_ofNat_of_zero_le (show 0 ≤ y - Y by omega)
  rw [ha, hb, ← Int.natCast_mul, ← Int.natCast_add] at hi
  have hi' : i = b * W + a := Int.ofNat.inj hi
  have ha' : a < W := by omega
  have e1 : i % W = a := by rw [hi', Nat.mul_comm, Nat.mul_add_mod, Nat.mod_eq_of_lt ha']
  have e2 : i / W = b := by rw [hi', Nat.mul_comm, Nat.mul_add_div (by omega), Nat.div_eq_of_lt ha']; rfl
  rw [e1, e2]; omega

set_option maxHeartbeats 400000 in
theorem refDiv_any (k x y r : Nat) (h : Same2 .quo k x y) (hr : floatBits .quo .f32 x y = some r) (w : World) :
    Calls Try.prog 101 #[.float .f32 x, .float .f32 y] w fun e w' => e = .returned (.float .f32 r) ∧ w = w' := by
  obtain ⟨X, Y, Z, r', h1, h2, h3, h4, h5, _⟩ := h.ex
  rw [hr] at h5
  have h5 := Option.some.inj h5
  subst h5
  have c1 := fun (W : World) => run_convert_float_float (P := Try.prog) W 22 32 .f32 .f64 x X (by kernel_rfl) Try.underlying32 h1
  have c2 := fun (W : World) => run_convert_float_float (P := Try.prog) W 22 32 .f32 .f64 y Y (by kernel_rfl) Try.underlying32 h2
  have c3 := fun (W : World) => run_float_arith (P := Try.prog) W .quo 32 .f64 X Y Z h3
  have c4 := fun (W : World) => run_convert_float_float (P := Try.prog) W 32 22 .f64 .f32 Z r (by kernel_rfl) Try.underlying22 h4
  clear h1 h2 h3 h4 hr h
  go_enter Try.func101, Try.ntmps101
  go_wp2
  go_ret
  exact ⟨rfl, rfl⟩

end Go.Proofs.Ytkcehbnmcdppkaa

/- The error of a single that should lie between two others, by the tests of the reference. -/
namespace Go.Proofs.Ytkcehbnmcdppkaa
open Go.RowKit Fl
set_option linter.unusedVariables false

/-- The error of a single that should be from lo to hi, told by the reference's tests. -/
def WithinCases (st lo hi : Nat) : Prop :=
    ((fldE 1 (fun _ => st) = 2 ∨ fldE 1 (fun _ => st) = 3) ∧ wiE st lo hi = fldE 1 (fun _ => st)) ∨
    (fldE 1 (fun _ => st) = 0 ∧ wiE st lo hi = 3 ∧ (FloatKind.f32.format.order st lo == some .lt) = true) ∨
    (fldE 1 (fun _ => st) = 0 ∧ wiE st lo hi = 3 ∧ (FloatKind.f32.format.order st lo == some .lt) = false ∧ (FloatKind.f32.format.order st hi == some .gt) = true) ∨
    (fldE 1 (fun _ => st) = 0 ∧ wiE st lo hi = 0 ∧ (FloatKind.f32.format.order st lo == some .lt) = false ∧ (FloatKind.f32.format.order st hi == some .gt) = false)
theorem within_cases {st lo hi : Nat} {l h : Int} (hl : vS lo = some l) (hh : vS hi = some h) (l1 : -vTop ≤ l) (h1 : h ≤ vTop) : WithinCases st lo hi := by
  unfold WithinCases
  cases hf : finB st with
  | false =>
    have e : fldE 1 (fun _ => st) = 2 := by simp [fldE, allB, List.range_succ, hf]
    exact .inl ⟨.inl e, by rw [e]; unfold wiE; rw [if_pos hf]⟩
  | true =>
    obtain ⟨a, ha⟩ := Option.isSome_iff_exists.1 (show (vS st).isSome = true from hf)
    have l0 := lss_val ha hl
    have g1 := gtr_val ha hh
    rw [← f32f] at l0 g1
    have hw : ((FloatKind.f32.format.order st lo == some .lt) = true ∨ (FloatKind.f32.format.order st hi == some .gt) = true) → wiE st lo hi = 3 := fun c => by
      unfold wiE; rw [if_neg (by rw [hf]; simp), if_pos c]
    cases hgt : hgtB st with
    | false =>
      have e : fldE 1 (fun _ => st) = 3 := by simp [fldE, hgtE, allB, List.range_succ, hf, hgt]
      refine .inl ⟨.inr e, ?_⟩
      rw [e]
      refine hw ?_
      unfold hgtB at hgt
      rw [ha] at hgt
      rw [l0, g1]
      simp at hgt ⊢
      omega
    | true =>
      have e : fldE 1 (fun _ => st) = 0 := fldE_one_ok hgt
      cases c1 : (FloatKind.f32.format.order st lo == some .lt) with
      | true => exact .inr (.inl ⟨e, hw (.inl c1), rfl⟩)
      | false =>
        cases c2 : (FloatKind.f32.format.order st hi == some .gt) with
        | true => exact .inr (.inr (.inl ⟨e, hw (.inr c2), rfl, rfl⟩))
        | false => exact .inr (.inr (.inr ⟨e, by unfold wiE; rw [if_neg (by rw [hf]; simp), if_neg (by rw [c1, c2]; simp)], rfl, rfl⟩))

theorem vTop_one : vTop = 1048576 * (one : Int) := by
  obtain ⟨J, hJ⟩ : ∃ J : Nat, J = 1074 := ⟨_, rfl⟩
  unfold vTop
  rw [one_pow hJ, Nat.one_mul, show ((20 : Int) + 1074).toNat = 20 + J by omega, Nat.pow_add, Int.natCast_mul]; rfl
theorem step_cases (st : Nat) : WithinCases st 981467136 1149239296 := by
  obtain ⟨j, hj⟩ : ∃ j : Nat, j = 1064 := ⟨_, rfl⟩
  have hj' : j + 20 = 1084 := by omega
  have e1 : one = 1024 * 2 ^ j := by rw [one_split (a := 10) (j := j) (by omega)]
  have e2 : 2 ^ (j + 20) = 1048576 * 2 ^ j := by rw [Nat.pow_add, Nat.mul_comm]
  have hp := Nat.two_pow_pos j
  exact within_cases (st := st) (vS_lo hj) (vS_hi hj') (by rw [vTop_one, e1]; generalize 2 ^ j = U at *; omega) (by rw [vTop_one, e1, e2]; generalize 2 ^ j = U at *; omega)

theorem flAt_one_of {w : World} {b x : Nat} (h : w.heap[b]? = some (flObj x)) : FlAt w b 0 1 (fun _ => x) := by
  intro i hi
  have : i = 0 := by omega
  subst this
  exact (blkC h).1 0
theorem refHeight_of (x : Nat) (hx : x < 4294967296) (bb : Nat) (w : World) (h : w.heap[bb]? = some (flObj x)) :
    Calls Try.prog 85 #[.slice (some ⟨bb, 0, none⟩) 1 1] w fun e w' => e = .returned (.int .i64 (fldE 1 (fun _ => x))) ∧ w = w' :=
  refHeight_row bb 0 1 1 (fun _ => x) (by omega) w (flAt_one_of h) (fun _ _ => hx)

end Go.Proofs.Ytkcehbnmcdppkaa

/- Contract: the law's writes. -/
namespace Go.Proofs.Ytkcehbnmcdppkaa
open Go.RowKit Fl
set_option linter.unusedVariables false

theorem encT_size (X Y W H : Int) (v : Nat → Nat) (n : Nat) : (encT X Y W H v n).size = 25 + 4 * n := by
  unfold encT; rw [txB_size, List.length_append, byteL_len]; unfold encL; rw [List.length_append, headL_len, fullL_len]; omega

set_option maxHeartbeats 1000000 in
set_option maxRecDepth 100000 in
theorem writes_any (w : World) : Calls Try.prog 15 #[] w fun e w' => e = .returned (.bool true) ∧ Below w.heap.size w w' := by
  have EN := Lib.hid (fun (b : Nat) (W : World) (hb : W.heap[b]? = some (.cells #[.float .f32 1065353216] 22)) => encFull_any 0 0 1 1 1 b 0 1 (fun _ => 1065353216) W (flAt_one_of hb) (fun _ _ => by show 1065353216 < 4294967296; omega) (fun _ _ => by show hgtB 1065353216 = true; kernel_rfl) (by decide) rfl)
  have HS := Lib.hid (encT_size 0 0 (1 : Nat) (1 : Nat) (fun _ => 1065353216) 1)
  generalize encT 0 0 (1 : Nat) (1 : Nat) (fun _ => 1065353216) 1 = s at *
  go_enter Try.func15, Try.ntmps15
  go_wp2_with (go_at_call 69; go_loud (refine (EN.out _ _ (by (first | (rw [heap_alloc_get, if_pos rfl]; done) | ((simp only [heap_alloc_get, heap_size_alloc, if_true]) <;> ((repeat' split) <;> first | rfl | omega))))).mono ?_; rintro e w2 ⟨rfl, hb2⟩; have B2 := Lib.hid (show Below w.heap.size w w2 from ((Below.refl _ _).alloc (Nat.le_refl _) _).trans (hb2.mono (by simp))); clear hb2; have hs := HS.out))
  go_ret
  exact ⟨rfl, B2.out⟩
end Go.Proofs.Ytkcehbnmcdppkaa

/- HalvesLeadBack, walked. -/
namespace Go.Proofs.Ytkcehbnmcdppkaa
open Go.RowKit Fl
set_option linter.unusedVariables false

theorem vD_lit {X : Nat} {p : Int} {m r j : Nat} (h : Ieee.double.read X = .number false m p) (hj : j = (p + 1074).toNat) (hr : rv r = m * 2 ^ j) : vD X = some ((rv r : Nat) : Int) := by
  rw [vD_num h, vOf_mag, ← hj, ← hr]; simp
theorem rv_at {r m e j a : Nat} (hm : rgM r = m * 2 ^ a) (he : rgE r = e) (hj : j = a + e) : rv r = m * 2 ^ j := by
  unfold rv
  rw [hm, he, Nat.mul_assoc, ← Nat.pow_add, hj]
theorem c14 : vD 4544132024016830464 = some ((rv 947912704 : Nat) : Int) := by
  obtain ⟨e, he⟩ : ∃ e : Nat, e = 1037 := ⟨_, rfl⟩
  obtain ⟨i, hi⟩ : ∃ i : Nat, i = 1008 := ⟨_, rfl⟩
  refine vD_lit (m := 4503599627370496) (p := -66) (j := i) (by decide) (by omega) ?_
  rw [rv_at (m := 1) (a := 23) (e := e) (j := 23 + e) (by decide) (by rw [he]; decide) rfl, show (4503599627370496 : Nat) = 2 ^ 52 by decide, ← Nat.pow_add, Nat.one_mul, show 52 + i = 23 + e by omega]
theorem c65504 : vD 4679235614791434240 = some ((rv 1199562752 : Nat) : Int) := by
  obtain ⟨e, he⟩ : ∃ e : Nat, e = 1066 := ⟨_, rfl⟩
  obtain ⟨i, hi⟩ : ∃ i : Nat, i = 1037 := ⟨_, rfl⟩
  refine vD_lit (m := 9002801208229888) (p := -37) (j := i) (by decide) (by omega) ?_
  rw [rv_at (m := 2047) (a := 13) (e := e) (j := 13 + e) (by decide) (by rw [he]; decide) rfl, show (9002801208229888 : Nat) = 2047 * 2 ^ 42 by decide, Nat.mul_assoc, ← Nat.pow_add, show 42 + i = 13 + e by omega]
theorem c100 : vD 4156822456062967808 = some ((rv 226492416 : Nat) : Int) := by
  obtain ⟨e, he⟩ : ∃ e : Nat, e = 951 := ⟨_, rfl⟩
  obtain ⟨i, hi⟩ : ∃ i : Nat, i = 922 := ⟨_, rfl⟩
  refine vD_lit (m := 4503599627370496) (p := -152) (j := i) (by decide) (by omega) ?_
  rw [rv_at (m := 1) (a := 23) (e := e) (j := 23 + e) (by decide) (by rw [he]; decide) rfl, show (4503599627370496 : Nat) = 2 ^ 52 by decide, ← Nat.pow_add, Nat.one_mul, show 52 + i = 23 + e by omega]
theorem cMax : vD 4697254411347427328 = some ((rv 1233125376 : Nat) : Int) := by
  obtain ⟨e, he⟩ : ∃ e : Nat, e = 1071 := ⟨_, rfl⟩
  obtain ⟨i, hi⟩ : ∃ i : Nat, i = 1042 := ⟨_, rfl⟩
  refine vD_lit (m := 4503599627370496) (p := -32) (j := i) (by decide) (by omega) ?_
  rw [rv_at (m := 1) (a := 23) (e := e) (j := 23 + e) (by decide) (by rw [he]; decide) rfl, show (4503599627370496 : Nat) = 2 ^ 52 by decide, ← Nat.pow_add, Nat.one_mul, show 52 + i = 23 + e by omega]

/-- What the fourth part asks of a magnitude in its range. -/
theorem part4 {s : Bool} {r X : Nat} (h1 : 947912704 ≤ r) (h2 : r ≤ 1199562752) (hX : floatToFloatBits .f32 (sw s r) .f64 = some X) :
    ∃ (h : Int) (b : Bool) (y W D Q : Nat), (∀ w, Calls Try.prog 9 #[.float .f32 (sw s r)] w fun en w' => en = .returned (.tuple #[.int .i64 h, .bool b]) ∧ w = w') ∧ (∀ w, Calls Try.prog 11 #[.int .i64 h] w fun en w' => en = .returned (.tuple #[.float .f32 y, .int .i64 0]) ∧ w = w') ∧
      floatToFloatBits .f32 y .f64 = some W ∧ floatBits .sub .f64 W X = some D ∧ D < b64 ∧ floatBits .quo .f64 (X % b63) 4656722014701092864 = some Q ∧ (FloatKind.f64.format.order (D % b63) Q == some .gt) = false := by
  obtain ⟨q1, q2, q3, q4, q5, q6⟩ := half_near h1 h2
  have hR : nhR r = nrH r := by unfold nhR; rw [if_neg (by omega), if_neg (by omega)]
  have hw := (whole_word q2).2.1
  obtain ⟨W, D, Q, e1, e2, e3, e4, e5⟩ := lost_ok (s := s) (r := r) (r' := whW (nrH r)) (k := 11) (Y := 4656722014701092864) (by omega) (by omega) hw (by omega) q3 q4 (by omega) (by omega) (by decide) hX
  refine ⟨((nhW s r : Nat) : Int), _, sw s (whW (nrH r)), W, D, Q, fun w => half_any (s := s) (r := r) (by omega) (by rw [hR]; exact q2) _ rfl w, fun w => whole_ok (s := s) (q := nrH r) q2 (by unfold nhW; rw [hR]) w, e1, e2, e3, e4, e5⟩
theorem part5 {s : Bool} {r X : Nat} (h1 : 226492416 ≤ r) (h2 : r ≤ 1233125376) (hX : floatToFloatBits .f32 (sw s r) .f64 = some X) :
    ∃ (h : Int) (y W D Q : Nat), (∀ w, Calls Try.prog 16 #[.float .f32 (sw s r)] w fun en w' => en = .returned (.int .i64 h) ∧ w = w') ∧ (∀ w, Calls Try.prog 12 #[.int .i64 h] w fun en w' => en = .returned (.tuple #[.float .f32 y, .int .i64 0]) ∧ w = w') ∧
      floatToFloatBits .f32 y .f64 = some W ∧ floatBits .sub .f64 W X = some D ∧ D < b64 ∧ floatBits .quo .f64 (X % b63) 4643211215818981376 = some Q ∧ (FloatKind.f64.format.order (D % b63) Q == some .gt) = false := by
  obtain ⟨q1, q3, q4, q5, q6⟩ := short_near (r := r) (by omega)
  obtain ⟨W, D, Q, e1, e2, e3, e4, e5⟩ := lost_ok (s := s) (r := r) (r' := nrS r * 65536) (k := 8) (Y := 4643211215818981376) (by omega) (by omega) (by omega) (by omega) q3 q4 (by omega) (by omega) (by decide) hX
  have hs : nrS (sw s r) = s.toNat * 32768 + nrS r := by rw [sw_form]; exact short_sign (by cases s <;> simp)
  have hk : s.toNat * 32768 + nrS r < 65536 := by cases s <;> simp <;> omega
  obtain ⟨k, hk2⟩ : ∃ k, k = s.toNat * 32768 + nrS r := ⟨_, rfl⟩
  have hz : k * 65536 = sw s (nrS r * 65536) := by rw [hk2]; exact short_word
  rw [← hk2] at hk hs
  have hw := wi_fin (s := s) (r := nrS r * 65536) (by omega)
  have hS := fun w => short_any (s := s) (r := r) (by omega) w
  rw [hs] at hS
  rw [← hz] at hw e1
  exact ⟨(k : Int), k * 65536, W, D, Q, hS, fun w => by have := long_any hk 0 hw w; rwa [if_pos rfl] at this, e1, e2, e3, e4, e5⟩

set_option maxHeartbeats 4000000 in
set_option maxRecDepth 100000 in
theorem halvesLaw_nan (x : Nat) (hx : 2139095040 < x % 2147483648) (n : Int) (w : World) :
    Calls Try.prog 4 #[.float .f32 x, .int .i64 n] w fun e w' => e = .returned (.bool true) ∧ Below w.heap.size w w' := by
  obtain ⟨y1, e1, hW, hH⟩ := lead_half n
  obtain ⟨y2, e2, hL, hS⟩ := lead_short n
  have WR := Lib.hid writes_any
  have W1 := Lib.hid hW
  have H1 := Lib.hid hH
  have L1 := Lib.hid hL
  have S1 := Lib.hid hS
  have LA := Lib.hid ldexp14
  have LB := Lib.hid ldexp100
  clear hW hH hL hS
  have CN := fun W => conv_nan (read_nan hx) W
  have AB := Lib.hid (fun W w => mathAbs_any (nanD x W) w (nanD_lt x W))
  have g1 := fun W => nan_geq x W 4544132024016830464
  have g2 := fun W => nan_geq x W 4156822456062967808
  clear hx
  go_enter Try.func4, Try.ntmps4
  go_upto_if 27 with (first
    | (go_at_call 15; (with_reducible refine (WR.out _).mono ?_); rintro en w1 ⟨rfl, hb1⟩; have HB1 := Lib.hid hb1; clear hb1)
    | (go_at_call 11; (with_reducible refine (W1.out _).mono ?_); rintro en w' ⟨rfl, rfl⟩))
  go_cut [7, 8] from 28 to 39 (fun _ _ wx => Below w.heap.size w wx)
  case first =>
    by_cases he : e1 = 0
    · have HH := Lib.hid (H1.out he)
      subst he
      go_wp2_with (go_at_call 9; (with_reducible refine (HH.out _).mono ?_); rintro en w' ⟨rfl, rfl⟩)
      go_meet
      case rel => exact HB1.out
    · have he1 : (e1 == 0) = false := by simpa using he
      go_wp2_with fail
      go_meet
      case rel => exact HB1.out
  case rest =>
    have HB2 := Lib.hid hcut
    clear hcut HB1
    generalize wc = w2 at *
    go_upto_if 46 with (go_at_call 12; (with_reducible refine (L1.out _).mono ?_); rintro en w' ⟨rfl, rfl⟩)
    go_cut [] from 47 to 50 (fun wx => Below w.heap.size w wx)
    case first =>
      by_cases he : e2 = 0
      · have HH := Lib.hid (S1.out he)
        subst he
        go_wp2_with (go_at_call 16; (with_reducible refine (HH.out _).mono ?_); rintro en w' ⟨rfl, rfl⟩)
        go_meet
        case rel => exact HB2.out
      · have he1 : (e2 == 0) = false := by simpa using he
        go_wp2_with fail
        go_meet
        case rel => exact HB2.out
    case rest =>
      have HB3 := Lib.hid hcut
      clear hcut HB2
      generalize wc = w3 at *
      go_wp2_with (first
        | (go_at_call 19; (with_reducible refine (AB.out _ _).mono ?_); rintro en w' ⟨rfl, rfl⟩)
        | (go_at_call 20; (with_reducible refine (LA.out _).mono ?_); rintro en w' ⟨rfl, rfl⟩)
        | (go_at_call 20; (with_reducible refine (LB.out _).mono ?_); rintro en w' ⟨rfl, rfl⟩))
      go_ret
      exact ⟨rfl, by first | exact HB3.out.drew.drew | (have := HB3.out; exact ⟨this.os, this.tape, this.output, this.size, this.block⟩)⟩

set_option maxHeartbeats 4000000 in
set_option maxRecDepth 100000 in
theorem halvesLaw_num (s : Bool) (r : Nat) (hr : r ≤ 2139095040) (n : Int) (w : World) :
    Calls Try.prog 4 #[.float .f32 (sw s r), .int .i64 n] w fun e w' => e = .returned (.bool true) ∧ Below w.heap.size w w' := by
  obtain ⟨y1, e1, hW, hH⟩ := lead_half n
  obtain ⟨y2, e2, hL, hS⟩ := lead_short n
  have WR := Lib.hid writes_any
  have W1 := Lib.hid hW
  have H1 := Lib.hid hH
  have L1 := Lib.hid hL
  have S1 := Lib.hid hS
  have LA := Lib.hid ldexp14
  have LB := Lib.hid ldexp100
  clear hW hH hL hS
  obtain ⟨X, c1, c2, t1, t2⟩ := dbl_tests (s := s) hr c14 c65504 (by omega) (by omega)
  obtain ⟨X', c3, -, t3, t4⟩ := dbl_tests (s := s) hr c100 cMax (by omega) (by omega)
  rw [c1] at c3; cases c3
  have P4 := Lib.hid (fun h1 h2 => part4 (s := s) (r := r) h1 h2 c1)
  have P5 := Lib.hid (fun h1 h2 => part5 (s := s) (r := r) h1 h2 c1)
  have CV := fun (W : World) => run_convert_float_float (P := Try.prog) W 22 32 .f32 .f64 (sw s r) X (by kernel_rfl) Try.underlying32 c1
  have AB := Lib.hid (fun w => mathAbs_any X w c2)
  have Q4 := Lib.hid (show (decide (947912704 ≤ r) && decide (r ≤ 1199562752)) = true → 947912704 ≤ r ∧ r ≤ 1199562752 from fun h => by simpa using h)
  have Q5 := Lib.hid (show (decide (226492416 ≤ r) && decide (r ≤ 1233125376)) = true → 226492416 ≤ r ∧ r ≤ 1233125376 from fun h => by simpa using h)
  generalize decide (947912704 ≤ r) = b1 at *
  generalize decide (r ≤ 1199562752) = b2 at *
  generalize decide (226492416 ≤ r) = b3 at *
  generalize decide (r ≤ 1233125376) = b4 at *
  clear c1 c2 hr
  generalize sw s r = x at *
  generalize X % b63 = A at *
  have T1 := Lib.hid t1
  have T2 := Lib.hid t2
  have T3 := Lib.hid t3
  have T4 := Lib.hid t4
  clear t1 t2 t3 t4
  go_enter Try.func4, Try.ntmps4
  go_upto_if 27 with (first
    | (go_at_call 15; (with_reducible refine (WR.out _).mono ?_); rintro en w1 ⟨rfl, hb1⟩; have HB1 := Lib.hid hb1; clear hb1)
    | (go_at_call 11; (with_reducible refine (W1.out _).mono ?_); rintro en w' ⟨rfl, rfl⟩))
  go_cut [7, 8] from 28 to 39 (fun _ _ wx => Below w.heap.size w wx)
  case first =>
    by_cases he : e1 = 0
    · have HH := Lib.hid (H1.out he)
      subst he
      go_wp2_with (go_at_call 9; (with_reducible refine (HH.out _).mono ?_); rintro en w' ⟨rfl, rfl⟩)
      go_meet
      case rel => exact HB1.out
    · have he1 : (e1 == 0) = false := by simpa using he
      go_wp2_with fail
      go_meet
      case rel => exact HB1.out
  case rest =>
    have HB2 := Lib.hid hcut
    clear hcut HB1
    generalize wc = w2 at *
    go_upto_if 46 with (go_at_call 12; (with_reducible refine (L1.out _).mono ?_); rintro en w' ⟨rfl, rfl⟩)
    go_cut [] from 47 to 50 (fun wx => Below w.heap.size w wx)
    case first =>
      by_cases he : e2 = 0
      · have HH := Lib.hid (S1.out he)
        subst he
        go_wp2_with (go_at_call 16; (with_reducible refine (HH.out _).mono ?_); rintro en w' ⟨rfl, rfl⟩)
        go_meet
        case rel => exact HB2.out
      · have he1 : (e2 == 0) = false := by simpa using he
        go_wp2_with fail
        go_meet
        case rel => exact HB2.out
    case rest =>
      have HB3 := Lib.hid hcut
      clear hcut HB2
      generalize wc = w3 at *
      go_upto_region 13 with (go_at_call 19; (with_reducible refine (AB.out _).mono ?_); rintro en w' ⟨rfl, rfl⟩)
      go_cut [60] from 54 to 60 (fun s wx => s = .bool (b1 && b2) ∧ Below w.heap.size w wx)
      case first =>
        have t1 := T1.out
        have t2 := T2.out
        cases b1 <;> cases b2
        all_goals
          go_wp2_with (go_at_call 20; (with_reducible refine (LA.out _).mono ?_); rintro en w' ⟨rfl, rfl⟩)
          go_meet
          case rel => exact ⟨rfl, HB3.out⟩
      case rest =>
        obtain ⟨rfl, hcut⟩ := hcut
        have HB3x := Lib.hid hcut
        clear hcut HB3
        generalize wc = wq at *
        generalize (b1 && b2) = bb at *
        go_upto_if 60 with fail
        go_cut [12, 13, 14, 15] from 61 to 83 (fun _ _ _ _ wx => Below w.heap.size w wx)
        case first =>
          cases bb
          · go_wp2_with fail
            go_meet
            case rel => exact HB3x.out
          · obtain ⟨h1, h2⟩ := Q4.out rfl
            obtain ⟨h, b, y, Wd, D, Qd, k1, k2, k3, k4, k5, k6, k7⟩ := P4.out h1 h2
            clear h1 h2
            have K1 := Lib.hid k1
            have K2 := Lib.hid k2
            have CW := fun (W : World) => run_convert_float_float (P := Try.prog) W 22 32 .f32 .f64 y Wd (by kernel_rfl) Try.underlying32 k3
            have SU := fun (W : World) => run_float_arith (P := Try.prog) W .sub 32 .f64 _ _ _ k4
            have QU := fun (W : World) => run_float_arith (P := Try.prog) W .quo 32 .f64 _ _ _ k6
            have AD := Lib.hid (fun w => mathAbs_any D w k5)
            clear k1 k2 k3 k4 k5 k6
            generalize D % b63 = DA at *
            go_wp2_with (first
              | (go_at_call 9; (with_reducible refine (K1.out _).mono ?_); rintro en w' ⟨rfl, rfl⟩)
              | (go_at_call 11; (with_reducible refine (K2.out _).mono ?_); rintro en w' ⟨rfl, rfl⟩)
              | (go_at_call 19; (with_reducible refine (AD.out _).mono ?_); rintro en w' ⟨rfl, rfl⟩))
            go_meet
            case rel => exact HB3x.out
        case rest =>
          have HB4 := Lib.hid hcut
          clear hcut HB3x
          generalize wc = wr at *
          go_upto_region 19 with (go_at_call 19; (with_reducible refine (AB.out _).mono ?_); rintro en w' ⟨rfl, rfl⟩)
          go_cut [93] from 87 to 93 (fun s wx => s = .bool (b3 && b4) ∧ Below w.heap.size w wx)
          case first =>
            have t1 := T3.out
            have t2 := T4.out
            cases b3 <;> cases b4
            all_goals
              go_wp2_with (go_at_call 20; (with_reducible refine (LB.out _).mono ?_); rintro en w' ⟨rfl, rfl⟩)
              go_meet
              case rel => exact ⟨rfl, HB4.out⟩
          case rest =>
            obtain ⟨rfl, hcut⟩ := hcut
            have HB4x := Lib.hid hcut
            clear hcut HB4
            generalize wc = wq at *
            generalize (b3 && b4) = bb at *
            go_upto_if 93 with fail
            go_cut [17, 18] from 94 to 112 (fun _ _ wx => Below w.heap.size w wx)
            case first =>
              cases bb
              · go_wp2_with fail
                go_meet
                case rel => exact HB4x.out
              · obtain ⟨h1, h2⟩ := Q5.out rfl
                obtain ⟨h, y, Wd, D, Qd, k1, k2, k3, k4, k5, k6, k7⟩ := P5.out h1 h2
                clear h1 h2
                have K1 := Lib.hid k1
                have K2 := Lib.hid k2
                have CW := fun (W : World) => run_convert_float_float (P := Try.prog) W 22 32 .f32 .f64 y Wd (by kernel_rfl) Try.underlying32 k3
                have SU := fun (W : World) => run_float_arith (P := Try.prog) W .sub 32 .f64 _ _ _ k4
                have QU := fun (W : World) => run_float_arith (P := Try.prog) W .quo 32 .f64 _ _ _ k6
                have AD := Lib.hid (fun w => mathAbs_any D w k5)
                clear k1 k2 k3 k4 k5 k6
                generalize D % b63 = DA at *
                go_wp2_with (first
                  | (go_at_call 16; (with_reducible refine (K1.out _).mono ?_); rintro en w' ⟨rfl, rfl⟩)
                  | (go_at_call 12; (with_reducible refine (K2.out _).mono ?_); rintro en w' ⟨rfl, rfl⟩)
                  | (go_at_call 19; (with_reducible refine (AD.out _).mono ?_); rintro en w' ⟨rfl, rfl⟩))
                go_meet
                case rel => exact HB4x.out
            case rest =>
              have HB5 := Lib.hid hcut
              clear hcut HB4x
              generalize wc = wr at *
              go_wp2_with fail
              go_ret
              exact ⟨rfl, HB5.out⟩

theorem halvesLaw_any (x : Nat) (hx : x < 4294967296) (n : Int) (w : World) :
    Calls Try.prog 4 #[.float .f32 x, .int .i64 n] w fun e w' => e = .returned (.bool true) ∧ Below w.heap.size w w' := by
  by_cases c : 2139095040 < x % 2147483648
  · exact halvesLaw_nan x c n w
  · by_cases d : x < 2147483648
    · have := halvesLaw_num false x (by omega) n w
      exact this
    · have := halvesLaw_num true (x - 2147483648) (by omega) n w
      rwa [show sw true (x - 2147483648) = x by unfold sw; simp; omega] at this
end Go.Proofs.Ytkcehbnmcdppkaa

/- A field that came in, opened: four integers, and a slice of singles that is empty or known cell by cell. -/
namespace Go.Proofs.Ytkcehbnmcdppkaa
open Go.ChangeShapes Go.WideShapes Go.ChangeAt Go.RowKit Go.Joins Fl

section
variable {H : Type} {enc : TypeId × Value → H} {w : World} {base : Nat} {spare : Nat → Bool} {held : Bool}

theorem trod_f32 {P : Program} {t : TypeId} {fuel : Nat} {v : Value} {y : DataW H × List MemPlace} (ht : P.underlying t = some (.float .f32)) (h : DataW.trod enc P w base spare held fuel t [v] = some y) : ∃ b, v = .float .f32 b ∧ b < 4294967296 := by
  cases fuel with
  | zero => simp [DataW.trod] at h
  | succ n =>
    unfold DataW.trod at h
    rw [ht] at h
    cases v <;> simp at h
    rename_i k b
    obtain ⟨⟨rfl, hw⟩, _⟩ := h
    exact ⟨b, rfl, by simpa [Lit.wf] using hw⟩

theorem array5 {α : Type} {cs : Array α} (h : cs.size = 5) : ∃ c0 c1 c2 c3 c4, cs = #[c0, c1, c2, c3, c4] := by
  obtain ⟨l⟩ := cs
  match l, h with
  | [c0, c1, c2, c3, c4], _ => exact ⟨c0, c1, c2, c3, c4, rfl⟩

theorem flAt_congr' {w w' : World} {b off n : Nat} {f : Nat → Nat} (h : FlAt w b off n f) (e : w'.heap[b]? = w.heap[b]?) : FlAt w' b off n f := fun i hi => by
  rw [← h i hi]; exact World.cell?_of_block (w := w) (a := ⟨b, off + i, none⟩) e

/-- What a slice of singles is: empty, or known cell by cell. -/
def SlF (w : World) (s : Value) : Prop :=
  (∃ a cap, s = .slice a 0 cap) ∨ ∃ b off len cap x, s = .slice (some ⟨b, off, none⟩) len cap ∧ 0 < len ∧ len ≤ 9223372036854775807 ∧ FlAt w b off len x ∧ wf32 len x

theorem open_singles {t e : TypeId} {fuel : Nat} {cs : List Value} {y : DataW H × List MemPlace} (ht : Try.prog.underlying t = some (.slice e)) (he : Try.prog.underlying e = some (.float .f32)) (hc : Try.prog.cellsOf e = 1)
    (h : DataW.trod enc Try.prog w base spare held fuel t cs = some y) : ∃ s, cs = [s] ∧ SlF w s := by
  rcases Go.Deep.open_slice1 ht hc h with ⟨rfl, _⟩ | ⟨a, len, cap, m, n, V, D, Pl, rfl, hb, hl, hm, hmm, _, hx⟩
  · exact ⟨_, rfl, .inl ⟨none, 0, rfl⟩⟩
  · refine ⟨_, rfl, ?_⟩
    rcases Nat.eq_zero_or_pos len with z | z
    · subst z; exact .inl ⟨_, _, rfl⟩
    · have hlm : len ≤ m := by rw [hmm]; split <;> omega
      have h0 := (hx 0 (by omega)).1
      obtain ⟨b, off, spot⟩ := a
      have hspot : spot = none := by simpa [Addr.add] using World.cell?_spot h0
      subst hspot
      have hv : ∀ i, i < len → ∃ x, V i = .float .f32 x ∧ x < 4294967296 := fun i hi => trod_f32 he (hx i (by omega)).2
      refine .inr ⟨b, off, len, cap, fun i => match V i with | .float _ x => x | _ => 0, rfl, z, ?_, fun i hi => ?_, fun i hi => ?_⟩
      · exact Nat.le_trans hl (Nat.le_trans hm (by decide))
      · have h1 := (hx i (by omega)).1
        obtain ⟨x, e1, _⟩ := hv i hi
        rw [← Go.WideShapes.add_plain, h1]
        simp only [e1]
      · obtain ⟨x, e1, e2⟩ := hv i hi
        simp only [e1]; exact e2

theorem cellsF : Try.prog.cellsOf 41 = 5 := by kernel_rfl
theorem cellsR : Try.prog.cellsOf 38 = 4 := by kernel_rfl
theorem cellsS : Try.prog.cellsOf 39 = 1 := by kernel_rfl
theorem cells1 : Try.prog.cellsOf 22 = 1 := by kernel_rfl
theorem cellsI : Try.prog.cellsOf 3 = 1 := by kernel_rfl

set_option maxRecDepth 100000 in
theorem open_field {r : Reach} {b0 : Nat} {v : Value} {d : DataW H} {p : List MemPlace} (hv : Value.okWide Try.prog w r b0 41 v) (h : DataW.Trod enc Try.prog w base spare held 41 v d p) :
    ∃ X Y W' H' : Int, ∃ s, v = fldV X Y W' H' s ∧ SlF w s := by
  obtain ⟨cs, rfl, hsz⟩ := okWide_struct Try.underlying41 hv
  obtain ⟨c0, c1, c2, c3, c4, rfl⟩ := array5 (hsz.trans cellsF)
  obtain ⟨fuel, hf⟩ := h
  obtain ⟨y0, y1, n, _, _, h0, h1⟩ := trod_struct2 Try.underlying41 hf
  rw [cellsR] at h0
  rw [cellsS] at h1
  obtain ⟨s, e4, hs⟩ := open_singles Try.underlying39 Try.underlying22 cells1 h1
  obtain ⟨z0, z1, z2, z3, n2, _, _, g0, g1, g2, g3⟩ := trod_struct4 Try.underlying38 h0
  rw [cellsI] at g0 g1 g2 g3
  obtain ⟨x0, e0, _, _⟩ := DataW.trod_int Try.underlying3 g0
  obtain ⟨x1, e1, _, _⟩ := DataW.trod_int Try.underlying3 g1
  obtain ⟨x2, e2, _, _⟩ := DataW.trod_int Try.underlying3 g2
  obtain ⟨x3, e3, _, _⟩ := DataW.trod_int Try.underlying3 g3
  simp [Value.cells] at e0 e1 e2 e3 e4
  subst e0 e1 e2 e3 e4
  exact ⟨x0, x1, x2, x3, _, rfl, hs⟩
end

theorem SlF.stay {w w' : World} {s : Value} (h : SlF w s) (hb : Below w.heap.size w w') : SlF w' s := by
  rcases h with h | ⟨b, off, len, cap, x, rfl, h1, h2, h3, h4⟩
  · exact .inl h
  · exact .inr ⟨b, off, len, cap, x, rfl, h1, h2, flAt_congr' h3 (hb.block _ (World.block_lt_of_cell? w _ (h3 0 h1))), h4⟩

/-- fit, of whatever slice. -/
theorem fit_any {X Y W H : Int} {s : Value} {w : World} (h : SlF w s) : Calls Try.prog 36 #[fldV X Y W H s] w (FitPost w) := by
  rcases h with ⟨a, cap, rfl⟩ | ⟨b, off, len, cap, x, rfl, h1, h2, h3, h4⟩
  · exact fit_none X Y W H a cap w
  · exact fit_some X Y W H b off len cap x w h1 h2 h3 h4

theorem laidOut : laidOutB Try.prog = true := by kernel_rfl
end Go.Proofs.Ytkcehbnmcdppkaa

/- min and max of singles that have values. -/
namespace Go.Proofs.Ytkcehbnmcdppkaa
open Go.RowKit Fl
set_option linter.unusedVariables false

theorem max2_val {x y : Nat} {a b : Int} (hx : vS x = some a) (hy : vS y = some b) : ∃ r, Builtin.max2 (.float .f32 x) (.float .f32 y) = pure (.float .f32 r) ∧ vS r = some (if a < b then b else a) ∧ (b < a → r = x) ∧ (a < b → r = y) ∧ (r = x ∨ r = y) := by
  have o : FloatKind.f32.format.order x y = some (compare a b) := order_val hx hy
  unfold Builtin.max2
  dsimp only
  rw [o]
  rcases h : compare a b with _ | _ | _
  · have : a < b := Int.compare_eq_lt.1 h
    exact ⟨y, rfl, by rw [if_pos this]; exact hy, fun q => by omega, fun _ => rfl, .inr rfl⟩
  · have : a = b := Int.compare_eq_eq.1 h
    subst this
    dsimp only
    split
    · exact ⟨y, rfl, by rw [if_neg (by omega)]; exact hy, fun q => by omega, fun q => by omega, .inr rfl⟩
    · exact ⟨x, rfl, by rw [if_neg (by omega)]; exact hx, fun q => by omega, fun q => by omega, .inl rfl⟩
  · have : b < a := Int.compare_eq_gt.1 h
    exact ⟨x, rfl, by rw [if_neg (by omega)]; exact hx, fun _ => rfl, fun q => by omega, .inl rfl⟩
theorem min2_val {x y : Nat} {a b : Int} (hx : vS x = some a) (hy : vS y = some b) : ∃ r, Builtin.min2 (.float .f32 x) (.float .f32 y) = pure (.float .f32 r) ∧ vS r = some (if b < a then b else a) := by
  have o : FloatKind.f32.format.order x y = some (compare a b) := order_val hx hy
  unfold Builtin.min2
  dsimp only
  rw [o]
  rcases h : compare a b with _ | _ | _
  · have : a < b := Int.compare_eq_lt.1 h
    exact ⟨x, rfl, by rw [if_neg (by omega)]; exact hx⟩
  · have : a = b := Int.compare_eq_eq.1 h
    subst this
    dsimp only
    split
    · exact ⟨x, rfl, by rw [if_neg (by omega)]; exact hx⟩
    · exact ⟨y, rfl, by rw [if_neg (by omega)]; exact hy⟩
  · have : b < a := Int.compare_eq_gt.1 h
    exact ⟨y, rfl, by rw [if_pos this]; exact hy⟩

/-- The builtin max of two. -/
theorem run_max_two (ts : Array TypeId) (t : TypeId) {x y : Nat} {a b : Int} (hx : vS x = some a) (hy : vS y = some b) : ∃ r, (∀ w : World, (Builtin.max_ ts t #[.float .f32 x, .float .f32 y]).run Try.prog w = .ok (.float .f32 r) w) ∧ vS r = some (if a < b then b else a) ∧ (b < a → r = x) ∧ (a < b → r = y) ∧ (r = x ∨ r = y) := by
  obtain ⟨r, m, v⟩ := max2_val hx hy
  refine ⟨r, fun w => ?_, v⟩
  show (([Value.float .f32 y]).foldlM Builtin.max2 (Value.float .f32 x)).run Try.prog w = _
  simp only [List.foldlM]
  rw [m]
  rfl

theorem min_fold : ∀ (l : List (Nat × Int)) (x : Nat) (a : Int), vS x = some a → (∀ q ∈ l, vS q.1 = some q.2) → ∃ r m, (∀ w : World, ((l.map fun q => Value.float .f32 q.1).foldlM Builtin.min2 (Value.float .f32 x)).run Try.prog w = .ok (.float .f32 r) w) ∧ vS r = some m ∧ (m < 0 ↔ a < 0 ∨ ∃ q ∈ l, q.2 < 0)
  | [], x, a, hx, _ => ⟨x, a, fun w => rfl, hx, by simp⟩
  | q :: l, x, a, hx, hl => by
    obtain ⟨r, m, v⟩ := min2_val hx (hl q (by simp))
    obtain ⟨r', m', h1, h2, h3⟩ := min_fold l r _ v (fun p hp => hl p (by simp [hp]))
    refine ⟨r', m', fun w => ?_, h2, ?_⟩
    · simp only [List.map_cons, List.foldlM]
      rw [m]
      exact h1 w
    · rw [h3]
      simp only [List.mem_cons, exists_eq_or_imp]
      split <;> constructor
      · rintro (h | h)
        · exact .inr (.inl h)
        · exact .inr (.inr h)
      · rintro (h | h | h)
        · exact .inl (by omega)
        · exact .inl h
        · exact .inr h
      · rintro (h | h)
        · exact .inl h
        · exact .inr (.inr h)
      · rintro (h | h | h)
        · exact .inl h
        · exact .inl (by omega)
        · exact .inr h

/-- The builtin min of seven. -/
theorem run_min_seven (ts : Array TypeId) (t : TypeId) {x1 x2 x3 x4 x5 x6 x7 : Nat} {a1 a2 a3 a4 a5 a6 a7 : Int} (h1 : vS x1 = some a1) (h2 : vS x2 = some a2) (h3 : vS x3 = some a3) (h4 : vS x4 = some a4) (h5 : vS x5 = some a5) (h6 : vS x6 = some a6) (h7 : vS x7 = some a7) :
    ∃ r m, (∀ w : World, (Builtin.min_ ts t #[.float .f32 x1, .float .f32 x2, .float .f32 x3, .float .f32 x4, .float .f32 x5, .float .f32 x6, .float .f32 x7]).run Try.prog w = .ok (.float .f32 r) w) ∧ vS r = some m ∧ (m < 0 ↔ a1 < 0 ∨ a2 < 0 ∨ a3 < 0 ∨ a4 < 0 ∨ a5 < 0 ∨ a6 < 0 ∨ a7 < 0) := by
  obtain ⟨r, m, e, v, i⟩ := min_fold [(x2, a2), (x3, a3), (x4, a4), (x5, a5), (x6, a6), (x7, a7)] x1 a1 h1 (by
    intro q hq
    simp only [List.mem_cons, List.not_mem_nil, or_false] at hq
    rcases hq with rfl | rfl | rfl | rfl | rfl | rfl <;> assumption)
  exact ⟨r, m, fun w => e w, v, by rw [i]; simp⟩
end Go.Proofs.Ytkcehbnmcdppkaa

/- A kind of plants: its cells, its error; CheckKind, on both sides. -/
namespace Go.Proofs.Ytkcehbnmcdppkaa
open Go.RowKit Fl
set_option linter.unusedVariables false

/-- The fields of a kind. -/
structure Knd where
  name : ByteArray
  lo : Nat
  hi : Nat
  so : Nat
  st : Nat
  dr : Nat
  da : Nat
  tp : Nat
  pa : Nat
  sh : Nat
  ba : Nat
  sp : Int
  th : Int
def kndZ : Knd := ⟨ByteArray.empty, 0, 0, 0, 0, 0, 0, 0, 0, 0, 0, 0, 0⟩
abbrev Knd.cells (k : Knd) : Array Value := #[.string k.name, .float .f32 k.lo, .float .f32 k.hi, .float .f32 k.so, .float .f32 k.st, .float .f32 k.dr, .float .f32 k.da, .float .f32 k.tp, .float .f32 k.pa, .float .f32 k.sh, .float .f32 k.ba, .int .i64 k.sp, .int .i64 k.th]
abbrev kndV (k : Knd) : Value := .agg k.cells
/-- Its singles, in order. -/
def Knd.f (k : Knd) (i : Nat) : Nat := match i with | 0 => k.lo | 1 => k.hi | 2 => k.so | 3 => k.st | 4 => k.dr | 5 => k.da | 6 => k.tp | 7 => k.pa | 8 => k.sh | _ => k.ba
abbrev tenO (k : Knd) : Obj := .cells #[.float .f32 k.lo, .float .f32 k.hi, .float .f32 k.so, .float .f32 k.st, .float .f32 k.dr, .float .f32 k.da, .float .f32 k.tp, .float .f32 k.pa, .float .f32 k.sh, .float .f32 k.ba] 22
theorem flAt_ten {w : World} {p : Nat} {k : Knd} (h : w.heap[p]? = some (tenO k)) : FlAt w p 0 10 k.f := by
  intro i hi
  rw [Nat.zero_add, (blkC h).1 i]
  have : i = 0 ∨ i = 1 ∨ i = 2 ∨ i = 3 ∨ i = 4 ∨ i = 5 ∨ i = 6 ∨ i = 7 ∨ i = 8 ∨ i = 9 := by omega
  rcases this with rfl | rfl | rfl | rfl | rfl | rfl | rfl | rfl | rfl | rfl <;> rfl

/-- A byte of a text, as a number. -/
def byt (s : ByteArray) (i : Nat) : Int := ((s[i]?.getD 0).toNat : Int)
/-- Whether all bytes of a text are small letters. -/
def ltrB (s : ByteArray) : Bool := allB s.size fun i => decide (97 ≤ byt s i ∧ byt s i ≤ 122)
/-- Whether a text is a name of a kind. -/
def namB (s : ByteArray) : Bool := ltrB s && withinB s.size 1 20

/-- Whether a kind's numbers are in order. -/
def Knd.rng (k : Knd) : Bool := !(ltB k.so 0 || ltB k.st 0 || ltB k.dr 0 || ltB k.tp 0 || ltB k.pa 0 || ltB k.sh 0 || FloatKind.f32.format.order k.sh 1065353216 == some .gt || ltB k.ba 0 || FloatKind.f32.format.order k.ba 1065353216 == some .gt)
/-- A kind's error. -/
def Knd.err (k : Knd) : Int :=
  if namB k.name = false then 6 else if fldE 10 k.f ≠ 0 then fldE 10 k.f else if ltB k.hi k.lo = true ∨ ltB k.da k.dr = true then 8 else if k.rng = false then 3
  else if withinB k.sp 0 32 = false ∨ withinB k.th 0 32 = false then 3 else 0

theorem byt_at {s : ByteArray} {i : Nat} (h : i < s.size) : ((s[i]'h).toNat : Int) = byt s i := by
  unfold byt
  rw [ByteArray.getElem?_lt' s i h]; rfl

end Go.Proofs.Ytkcehbnmcdppkaa

/- CheckKind of the program, KindError of the reference: a kind's error. -/
namespace Go.Proofs.Ytkcehbnmcdppkaa
open Go.RowKit Fl
set_option linter.unusedVariables false

theorem fld_ten {k : Knd} (h : fldE 10 k.f = 0) : hgtB k.lo = true ∧ hgtB k.hi = true ∧ hgtB k.so = true ∧ hgtB k.st = true ∧ hgtB k.dr = true ∧ hgtB k.da = true ∧ hgtB k.tp = true ∧ hgtB k.pa = true ∧ hgtB k.sh = true ∧ hgtB k.ba = true := by
  have := allB_iff.1 (fldE_zero.1 h)
  exact ⟨this 0 (by omega), this 1 (by omega), this 2 (by omega), this 3 (by omega), this 4 (by omega), this 5 (by omega), this 6 (by omega), this 7 (by omega), this 8 (by omega), this 9 (by omega)⟩

theorem err_name {k : Knd} (h : namB k.name = false) : k.err = 6 := by unfold Knd.err; rw [if_pos h]
theorem err_fld {k : Knd} (n : namB k.name = true) (h : fldE 10 k.f ≠ 0) : k.err = fldE 10 k.f := by unfold Knd.err; rw [if_neg (by simp [n]), if_pos h]
theorem err_ord {k : Knd} (n : namB k.name = true) (h : fldE 10 k.f = 0) (o : ltB k.hi k.lo = true ∨ ltB k.da k.dr = true) : k.err = 8 := by unfold Knd.err; rw [if_neg (by simp [n]), if_neg (by simp [h]), if_pos o]
theorem err_rest {k : Knd} (n : namB k.name = true) (h : fldE 10 k.f = 0) (o1 : ltB k.hi k.lo = false) (o2 : ltB k.da k.dr = false) : k.err = if k.rng = false then 3 else if withinB k.sp 0 32 = false ∨ withinB k.th 0 32 = false then 3 else 0 := by
  unfold Knd.err; rw [if_neg (by simp [n]), if_neg (by simp [h]), if_neg (by simp [o1, o2])]

end Go.Proofs.Ytkcehbnmcdppkaa

/- A list of kinds: named, CheckKinds of the program. -/
namespace Go.Proofs.Ytkcehbnmcdppkaa
open Go.RowKit Fl
set_option linter.unusedVariables false

/-- The kinds lie in a block, one after the other. -/
def KndsAt (w : World) (b off n : Nat) (K : Nat → Knd) : Prop := ∀ i, i < n → ∀ j, j < 13 → w.cell? ⟨b, off + i * 13 + j, none⟩ = (K i).cells[j]?
/-- .. or there is none. -/
def KndL (w : World) (a : Option Addr) (n : Nat) (K : Nat → Knd) : Prop := n = 0 ∨ ∃ b off, a = some ⟨b, off, none⟩ ∧ KndsAt w b off n K
theorem cells_get (k : Knd) (j : Nat) (hj : j < 13) : ∃ v, k.cells[j]? = some v := by
  have : j < k.cells.size := hj
  exact ⟨k.cells[j], Array.getElem?_eq_getElem this⟩
theorem KndsAt.stay {w w' : World} {b off n : Nat} {K : Nat → Knd} (L : KndsAt w b off n K) (hb : Below w.heap.size w w') : KndsAt w' b off n K := fun i hi j hj => by
  obtain ⟨v, hv⟩ := cells_get (K i) j hj
  have h := L i hi j hj
  rw [hv] at h
  have hlt := World.block_lt_of_cell? w _ h
  rw [hv, ← h]
  exact Below.cell hb hlt
theorem KndL.stay {w w' : World} {a : Option Addr} {n : Nat} {K : Nat → Knd} (L : KndL w a n K) (hb : Below w.heap.size w w') : KndL w' a n K :=
  L.imp_right fun ⟨b, off, e, h⟩ => ⟨b, off, e, h.stay hb⟩
structure KndAt (w : World) (b o : Nat) (k : Knd) : Prop where
  c0 : w.cell? ⟨b, o, none⟩ = some (.string k.name)
  c1 : w.cell? ⟨b, o + 1, none⟩ = some (.float .f32 k.lo)
  c2 : w.cell? ⟨b, o + 2, none⟩ = some (.float .f32 k.hi)
  c3 : w.cell? ⟨b, o + 3, none⟩ = some (.float .f32 k.so)
  c4 : w.cell? ⟨b, o + 4, none⟩ = some (.float .f32 k.st)
  c5 : w.cell? ⟨b, o + 5, none⟩ = some (.float .f32 k.dr)
  c6 : w.cell? ⟨b, o + 6, none⟩ = some (.float .f32 k.da)
  c7 : w.cell? ⟨b, o + 7, none⟩ = some (.float .f32 k.tp)
  c8 : w.cell? ⟨b, o + 8, none⟩ = some (.float .f32 k.pa)
  c9 : w.cell? ⟨b, o + 9, none⟩ = some (.float .f32 k.sh)
  c10 : w.cell? ⟨b, o + 10, none⟩ = some (.float .f32 k.ba)
  c11 : w.cell? ⟨b, o + 11, none⟩ = some (.int .i64 k.sp)
  c12 : w.cell? ⟨b, o + 12, none⟩ = some (.int .i64 k.th)
theorem KndsAt.at {w : World} {b off n : Nat} {K : Nat → Knd} (L : KndsAt w b off n K) {i : Nat} (hi : i < n) : KndAt w b (off + i * 13) (K i) :=
  ⟨L i hi 0 (by omega), L i hi 1 (by omega), L i hi 2 (by omega), L i hi 3 (by omega), L i hi 4 (by omega), L i hi 5 (by omega), L i hi 6 (by omega), L i hi 7 (by omega), L i hi 8 (by omega), L i hi 9 (by omega), L i hi 10 (by omega), L i hi 11 (by omega), L i hi 12 (by omega)⟩

/-- Whether two texts are the same. -/
def eqN (a b : ByteArray) : Bool := a.toList == b.toList
/-- The number of the first kind of that name, or -1. -/
def NamAt (n : Nat) (K : Nat → Knd) (s : ByteArray) (r : Int) : Prop := (r = -1 ∧ ∀ i, i < n → eqN (K i).name s = false) ∨ ∃ i : Nat, r = i ∧ i < n ∧ eqN (K i).name s = true ∧ ∀ j, j < i → eqN (K j).name s = false

end Go.Proofs.Ytkcehbnmcdppkaa

/- Kinds that came in, opened: one, and a list. -/
namespace Go.Proofs.Ytkcehbnmcdppkaa
open Go.ChangeShapes Go.WideShapes Go.ChangeAt Go.RowKit Go.Joins Go.Deep Fl

section
variable {H : Type} {enc : TypeId × Value → H} {w : World} {base : Nat} {spare : Nat → Bool} {held : Bool}

theorem cellsStr : Try.prog.cellsOf 9 = 1 := by kernel_rfl
theorem trod_fieldAt {P : Program} {t : TypeId} {fs : Array Go.Field} {fuel : Nat} {cs : List Value} {x : DataW H × List MemPlace} (ht : P.underlying t = some (.struct fs)) (h : DataW.trod enc P w base spare held fuel t cs = some x) :
    ∃ n, ∀ (i : Nat) (ty : TypeId) (off : Nat), (fs[i]?).map (fun (f : Go.Field) => (f.type, f.offset)) = some (ty, off) → ∃ y, DataW.trod enc P w base spare held n ty ((cs.drop off).take (P.cellsOf ty)) = some y := by
  obtain ⟨xs, n, _, rfl, _, hlen, hf⟩ := DataW.trod_struct ht h
  refine ⟨n, fun i ty off e => ?_⟩
  cases hfi : fs[i]? with
  | none => rw [hfi] at e; cases e
  | some f =>
    rw [hfi] at e
    simp only [Option.map_some, Option.some.injEq, Prod.mk.injEq] at e
    obtain ⟨rfl, rfl⟩ := e
    have hi : i < fs.size := by rw [Array.getElem?_eq_some_iff] at hfi; exact hfi.1
    have hx : i < xs.length := by omega
    exact ⟨xs[i], by rw [hf i f hfi, List.getElem?_eq_getElem hx]⟩
theorem trod_f32at {fuel i : Nat} {cs : List Value} {v : Value} {y : DataW H × List MemPlace} (h : DataW.trod enc Try.prog w base spare held fuel 22 ((cs.drop i).take 1) = some y) (hv : cs[i]? = some v) : ∃ s, v = .float .f32 s ∧ s < 4294967296 := by
  have e : (cs.drop i).take 1 = [v] := by
    have hi : i < cs.length := by rw [List.getElem?_eq_some_iff] at hv; exact hv.1
    rw [List.drop_eq_getElem_cons hi]
    rw [List.getElem?_eq_getElem hi] at hv
    simp only [List.take_succ_cons, List.take_zero, Option.some.inj hv]
  rw [e] at h
  exact trod_f32 Try.underlying22 h
theorem take_at {α : Type} {cs : List α} {i : Nat} {v : α} (hv : cs[i]? = some v) : (cs.drop i).take 1 = [v] := by
  have hi : i < cs.length := by rw [List.getElem?_eq_some_iff] at hv; exact hv.1
  rw [List.drop_eq_getElem_cons hi]
  rw [List.getElem?_eq_getElem hi] at hv
  simp only [List.take_succ_cons, List.take_zero, Option.some.inj hv]

/-- A right kind: its name is a text of the machine, its singles are words. -/
structure KndWf (k : Knd) : Prop where
  name : k.name.size ≤ 9223372036854775807
  f : wf32 10 k.f

end
end Go.Proofs.Ytkcehbnmcdppkaa

/- HalvesLeadBack, for every single and every integer: halves and shorts lead back to themselves, and what is lost is within the bounds. No condition. -/
namespace Go.Proofs.Ytkcehbnmcdppkaa.halvesLeadBack
open Go.ChangeShapes Go.WideShapes Go.ChangeAt Go.RowKit Go.Joins
set_option linter.unusedVariables false

theorem own : ownKnob Try.prog.godebug = none := by kernel_rfl

set_option maxRecDepth 100000 in
theorem lifted (os : Os) (started : os.Started) (H : Type) (enc : TypeId × Value → H) :
    ReturnsInHanded {} Try.checked os 4 .any (Rows.halvesLeadBackSpec.pre6 enc Try.prog Try.f4 Rows.halvesLeadBackRow.domain false) (Rows.halvesLeadBackSpec.post enc Try.prog Try.f4 false true false false) := by
  refine returnsInHanded_of_change (C := Try.checked) own started (by kernel_rfl) Try.func4
    (ChangeSpec.witness6 (enc := enc) (C := Try.checked) false ⟨#[], #[.float .f32 0, .int .i64 0], []⟩ 8 (by kernel_rfl) (by kernel_rfl) (by kernel_rfl) (by kernel_rfl)) ?_
  intro W base args ds gs before hval0 hW hcnd _
  have hval : ∀ (j : Nat) t v, Try.f4.params[j]? = some t → args[j]? = some v → Value.okWide Try.prog W .any base t v := hval0
  have hW' := hW
  have hplt : ∀ x ∈ before, x.block < W.heap.size := fun x hx => by simpa using hW'.lt x hx
  obtain ⟨p, q, hA0, hV, rfl, hfz, hnd⟩ := hW
  have hA : DataW.TrodAll enc Try.prog W 0 (fun _ => true) true Try.f4.params.toList args.toList ds p := hA0
  rw [Try.params4] at hA hval
  obtain ⟨v0, vs0, d0, ds0, p0, q0, hargs, rfl, rfl, h0, r0⟩ := trodAll_cons hA
  obtain ⟨v1, vs1, d1, ds1, p1, q1, rfl, rfl, rfl, h1, r1⟩ := trodAll_cons r0
  obtain ⟨rfl, rfl, rfl⟩ := trodAll_nil r1
  obtain rfl : args = #[v0, v1] := by cases args; simp_all
  obtain ⟨rfl, rfl⟩ := trodVars_none hV
  obtain ⟨x, rfl, rfl, rfl, w0⟩ := open_float Try.underlying22 (hval 0 22 v0 rfl rfl) h0
  obtain ⟨n, rfl, rfl, rfl, w1⟩ := open_int Try.underlying3 (hval 1 3 v1 rfl rfl) h1
  clear hA0 hval0 hplt
  simp only [List.append_nil] at hW'
  refine (halvesLaw_any x (by simpa [Lit.wf] using w0) n W).mono fun e W' ⟨he, hb⟩ => ?_
  subst he
  exact ⟨_, rfl, _, _, _, [], _, [], hW', trodAll_cons_mk (shut_bool Try.underlying4 _) trodAll_mk0, trodAll_cons_mk (shut_float Try.underlying22 w0) (trodAll_cons_mk (shut_int Try.underlying3 w1) trodAll_mk0), rfl, hb.frame _, fun h => by cases h⟩

theorem over : Rows.halvesLeadBackRow.holds Try.pinned (OpenSpec.ofChange Rows.halvesLeadBackSpec) :=
  OpenClaim.holds_of_wide 4 Try.f4 rfl rfl rfl rfl rfl rfl rfl ⟨rfl, rfl, rfl, rfl, rfl⟩ rfl rfl rfl rfl rfl (by kernel_rfl) Try.func4 (by kernel_rfl)
    (of_decide_eq_true (by kernel_rfl)) (by unfold Func.isWrapper; rw [if_neg (of_decide_eq_false (by kernel_rfl))]; exact ⟨rfl, rfl⟩)
    (fun os started H enc _ => lifted os started H enc)

theorem proved : Rows.HalvesLeadBackSaid :=
  over
#print axioms proved
end Go.Proofs.Ytkcehbnmcdppkaa.halvesLeadBack
