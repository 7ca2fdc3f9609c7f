/- FieldsResample, for every field, every region and every two numbers: what Resample answers is what the reference answers, bit by bit. No condition. -/
import Derived.Test.YtihjemookgnafaaRsmJC
import Derived.ProofKit
import Derived.OpenShut
import Derived.Lib.SmallJoins
import Derived.Laws.Cover2
import Derived.Deep.Slices

/- The reference's bilinear. -/
namespace Go.Proofs.Ytihjemookgnafaa
open Go.RowKit Fl
set_option linter.unusedVariables false

theorem there_both {X Y W H i j : Int} {cs ct : Bool} : thereB X Y W H i j cs ct = (thereB X Y W H i j cs true && (ct || thereB X Y W H i (j + 1) cs true)) := by
  rw [Bool.eq_iff_iff]
  unfold thereB
  rw [Bool.and_eq_true, Bool.or_eq_true, insideB_iff, insideB_iff, insideB_iff]
  cases cs <;> cases ct <;> simp <;> omega
theorem num_next {X Y i j : Int} {W : Nat} (h1 : X ≤ i) (h2 : Y ≤ j) : numC X Y W i (j + 1) = numC X Y W i j + W := by
  unfold numC
  have : 0 ≤ (j - Y) * W := Int.mul_nonneg (by omega) (by omega)
  have e : (j + 1 - Y) * (W : Int) = (j - Y) * W + W := by rw [show j + 1 - Y = (j - Y) + 1 by omega, Int.add_mul]; omega
  rw [e]; omega

theorem refOut_of (x : Nat) (hx : x < 4294967296) (bb : Nat) (w : World) (h : w.heap[bb]? = some (flObj x)) :
    Calls Try.prog 142 #[.slice (some ⟨bb, 0, none⟩) 1 1] w fun e w' => e = .returned (.int .i64 (if hgtB x then 0 else 3)) ∧ w = w' := by
  have := refOut_row bb 0 1 1 (fun _ => x) (by omega) w (flAt_one_of h) (fun _ _ => hx)
  rw [show allB 1 (fun i => hgtB ((fun _ => x) i)) = hgtB x by simp [allB, List.range_succ]] at this
  exact this

theorem mixW_lt {i x y s : Nat} (hi : i ≤ 60) (bx : Bd i x) (by' : Bd i y) (bs : Bd 1 s) : mixW x y s < 4294967296 := by
  obtain ⟨d, q, r, e1, _, e2, _, e3, _, lr, _⟩ := mix_parts (i := i) (j := 1) hi (by omega) bx by' bs
  rw [mix_eq e1 e2 e3]; exact lr
theorem alongW_lt {cs : Bool} {x y s : Nat} (hx : x < 4294967296) (bx : Bd 20 x) (by' : cs = false → Bd 20 y) (bs : Bd 1 s) : alongW cs s x y < 4294967296 := by
  cases cs with
  | true => exact hx
  | false => exact mixW_lt (by omega) bx (by' rfl) bs

theorem enters_bil1 : Enters 148 := by intro args W; simp [callFunc, Try.func148, Try.f148]

set_option maxHeartbeats 4000000 in
theorem rbil_no (X Y : Int) (W H n b cap : Nat) (v : Nat → Nat) (i j : Int) (s t : Nat) (cs ct : Bool) (w : World) (h0 : checkR X Y W H = 0) (hn : n = W * H) (hc : FlAt w b 0 n v) (hh : allB n (fun i => hgtB (v i)) = true) (i1 : -536870912 ≤ i) (i2 : i ≤ 536870912) (j1 : -536870912 ≤ j) (j2 : j ≤ 536870912)
    (hs : (FloatKind.f32.format.order s 0 == some .eq) = cs) (ht : (FloatKind.f32.format.order t 0 == some .eq) = ct) (hth : thereB X Y W H i j cs ct = false) (bs : Bd 1 s) :
    Calls Try.prog 116 #[fldV X Y W H (.slice (some ⟨b, 0, none⟩) n cap), .int .i64 i, .int .i64 j, .float .f32 s, .float .f32 t] w fun e w' => e = .returned (.tuple #[.float .f32 0, .int .i64 5]) ∧ Below w.heap.size w w' := by
  have n1 : 1 ≤ n := by
    obtain ⟨b1, b2, b3, b4, b5, _⟩ := checkR_zero h0
    rw [hn]; exact Nat.mul_pos (by omega) (by omega)
  have z : b < w.heap.size := World.block_lt_of_cell? w _ (hc 0 n1)
  have RC := Lib.hid (show RCaps (((w.alloc (fldO X Y W H (.slice (some ⟨b, 0, none⟩) n cap))).alloc (.cells #[.int .i64 i] 3)).alloc (flObj s)) X Y W H n b cap v w.heap.size i s from
    ⟨by ((simp only [heap_alloc_get, heap_size_alloc, if_true]) <;> ((repeat' split) <;> first | rfl | omega)), by ((simp only [heap_alloc_get, heap_size_alloc, if_true]) <;> ((repeat' split) <;> first | rfl | omega)), by ((simp only [heap_alloc_get, heap_size_alloc, if_true]) <;> ((repeat' split) <;> first | rfl | omega)), flAt_congr hc ((show Below w.heap.size w _ from (by repeat (first | exact Below.refl _ _ | refine Below.alloc ?_ (by first | omega | (simp; done) | (simp; omega)) _ | refine Below.setCell ?_ (by first | omega | (simp; done) | (simp; omega)) _ | refine Below.drew ?_))).block b z)⟩)
  have hcall := enters_bil1
  unfold Enters at hcall
  rw [there_both] at hth
  cases h1 : thereB X Y W H i j cs true with
  | false =>
    have R1 := Lib.hid (row_no X Y W H n b cap v w.heap.size i j s cs _ RC.out h0 i1 i2 (by omega) (by omega) hs h1)
    clear hc hh h0 hn RC hth h1
    go_enter Try.func116, Try.ntmps116
    go_wp2_with fail
    refine R1.out.mono ?_
    rintro e w2 ⟨rfl, hb2⟩
    have B2 := Lib.hid (Below.trans (show Below w.heap.size w _ from (by repeat (first | exact Below.refl _ _ | refine Below.alloc ?_ (by first | omega | (simp; done) | (simp; omega)) _ | refine Below.setCell ?_ (by first | omega | (simp; done) | (simp; omega)) _ | refine Below.drew ?_))) (hb2.mono (by simp; omega)))
    clear hb2 R1
    go_wp2
    go_ret2
    exact ⟨rfl, B2.out⟩
  | true =>
    rw [h1] at hth
    cases ct with
    | true => simp at hth
    | false =>
      have h2 : thereB X Y W H i (j + 1) cs true = false := by simpa using hth
      have R1 := Lib.hid (row_ok X Y W H n b cap v w.heap.size i j s cs _ RC.out h0 hn hh hs h1 bs)
      have R2 := Lib.hid (fun W' (hb : Below _ _ W') => row_no X Y W H n b cap v w.heap.size i (j + 1) s cs W' (RC.out.stay n1 hb) h0 i1 i2 (by omega) (by omega) hs h2)
      generalize alongW cs s (v (numC X Y W i j)) (v (numC X Y W i j + 1)) = P at *
      clear hc hh h0 hn RC hth h1 h2
      go_enter Try.func116, Try.ntmps116
      go_wp2_with fail
      refine R1.out.mono ?_
      rintro e w2 ⟨rfl, hb2⟩
      have R3 := Lib.hid (R2.out w2 hb2)
      have B2 := Lib.hid (Below.trans (show Below w.heap.size w _ from (by repeat (first | exact Below.refl _ _ | refine Below.alloc ?_ (by first | omega | (simp; done) | (simp; omega)) _ | refine Below.setCell ?_ (by first | omega | (simp; done) | (simp; omega)) _ | refine Below.drew ?_))) (hb2.mono (by simp; omega)))
      clear hb2 R1 R2
      go_wp2_with fail
      refine R3.out.mono ?_
      rintro e w3 ⟨rfl, hb3⟩
      have B3 := Lib.hid (B2.out.trans (hb3.mono B2.out.size))
      clear hb3 R3
      go_wp2
      go_ret2
      exact ⟨rfl, B3.out⟩

set_option maxHeartbeats 4000000 in
theorem rbil_ok (X Y : Int) (W H n b cap : Nat) (v : Nat → Nat) (i j : Int) (s t : Nat) (cs ct : Bool) (w : World) (h0 : checkR X Y W H = 0) (hn : n = W * H) (hc : FlAt w b 0 n v) (hh : allB n (fun i => hgtB (v i)) = true) (hvw : wf32 n v)
    (hs : (FloatKind.f32.format.order s 0 == some .eq) = cs) (ht : (FloatKind.f32.format.order t 0 == some .eq) = ct) (hth : thereB X Y W H i j cs ct = true) (bs : Bd 1 s) (bt : Bd 1 t) :
    Calls Try.prog 116 #[fldV X Y W H (.slice (some ⟨b, 0, none⟩) n cap), .int .i64 i, .int .i64 j, .float .f32 s, .float .f32 t] w fun e w' => e = .returned (.tuple #[.float .f32 (btwW v W (numC X Y W i j) cs ct s t), .int .i64 (if hgtB (btwW v W (numC X Y W i j) cs ct s t) then 0 else 3)]) ∧ Below w.heap.size w w' := by
  obtain ⟨b1, b2, b3, b4, b5, b6, b7, b8, b9⟩ := checkR_zero h0
  have hnn : n = H * W := by rw [hn]; exact Nat.mul_comm _ _
  have n1 : 1 ≤ n := by rw [hn]; exact Nat.mul_pos (by omega) (by omega)
  have z : b < w.heap.size := World.block_lt_of_cell? w _ (hc 0 n1)
  have RC := Lib.hid (show RCaps (((w.alloc (fldO X Y W H (.slice (some ⟨b, 0, none⟩) n cap))).alloc (.cells #[.int .i64 i] 3)).alloc (flObj s)) X Y W H n b cap v w.heap.size i s from
    ⟨by ((simp only [heap_alloc_get, heap_size_alloc, if_true]) <;> ((repeat' split) <;> first | rfl | omega)), by ((simp only [heap_alloc_get, heap_size_alloc, if_true]) <;> ((repeat' split) <;> first | rfl | omega)), by ((simp only [heap_alloc_get, heap_size_alloc, if_true]) <;> ((repeat' split) <;> first | rfl | omega)), flAt_congr hc ((show Below w.heap.size w _ from (by repeat (first | exact Below.refl _ _ | refine Below.alloc ?_ (by first | omega | (simp; done) | (simp; omega)) _ | refine Below.setCell ?_ (by first | omega | (simp; done) | (simp; omega)) _ | refine Below.drew ?_))).block b z)⟩)
  have hcall := enters_bil1
  unfold Enters at hcall
  have hth' : X ≤ i ∧ Y ≤ j ∧ i + (if cs then 1 else 2) ≤ X + W ∧ j + (if ct then 1 else 2) ≤ Y + H := insideB_iff.1 hth
  obtain ⟨t1, t2, t3, t4⟩ := hth'
  have t5 : i + 1 ≤ X + W := by cases cs <;> simp at t3 <;> omega
  have t6 : j + 1 ≤ Y + H := by cases ct <;> simp at t4 <;> omega
  have hk : ((numC X Y W i j : Nat) : Int) = (j - Y) * W + (i - X) := by
    unfold numC
    have : 0 ≤ (j - Y) * W := Int.mul_nonneg (by omega) (by omega)
    omega
  have hkn : numC X Y W i j < n := cell_lt (X := X) (Y := Y) (x := i) (y := j) (by omega) t1 (by omega) (by omega) hk hnn
  have hk1 : cs = false → numC X Y W i j + 1 < n := fun h => by
    rw [h] at t3; simp at t3
    exact cell_lt (X := X) (Y := Y) (x := i + 1) (y := j) (by omega) (by omega) (by omega) (by omega) (by omega) hnn
  have hb20 : ∀ m, m < n → Bd 20 (v m) := fun m hm => hgt_bd (allB_iff.1 hh m hm)
  have la := alongW_lt (s := s) (hvw _ hkn) (hb20 _ hkn) (fun h => hb20 _ (hk1 h)) bs
  have pa := along_bd (cs := cs) (s := s) (hb20 _ hkn) (fun h => hb20 _ (hk1 h)) bs
  rw [there_both, Bool.and_eq_true, Bool.or_eq_true] at hth
  obtain ⟨h1, h2⟩ := hth
  have R1 := Lib.hid (row_ok X Y W H n b cap v w.heap.size i j s cs _ RC.out h0 hn hh hs h1 bs)
  cases ct with
  | true =>
    show Calls _ _ _ _ fun e w' => e = .returned (.tuple #[.float .f32 (alongW cs s (v (numC X Y W i j)) (v (numC X Y W i j + 1))), .int .i64 (if hgtB (alongW cs s (v (numC X Y W i j)) (v (numC X Y W i j + 1))) then 0 else 3)]) ∧ _
    generalize alongW cs s (v (numC X Y W i j)) (v (numC X Y W i j + 1)) = P at *
    have OT := Lib.hid (fun bb w => refOut_of P la bb w)
    generalize (if hgtB P = true then (0 : Int) else 3) = er at *
    clear hc hh h0 hn RC h1 h2 b1 b2 b3 b4 b5 b6 b7 b8 b9 hnn t1 t2 t3 t4 t5 t6 hk hkn hk1 hb20 pa la
    go_enter Try.func116, Try.ntmps116
    go_wp2_with fail
    refine R1.out.mono ?_
    rintro e w2 ⟨rfl, hb2⟩
    have B2 := Lib.hid (Below.trans (show Below w.heap.size w _ from (by repeat (first | exact Below.refl _ _ | refine Below.alloc ?_ (by first | omega | (simp; done) | (simp; omega)) _ | refine Below.setCell ?_ (by first | omega | (simp; done) | (simp; omega)) _ | refine Below.drew ?_))) (hb2.mono (by simp; omega)))
    clear hb2 R1
    go_wp2_with (first | (go_at_call 142; refine (OT.out _ _ (by ((simp only [heap_alloc_get, if_true]) <;> ((repeat' split) <;> first | rfl | omega)))).mono ?_; rintro e w3 ⟨rfl, rfl⟩))
    go_ret2
    exact ⟨rfl, (B2.out).alloc B2.out.size _⟩
  | false =>
    have h3 : thereB X Y W H i (j + 1) cs true = true := by simpa using h2
    simp at t4
    have hkW : numC X Y W i j + W < n := cell_lt (X := X) (Y := Y) (x := i) (y := j + 1) (by omega) t1 (by omega) (by omega) (by rw [show (j + 1 - Y) = (j - Y) + 1 by omega, Int.add_mul]; omega) hnn
    have hkW1 : cs = false → numC X Y W i j + W + 1 < n := fun h => by
      rw [h] at t3; simp at t3
      exact cell_lt (X := X) (Y := Y) (x := i + 1) (y := j + 1) (by omega) (by omega) (by omega) (by omega) (by rw [show (j + 1 - Y) = (j - Y) + 1 by omega, Int.add_mul]; omega) hnn
    have pb := along_bd (cs := cs) (s := s) (hb20 _ hkW) (fun h => hb20 _ (hkW1 h)) bs
    have R2 := Lib.hid (fun W' (hb : Below _ _ W') => row_ok X Y W H n b cap v w.heap.size i (j + 1) s cs W' (RC.out.stay n1 hb) h0 hn hh hs h3 bs)
    rw [num_next t1 t2] at R2
    show Calls _ _ _ _ fun e w' => e = .returned (.tuple #[.float .f32 (mixW (alongW cs s (v (numC X Y W i j)) (v (numC X Y W i j + 1))) (alongW cs s (v (numC X Y W i j + W)) (v (numC X Y W i j + W + 1))) t), .int .i64 (if hgtB (mixW (alongW cs s (v (numC X Y W i j)) (v (numC X Y W i j + 1))) (alongW cs s (v (numC X Y W i j + W)) (v (numC X Y W i j + W + 1))) t) then 0 else 3)]) ∧ _
    generalize alongW cs s (v (numC X Y W i j)) (v (numC X Y W i j + 1)) = P at *
    generalize alongW cs s (v (numC X Y W i j + W)) (v (numC X Y W i j + W + 1)) = Q at *
    obtain ⟨d, q, r, e1, s1, e2, s2, e3, s3, lr, _⟩ := mix_parts (i := 23) (j := 1) (by omega) (by omega) pa pb bt
    rw [mix_eq e1 e2 e3]
    have LP := Lib.hid (fun w => lerp_any _ _ _ P Q t d q r e1 s1 e2 s2 e3 s3 w)
    have OT := Lib.hid (fun bb w => refOut_of r lr bb w)
    generalize (if hgtB r = true then (0 : Int) else 3) = er at *
    have j1 : -16777216 ≤ j := by omega
    have j2 : j ≤ 16777216 := by omega
    clear hc hh h0 hn RC h1 h2 h3 b1 b2 b3 b4 b5 b6 b7 b8 b9 hnn t1 t2 t3 t4 t5 t6 hk hkn hk1 hkW hkW1 hb20 pa pb la e1 s1 e2 s2 e3 s3 lr
    go_enter Try.func116, Try.ntmps116
    go_wp2_with fail
    refine R1.out.mono ?_
    rintro e w2 ⟨rfl, hb2⟩
    have R3 := Lib.hid (R2.out w2 hb2)
    have B2 := Lib.hid (Below.trans (show Below w.heap.size w _ from (by repeat (first | exact Below.refl _ _ | refine Below.alloc ?_ (by first | omega | (simp; done) | (simp; omega)) _ | refine Below.setCell ?_ (by first | omega | (simp; done) | (simp; omega)) _ | refine Below.drew ?_))) (hb2.mono (by simp; omega)))
    clear hb2 R1 R2
    go_wp2_with fail
    refine R3.out.mono ?_
    rintro e w3 ⟨rfl, hb3⟩
    have B3 := Lib.hid (B2.out.trans (hb3.mono B2.out.size))
    clear hb3 R3
    go_wp2_with (first | (go_at_call 109; refine (LP.out _).mono ?_; rintro e w' ⟨rfl, rfl⟩) | (go_at_call 142; refine (OT.out _ _ (by ((simp only [heap_alloc_get, if_true]) <;> ((repeat' split) <;> first | rfl | omega)))).mono ?_; rintro e w4 ⟨rfl, rfl⟩))
    go_ret2
    exact ⟨rfl, (B3.out).alloc B3.out.size _⟩
end Go.Proofs.Ytihjemookgnafaa

/- The closure of the program's Resample: it sets a captured variable where cells are missing. -/
namespace Go.Proofs.Ytihjemookgnafaa
open Go.RowKit Fl
set_option linter.unusedVariables false

theorem enters_Resample1 : Enters 118 := by intro args W; simp [callFunc, Try.func118, Try.f118]

/-- The share's test. -/
def zeroB (s : Nat) : Bool := FloatKind.f32.format.order s 0 == some .eq
/-- Of the cell number i of a region that begins at (X', Y') and is W' wide: is all there that its value wants; the value. -/
def rsT (X Y : Int) (W H : Nat) (num den X' Y' : Int) (W' : Nat) (i : Nat) : Bool :=
  thereB X Y W H ((X' + ((i % W' : Nat) : Int)) * num / den) ((Y' + ((i / W' : Nat) : Int)) * num / den) (zeroB (shW ((X' + ((i % W' : Nat) : Int)) * num % den) den)) (zeroB (shW ((Y' + ((i / W' : Nat) : Int)) * num % den) den))
def rsV (v : Nat → Nat) (X Y : Int) (W : Nat) (num den X' Y' : Int) (W' : Nat) (i : Nat) : Nat :=
  btwW v W (numC X Y W ((X' + ((i % W' : Nat) : Int)) * num / den) ((Y' + ((i / W' : Nat) : Int)) * num / den)) (zeroB (shW ((X' + ((i % W' : Nat) : Int)) * num % den) den)) (zeroB (shW ((Y' + ((i / W' : Nat) : Int)) * num % den) den)) (shW ((X' + ((i % W' : Nat) : Int)) * num % den) den) (shW ((Y' + ((i / W' : Nat) : Int)) * num % den) den)
/-- What the program's closure answers. -/
def rsF (v : Nat → Nat) (X Y : Int) (W H : Nat) (num den X' Y' : Int) (W' : Nat) (i : Nat) : Nat := if rsT X Y W H num den X' Y' W' i then rsV v X Y W num den X' Y' W' i else 0

/-- A bool in a box. -/
abbrev boolObj (c : Bool) : Obj := .cells #[.bool c] 4
abbrev intObj (z : Int) : Obj := .cells #[.int .i64 z] 3
/-- The captured variable of the program: is one of the first k cells missing? -/
def InvP (m : Nat) (T : Nat → Bool) (k : Nat) (w : World) : Prop := w.heap[m]? = some (boolObj (!allB k T))
theorem stateP {m : Nat} {T : Nat → Bool} {w : World} (hm : m < w.heap.size) : State (fun k => k = m) (InvP m T) w :=
  ⟨fun k hk => by rw [hk]; exact hm, fun i W W' h he => by unfold InvP; rw [he m rfl]; exact h⟩
theorem allB_succ {k : Nat} {T : Nat → Bool} : allB (k + 1) T = (allB k T && T k) := by simp [allB, List.range_succ]

/-- What the closures hold. -/
structure RSCaps (w : World) (X Y : Int) (W H n b cap : Nat) (v : Nat → Nat) (p : Nat) (num den : Int) : Prop where
  fld : w.heap[p]? = some (fldO X Y W H (.slice (some ⟨b, 0, none⟩) n cap))
  nm : w.heap[p + 1 + 1]? = some (intObj num)
  dn : w.heap[p + 1 + 1 + 1]? = some (intObj den)
  row : FlAt w b 0 n v
theorem RSCaps.stayM {M : Nat → Prop} {w w' : World} {X Y : Int} {W H n b cap : Nat} {v : Nat → Nat} {p : Nat} {num den : Int} (h : RSCaps w X Y W H n b cap v p num den) (hn : 1 ≤ n) (hb : BelowM M w.heap.size w w') (m0 : ¬ M p) (m1 : ¬ M (p + 1 + 1)) (m2 : ¬ M (p + 1 + 1 + 1)) (m3 : ¬ M b) : RSCaps w' X Y W H n b cap v p num den :=
  ⟨blkStayM h.fld hb m0, blkStayM h.nm hb m1, blkStayM h.dn hb m2, flAt_congr h.row (hb.block _ (World.block_lt_of_cell? w _ (h.row 0 hn)) m3)⟩

theorem scaled_in {x num den : Int} (x1 : -4194304 ≤ x) (x2 : x ≤ 4194304) (n1 : 1 ≤ num) (n2 : num ≤ 64) (d1 : 1 ≤ den) : -268435456 ≤ x * num ∧ x * num ≤ 268435456 ∧ -268435456 ≤ x * num / den ∧ x * num / den ≤ 268435456 := by
  have p1 := Int.mul_le_mul_of_nonneg_right x1 (show 0 ≤ num by omega)
  have p2 := Int.mul_le_mul_of_nonneg_right x2 (show 0 ≤ num by omega)
  have q1 : -268435456 ≤ x * num := by omega
  have q2 : x * num ≤ 268435456 := by omega
  generalize x * num = a at *
  refine ⟨q1, q2, ?_, ?_⟩
  · rw [Int.le_ediv_iff_mul_le (by omega)]
    have := Int.mul_le_mul_of_nonneg_left d1 (show (0 : Int) ≤ 268435456 by omega)
    omega
  · rcases Int.le_total 0 a with c | c
    · have := Int.ediv_le_self den c; omega
    · have h : a / den ≤ 0 := by
        have := Int.ediv_le_ediv (show 0 < den by omega) c
        rwa [Int.zero_ediv] at this
      omega
end Go.Proofs.Ytihjemookgnafaa

/- The closure of the program's Resample, walked. -/
namespace Go.Proofs.Ytihjemookgnafaa
open Go.RowKit Fl
set_option linter.unusedVariables false

set_option maxHeartbeats 2000000 in
set_option maxRecDepth 100000 in
theorem rs1_any (X Y : Int) (W H n b cap : Nat) (v : Nat → Nat) (p m : Nat) (num den X' Y' : Int) (W' H' : Nat) (w : World) (hk : RSCaps w X Y W H n b cap v p num den) (h0 : checkR X Y W H = 0) (hn : n = W * H) (hcap : n ≤ cap) (hh : allB n (fun i => hgtB (v i)) = true) (h0' : checkR X' Y' W' H' = 0)
    (n1 : 1 ≤ num) (n2 : num ≤ 64) (d1 : 1 ≤ den) (d2 : den ≤ 64) (m0 : p ≠ m) (m1 : p + 1 + 1 ≠ m) (m2 : p + 1 + 1 + 1 ≠ m) (m3 : b ≠ m) :
    Clos2M (fun k => k = m) (InvP m (rsT X Y W H num den X' Y' W')) 118 #[.pointer (some ⟨p + 1 + 1, 0, none⟩), .pointer (some ⟨p + 1 + 1 + 1, 0, none⟩), .pointer (some ⟨p, 0, none⟩), .pointer (some ⟨m, 0, none⟩)] X' Y' W' H' (rsF v X Y W H num den X' Y' W') w := by
  intro x y i w2 x1 x2 y1 y2 hi hb hinv
  obtain ⟨b1, b2, b3, b4, b5, b6, b7, b8, b9⟩ := checkR_zero h0'
  have nn : 1 ≤ n := by
    obtain ⟨c1, c2, c3, c4, c5, _⟩ := checkR_zero h0
    rw [hn]; exact Nat.mul_pos (by omega) (by omega)
  have K := hk.stayM nn hb m0 m1 m2 m3
  obtain ⟨ex, ey⟩ := place_of (show 1 ≤ W' by omega) x1 x2 y1 hi
  obtain ⟨p1, p2, p3, p4⟩ := scaled_in (x := x) (num := num) (den := den) (by omega) (by omega) n1 n2 d1
  obtain ⟨q1, q2, q3, q4⟩ := scaled_in (x := y) (num := num) (den := den) (by omega) (by omega) n1 n2 d1
  have hT : rsT X Y W H num den X' Y' W' i = thereB X Y W H (x * num / den) (y * num / den) (zeroB (shW (x * num % den) den)) (zeroB (shW (y * num % den) den)) := by unfold rsT; rw [ex, ey]
  have hV : rsV v X Y W num den X' Y' W' i = btwW v W (numC X Y W (x * num / den) (y * num / den)) (zeroB (shW (x * num % den) den)) (zeroB (shW (y * num % den) den)) (shW (x * num % den) den) (shW (y * num % den) den) := by unfold rsV; rw [ex, ey]
  obtain ⟨_, _, bs⟩ := sh_parts (Int.emod_nonneg (x * num) (show den ≠ 0 by omega)) (Int.emod_lt_of_pos (x * num) (show 0 < den by omega)) (by omega)
  obtain ⟨_, _, bt⟩ := sh_parts (Int.emod_nonneg (y * num) (show den ≠ 0 by omega)) (Int.emod_lt_of_pos (y * num) (show 0 < den by omega)) (by omega)
  have w1 : wrap64 (x * num) = x * num := IntWalk.wrap64_in _ ⟨by omega, by omega⟩
  have w2' : wrap64 (y * num) = y * num := IntWalk.wrap64_in _ ⟨by omega, by omega⟩
  obtain ⟨ax, hax⟩ : ∃ ax, x * num = ax := ⟨_, rfl⟩
  obtain ⟨ay, hay⟩ : ∃ ay, y * num = ay := ⟨_, rfl⟩
  have e1 : wrap64 (x * num) = ax := w1.trans hax
  have e2 : wrap64 (y * num) = ay := w2'.trans hay
  rw [hax] at p1 p2 p3 p4 hT hV bs
  rw [hay] at q1 q2 q3 q4 hT hV bt
  have DX := Lib.hid (show ∀ w, Calls Try.prog 119 #[.int .i64 (wrap64 (x * num)), .int .i64 den] w fun e w' => e = .returned (.tuple #[.int .i64 (ax / den), .float .f32 (shW (ax % den) den)]) ∧ Below w.heap.size w w' from fun w => by rw [e1]; exact divide_any ax den w d1 (by omega) (by omega) (by omega))
  have DY := Lib.hid (show ∀ w, Calls Try.prog 119 #[.int .i64 (wrap64 (y * num)), .int .i64 den] w fun e w' => e = .returned (.tuple #[.int .i64 (ay / den), .float .f32 (shW (ay % den) den)]) ∧ Below w.heap.size w w' from fun w => by rw [e2]; exact divide_any ay den w d1 (by omega) (by omega) (by omega))
  have hlt : b < w2.heap.size := World.block_lt_of_cell? w2 _ (K.row 0 nn)
  -- between, whatever it answers
  have BT0 : ∀ W'', Below w2.heap.size w2 W'' → Calls Try.prog 113 #[fldV X Y W H (.slice (some ⟨b, 0, none⟩) n cap), .int .i64 (ax / den), .int .i64 (ay / den), .float .f32 (shW (ax % den) den), .float .f32 (shW (ay % den) den)] W'' fun e w' => e = .returned (.tuple #[.float .f32 (rsF v X Y W H num den X' Y' W' i), .bool (rsT X Y W H num den X' Y' W' i)]) ∧ Below W''.heap.size W'' w' := by
    intro W'' hb''
    unfold rsF
    rw [hV, hT]
    cases hth : thereB X Y W H (ax / den) (ay / den) (zeroB (shW (ax % den) den)) (zeroB (shW (ay % den) den)) with
    | false => exact between_no X Y W H n b cap _ _ _ _ _ _ W'' h0 (by omega) (by omega) (by omega) (by omega) rfl rfl hth
    | true => exact between_ok X Y W H n b cap v _ _ _ _ _ _ W'' h0 hn hcap (flAt_congr K.row (hb''.block _ hlt)) hh rfl rfl hth bs bt
  have BT := Lib.hid BT0
  have GF := Lib.hid K.fld
  have GN := Lib.hid K.nm
  have GD := Lib.hid K.dn
  have GM := Lib.hid (show w2.heap[m]? = some (boolObj (!allB i (rsT X Y W H num den X' Y' W'))) from hinv)
  have HS := Lib.hid (allB_succ (k := i) (T := rsT X Y W H num den X' Y' W'))
  show Calls _ _ _ w2 fun e W'' => e = .returned (.float .f32 (rsF v X Y W H num den X' Y' W' i)) ∧ W''.heap[m]? = some (boolObj (!allB (i + 1) (rsT X Y W H num den X' Y' W'))) ∧ BelowM (fun k => k = m) w2.heap.size w2 W''
  rw [HS.out]
  generalize rsF v X Y W H num den X' Y' W' i = F at *
  generalize rsT X Y W H num den X' Y' W' i = T at *
  generalize allB i (rsT X Y W H num den X' Y' W') = A at *
  generalize shW (ax % den) den = sx at *
  generalize shW (ay % den) den = sy at *
  obtain ⟨cF, fF, zF⟩ := blkC GF.out
  obtain ⟨cN, fN, zN⟩ := blkC GN.out
  obtain ⟨cD, fD, zD⟩ := blkC GD.out
  clear e1 e2 w1 w2' hk h0 hn hcap hh h0' K hinv hb hT hV BT0 x1 x2 y1 y2 hi ex ey b1 b2 b3 b4 b5 b6 b7 b8 b9 bs bt hax hay p1 p2 p3 p4 q1 q2 q3 q4 HS nn
  go_enter Try.func118, Try.ntmps118
  go_wp2_with fail
  (with_reducible refine (DX.out _).mono ?_)
  rintro e w3 ⟨rfl, hb3⟩
  have B3 := Lib.hid hb3
  clear hb3 cF fF cN fN cD fD
  obtain ⟨cN, fN, zN3⟩ := blkC (blkStay GN.out B3.out)
  obtain ⟨cD, fD, zD3⟩ := blkC (blkStay GD.out B3.out)
  go_wp2_with fail
  (with_reducible refine (DY.out _).mono ?_)
  rintro e w4 ⟨rfl, hb4⟩
  have B4 := Lib.hid (B3.out.trans (hb4.mono B3.out.size))
  clear hb4 cN fN cD fD
  obtain ⟨cF, fF, zF4⟩ := blkC (blkStay GF.out B4.out)
  go_wp2_with fail
  (with_reducible refine (BT.out _ B4.out).mono ?_)
  rintro e w5 ⟨rfl, hb5⟩
  have B5 := Lib.hid (B4.out.trans (hb5.mono B4.out.size))
  clear hb5 cF fF
  have GM5 := Lib.hid (blkStay GM.out B5.out)
  obtain ⟨cM, fM, zM5⟩ := blkC GM5.out
  cases A <;> cases T
  all_goals
    go_wp2
    go_ret
    exact ⟨rfl, one_setCell GM5.out, BelowM.setCell (M := fun k => k = m) (Below.toM B5.out) (p := ⟨m, 0, none⟩) (.inr rfl) _⟩
end Go.Proofs.Ytihjemookgnafaa

/- Resample of the program, of a right field. -/
namespace Go.Proofs.Ytihjemookgnafaa
open Go.RowKit Fl
set_option linter.unusedVariables false

set_option maxHeartbeats 4000000 in
set_option maxRecDepth 100000 in
theorem resample_bad (X Y : Int) (W H n b cap : Nat) (v : Nat → Nat) (X' Y' W1 H1 num den er : Int) (w : World) (h0 : checkR X Y W H = 0) (hn : n = W * H) (hc : FlAt w b 0 n v) (hh : allB n (fun i => hgtB (v i)) = true)
    (hb : (checkR X' Y' W1 H1 = er ∧ er ≠ 0) ∨ (checkR X' Y' W1 H1 = 0 ∧ er = 3 ∧ (withinB num 1 64 = false ∨ withinB num 1 64 = true ∧ withinB den 1 64 = false))) :
    Calls Try.prog 47 #[fldV X Y W H (.slice (some ⟨b, 0, none⟩) n cap), reg X' Y' W1 H1, .int .i64 num, .int .i64 den] w fun e w' => e = .returned (.tuple #[fldV 0 0 0 0 (.slice none 0 0), .int .i64 er]) ∧ Below w.heap.size w w' := by
  obtain ⟨b1, b2, b3, b4, b5, _⟩ := checkR_zero h0
  have h1 : 1 ≤ n := by
    have := Nat.mul_pos (by omega : 0 < W) (by omega : 0 < H)
    omega
  have hlt : b < w.heap.size := World.block_lt_of_cell? w _ (hc 0 h1)
  have CK := Lib.hid (fun W' (hb : Below w.heap.size w W') => check_ok X Y W H n b cap v W' h0 hn (flAt_congr hc (hb.block _ hlt)) hh)
  have CR := Lib.hid (fun w => checkRegion_any X' Y' W1 H1 w)
  have WN := Lib.hid (fun w => within_any num 1 64 w)
  have WD := Lib.hid (fun w => within_any den 1 64 w)
  clear hc hn h0 hh b1 b2 b3 b4 b5 h1 hlt
  generalize checkR X' Y' W1 H1 = g at *
  generalize withinB num 1 64 = q1 at *
  generalize withinB den 1 64 = q2 at *
  rcases hb with ⟨rfl, hz⟩ | ⟨rfl, rfl, h | ⟨h, h'⟩⟩
  · have hzb : (g != 0) = true := by simp [hz]
    go_enter Try.func47, Try.ntmps47
    go_wp2_with (first | (go_at_call 82; refine (CK.out _ (by repeat (first | exact Below.refl _ _ | refine Below.alloc ?_ (by first | omega | (simp; done) | (simp; omega)) _ | refine Below.setCell ?_ (by first | omega | (simp; done) | (simp; omega)) _ | refine Below.drew ?_))).mono ?_; rintro e w2 ⟨rfl, hb2⟩; have HF2 := Lib.hid (blkStay (b := w.heap.size) (o := fldO X Y W H (.slice (some ⟨b, 0, none⟩) n cap)) (by ((simp only [heap_alloc_get, heap_size_alloc, if_true]) <;> ((repeat' split) <;> first | rfl | omega))) hb2); have HR2 := Lib.hid (blkStay (b := w.heap.size + 1) (o := regObj X' Y' W1 H1) (by ((simp only [heap_alloc_get, heap_size_alloc, if_true]) <;> ((repeat' split) <;> first | rfl | omega))) hb2); have HN2 := Lib.hid (blkStay (b := w.heap.size + 1 + 1) (o := intObj num) (by ((simp only [heap_alloc_get, heap_size_alloc, if_true]) <;> ((repeat' split) <;> first | rfl | omega))) hb2); have HD2 := Lib.hid (blkStay (b := w.heap.size + 1 + 1 + 1) (o := intObj den) (by ((simp only [heap_alloc_get, heap_size_alloc, if_true]) <;> ((repeat' split) <;> first | rfl | omega))) hb2); have HS2 := Lib.hid (blkStay (b := w.heap.size + 1 + 1 + 1 + 1) (o := fldO 0 0 0 0 (.slice none 0 0)) (by ((simp only [heap_alloc_get, heap_size_alloc, if_true]) <;> ((repeat' split) <;> first | rfl | omega))) hb2); have hB2 : Below w.heap.size w w2 := Below.trans (by repeat (first | exact Below.refl _ _ | refine Below.alloc ?_ (by first | omega | (simp; done) | (simp; omega)) _ | refine Below.setCell ?_ (by first | omega | (simp; done) | (simp; omega)) _ | refine Below.drew ?_)) (Below.mono hb2 (by first | omega | (simp; done) | (simp; omega))); obtain ⟨cR, fR, zR⟩ := blkC HR2.out; clear hb2) | (go_at_call 15; refine (CR.out _).mono ?_; rintro e w3 ⟨rfl, hw3⟩; have hb23 : Below w2.heap.size w2 w3 := (by rw [hw3]; exact (by repeat (first | exact Below.refl _ _ | refine Below.alloc ?_ (by first | omega | (simp; done) | (simp; omega)) _ | refine Below.setCell ?_ (by first | omega | (simp; done) | (simp; omega)) _ | refine Below.drew ?_))); clear hw3 cR fR zR; have HF3 := Lib.hid (blkStay HF2.out hb23); have HR3 := Lib.hid (blkStay HR2.out hb23); have HN3 := Lib.hid (blkStay HN2.out hb23); have HD3 := Lib.hid (blkStay HD2.out hb23); have HS3 := Lib.hid (blkStay HS2.out hb23); have hB3 := hB2.trans (hb23.mono hB2.size); clear hb23 hB2 HF2 HR2 HN2 HD2 HS2; obtain ⟨cR, fR, zR⟩ := blkC HR3.out; obtain ⟨cN, fN, zN⟩ := blkC HN3.out; obtain ⟨cD, fD, zD⟩ := blkC HD3.out; obtain ⟨cS, fS, zS⟩ := blkC HS3.out))
    refine bodyPost_ret (v := .tuple #[fldV 0 0 0 0 (.slice none 0 0), .int .i64 g]) (by simp [results, Try.results47, go_sem, cS]) rfl ?_
    exact ⟨rfl, set5_below hB3 _ _ _ _ _ _ (by omega)⟩
  all_goals
    subst h
    try subst h'
    go_enter Try.func47, Try.ntmps47
    go_wp2_with (first | (go_at_call 82; refine (CK.out _ (by repeat (first | exact Below.refl _ _ | refine Below.alloc ?_ (by first | omega | (simp; done) | (simp; omega)) _ | refine Below.setCell ?_ (by first | omega | (simp; done) | (simp; omega)) _ | refine Below.drew ?_))).mono ?_; rintro e w2 ⟨rfl, hb2⟩; have HF2 := Lib.hid (blkStay (b := w.heap.size) (o := fldO X Y W H (.slice (some ⟨b, 0, none⟩) n cap)) (by ((simp only [heap_alloc_get, heap_size_alloc, if_true]) <;> ((repeat' split) <;> first | rfl | omega))) hb2); have HR2 := Lib.hid (blkStay (b := w.heap.size + 1) (o := regObj X' Y' W1 H1) (by ((simp only [heap_alloc_get, heap_size_alloc, if_true]) <;> ((repeat' split) <;> first | rfl | omega))) hb2); have HN2 := Lib.hid (blkStay (b := w.heap.size + 1 + 1) (o := intObj num) (by ((simp only [heap_alloc_get, heap_size_alloc, if_true]) <;> ((repeat' split) <;> first | rfl | omega))) hb2); have HD2 := Lib.hid (blkStay (b := w.heap.size + 1 + 1 + 1) (o := intObj den) (by ((simp only [heap_alloc_get, heap_size_alloc, if_true]) <;> ((repeat' split) <;> first | rfl | omega))) hb2); have HS2 := Lib.hid (blkStay (b := w.heap.size + 1 + 1 + 1 + 1) (o := fldO 0 0 0 0 (.slice none 0 0)) (by ((simp only [heap_alloc_get, heap_size_alloc, if_true]) <;> ((repeat' split) <;> first | rfl | omega))) hb2); have hB2 : Below w.heap.size w w2 := Below.trans (by repeat (first | exact Below.refl _ _ | refine Below.alloc ?_ (by first | omega | (simp; done) | (simp; omega)) _ | refine Below.setCell ?_ (by first | omega | (simp; done) | (simp; omega)) _ | refine Below.drew ?_)) (Below.mono hb2 (by first | omega | (simp; done) | (simp; omega))); obtain ⟨cR, fR, zR⟩ := blkC HR2.out; clear hb2) | (go_at_call 15; refine (CR.out _).mono ?_; rintro e w3 ⟨rfl, hw3⟩; have hb23 : Below w2.heap.size w2 w3 := (by rw [hw3]; exact (by repeat (first | exact Below.refl _ _ | refine Below.alloc ?_ (by first | omega | (simp; done) | (simp; omega)) _ | refine Below.setCell ?_ (by first | omega | (simp; done) | (simp; omega)) _ | refine Below.drew ?_))); clear hw3 cR fR zR; have HF3 := Lib.hid (blkStay HF2.out hb23); have HR3 := Lib.hid (blkStay HR2.out hb23); have HN3 := Lib.hid (blkStay HN2.out hb23); have HD3 := Lib.hid (blkStay HD2.out hb23); have HS3 := Lib.hid (blkStay HS2.out hb23); have hB3 := hB2.trans (hb23.mono hB2.size); clear hb23 hB2 HF2 HR2 HN2 HD2 HS2; obtain ⟨cR, fR, zR⟩ := blkC HR3.out; obtain ⟨cN, fN, zN⟩ := blkC HN3.out; obtain ⟨cD, fD, zD⟩ := blkC HD3.out; obtain ⟨cS, fS, zS⟩ := blkC HS3.out) | (go_at_call 71; (with_reducible refine (WN.out _).mono ?_); rintro e w' ⟨rfl, rfl⟩) | (go_at_call 71; (with_reducible refine (WD.out _).mono ?_); rintro e w' ⟨rfl, rfl⟩))
    refine bodyPost_ret (v := .tuple #[fldV 0 0 0 0 (.slice none 0 0), .int .i64 3]) (by simp [results, Try.results47, go_sem, cS]) rfl ?_
    exact ⟨rfl, set5_below hB3 _ _ _ _ _ _ (by omega)⟩
end Go.Proofs.Ytihjemookgnafaa

/- What the two sides answer, told alike: so the law's walk has one way. -/
namespace Go.Proofs.Ytihjemookgnafaa
open Go.RowKit Fl
set_option linter.unusedVariables false

/-- A result (the field x y u h s, the error k) of a function that makes f over a region, behind the error er. -/
def Res (lo : Nat) (w : World) (X Y W H : Int) (n : Nat) (f : Nat → Nat) (er : Int) (x y u h : Int) (s : Value) (k : Int) : Prop :=
  (er ≠ 0 ∧ x = 0 ∧ y = 0 ∧ u = 0 ∧ h = 0 ∧ s = .slice none 0 0 ∧ k = er) ∨
  (er = 0 ∧ allB n (fun i => hgtB (f i)) = true ∧ x = X ∧ y = Y ∧ u = W ∧ h = H ∧ (∃ b cap, s = .slice (some ⟨b, 0, none⟩) n cap ∧ lo ≤ b ∧ b < w.heap.size ∧ FlAt w b 0 n f) ∧ k = 0) ∨
  (er = 0 ∧ allB n (fun i => hgtB (f i)) = false ∧ x = 0 ∧ y = 0 ∧ u = 0 ∧ h = 0 ∧ s = .slice none 0 0 ∧ k = 3)
theorem Res.stay {lo : Nat} {w w' : World} {X Y W H : Int} {n : Nat} {f : Nat → Nat} {er x y u h : Int} {s : Value} {k : Int} (r : Res lo w X Y W H n f er x y u h s k) (hb : Below w.heap.size w w') : Res lo w' X Y W H n f er x y u h s k := by
  rcases r with r | ⟨r1, r2, r3, r4, r5, r6, ⟨b, cap, r7, r0, r8, r9⟩, r10⟩ | r
  · exact .inl r
  · exact .inr (.inl ⟨r1, r2, r3, r4, r5, r6, ⟨b, cap, r7, r0, Nat.lt_of_lt_of_le r8 hb.size, flAt_congr r9 (hb.block _ r8)⟩, r10⟩)
  · exact .inr (.inr r)
theorem Res.heap {lo : Nat} {w w' : World} {X Y W H : Int} {n : Nat} {f : Nat → Nat} {er x y u h : Int} {s : Value} {k : Int} (r : Res lo w X Y W H n f er x y u h s k) {p : Nat} (hz : w.heap.size ≤ w'.heap.size) (hne : p < lo) (hb : ∀ b, b ≠ p → b < w.heap.size → w'.heap[b]? = w.heap[b]?) : Res lo w' X Y W H n f er x y u h s k := by
  rcases r with r | ⟨r1, r2, r3, r4, r5, r6, ⟨b, cap, r7, r0, r8, r9⟩, r10⟩ | r
  · exact .inl r
  · exact .inr (.inl ⟨r1, r2, r3, r4, r5, r6, ⟨b, cap, r7, r0, Nat.lt_of_lt_of_le r8 hz, flAt_congr r9 (hb _ (by omega) r8)⟩, r10⟩)
  · exact .inr (.inr r)

theorem made_res {w w' : World} {X Y W H : Int} {n : Nat} {f : Nat → Nat} {er : Int} {e : Ending} (h : ScPost w X Y W H n f er e w') :
    ∃ x y u hh : Int, ∃ a : Option Addr, ∃ l cp : Nat, ∃ k : Int, e = .returned (.tuple #[fldV x y u hh (.slice a l cp), .int .i64 k]) ∧ Res w.heap.size w' X Y W H n f er x y u hh (.slice a l cp) k ∧ Below w.heap.size w w' := by
  rcases h with ⟨h1, h2, h3⟩ | ⟨h1, ⟨h2, b, cap, h3, h4, h5, h6, h7⟩ | ⟨h2, h3, h4⟩⟩
  · exact ⟨_, _, _, _, _, _, _, _, h2, .inl ⟨h1, rfl, rfl, rfl, rfl, rfl, rfl⟩, h3⟩
  · exact ⟨_, _, _, _, _, _, _, _, h3, .inr (.inl ⟨h1, h2, rfl, rfl, rfl, rfl, ⟨b, cap, rfl, h4, h5, h6⟩, rfl⟩), h7⟩
  · exact ⟨_, _, _, _, _, _, _, _, h3, .inr (.inr ⟨h1, h2, rfl, rfl, rfl, rfl, rfl, rfl⟩), h4⟩

/-- Two results of one thing are the same to the law. -/
theorem same_res {W0 : World} {X Y W H : Int} {n : Nat} {f : Nat → Nat} {er x y u h x' y' u' h' : Int} {s s' : Value} {k k' : Int} (hn : 1 ≤ n) (hl : n ≤ 9223372036854775807)
    {lo lo' : Nat} (r : Res lo W0 X Y W H n f er x y u h s k) (r' : Res lo' W0 X Y W H n f er x' y' u' h' s' k') :
    Calls Try.prog 38 #[fldV x y u h s, .int .i64 k, fldV x' y' u' h' s', .int .i64 k'] W0 fun e w' => e = .returned (.bool true) ∧ Below W0.heap.size W0 w' := by
  rcases r with ⟨a1, rfl, rfl, rfl, rfl, rfl, rfl⟩ | ⟨a1, a2, rfl, rfl, rfl, rfl, ⟨b, cap, rfl, _, _, c⟩, rfl⟩ | ⟨a1, a2, rfl, rfl, rfl, rfl, rfl, rfl⟩ <;>
  rcases r' with ⟨b1, rfl, rfl, rfl, rfl, rfl, rfl⟩ | ⟨b1, b2, rfl, rfl, rfl, rfl, ⟨b', cap', rfl, _, _, c'⟩, rfl⟩ | ⟨b1, b2, rfl, rfl, rfl, rfl, rfl, rfl⟩
  · exact law_same_err _ a1 W0
  · exact absurd b1 a1
  · exact absurd b1 a1
  · exact absurd a1 b1
  · exact law_same_ok _ _ _ _ b b' cap cap' n f hl hn W0 c c'
  · rw [a2] at b2; cases b2
  · exact absurd a1 b1
  · rw [a2] at b2; cases b2
  · exact law_same_err 3 (by decide) W0

theorem set5_self {wr : World} {b : Nat} {a1 a2 a3 a4 a5 : Value} {t : TypeId} (u1 u2 u3 u4 u5 : Value) (h : wr.heap[b]? = some (.cells #[a1, a2, a3, a4, a5] t (0, 0))) :
    (set5 wr b u1 u2 u3 u4 u5).heap[b]? = some (.cells #[u1, u2, u3, u4, u5] t (0, 0)) := by
  have h1 := heap_setCell_same wr b 0 _ _ u1 h
  have h2 := heap_setCell_same _ b 1 _ _ u2 h1
  have h3 := heap_setCell_same _ b 2 _ _ u3 h2
  have h4 := heap_setCell_same _ b 3 _ _ u4 h3
  have h5 := heap_setCell_same _ b 4 _ _ u5 h4
  exact h5
/-- A field stored into a block of its own: what stands elsewhere stays. -/
theorem box_old (wr : World) (o : Obj) (u1 u2 u3 u4 u5 : Value) {k : Nat} (h : k < wr.heap.size) : (set5 (wr.alloc o) wr.heap.size u1 u2 u3 u4 u5).heap[k]? = wr.heap[k]? := by
  rw [set5_heap _ _ _ _ _ _ _ _ (by omega), heap_alloc_old _ _ h]
theorem box_below (wr : World) (o : Obj) (u1 u2 u3 u4 u5 : Value) : Below wr.heap.size wr (set5 (wr.alloc o) wr.heap.size u1 u2 u3 u4 u5) :=
  set5_below ((Below.refl _ _).alloc (Nat.le_refl _) o) _ _ _ _ _ _ (Nat.le_refl _)

/-- What a fit field is, its singles by a function. -/
theorem fit_fn {w : World} {b n : Nat} (h : FitRow w b n n) : ∃ v : Nat → Nat, FlAt w b 0 n v ∧ wf32 n v ∧ allB n (fun i => hgtB (v i)) = true ∧ b < w.heap.size := by
  obtain ⟨cs, h1, h2, h3⟩ := h
  refine ⟨fun j => if hj : j < n then (h3 j hj).choose else 0, fun i hi => ?_, fun i hi => ?_, allB_iff.2 fun i hi => ?_, (blkC h1).2.2⟩
  · rw [Nat.zero_add, (blkC h1).1 i]; simp only [dif_pos hi]; exact (h3 i hi).choose_spec.1
  · simp only [dif_pos hi]; exact (h3 i hi).choose_spec.2.1
  · simp only [dif_pos hi]; exact (h3 i hi).choose_spec.2.2 hi
theorem fit_check {X Y : Int} {W H n : Nat} (x1 : -5000 ≤ X) (x2 : X ≤ 5000) (y1 : -5000 ≤ Y) (y2 : Y ≤ 5000) (w1 : (1 : Int) ≤ W) (w2 : (W : Int) ≤ 16) (h1 : (1 : Int) ≤ H) (h2 : (H : Int) ≤ 16) (hn : (n : Int) = W * H) (hn2 : n ≤ 256) : checkR X Y W H = 0 := by
  unfold checkR
  rw [if_neg (by omega), if_neg (by rw [← hn]; omega), if_neg (by omega)]

end Go.Proofs.Ytihjemookgnafaa

/- Resample of the program, of a right field, a right region and a right ratio. -/
namespace Go.Proofs.Ytihjemookgnafaa
open Go.RowKit Fl
set_option linter.unusedVariables false

/-- The answer's error where field, region and ratio are right. -/
def rsE (n' : Nat) (T : Nat → Bool) : Int := if allB n' T then 0 else 5

set_option maxHeartbeats 4000000 in
set_option maxRecDepth 100000 in
theorem resample_ok (X Y : Int) (W H n b cap : Nat) (v : Nat → Nat) (X' Y' num den : Int) (W' H' n' : Nat) (w : World) (h0 : checkR X Y W H = 0) (hn : n = W * H) (hcap : n ≤ cap) (hc : FlAt w b 0 n v) (hh : allB n (fun i => hgtB (v i)) = true)
    (h0' : checkR X' Y' W' H' = 0) (hn' : n' = H' * W') (hq1 : withinB num 1 64 = true) (hq2 : withinB den 1 64 = true) :
    Calls Try.prog 47 #[fldV X Y W H (.slice (some ⟨b, 0, none⟩) n cap), reg X' Y' W' H', .int .i64 num, .int .i64 den] w (ScPost w X' Y' W' H' n' (rsF v X Y W H num den X' Y' W') (rsE n' (rsT X Y W H num den X' Y' W'))) := by
  obtain ⟨b1, b2, b3, b4, b5, _⟩ := checkR_zero h0
  obtain ⟨d1, d2, d3, d4, d5, d6, d7, d8, d9⟩ := checkR_zero h0'
  have h1 : 1 ≤ n := by
    have := Nat.mul_pos (by omega : 0 < W) (by omega : 0 < H)
    omega
  have hn2' : n' ≤ 65536 := by
    have : ((W' : Int) * (H' : Int)) = (n' : Int) := by rw [hn', Nat.mul_comm]; simp
    omega
  have hlt : b < w.heap.size := World.block_lt_of_cell? w _ (hc 0 h1)
  have q1 := withinB_iff.1 hq1
  have q2 := withinB_iff.1 hq2
  have CK := Lib.hid (fun W' (hb : Below w.heap.size w W') => check_ok X Y W H n b cap v W' h0 hn (flAt_congr hc (hb.block _ hlt)) hh)
  have CR := Lib.hid (fun w => checkRegion_any X' Y' W' H' w)
  have WN := Lib.hid (fun w => within_any num 1 64 w)
  have WD := Lib.hid (fun w => within_any den 1 64 w)
  rw [h0'] at CR
  rw [hq1] at WN
  rw [hq2] at WD
  have BY := Lib.hid (fun (Wr : World) (p m : Nat) (hk : RSCaps Wr X Y W H n b cap v p num den) (hm : Wr.heap[m]? = some (boolObj false)) (m0 : p ≠ m) (m1 : p + 1 + 1 ≠ m) (m2 : p + 1 + 1 + 1 ≠ m) (m3 : b ≠ m) =>
    byPlaceM_any (fun k => k = m) (InvP m (rsT X Y W H num den X' Y' W')) X' Y' W' H' n' 118 #[.pointer (some ⟨p + 1 + 1, 0, none⟩), .pointer (some ⟨p + 1 + 1 + 1, 0, none⟩), .pointer (some ⟨p, 0, none⟩), .pointer (some ⟨m, 0, none⟩)] (rsF v X Y W H num den X' Y' W') Wr
      (stateP (blkC hm).2.2) hm enters_Resample1 (rs1_any X Y W H n b cap v p m num den X' Y' W' H' Wr hk h0 hn hcap hh h0' q1.1 q1.2 q2.1 q2.2 m0 m1 m2 m3) (by omega) (by omega) (by omega) (by omega) (by omega) (by omega) (by omega) (by omega) hn' hn2')
  have HC := Lib.hid hc
  obtain ⟨er, her⟩ : ∃ er, rsE n' (rsT X Y W H num den X' Y' W') = er := ⟨_, rfl⟩
  rw [her]
  generalize rsT X Y W H num den X' Y' W' = T at *
  generalize rsF v X Y W H num den X' Y' W' = f at *
  clear hc hn h0 h0' hh b1 b2 b3 b4 b5 d1 d2 d3 d4 d5 d6 d7 d8 d9 hn' hn2' q1 q2 hq1 hq2 hcap
  go_enter Try.func47, Try.ntmps47
  go_wp2_with (first | (go_at_call 82; refine (CK.out _ (by repeat (first | exact Below.refl _ _ | refine Below.alloc ?_ (by first | omega | (simp; done) | (simp; omega)) _ | refine Below.setCell ?_ (by first | omega | (simp; done) | (simp; omega)) _ | refine Below.drew ?_))).mono ?_; rintro e w2 ⟨rfl, hb2⟩; have HF2 := Lib.hid (blkStay (b := w.heap.size) (o := fldO X Y W H (.slice (some ⟨b, 0, none⟩) n cap)) (by ((simp only [heap_alloc_get, heap_size_alloc, if_true]) <;> ((repeat' split) <;> first | rfl | omega))) hb2); have HR2 := Lib.hid (blkStay (b := w.heap.size + 1) (o := regObj X' Y' W' H') (by ((simp only [heap_alloc_get, heap_size_alloc, if_true]) <;> ((repeat' split) <;> first | rfl | omega))) hb2); have HN2 := Lib.hid (blkStay (b := w.heap.size + 1 + 1) (o := intObj num) (by ((simp only [heap_alloc_get, heap_size_alloc, if_true]) <;> ((repeat' split) <;> first | rfl | omega))) hb2); have HD2 := Lib.hid (blkStay (b := w.heap.size + 1 + 1 + 1) (o := intObj den) (by ((simp only [heap_alloc_get, heap_size_alloc, if_true]) <;> ((repeat' split) <;> first | rfl | omega))) hb2); have HS2 := Lib.hid (blkStay (b := w.heap.size + 1 + 1 + 1 + 1) (o := fldO 0 0 0 0 (.slice none 0 0)) (by ((simp only [heap_alloc_get, heap_size_alloc, if_true]) <;> ((repeat' split) <;> first | rfl | omega))) hb2); have hB2 : Below w.heap.size w w2 := Below.trans (by repeat (first | exact Below.refl _ _ | refine Below.alloc ?_ (by first | omega | (simp; done) | (simp; omega)) _ | refine Below.setCell ?_ (by first | omega | (simp; done) | (simp; omega)) _ | refine Below.drew ?_)) (Below.mono hb2 (by first | omega | (simp; done) | (simp; omega))); obtain ⟨cR, fR, zR⟩ := blkC HR2.out; clear hb2) | (go_at_call 15; refine (CR.out _).mono ?_; rintro e w3 ⟨rfl, hw3⟩; have hb23 : Below w2.heap.size w2 w3 := (by rw [hw3]; exact (by repeat (first | exact Below.refl _ _ | refine Below.alloc ?_ (by first | omega | (simp; done) | (simp; omega)) _ | refine Below.setCell ?_ (by first | omega | (simp; done) | (simp; omega)) _ | refine Below.drew ?_))); clear hw3 cR fR zR; have HF3 := Lib.hid (blkStay HF2.out hb23); have HR3 := Lib.hid (blkStay HR2.out hb23); have HN3 := Lib.hid (blkStay HN2.out hb23); have HD3 := Lib.hid (blkStay HD2.out hb23); have HS3 := Lib.hid (blkStay HS2.out hb23); have hB3 := hB2.trans (hb23.mono hB2.size); clear hb23 hB2 HF2 HR2 HN2 HD2 HS2; obtain ⟨cR, fR, zR⟩ := blkC HR3.out; obtain ⟨cN, fN, zN⟩ := blkC HN3.out; obtain ⟨cD, fD, zD⟩ := blkC HD3.out; obtain ⟨cS, fS, zS⟩ := blkC HS3.out) | (go_at_call 71; (with_reducible refine (WN.out _).mono ?_); rintro e w' ⟨rfl, rfl⟩) | (go_at_call 71; (with_reducible refine (WD.out _).mono ?_); rintro e w' ⟨rfl, rfl⟩))
  have K3 : RSCaps w3 X Y W H n b cap v w.heap.size num den := ⟨HF3.out, HN3.out, HD3.out, flAt_congr HC.out (hB3.block _ hlt)⟩
  clear cS fS zS cR fR zR cN fN zN cD fD zD
  have z3 := hB3.size
  have zS := (blkC HS3.out).2.2
  refine (BY.out _ w.heap.size w3.heap.size (K3.stayM (M := fun _ => False) h1 (Below.toM (by repeat (first | exact Below.refl _ _ | refine Below.alloc ?_ (by first | omega | (simp; done) | (simp; omega)) _ | refine Below.setCell ?_ (by first | omega | (simp; done) | (simp; omega)) _ | refine Below.drew ?_))) id id id id) (by ((simp only [heap_alloc_get, if_true]) <;> ((repeat' split) <;> first | rfl | omega))) (by omega) (by omega) (by omega) (by omega)).mono ?_
  intro e w4 hmade
  obtain ⟨hinv, hbel, hmade⟩ := hmade
  have hm4 : w4.heap[w3.heap.size]? = some (boolObj (!allB n' T)) := hinv
  have hB4 : BelowM (fun k => k = w3.heap.size) w3.heap.size w3 w4 := (Below.toM (by repeat (first | exact Below.refl _ _ | refine Below.alloc ?_ (by first | omega | (simp; done) | (simp; omega)) _ | refine Below.setCell ?_ (by first | omega | (simp; done) | (simp; omega)) _ | refine Below.drew ?_))).trans (hbel.mono (by first | exact Nat.le_refl _ | (simp; done) | (simp; omega)))
  have hB34 : Below w3.heap.size w3 w4 := ⟨hB4.os, hB4.tape, hB4.output, hB4.size, fun k hk => hB4.block k hk (by omega)⟩
  have HS4 := Lib.hid (blkStay HS3.out hB34)
  have hBw := hB3.trans (hB34.mono z3)
  obtain ⟨cS, fS, zS4⟩ := blkC HS4.out
  obtain ⟨cM, fM, zM⟩ := blkC hm4
  clear hinv hB4 hm4
  have hbw5 := fun u1 u2 u3 u4 u5 => set5_below hBw (w.heap.size + 1 + 1 + 1 + 1) u1 u2 u3 u4 u5 (by omega)
  have HRES := fun (u1 u2 u3 u4 u5 : Value) (o : Obj) => (blkC ((heap_alloc_old (set5 w4 (w.heap.size + 1 + 1 + 1 + 1) u1 u2 u3 u4 u5) o (by rw [set5_size]; exact zS4)).trans (set5_self u1 u2 u3 u4 u5 HS4.out))).1
  simp only [set5] at HRES
  unfold rsE at her
  cases hT : allB n' T with
  | true =>
    rw [hT] at her cM
    simp only [Bool.not_true, if_true] at her cM
    subst her
    rcases hmade with ⟨hall, b', cap', rfl, hb', hlt', hrow⟩ | ⟨hall, rfl⟩
    · go_wp2
      refine bodyPost_ret (v := .tuple #[fldV X' Y' W' H' (.slice (some ⟨b', 0, none⟩) n' cap'), .int .i64 0]) (by simp [results, Try.results47, go_sem, HRES]) rfl ?_
      rw [heap_size_alloc] at hb'
      exact .inr ⟨rfl, .inl ⟨hall, b', cap', rfl, by omega, by rw [heap_size_alloc, set5_size]; omega, flAt_congr hrow ((heap_alloc_old _ _ (by rw [set5_size]; exact hlt')).trans (set5_heap w4 _ _ _ _ _ _ _ (by omega))), (hbw5 _ _ _ _ _).alloc (by rw [set5_size]; have := hBw.size; omega) _⟩⟩
    · go_wp2
      refine bodyPost_ret (v := .tuple #[fldV 0 0 0 0 (.slice none 0 0), .int .i64 3]) (by simp [results, Try.results47, go_sem, HRES]) rfl ?_
      exact .inr ⟨rfl, .inr ⟨hall, rfl, (hbw5 _ _ _ _ _).alloc (by rw [set5_size]; have := hBw.size; omega) _⟩⟩
  | false =>
    rw [hT] at her cM
    simp only [Bool.not_false, Bool.false_eq_true, if_false] at her cM
    subst her
    rcases hmade with ⟨hall, b', cap', rfl, hb', hlt', hrow⟩ | ⟨hall, rfl⟩
    all_goals
      go_wp2
      refine bodyPost_ret (v := .tuple #[fldV 0 0 0 0 (.slice none 0 0), .int .i64 5]) (by simp [results, Try.results47, go_sem, HRES]) rfl ?_
      exact .inl ⟨by omega, rfl, (hbw5 _ _ _ _ _).alloc (by rw [set5_size]; have := hBw.size; omega) _⟩
end Go.Proofs.Ytihjemookgnafaa

/- The closure of the reference's Resample, walked. -/
namespace Go.Proofs.Ytihjemookgnafaa
open Go.RowKit Fl
set_option linter.unusedVariables false

theorem enters_rResample1 : Enters 120 := by intro args W; simp [callFunc, Try.func120, Try.f120]

/-- What the reference's closure answers. -/
def rsG (v : Nat → Nat) (X Y : Int) (W H : Nat) (num den X' Y' : Int) (W' : Nat) (i : Nat) : Nat := if rsT X Y W H num den X' Y' W' i then (if hgtB (rsV v X Y W num den X' Y' W' i) then rsV v X Y W num den X' Y' W' i else 0) else 0
/-- Is the cell's value none beyond heights? -/
def rsH (v : Nat → Nat) (X Y : Int) (W H : Nat) (num den X' Y' : Int) (W' : Nat) (i : Nat) : Bool := !rsT X Y W H num den X' Y' W' i || hgtB (rsV v X Y W num den X' Y' W' i)
def InvR (m1 m2 : Nat) (T U : Nat → Bool) (k : Nat) (w : World) : Prop := w.heap[m1]? = some (boolObj (!allB k T)) ∧ w.heap[m2]? = some (boolObj (!allB k U))
theorem stateR {m1 m2 : Nat} {T U : Nat → Bool} {w : World} (h1 : m1 < w.heap.size) (h2 : m2 < w.heap.size) : State (fun k => k = m1 ∨ k = m2) (InvR m1 m2 T U) w :=
  ⟨fun k hk => by rcases hk with rfl | rfl <;> assumption, fun i W W' h he => ⟨by rw [he m1 (.inl rfl)]; exact h.1, by rw [he m2 (.inr rfl)]; exact h.2⟩⟩

theorem rrs_k2 {w5 : World} {m1 m2 : Nat} {x : Value} (h : m1 ≠ m2) (c : w5.cell? ⟨m2, 0, none⟩ = some x) (u : Value) : (w5.setCell ⟨m1, 0, none⟩ u).cell? ⟨m2, 0, none⟩ = some x := by
  exact (World.cell?_setCell_other _ _ _ _ (by first | (intro e; injection e with e1; exact h e1) | (intro e; injection e with e1; exact h e1.symm) | (simp only [ne_eq, Place.mk.injEq]; exact fun e => h e.1) | simp [h] | simp [Ne.symm h])).trans c

theorem rrs_fin {w2 w5 : World} {m1 m2 : Nat} {a c : Bool} (h : m1 ≠ m2) (hb : Below w2.heap.size w2 w5) (g1 : w5.heap[m1]? = some (boolObj a)) (g2 : w5.heap[m2]? = some (boolObj c)) (u1 u2 : Bool) : ((w5.setCell ⟨m1, 0, none⟩ (.bool u1)).setCell ⟨m2, 0, none⟩ (.bool u2)).heap[m1]? = some (boolObj u1) ∧ ((w5.setCell ⟨m1, 0, none⟩ (.bool u1)).setCell ⟨m2, 0, none⟩ (.bool u2)).heap[m2]? = some (boolObj u2) ∧ BelowM (fun k => k = m1 ∨ k = m2) w2.heap.size w2 ((w5.setCell ⟨m1, 0, none⟩ (.bool u1)).setCell ⟨m2, 0, none⟩ (.bool u2)) := by
  refine ⟨?_, ?_, ?_⟩
  · rw [Below.heap_setCell _ _ _ _ h]; exact one_setCell g1
  · exact one_setCell ((Below.heap_setCell _ _ _ _ (fun e => h e.symm)).trans g2)
  · exact BelowM.setCell (M := fun k => k = m1 ∨ k = m2) (BelowM.setCell (M := fun k => k = m1 ∨ k = m2) (Below.toM hb) (p := ⟨m1, 0, none⟩) (.inr (.inl rfl)) _) (p := ⟨m2, 0, none⟩) (.inr (.inr rfl)) _

set_option maxHeartbeats 4000000 in
set_option maxRecDepth 100000 in
theorem rrs1_any (X Y : Int) (W H n b cap : Nat) (v : Nat → Nat) (p m1 m2 : Nat) (num den X' Y' : Int) (W' H' : Nat) (w : World) (hk : RSCaps w X Y W H n b cap v p num den) (h0 : checkR X Y W H = 0) (hn : n = W * H) (hh : allB n (fun i => hgtB (v i)) = true) (hvw : wf32 n v) (h0' : checkR X' Y' W' H' = 0)
    (n1 : 1 ≤ num) (n2 : num ≤ 64) (d1 : 1 ≤ den) (d2 : den ≤ 64) (hm12 : m1 ≠ m2) (m0 : ¬ (p = m1 ∨ p = m2)) (m1' : ¬ (p + 1 + 1 = m1 ∨ p + 1 + 1 = m2)) (m2' : ¬ (p + 1 + 1 + 1 = m1 ∨ p + 1 + 1 + 1 = m2)) (m3 : ¬ (b = m1 ∨ b = m2)) :
    Clos2M (fun k => k = m1 ∨ k = m2) (InvR m1 m2 (rsT X Y W H num den X' Y' W') (rsH v X Y W H num den X' Y' W')) 120 #[.pointer (some ⟨p + 1 + 1, 0, none⟩), .pointer (some ⟨p + 1 + 1 + 1, 0, none⟩), .pointer (some ⟨p, 0, none⟩), .pointer (some ⟨m1, 0, none⟩), .pointer (some ⟨m2, 0, none⟩)] X' Y' W' H' (rsG v X Y W H num den X' Y' W') w := by
  intro x y i w2 x1 x2 y1 y2 hi hb hinv
  obtain ⟨b1, b2, b3, b4, b5, b6, b7, b8, b9⟩ := checkR_zero h0'
  have nn : 1 ≤ n := by
    obtain ⟨c1, c2, c3, c4, c5, _⟩ := checkR_zero h0
    rw [hn]; exact Nat.mul_pos (by omega) (by omega)
  have K := hk.stayM nn hb m0 m1' m2' m3
  obtain ⟨ex, ey⟩ := place_of (show 1 ≤ W' by omega) x1 x2 y1 hi
  obtain ⟨p1, p2, p3, p4⟩ := scaled_in (x := x) (num := num) (den := den) (by omega) (by omega) n1 n2 d1
  obtain ⟨q1, q2, q3, q4⟩ := scaled_in (x := y) (num := num) (den := den) (by omega) (by omega) n1 n2 d1
  have hT : rsT X Y W H num den X' Y' W' i = thereB X Y W H (x * num / den) (y * num / den) (zeroB (shW (x * num % den) den)) (zeroB (shW (y * num % den) den)) := by unfold rsT; rw [ex, ey]
  have hV : rsV v X Y W num den X' Y' W' i = btwW v W (numC X Y W (x * num / den) (y * num / den)) (zeroB (shW (x * num % den) den)) (zeroB (shW (y * num % den) den)) (shW (x * num % den) den) (shW (y * num % den) den) := by unfold rsV; rw [ex, ey]
  obtain ⟨ds1, ds2, bs⟩ := sh_parts (Int.emod_nonneg (x * num) (show den ≠ 0 by omega)) (Int.emod_lt_of_pos (x * num) (show 0 < den by omega)) (by omega)
  obtain ⟨dt1, dt2, bt⟩ := sh_parts (Int.emod_nonneg (y * num) (show den ≠ 0 by omega)) (Int.emod_lt_of_pos (y * num) (show 0 < den by omega)) (by omega)
  have QX := Lib.hid (fun w => quotient_any x num den w d1 (by omega) n1 n2 (by omega) (by omega))
  have QY := Lib.hid (fun w => quotient_any y num den w d1 (by omega) n1 n2 (by omega) (by omega))
  generalize x * num = ax at *
  generalize y * num = ay at *
  have DVX := Lib.hid (fun w => refDiv_any 0 _ _ _ ds2 ds1 w)
  have DVY := Lib.hid (fun w => refDiv_any 0 _ _ _ dt2 dt1 w)
  have hlt : b < w2.heap.size := World.block_lt_of_cell? w2 _ (K.row 0 nn)
  -- bilinear, whatever it answers
  obtain ⟨Q, er, hQ, hE5, hE3, BT0⟩ : ∃ (Q : Nat) (er : Int), rsG v X Y W H num den X' Y' W' i = (if (er != 0) = true then 0 else Q) ∧ (er == 5) = !rsT X Y W H num den X' Y' W' i ∧ (er == 3) = !rsH v X Y W H num den X' Y' W' i ∧ ∀ W'', Below w2.heap.size w2 W'' → Calls Try.prog 116 #[fldV X Y W H (.slice (some ⟨b, 0, none⟩) n cap), .int .i64 (ax / den), .int .i64 (ay / den), .float .f32 (shW (ax % den) den), .float .f32 (shW (ay % den) den)] W'' fun e w' => e = .returned (.tuple #[.float .f32 Q, .int .i64 er]) ∧ Below W''.heap.size W'' w' := by
    unfold rsG rsH
    rw [hV, hT]
    cases hth : thereB X Y W H (ax / den) (ay / den) (zeroB (shW (ax % den) den)) (zeroB (shW (ay % den) den)) with
    | false => exact ⟨0, 5, rfl, rfl, rfl, fun W'' hb'' => rbil_no X Y W H n b cap v _ _ _ _ _ _ W'' h0 hn (flAt_congr K.row (hb''.block _ hlt)) hh (by omega) (by omega) (by omega) (by omega) rfl rfl hth bs⟩
    | true =>
      refine ⟨_, _, ?_, ?_, ?_, fun W'' hb'' => rbil_ok X Y W H n b cap v _ _ _ _ _ _ W'' h0 hn (flAt_congr K.row (hb''.block _ hlt)) hh hvw rfl rfl hth bs bt⟩
      all_goals (try unfold zeroB)
      all_goals generalize btwW v W (numC X Y W (ax / den) (ay / den)) _ _ (shW (ax % den) den) (shW (ay % den) den) = P
      all_goals cases hgtB P <;> rfl
  have BT := Lib.hid BT0
  have GF := Lib.hid K.fld
  have GN := Lib.hid K.nm
  have GD := Lib.hid K.dn
  have GM1 := Lib.hid (show w2.heap[m1]? = some (boolObj (!allB i (rsT X Y W H num den X' Y' W'))) from hinv.1)
  have GM2 := Lib.hid (show w2.heap[m2]? = some (boolObj (!allB i (rsH v X Y W H num den X' Y' W'))) from hinv.2)
  have HS1 := Lib.hid (allB_succ (k := i) (T := rsT X Y W H num den X' Y' W'))
  have HS2 := Lib.hid (allB_succ (k := i) (T := rsH v X Y W H num den X' Y' W'))
  show Calls _ _ _ w2 fun e W'' => e = .returned (.float .f32 (rsG v X Y W H num den X' Y' W' i)) ∧ (W''.heap[m1]? = some (boolObj (!allB (i + 1) (rsT X Y W H num den X' Y' W'))) ∧ W''.heap[m2]? = some (boolObj (!allB (i + 1) (rsH v X Y W H num den X' Y' W')))) ∧ BelowM (fun k => k = m1 ∨ k = m2) w2.heap.size w2 W''
  rw [HS1.out, HS2.out, hQ]
  generalize rsT X Y W H num den X' Y' W' i = T at *
  generalize rsH v X Y W H num den X' Y' W' i = U at *
  generalize allB i (rsT X Y W H num den X' Y' W') = A at *
  generalize allB i (rsH v X Y W H num den X' Y' W') = C at *
  generalize shW (ax % den) den = sx at *
  generalize shW (ay % den) den = sy at *
  generalize ax / den = gx at *
  generalize ay / den = gy at *
  generalize ax % den = rx at *
  generalize ay % den = ry at *
  obtain ⟨cF, fF, zF⟩ := blkC GF.out
  obtain ⟨cN, fN, zN⟩ := blkC GN.out
  obtain ⟨cD, fD, zD⟩ := blkC GD.out
  have E5 := Lib.hid hE5
  have E3 := Lib.hid hE3
  have M12 := Lib.hid hm12
  clear hk h0 hn hh h0' K hinv hb hT hV BT0 x1 x2 y1 y2 hi ex ey b1 b2 b3 b4 b5 b6 b7 b8 b9 bs bt ds1 ds2 dt1 dt2 p1 p2 p3 p4 q1 q2 q3 q4 HS1 HS2 nn hvw hQ hE5 hE3 hm12 m0 m1' m2' m3
  go_enter Try.func120, Try.ntmps120
  go_wp2_with (first | (go_at_call 121; (with_reducible refine (QX.out _).mono ?_); rintro e w' ⟨rfl, rfl⟩) | (go_at_call 121; (with_reducible refine (QY.out _).mono ?_); rintro e w' ⟨rfl, rfl⟩))
  go_region_held3 (fun w' => (∀ o, w'.cell? ⟨p, o, none⟩ = #[.int .i64 X, .int .i64 Y, .int .i64 W, .int .i64 H, .slice (some ⟨b, 0, none⟩) n cap][o]?) ∧ (∀ o, w'.cell? ⟨p + 1 + 1 + 1, o, none⟩ = #[.int .i64 den][o]?) ∧ Below w2.heap.size w2 w') (first | exact ⟨(blkC (blkStay GF.out hb9)).1, (blkC (blkStay GD.out hb9)).1, hb9⟩ | exact ⟨(blkC (blkStay GF.out (by repeat (first | exact Below.refl _ _ | refine Below.alloc ?_ (by first | omega | (simp; done) | (simp; omega)) _ | refine Below.setCell ?_ (by first | omega | (simp; done) | (simp; omega)) _ | refine Below.drew ?_)))).1, (blkC (blkStay GD.out (by repeat (first | exact Below.refl _ _ | refine Below.alloc ?_ (by first | omega | (simp; done) | (simp; omega)) _ | refine Below.setCell ?_ (by first | omega | (simp; done) | (simp; omega)) _ | refine Below.drew ?_)))).1, (by repeat (first | exact Below.refl _ _ | refine Below.alloc ?_ (by first | omega | (simp; done) | (simp; omega)) _ | refine Below.setCell ?_ (by first | omega | (simp; done) | (simp; omega)) _ | refine Below.drew ?_))⟩) (first | (go_at_call 123; refine (refConv_any _ _).mono ?_; rintro e w' ⟨rfl, rfl⟩) | (go_at_call 122; (with_reducible refine (DVX.out _).mono ?_); rintro e w' ⟨rfl, rfl⟩) | (go_at_call 122; (with_reducible refine (DVY.out _).mono ?_); rintro e w' ⟨rfl, rfl⟩) | (go_at_call 116; (with_reducible refine Calls.mono (BT.out _ ?_) ?_); exact (by repeat (first | exact Below.refl _ _ | refine Below.alloc ?_ (by first | omega | (simp; done) | (simp; omega)) _ | refine Below.setCell ?_ (by first | omega | (simp; done) | (simp; omega)) _ | refine Below.drew ?_)); rintro e w' ⟨rfl, hb8⟩; have hb9 : Below w2.heap.size w2 w' := ⟨hb8.os, hb8.tape, hb8.output, hb8.size, hb8.block⟩; clear hb8))
  rename_i hHeld
  have B5 := Lib.hid hHeld.2.2
  clear hHeld cF fF cN fN cD fD
  have G1 := Lib.hid (blkStay GM1.out B5.out)
  have G2 := Lib.hid (blkStay GM2.out B5.out)
  obtain ⟨c1, f1, z1⟩ := blkC G1.out
  obtain ⟨c2, f2, z2⟩ := blkC G2.out
  have k2 := rrs_k2 (m1 := m1) (fun e => M12.out e) (c2 0)
  have FIN := Lib.hid (rrs_fin M12.out B5.out G1.out G2.out)
  have e5 := E5.out
  have e3 := E3.out
  clear c2
  cases hz : (er != 0)
  all_goals cases A <;> cases C <;> cases T <;> cases U
  all_goals simp only [Bool.not_true, Bool.not_false] at e5 e3 c1 k2
  all_goals
    go_wp2
    all_goals (try go_ret)
    all_goals exact ⟨rfl, ⟨(FIN.out _ _).1, (FIN.out _ _).2.1⟩, (FIN.out _ _).2.2⟩
end Go.Proofs.Ytihjemookgnafaa

/- Resample of the reference, of a wrong region or ratio. -/
namespace Go.Proofs.Ytihjemookgnafaa
open Go.RowKit Fl
set_option linter.unusedVariables false

set_option maxHeartbeats 4000000 in
set_option maxRecDepth 100000 in
theorem rresample_bad (X Y : Int) (W H n b cap : Nat) (X' Y' W1 H1 num den er : Int) (w : World)
    (hb : (checkR X' Y' W1 H1 = er ∧ er ≠ 0) ∨ (checkR X' Y' W1 H1 = 0 ∧ er = 3 ∧ (withinB num 1 64 = false ∨ withinB num 1 64 = true ∧ withinB den 1 64 = false))) :
    Calls Try.prog 48 #[fldV X Y W H (.slice (some ⟨b, 0, none⟩) n cap), reg X' Y' W1 H1, .int .i64 num, .int .i64 den] w fun e w' => e = .returned (.tuple #[fldV 0 0 0 0 (.slice none 0 0), .int .i64 er]) ∧ Below w.heap.size w w' := by
  have CR := Lib.hid (fun w => refCheckRegion_any X' Y' W1 H1 w)
  generalize checkR X' Y' W1 H1 = g at *
  rcases hb with ⟨rfl, hz⟩ | ⟨rfl, rfl, h⟩
  · have hzb : (g != 0) = true := by simp [hz]
    go_enter Try.func48, Try.ntmps48
    go_wp2_with (first | (go_at_call 16; refine (CR.out _).mono ?_; rintro e w3 ⟨rfl, hw3⟩; have hB3 : Below w.heap.size w w3 := (by rw [hw3]; exact (by repeat (first | exact Below.refl _ _ | refine Below.alloc ?_ (by first | omega | (simp; done) | (simp; omega)) _ | refine Below.setCell ?_ (by first | omega | (simp; done) | (simp; omega)) _ | refine Below.drew ?_))); have HF3 := Lib.hid (show w3.heap[w.heap.size]? = some (fldO X Y W H (.slice (some ⟨b, 0, none⟩) n cap)) by rw [hw3]; ((simp only [heap_alloc_get, heap_size_alloc, if_true]) <;> ((repeat' split) <;> first | rfl | omega))); have HN3 := Lib.hid (show w3.heap[w.heap.size + 1 + 1]? = some (intObj num) by rw [hw3]; ((simp only [heap_alloc_get, heap_size_alloc, if_true]) <;> ((repeat' split) <;> first | rfl | omega))); have HD3 := Lib.hid (show w3.heap[w.heap.size + 1 + 1 + 1]? = some (intObj den) by rw [hw3]; ((simp only [heap_alloc_get, heap_size_alloc, if_true]) <;> ((repeat' split) <;> first | rfl | omega))); have HR3 := Lib.hid (show w3.heap[w.heap.size + 1]? = some (regObj X' Y' W1 H1) by rw [hw3]; ((simp only [heap_alloc_get, heap_size_alloc, if_true]) <;> ((repeat' split) <;> first | rfl | omega))); have HS3 := Lib.hid (show w3.heap[w.heap.size + 1 + 1 + 1 + 1]? = some (fldO 0 0 0 0 (.slice none 0 0)) by rw [hw3]; ((simp only [heap_alloc_get, heap_size_alloc, if_true]) <;> ((repeat' split) <;> first | rfl | omega))); clear hw3; obtain ⟨cR, fR, zR⟩ := blkC HR3.out; obtain ⟨cN, fN, zN⟩ := blkC HN3.out; obtain ⟨cD, fD, zD⟩ := blkC HD3.out; obtain ⟨cS, fS, zS⟩ := blkC HS3.out))
    refine bodyPost_ret (v := .tuple #[fldV 0 0 0 0 (.slice none 0 0), .int .i64 g]) (by simp [results, Try.results48, go_sem, cS]) rfl ?_
    exact ⟨rfl, set5_below hB3 _ _ _ _ _ _ (by omega)⟩
  · have h' : num < 1 ∨ 64 < num ∨ den < 1 ∨ 64 < den := by
      rcases h with h | ⟨_, h⟩
      · have := withinB_no.1 h; omega
      · have := withinB_no.1 h; omega
    clear h
    go_enter Try.func48, Try.ntmps48
    go_wp2_with (first | (go_at_call 16; refine (CR.out _).mono ?_; rintro e w3 ⟨rfl, hw3⟩; have hB3 : Below w.heap.size w w3 := (by rw [hw3]; exact (by repeat (first | exact Below.refl _ _ | refine Below.alloc ?_ (by first | omega | (simp; done) | (simp; omega)) _ | refine Below.setCell ?_ (by first | omega | (simp; done) | (simp; omega)) _ | refine Below.drew ?_))); have HF3 := Lib.hid (show w3.heap[w.heap.size]? = some (fldO X Y W H (.slice (some ⟨b, 0, none⟩) n cap)) by rw [hw3]; ((simp only [heap_alloc_get, heap_size_alloc, if_true]) <;> ((repeat' split) <;> first | rfl | omega))); have HN3 := Lib.hid (show w3.heap[w.heap.size + 1 + 1]? = some (intObj num) by rw [hw3]; ((simp only [heap_alloc_get, heap_size_alloc, if_true]) <;> ((repeat' split) <;> first | rfl | omega))); have HD3 := Lib.hid (show w3.heap[w.heap.size + 1 + 1 + 1]? = some (intObj den) by rw [hw3]; ((simp only [heap_alloc_get, heap_size_alloc, if_true]) <;> ((repeat' split) <;> first | rfl | omega))); have HR3 := Lib.hid (show w3.heap[w.heap.size + 1]? = some (regObj X' Y' W1 H1) by rw [hw3]; ((simp only [heap_alloc_get, heap_size_alloc, if_true]) <;> ((repeat' split) <;> first | rfl | omega))); have HS3 := Lib.hid (show w3.heap[w.heap.size + 1 + 1 + 1 + 1]? = some (fldO 0 0 0 0 (.slice none 0 0)) by rw [hw3]; ((simp only [heap_alloc_get, heap_size_alloc, if_true]) <;> ((repeat' split) <;> first | rfl | omega))); clear hw3; obtain ⟨cR, fR, zR⟩ := blkC HR3.out; obtain ⟨cN, fN, zN⟩ := blkC HN3.out; obtain ⟨cD, fD, zD⟩ := blkC HD3.out; obtain ⟨cS, fS, zS⟩ := blkC HS3.out))
    all_goals
      first
        | (exfalso; omega)
        | (refine bodyPost_ret (v := .tuple #[fldV 0 0 0 0 (.slice none 0 0), .int .i64 3]) (by simp [results, Try.results48, go_sem, cS]) rfl ?_
           exact ⟨rfl, set5_below hB3 _ _ _ _ _ _ (by omega)⟩)
end Go.Proofs.Ytihjemookgnafaa

/- Resample of the reference, of a right region and a right ratio; that its values are words is a condition here. -/
namespace Go.Proofs.Ytihjemookgnafaa
open Go.RowKit Fl
set_option linter.unusedVariables false

theorem hgtB_zero : hgtB 0 = true := by kernel_rfl
theorem allB_congr {n : Nat} {f g : Nat → Bool} (h : ∀ i, i < n → f i = g i) : allB n f = allB n g := by
  cases hf : allB n f with
  | true => exact (allB_iff.2 fun i hi => by rw [← h i hi]; exact allB_iff.1 hf i hi).symm
  | false =>
    cases hg : allB n g with
    | false => rfl
    | true => rw [allB_iff.2 fun i hi => by rw [h i hi]; exact allB_iff.1 hg i hi] at hf; cases hf

section
variable (v : Nat → Nat) (X Y : Int) (W H n' : Nat) (num den X' Y' : Int) (W' : Nat)
theorem rsH_all (h : allB n' (rsT X Y W H num den X' Y' W') = true) : allB n' (rsH v X Y W H num den X' Y' W') = allB n' (fun i => hgtB (rsF v X Y W H num den X' Y' W' i)) :=
  allB_congr fun i hi => by have := allB_iff.1 h i hi; unfold rsH rsF; rw [this]; rfl
theorem rsG_all (h : allB n' (rsT X Y W H num den X' Y' W') = true) (k : allB n' (rsH v X Y W H num den X' Y' W') = true) (i : Nat) (hi : i < n') : rsG v X Y W H num den X' Y' W' i = rsF v X Y W H num den X' Y' W' i := by
  have a := allB_iff.1 h i hi
  have c := allB_iff.1 k i hi
  unfold rsH at c
  unfold rsG rsF
  rw [a] at c ⊢
  simp only [Bool.not_true, Bool.false_or] at c
  simp [c]
theorem rsG_hgt (i : Nat) : hgtB (rsG v X Y W H num den X' Y' W' i) = true := by
  unfold rsG
  split
  · split
    · assumption
    · exact hgtB_zero
  · exact hgtB_zero
end

set_option maxHeartbeats 4000000 in
set_option maxRecDepth 100000 in
theorem rresample_ok (X Y : Int) (W H n b cap : Nat) (v : Nat → Nat) (X' Y' num den : Int) (W' H' n' : Nat) (w : World) (h0 : checkR X Y W H = 0) (hn : n = W * H) (hc : FlAt w b 0 n v) (hh : allB n (fun i => hgtB (v i)) = true) (hvw : wf32 n v)
    (h0' : checkR X' Y' W' H' = 0) (hn' : n' = H' * W') (hq1 : withinB num 1 64 = true) (hq2 : withinB den 1 64 = true) (hwf : wf32 n' (rsG v X Y W H num den X' Y' W')) :
    Calls Try.prog 48 #[fldV X Y W H (.slice (some ⟨b, 0, none⟩) n cap), reg X' Y' W' H', .int .i64 num, .int .i64 den] w (ScPost w X' Y' W' H' n' (rsF v X Y W H num den X' Y' W') (rsE n' (rsT X Y W H num den X' Y' W'))) := by
  obtain ⟨b1, b2, b3, b4, b5, _⟩ := checkR_zero h0
  obtain ⟨d1, d2, d3, d4, d5, d6, d7, d8, d9⟩ := checkR_zero h0'
  have h1 : 1 ≤ n := by
    have := Nat.mul_pos (by omega : 0 < W) (by omega : 0 < H)
    omega
  have hlt : b < w.heap.size := World.block_lt_of_cell? w _ (hc 0 h1)
  have q1 := withinB_iff.1 hq1
  have q2 := withinB_iff.1 hq2
  have CR := Lib.hid (fun w => refCheckRegion_any X' Y' W' H' w)
  rw [h0'] at CR
  have BY := Lib.hid (fun (Wr : World) (p m1 m2 : Nat) (hk : RSCaps Wr X Y W H n b cap v p num den) (hm1 : Wr.heap[m1]? = some (boolObj false)) (hm2 : Wr.heap[m2]? = some (boolObj false)) (m12 : m1 ≠ m2) (m0 : ¬ (p = m1 ∨ p = m2)) (m1' : ¬ (p + 1 + 1 = m1 ∨ p + 1 + 1 = m2)) (m2' : ¬ (p + 1 + 1 + 1 = m1 ∨ p + 1 + 1 + 1 = m2)) (m3 : ¬ (b = m1 ∨ b = m2)) =>
    madeM_any (fun k => k = m1 ∨ k = m2) (InvR m1 m2 (rsT X Y W H num den X' Y' W') (rsH v X Y W H num den X' Y' W')) X' Y' W' H' n' 120 #[.pointer (some ⟨p + 1 + 1, 0, none⟩), .pointer (some ⟨p + 1 + 1 + 1, 0, none⟩), .pointer (some ⟨p, 0, none⟩), .pointer (some ⟨m1, 0, none⟩), .pointer (some ⟨m2, 0, none⟩)] (rsG v X Y W H num den X' Y' W') Wr
      (stateR (blkC hm1).2.2 (blkC hm2).2.2) ⟨hm1, hm2⟩ enters_rResample1 (rrs1_any X Y W H n b cap v p m1 m2 num den X' Y' W' H' Wr hk h0 hn hh hvw h0' q1.1 q1.2 q2.1 q2.2 m12 m0 m1' m2' m3) hwf (by omega) (by omega) (by omega) (by omega) (by omega) (by omega) (by omega) (by omega) hn')
  have HC := Lib.hid hc
  have RA := Lib.hid (rsH_all v X Y W H n' num den X' Y' W')
  have RG := Lib.hid (rsG_all v X Y W H n' num den X' Y' W')
  have RH := Lib.hid (rsG_hgt v X Y W H num den X' Y' W')
  obtain ⟨er, her⟩ : ∃ er, rsE n' (rsT X Y W H num den X' Y' W') = er := ⟨_, rfl⟩
  rw [her]
  generalize rsT X Y W H num den X' Y' W' = T at *
  generalize rsF v X Y W H num den X' Y' W' = f at *
  generalize rsG v X Y W H num den X' Y' W' = g at *
  generalize rsH v X Y W H num den X' Y' W' = U at *
  have n1 := q1.1
  have n2 := q1.2
  have n3 := q2.1
  have n4 := q2.2
  clear hc hn h0 h0' hh hvw hwf b1 b2 b3 b4 b5 d1 d2 d3 d4 d5 d6 d7 d8 d9 hn' q1 q2 hq1 hq2
  go_enter Try.func48, Try.ntmps48
  go_wp2_with (first | (go_at_call 16; refine (CR.out _).mono ?_; rintro e w3 ⟨rfl, hw3⟩; have hB3 : Below w.heap.size w w3 := (by rw [hw3]; exact (by repeat (first | exact Below.refl _ _ | refine Below.alloc ?_ (by first | omega | (simp; done) | (simp; omega)) _ | refine Below.setCell ?_ (by first | omega | (simp; done) | (simp; omega)) _ | refine Below.drew ?_))); have HF3 := Lib.hid (show w3.heap[w.heap.size]? = some (fldO X Y W H (.slice (some ⟨b, 0, none⟩) n cap)) by rw [hw3]; ((simp only [heap_alloc_get, heap_size_alloc, if_true]) <;> ((repeat' split) <;> first | rfl | omega))); have HN3 := Lib.hid (show w3.heap[w.heap.size + 1 + 1]? = some (intObj num) by rw [hw3]; ((simp only [heap_alloc_get, heap_size_alloc, if_true]) <;> ((repeat' split) <;> first | rfl | omega))); have HD3 := Lib.hid (show w3.heap[w.heap.size + 1 + 1 + 1]? = some (intObj den) by rw [hw3]; ((simp only [heap_alloc_get, heap_size_alloc, if_true]) <;> ((repeat' split) <;> first | rfl | omega))); have HR3 := Lib.hid (show w3.heap[w.heap.size + 1]? = some (regObj X' Y' W' H') by rw [hw3]; ((simp only [heap_alloc_get, heap_size_alloc, if_true]) <;> ((repeat' split) <;> first | rfl | omega))); have HS3 := Lib.hid (show w3.heap[w.heap.size + 1 + 1 + 1 + 1]? = some (fldO 0 0 0 0 (.slice none 0 0)) by rw [hw3]; ((simp only [heap_alloc_get, heap_size_alloc, if_true]) <;> ((repeat' split) <;> first | rfl | omega))); clear hw3; obtain ⟨cR, fR, zR⟩ := blkC HR3.out; have lt3 : w.heap.size < w3.heap.size := Nat.lt_of_succ_lt zR; have ne3 : ¬ w.heap.size = w3.heap.size := Nat.ne_of_lt lt3; obtain ⟨cN, fN, zN⟩ := blkC HN3.out; obtain ⟨cD, fD, zD⟩ := blkC HD3.out; obtain ⟨cS, fS, zS⟩ := blkC HS3.out))
  have K3 : RSCaps w3 X Y W H n b cap v w.heap.size num den := ⟨HF3.out, HN3.out, HD3.out, flAt_congr HC.out (hB3.block _ hlt)⟩
  clear cS fS zS cR fR zR cN fN zN cD fD zD
  have z3 := hB3.size
  have zS := (blkC HS3.out).2.2
  refine (BY.out _ w.heap.size w3.heap.size (w3.heap.size + 1) (K3.stayM (M := fun _ => False) h1 (Below.toM (by repeat (first | exact Below.refl _ _ | refine Below.alloc ?_ (by first | omega | (simp; done) | (simp; omega)) _ | refine Below.setCell ?_ (by first | omega | (simp; done) | (simp; omega)) _ | refine Below.drew ?_))) id id id id) (by ((simp only [heap_alloc_get, heap_size_alloc, if_true]) <;> ((repeat' split) <;> first | rfl | omega))) (by ((simp only [heap_alloc_get, heap_size_alloc, if_true]) <;> ((repeat' split) <;> first | rfl | omega))) (by omega) (by omega) (by omega) (by omega) (by omega)).mono ?_
  intro e w4 hmade
  obtain ⟨hinv, hbel, hmade⟩ := hmade
  obtain ⟨hm1, hm2⟩ := hinv
  have hB4 : BelowM (fun k => k = w3.heap.size ∨ k = w3.heap.size + 1) w3.heap.size w3 w4 := (Below.toM (by repeat (first | exact Below.refl _ _ | refine Below.alloc ?_ (by first | omega | (simp; done) | (simp; omega)) _ | refine Below.setCell ?_ (by first | omega | (simp; done) | (simp; omega)) _ | refine Below.drew ?_))).trans (hbel.mono (by first | exact Nat.le_refl _ | (simp; done) | (simp; omega)))
  have hB34 : Below w3.heap.size w3 w4 := ⟨hB4.os, hB4.tape, hB4.output, hB4.size, fun k hk => hB4.block k hk (by omega)⟩
  have HS4 := Lib.hid (blkStay HS3.out hB34)
  have hBw := hB3.trans (hB34.mono z3)
  obtain ⟨cS, fS, zS4⟩ := blkC HS4.out
  obtain ⟨cM, fM, zM⟩ := blkC hm1
  obtain ⟨cU, fU, zU⟩ := blkC hm2
  clear hB4 hm1 hm2
  have ne4 : ¬ w3.heap.size + 1 = w4.heap.size := Nat.ne_of_lt zU
  have ne5 : ¬ w4.heap.size = w3.heap.size + 1 := fun e => ne4 e.symm
  have cU0 := cU 0
  have fU0 := fU 0
  have hbw5 := fun u1 u2 u3 u4 u5 => set5_below hBw (w.heap.size + 1 + 1 + 1 + 1) u1 u2 u3 u4 u5 (by omega)
  have HRES := fun (u1 u2 u3 u4 u5 : Value) (o : Obj) => (blkC ((heap_alloc_old (set5 w4 (w.heap.size + 1 + 1 + 1 + 1) u1 u2 u3 u4 u5) o (by rw [set5_size]; exact zS4)).trans (set5_self u1 u2 u3 u4 u5 HS4.out))).1
  simp only [set5] at HRES
  rcases hmade with ⟨hall, b', cap', rfl, hb', hlt', hrow⟩ | ⟨hall, rfl⟩
  rotate_left
  · rw [allB_iff.2 fun i _ => RH.out i] at hall; cases hall
  unfold rsE at her
  have AL := fun u1 u2 u3 u4 u5 o => (hbw5 u1 u2 u3 u4 u5).alloc (by rw [set5_size]; have := hBw.size; omega) o
  simp only [heap_size_alloc] at hb'
  cases hT : allB n' T with
  | true =>
    have hU := RA.out hT
    have hG := RG.out hT
    rw [hT] at her cM
    simp only [Bool.not_true, if_true] at her cM
    subst her
    cases hV : allB n' U with
    | true =>
      rw [hV] at cU cU0 hU
      simp only [Bool.not_true] at cU cU0
      have hrow' := Lib.hid (show FlAt w4 b' 0 n' f from fun i hi => by rw [← hG hV i hi]; exact hrow i hi)
      have HU := Lib.hid hU.symm
      clear hG hrow hall hU hV hT
      go_wp2
      refine bodyPost_ret (v := .tuple #[fldV X' Y' W' H' (.slice (some ⟨b', 0, none⟩) n' cap'), .int .i64 0]) (by simp [results, Try.results48, go_sem, HRES]) rfl ?_
      exact .inr ⟨rfl, .inl ⟨HU.out, b', cap', rfl, by omega, by rw [heap_size_alloc, set5_size]; omega, flAt_congr hrow'.out ((heap_alloc_old _ _ (by rw [set5_size]; exact hlt')).trans (set5_heap w4 _ _ _ _ _ _ _ (by omega))), AL _ _ _ _ _ _⟩⟩
    | false =>
      rw [hV] at cU cU0 hU
      simp only [Bool.not_false] at cU cU0
      have HU := Lib.hid hU.symm
      clear hG hrow hall hU hV hT
      go_wp2
      refine bodyPost_ret (v := .tuple #[fldV 0 0 0 0 (.slice none 0 0), .int .i64 3]) (by simp [results, Try.results48, go_sem, HRES]) rfl ?_
      exact .inr ⟨rfl, .inr ⟨HU.out, rfl, AL _ _ _ _ _ _⟩⟩
  | false =>
    rw [hT] at her cM
    simp only [Bool.not_false, Bool.false_eq_true, if_false] at her cM
    subst her
    clear hrow hall
    go_wp2
    refine bodyPost_ret (v := .tuple #[fldV 0 0 0 0 (.slice none 0 0), .int .i64 5]) (by simp [results, Try.results48, go_sem, HRES]) rfl ?_
    exact .inl ⟨by omega, rfl, AL _ _ _ _ _ _⟩
end Go.Proofs.Ytihjemookgnafaa

/- Resample of both sides, whatever region and ratio are asked for. -/
namespace Go.Proofs.Ytihjemookgnafaa
open Go.RowKit Fl
set_option linter.unusedVariables false

theorem btwW_lt {X Y : Int} {W H n : Nat} {v : Nat → Nat} {i j : Int} {s t : Nat} {cs ct : Bool} (h0 : checkR X Y W H = 0) (hn : n = W * H) (hh : allB n (fun i => hgtB (v i)) = true) (hvw : wf32 n v)
    (hth : thereB X Y W H i j cs ct = true) (bs : Bd 1 s) (bt : Bd 1 t) : btwW v W (numC X Y W i j) cs ct s t < 4294967296 := by
  obtain ⟨b1, b2, b3, b4, b5, b6, b7, b8, b9⟩ := checkR_zero h0
  have hnn : n = H * W := by rw [hn]; exact Nat.mul_comm _ _
  have hth' : X ≤ i ∧ Y ≤ j ∧ i + (if cs then 1 else 2) ≤ X + W ∧ j + (if ct then 1 else 2) ≤ Y + H := insideB_iff.1 hth
  obtain ⟨t1, t2, t3, t4⟩ := hth'
  have t5 : i + 1 ≤ X + W := by cases cs <;> simp at t3 <;> omega
  have t6 : j + 1 ≤ Y + H := by cases ct <;> simp at t4 <;> omega
  have hk : ((numC X Y W i j : Nat) : Int) = (j - Y) * W + (i - X) := by
    unfold numC
    have : 0 ≤ (j - Y) * W := Int.mul_nonneg (by omega) (by omega)
    omega
  have hkn : numC X Y W i j < n := cell_lt (X := X) (Y := Y) (x := i) (y := j) (by omega) t1 (by omega) (by omega) hk hnn
  have hk1 : cs = false → numC X Y W i j + 1 < n := fun h => by
    rw [h] at t3; simp at t3
    exact cell_lt (X := X) (Y := Y) (x := i + 1) (y := j) (by omega) (by omega) (by omega) (by omega) (by omega) hnn
  have hb20 : ∀ m, m < n → Bd 20 (v m) := fun m hm => hgt_bd (allB_iff.1 hh m hm)
  have la := alongW_lt (s := s) (hvw _ hkn) (hb20 _ hkn) (fun h => hb20 _ (hk1 h)) bs
  have pa := along_bd (cs := cs) (s := s) (hb20 _ hkn) (fun h => hb20 _ (hk1 h)) bs
  unfold btwW
  cases ct with
  | true => exact la
  | false =>
    simp at t4
    have hkW : numC X Y W i j + W < n := cell_lt (X := X) (Y := Y) (x := i) (y := j + 1) (by omega) t1 (by omega) (by omega) (by rw [show (j + 1 - Y) = (j - Y) + 1 by omega, Int.add_mul]; omega) hnn
    have hkW1 : cs = false → numC X Y W i j + W + 1 < n := fun h => by
      rw [h] at t3; simp at t3
      exact cell_lt (X := X) (Y := Y) (x := i + 1) (y := j + 1) (by omega) (by omega) (by omega) (by omega) (by rw [show (j + 1 - Y) = (j - Y) + 1 by omega, Int.add_mul]; omega) hnn
    have pb := along_bd (cs := cs) (s := s) (hb20 _ hkW) (fun h => hb20 _ (hkW1 h)) bs
    exact mixW_lt (i := 23) (by omega) pa pb bt

theorem rsG_lt {X Y : Int} {W H n : Nat} {v : Nat → Nat} {num den X' Y' : Int} {W' n' : Nat} (h0 : checkR X Y W H = 0) (hn : n = W * H) (hh : allB n (fun i => hgtB (v i)) = true) (hvw : wf32 n v)
    (d1 : 1 ≤ den) (d2 : den ≤ 64) : wf32 n' (rsG v X Y W H num den X' Y' W') := by
  intro i hi
  unfold rsG
  split
  · rename_i hT
    split
    · unfold rsV
      obtain ⟨_, _, bs⟩ := sh_parts (Int.emod_nonneg ((X' + ((i % W' : Nat) : Int)) * num) (show den ≠ 0 by omega)) (Int.emod_lt_of_pos _ (show 0 < den by omega)) (by omega)
      obtain ⟨_, _, bt⟩ := sh_parts (Int.emod_nonneg ((Y' + ((i / W' : Nat) : Int)) * num) (show den ≠ 0 by omega)) (Int.emod_lt_of_pos _ (show 0 < den by omega)) (by omega)
      exact btwW_lt h0 hn hh hvw hT bs bt
    · decide
  · decide

theorem resample_both (X Y : Int) (W H n b cap : Nat) (v : Nat → Nat) (X' Y' W1 H1 num den : Int) (h0 : checkR X Y W H = 0) (hn : n = W * H) (hcap : n ≤ cap) (hh : allB n (fun i => hgtB (v i)) = true) (hvw : wf32 n v) :
    ∃ (n' : Nat) (f : Nat → Nat) (er : Int), 1 ≤ n' ∧ n' ≤ 65536 ∧
      (∀ w, FlAt w b 0 n v → Calls Try.prog 47 #[fldV X Y W H (.slice (some ⟨b, 0, none⟩) n cap), reg X' Y' W1 H1, .int .i64 num, .int .i64 den] w (ScPost w X' Y' W1 H1 n' f er)) ∧
      (∀ w, FlAt w b 0 n v → Calls Try.prog 48 #[fldV X Y W H (.slice (some ⟨b, 0, none⟩) n cap), reg X' Y' W1 H1, .int .i64 num, .int .i64 den] w (ScPost w X' Y' W1 H1 n' f er)) := by
  by_cases c : checkR X' Y' W1 H1 = 0
  · cases c1 : withinB num 1 64 with
    | false =>
      exact ⟨1, fun _ => 0, 3, by omega, by omega,
        fun w hc => (resample_bad X Y W H n b cap v X' Y' W1 H1 num den 3 w h0 hn hc hh (.inr ⟨c, rfl, .inl c1⟩)).mono fun e w' h => .inl ⟨by decide, h.1, h.2⟩,
        fun w _ => (rresample_bad X Y W H n b cap X' Y' W1 H1 num den 3 w (.inr ⟨c, rfl, .inl c1⟩)).mono fun e w' h => .inl ⟨by decide, h.1, h.2⟩⟩
    | true =>
      cases c2 : withinB den 1 64 with
      | false =>
        exact ⟨1, fun _ => 0, 3, by omega, by omega,
          fun w hc => (resample_bad X Y W H n b cap v X' Y' W1 H1 num den 3 w h0 hn hc hh (.inr ⟨c, rfl, .inr ⟨c1, c2⟩⟩)).mono fun e w' h => .inl ⟨by decide, h.1, h.2⟩,
          fun w _ => (rresample_bad X Y W H n b cap X' Y' W1 H1 num den 3 w (.inr ⟨c, rfl, .inr ⟨c1, c2⟩⟩)).mono fun e w' h => .inl ⟨by decide, h.1, h.2⟩⟩
      | true =>
        obtain ⟨e1, e2, e3, e4, e5, _⟩ := checkR_zero c
        obtain ⟨W', rfl⟩ : ∃ W' : Nat, W1 = W' := ⟨W1.toNat, by omega⟩
        obtain ⟨H', rfl⟩ : ∃ H' : Nat, H1 = H' := ⟨H1.toNat, by omega⟩
        have hz : ((H' * W' : Nat) : Int) ≤ 65536 := by rw [Nat.mul_comm]; simpa using e5
        have q2 := withinB_iff.1 c2
        refine ⟨H' * W', rsF v X Y W H num den X' Y' W', rsE (H' * W') (rsT X Y W H num den X' Y' W'), Nat.mul_pos (by omega) (by omega), by omega, fun w hc => ?_, fun w hc => ?_⟩
        · exact resample_ok X Y W H n b cap v X' Y' num den W' H' _ w h0 hn hcap hc hh c rfl c1 c2
        · exact rresample_ok X Y W H n b cap v X' Y' num den W' H' _ w h0 hn hc hh hvw c rfl c1 c2 (rsG_lt h0 hn hh hvw q2.1 q2.2)
  · exact ⟨1, fun _ => 0, checkR X' Y' W1 H1, by omega, by omega,
      fun w hc => (resample_bad X Y W H n b cap v X' Y' W1 H1 num den _ w h0 hn hc hh (.inl ⟨rfl, c⟩)).mono fun e w' h => .inl ⟨c, h.1, h.2⟩,
      fun w _ => (rresample_bad X Y W H n b cap X' Y' W1 H1 num den _ w (.inl ⟨rfl, c⟩)).mono fun e w' h => .inl ⟨c, h.1, h.2⟩⟩
end Go.Proofs.Ytihjemookgnafaa

/- FieldsResample: Resample answers as the reference does, for every field that fit makes, any region and any ratio. -/
namespace Go.Proofs.Ytihjemookgnafaa
open Go.RowKit Fl
set_option linter.unusedVariables false

theorem al_below (w : World) (o : Obj) : Below w.heap.size w (w.alloc o) := (Below.refl _ _).alloc (Nat.le_refl _) o

set_option maxHeartbeats 4000000 in
theorem fieldsResample_any (X0 Y0 W0 H0 : Int) (sl : Value) (A B C D num den : Int) (w : World)
    (hfit : ∀ W', Below w.heap.size w W' → Calls Try.prog 24 #[fldV X0 Y0 W0 H0 sl] W' (FitPost W')) :
    Calls Try.prog 8 #[fldV X0 Y0 W0 H0 sl, reg A B C D, .int .i64 num, .int .i64 den] w fun e w' => e = .returned (.bool true) ∧ Below w.heap.size w w' := by
  have HF := Lib.hid hfit
  clear hfit
  go_enter Try.func8, Try.ntmps8
  go_wp2_with (first | (go_at_call 14; refine (landed_any _).mono ?_; rintro e w1 ⟨rfl, hb1⟩; have HA1 := Lib.hid (blkStay (b := w.heap.size) (o := fldO X0 Y0 W0 H0 sl) (by ((simp only [heap_alloc_get, heap_size_alloc, if_true]) <;> ((repeat' split) <;> first | rfl | omega))) hb1); have HG1 := Lib.hid (blkStay (b := w.heap.size + 1) (o := regObj A B C D) (by ((simp only [heap_alloc_get, heap_size_alloc, if_true]) <;> ((repeat' split) <;> first | rfl | omega))) hb1); have hB1 : Below w.heap.size w w1 := Below.trans (by repeat (first | exact Below.refl _ _ | refine Below.alloc ?_ (by first | omega | (simp; done) | (simp; omega)) _ | refine Below.setCell ?_ (by first | omega | (simp; done) | (simp; omega)) _ | refine Below.drew ?_)) (Below.mono hb1 (by first | omega | (simp; done) | (simp; omega))); obtain ⟨cA, fA, zA⟩ := blkC HA1.out; obtain ⟨cG, fG, zG⟩ := blkC HG1.out; clear hb1))
  refine (HF.out w1 hB1).mono ?_
  rintro e w2 ⟨X, Y, W', H', b, n, rfl, x1, x2, y1, y2, u1, u2, h1, h2, hn, hn1, hn2, hlo, hrow, hb2⟩
  obtain ⟨W, rfl⟩ : ∃ W : Nat, W' = W := ⟨W'.toNat, by omega⟩
  obtain ⟨H, rfl⟩ : ∃ H : Nat, H' = H := ⟨H'.toNat, by omega⟩
  obtain ⟨v, fv, wv, hv, bv⟩ := fit_fn hrow
  have h0 := fit_check x1 x2 y1 y2 u1 u2 h1 h2 hn hn2
  have hnn : n = W * H := by
    have : (n : Int) = ((W * H : Nat) : Int) := by rw [hn]; simp
    omega
  have HA2 := Lib.hid (blkStay HA1.out hb2)
  have HG2 := Lib.hid (blkStay HG1.out hb2)
  have hB2 : Below w.heap.size w w2 := hB1.trans (hb2.mono hB1.size)
  clear cG fG zG
  obtain ⟨cA, fA, zA⟩ := blkC HA2.out
  have zG2 := (blkC HG2.out).2.2
  obtain ⟨n', f, er, m1, m2, R1, R2⟩ := resample_both X Y W H n b n v A B C D num den h0 hnn (Nat.le_refl _) hv wv
  have S1 := Lib.hid R1
  have S2 := Lib.hid R2
  clear R1 R2
  clear x1 x2 y1 y2 u1 u2 h1 h2 hn h0 hnn hrow hv wv
  have hbp : b ≠ w.heap.size := by have := hB1.size; omega
  have HA3 := Lib.hid (set5_self (.int .i64 X) (.int .i64 Y) (.int .i64 W) (.int .i64 H) (.slice (some ⟨b, 0, none⟩) n n) HA2.out)
  have HG3 := Lib.hid ((set5_heap w2 w.heap.size (w.heap.size + 1) (.int .i64 X) (.int .i64 Y) (.int .i64 W) (.int .i64 H) (.slice (some ⟨b, 0, none⟩) n n) (by omega)).trans HG2.out)
  obtain ⟨cG, fG, zG⟩ := blkC HG3.out
  have F3 := Lib.hid (flAt_congr fv (set5_heap w2 w.heap.size b (.int .i64 X) (.int .i64 Y) (.int .i64 W) (.int .i64 H) (.slice (some ⟨b, 0, none⟩) n n) hbp))
  have hB3 := set5_below hB2 w.heap.size (.int .i64 X) (.int .i64 Y) (.int .i64 W) (.int .i64 H) (.slice (some ⟨b, 0, none⟩) n n) (Nat.le_refl _)
  clear hb2
  go_wp2_with fail
  refine (S1.out _ F3.out).mono ?_
  intro e w4 hp
  obtain ⟨x1, y1, u1, h1, p1, l1, q1, k1, rfl, r1, hb4⟩ := made_res hp
  have hx := set5_size w2 w.heap.size (.int .i64 X) (.int .i64 Y) (.int .i64 W) (.int .i64 H) (.slice (some ⟨b, 0, none⟩) n n)
  have F4 := Lib.hid (flAt_congr F3.out (hb4.block b (by rw [hx]; exact bv)))
  have HA4 := Lib.hid (blkStay HA3.out hb4)
  have HG4 := Lib.hid (blkStay HG3.out hb4)
  have hB4 := hB3.trans (hb4.mono hB3.size)
  have bv4 : b < w4.heap.size := by have := hb4.size; rw [hx] at this; omega
  clear hp
  rw [hx] at r1
  clear hb4 HA3 HG3 HG2 HG1 zG2 F3 hB3 hx cA fA zA cG fG zG HA2 hB2 hlo fv bv
  obtain ⟨cA, fA, zA⟩ := blkC HA4.out
  obtain ⟨cG, fG, zG⟩ := blkC HG4.out
  -- the reference's Scale
  have hb5 := al_below w4 (fldO x1 y1 u1 h1 (.slice p1 l1 q1))
  have F5 := Lib.hid (flAt_congr F4.out (heap_alloc_old w4 (fldO x1 y1 u1 h1 (.slice p1 l1 q1)) bv4))
  have HA5 := Lib.hid ((heap_alloc_old w4 (fldO x1 y1 u1 h1 (.slice p1 l1 q1)) zA).trans HA4.out)
  have HQ5 := Lib.hid (heap_alloc_new w4 (fldO x1 y1 u1 h1 (.slice p1 l1 q1)))
  have R5 := Lib.hid (r1.stay hb5)
  go_wp2_with fail
  refine (S2.out _ F5.out).mono ?_
  intro e w6 hp
  obtain ⟨x2, y2, u2, h2, p2, l2, q2, k2, rfl, r2, hb6⟩ := made_res hp
  have hb46 := hb5.trans (hb6.mono hb5.size)
  have F6 := Lib.hid (flAt_congr F5.out (hb6.block b (by have := hb5.size; omega)))
  have HA6 := Lib.hid (blkStay HA5.out hb6)
  have HQ6 := Lib.hid (blkStay HQ5.out hb6)
  have R6 := Lib.hid (R5.out.stay hb6)
  have hB6 := hB4.trans (hb46.mono hB4.size)
  have bv6 : b < w6.heap.size := by have := hb46.size; omega
  clear r1 R5 HQ5 HA5 F5 hb5 hb46 hp F4 HA4 hb6 cA fA cG fG
  obtain ⟨cA, fA, zA6⟩ := blkC HA6.out
  obtain ⟨cQ, fQ, zQ6⟩ := blkC HQ6.out
  -- same
  have hb7 := al_below w6 (fldO x2 y2 u2 h2 (.slice p2 l2 q2))
  have F7 := Lib.hid (flAt_congr F6.out (heap_alloc_old w6 (fldO x2 y2 u2 h2 (.slice p2 l2 q2)) bv6))
  have HA7 := Lib.hid ((heap_alloc_old w6 (fldO x2 y2 u2 h2 (.slice p2 l2 q2)) zA6).trans HA6.out)
  have HQ7 := Lib.hid ((heap_alloc_old w6 (fldO x2 y2 u2 h2 (.slice p2 l2 q2)) zQ6).trans HQ6.out)
  have HR7 := Lib.hid (heap_alloc_new w6 (fldO x2 y2 u2 h2 (.slice p2 l2 q2)))
  have R7 := Lib.hid (R6.out.stay hb7)
  have T7 := Lib.hid (r2.stay hb7)
  go_wp2_with fail
  refine (same_res m1 (by omega) R7.out T7.out).mono ?_
  rintro e w8 ⟨rfl, hb8⟩
  have hB8 := hB6.trans (hb7.trans (hb8.mono hb7.size) |>.mono hB6.size)
  clear hb7 hb8
  go_wp2
  go_ret
  exact ⟨rfl, hB8⟩
end Go.Proofs.Ytihjemookgnafaa

/- A field that came in, opened: four integers, and a slice of singles that is empty or known cell by cell. -/
namespace Go.Proofs.Ytihjemookgnafaa
open Go.ChangeShapes Go.WideShapes Go.ChangeAt Go.RowKit Go.Joins Fl

section
variable {H : Type} {enc : TypeId × Value → H} {w : World} {base : Nat} {spare : Nat → Bool} {held : Bool}

theorem trod_f32 {P : Program} {t : TypeId} {fuel : Nat} {v : Value} {y : DataW H × List MemPlace} (ht : P.underlying t = some (.float .f32)) (h : DataW.trod enc P w base spare held fuel t [v] = some y) : ∃ b, v = .float .f32 b ∧ b < 4294967296 := by
  cases fuel with
  | zero => simp [DataW.trod] at h
  | succ n =>
    unfold DataW.trod at h
    rw [ht] at h
    cases v <;> simp at h
    rename_i k b
    obtain ⟨⟨rfl, hw⟩, _⟩ := h
    exact ⟨b, rfl, by simpa [Lit.wf] using hw⟩

theorem array5 {α : Type} {cs : Array α} (h : cs.size = 5) : ∃ c0 c1 c2 c3 c4, cs = #[c0, c1, c2, c3, c4] := by
  obtain ⟨l⟩ := cs
  match l, h with
  | [c0, c1, c2, c3, c4], _ => exact ⟨c0, c1, c2, c3, c4, rfl⟩

theorem flAt_congr' {w w' : World} {b off n : Nat} {f : Nat → Nat} (h : FlAt w b off n f) (e : w'.heap[b]? = w.heap[b]?) : FlAt w' b off n f := fun i hi => by
  rw [← h i hi]; exact World.cell?_of_block (w := w) (a := ⟨b, off + i, none⟩) e

/-- What a slice of singles is: empty, or known cell by cell. -/
def SlF (w : World) (s : Value) : Prop :=
  (∃ a cap, s = .slice a 0 cap) ∨ ∃ b off len cap x, s = .slice (some ⟨b, off, none⟩) len cap ∧ 0 < len ∧ len ≤ 9223372036854775807 ∧ FlAt w b off len x ∧ wf32 len x

theorem open_singles {t e : TypeId} {fuel : Nat} {cs : List Value} {y : DataW H × List MemPlace} (ht : Try.prog.underlying t = some (.slice e)) (he : Try.prog.underlying e = some (.float .f32)) (hc : Try.prog.cellsOf e = 1)
    (h : DataW.trod enc Try.prog w base spare held fuel t cs = some y) : ∃ s, cs = [s] ∧ SlF w s := by
  rcases Go.Deep.open_slice1 ht hc h with ⟨rfl, _⟩ | ⟨a, len, cap, m, n, V, D, Pl, rfl, hb, hl, hm, hmm, _, hx⟩
  · exact ⟨_, rfl, .inl ⟨none, 0, rfl⟩⟩
  · refine ⟨_, rfl, ?_⟩
    rcases Nat.eq_zero_or_pos len with z | z
    · subst z; exact .inl ⟨_, _, rfl⟩
    · have hlm : len ≤ m := by rw [hmm]; split <;> omega
      have h0 := (hx 0 (by omega)).1
      obtain ⟨b, off, spot⟩ := a
      have hspot : spot = none := by simpa [Addr.add] using World.cell?_spot h0
      subst hspot
      have hv : ∀ i, i < len → ∃ x, V i = .float .f32 x ∧ x < 4294967296 := fun i hi => trod_f32 he (hx i (by omega)).2
      refine .inr ⟨b, off, len, cap, fun i => match V i with | .float _ x => x | _ => 0, rfl, z, ?_, fun i hi => ?_, fun i hi => ?_⟩
      · exact Nat.le_trans hl (Nat.le_trans hm (by decide))
      · have h1 := (hx i (by omega)).1
        obtain ⟨x, e1, _⟩ := hv i hi
        rw [← Go.WideShapes.add_plain, h1]
        simp only [e1]
      · obtain ⟨x, e1, e2⟩ := hv i hi
        simp only [e1]; exact e2

theorem cellsF : Try.prog.cellsOf 36 = 5 := by kernel_rfl
theorem cellsR : Try.prog.cellsOf 23 = 4 := by kernel_rfl
theorem cellsS : Try.prog.cellsOf 34 = 1 := by kernel_rfl
theorem cells1 : Try.prog.cellsOf 37 = 1 := by kernel_rfl
theorem cellsI : Try.prog.cellsOf 3 = 1 := by kernel_rfl

set_option maxRecDepth 100000 in
theorem open_field {r : Reach} {b0 : Nat} {v : Value} {d : DataW H} {p : List MemPlace} (hv : Value.okWide Try.prog w r b0 36 v) (h : DataW.Trod enc Try.prog w base spare held 36 v d p) :
    ∃ X Y W' H' : Int, ∃ s, v = fldV X Y W' H' s ∧ SlF w s := by
  obtain ⟨cs, rfl, hsz⟩ := okWide_struct Try.underlying36 hv
  obtain ⟨c0, c1, c2, c3, c4, rfl⟩ := array5 (hsz.trans cellsF)
  obtain ⟨fuel, hf⟩ := h
  obtain ⟨y0, y1, n, _, _, h0, h1⟩ := trod_struct2 Try.underlying36 hf
  rw [cellsR] at h0
  rw [cellsS] at h1
  obtain ⟨s, e4, hs⟩ := open_singles Try.underlying34 Try.underlying37 cells1 h1
  obtain ⟨z0, z1, z2, z3, n2, _, _, g0, g1, g2, g3⟩ := trod_struct4 Try.underlying23 h0
  rw [cellsI] at g0 g1 g2 g3
  obtain ⟨x0, e0, _, _⟩ := DataW.trod_int Try.underlying3 g0
  obtain ⟨x1, e1, _, _⟩ := DataW.trod_int Try.underlying3 g1
  obtain ⟨x2, e2, _, _⟩ := DataW.trod_int Try.underlying3 g2
  obtain ⟨x3, e3, _, _⟩ := DataW.trod_int Try.underlying3 g3
  simp [Value.cells] at e0 e1 e2 e3 e4
  subst e0 e1 e2 e3 e4
  exact ⟨x0, x1, x2, x3, _, rfl, hs⟩
end

theorem SlF.stay {w w' : World} {s : Value} (h : SlF w s) (hb : Below w.heap.size w w') : SlF w' s := by
  rcases h with h | ⟨b, off, len, cap, x, rfl, h1, h2, h3, h4⟩
  · exact .inl h
  · exact .inr ⟨b, off, len, cap, x, rfl, h1, h2, flAt_congr' h3 (hb.block _ (World.block_lt_of_cell? w _ (h3 0 h1))), h4⟩

/-- fit, of whatever slice. -/
theorem fit_any {X Y W H : Int} {s : Value} {w : World} (h : SlF w s) : Calls Try.prog 24 #[fldV X Y W H s] w (FitPost w) := by
  rcases h with ⟨a, cap, rfl⟩ | ⟨b, off, len, cap, x, rfl, h1, h2, h3, h4⟩
  · exact fit_none X Y W H a cap w
  · exact fit_some X Y W H b off len cap x w h1 h2 h3 h4

theorem laidOut : laidOutB Try.prog = true := by kernel_rfl
end Go.Proofs.Ytihjemookgnafaa

/- FieldsResample, for every field, every region and every two numbers: what Resample answers is what the reference answers, bit by bit. No condition. -/
namespace Go.Proofs.Ytihjemookgnafaa.fieldsResample
open Go.ChangeShapes Go.WideShapes Go.ChangeAt Go.RowKit Go.Joins
set_option linter.unusedVariables false

theorem own : ownKnob Try.prog.godebug = none := by kernel_rfl

set_option maxRecDepth 100000 in
theorem lifted (os : Os) (started : os.Started) (H : Type) (enc : TypeId × Value → H) :
    ReturnsInHanded {} Try.checked os 8 .any (Rows.fieldsResampleSpec.pre6 enc Try.prog Try.f8 Rows.fieldsResampleRow.domain false) (Rows.fieldsResampleSpec.post enc Try.prog Try.f8 false true false false) := by
  refine returnsInHanded_of_change (C := Try.checked) own started (by kernel_rfl) Try.func8
    (ChangeSpec.witness6 (enc := enc) (C := Try.checked) false ⟨#[], #[fldV 0 0 0 0 (.slice none 0 0), reg 0 0 0 0, .int .i64 0, .int .i64 0], []⟩ 8 (by kernel_rfl) (by kernel_rfl) (by kernel_rfl) (by kernel_rfl)) ?_
  intro W base args ds gs before hval0 hW hcnd _
  have hval : ∀ (j : Nat) t v, Try.f8.params[j]? = some t → args[j]? = some v → Value.okWide Try.prog W .any base t v := hval0
  have hW' := hW
  have hplt : ∀ x ∈ before, x.block < W.heap.size := fun x hx => by simpa using hW'.lt x hx
  obtain ⟨p, q, hA0, hV, rfl, hfz, hnd⟩ := hW
  have hA : DataW.TrodAll enc Try.prog W 0 (fun _ => true) true Try.f8.params.toList args.toList ds p := hA0
  rw [Try.params8] at hA hval
  obtain ⟨v0, vs0, d0, ds0, p0, q0, hargs, rfl, rfl, h0, r0⟩ := trodAll_cons hA
  obtain ⟨v1, vs1, d1, ds1, p1, q1, rfl, rfl, rfl, h1, r1⟩ := trodAll_cons r0
  obtain ⟨v2, vs2, d2, ds2, p2, q2, rfl, rfl, rfl, h2, r2⟩ := trodAll_cons r1
  obtain ⟨v3, vs3, d3, ds3, p3, q3, rfl, rfl, rfl, h3, r3⟩ := trodAll_cons r2
  obtain ⟨rfl, rfl, rfl⟩ := trodAll_nil r3
  obtain rfl : args = #[v0, v1, v2, v3] := by cases args; simp_all
  obtain ⟨rfl, rfl⟩ := trodVars_none hV
  obtain ⟨X, Y, W0, H0, s, rfl, hs⟩ := open_field (hval 0 36 v0 rfl rfl) h0
  obtain ⟨a0, a1, a2, a3, y0, y1, y2, y3, m0, rfl, rfl, rfl, g0, g1, g2, g3⟩ := open_agg4 Try.underlying23 (by kernel_rfl) cellsR (hval 1 23 v1 rfl rfl) h1
  obtain ⟨num, rfl, rfl, rfl, wn⟩ := open_int Try.underlying3 (hval 2 3 v2 rfl rfl) h2
  obtain ⟨den, rfl, rfl, rfl, wd⟩ := open_int Try.underlying3 (hval 3 3 v3 rfl rfl) h3
  obtain ⟨x0, e0, rfl, w0⟩ := DataW.trod_int Try.underlying3 g0
  obtain ⟨x1, e1, rfl, w1⟩ := DataW.trod_int Try.underlying3 g1
  obtain ⟨x2, e2, rfl, w2⟩ := DataW.trod_int Try.underlying3 g2
  obtain ⟨x3, e3, rfl, w3⟩ := DataW.trod_int Try.underlying3 g3
  simp at e0 e1 e2 e3
  subst e0 e1 e2 e3
  have regReads : ∀ (W' : World) (sp : Nat → Bool) (x0 x1 x2 x3 : Int), (Lit.int .i64 x0).wf = true → (Lit.int .i64 x1).wf = true → (Lit.int .i64 x2).wf = true → (Lit.int .i64 x3).wf = true →
      DataW.Trod enc Try.prog W' 0 sp true 23 (reg x0 x1 x2 x3) (.agg [.lit (.int .i64 x0), .lit (.int .i64 x1), .lit (.int .i64 x2), .lit (.int .i64 x3)]) [] := fun W' sp x0 x1 x2 x3 w0 w1 w2 w3 =>
    shut_agg4 (y0 := (.lit (.int .i64 x0), [])) (y1 := (.lit (.int .i64 x1), [])) (y2 := (.lit (.int .i64 x2), [])) (y3 := (.lit (.int .i64 x3), [])) Try.underlying23 (by kernel_rfl) cellsR
      ⟨1, by simp [DataW.trod, Try.underlying3, w0]⟩ ⟨1, by simp [DataW.trod, Try.underlying3, w1]⟩ ⟨1, by simp [DataW.trod, Try.underlying3, w2]⟩ ⟨1, by simp [DataW.trod, Try.underlying3, w3]⟩
  have hlt : ∀ x ∈ p0, x.block < W.heap.size := fun x hx => hplt x (by simp [hx])
  clear hA0 hval0 hplt
  simp only [List.append_nil] at hW'
  refine (fieldsResample_any X Y W0 H0 s x0 x1 x2 x3 num den W (fun W' hb => fit_any (hs.stay hb))).mono fun e W' ⟨he, hb⟩ => ?_
  subst he
  exact ⟨_, rfl, _, _, _, [], _, [], hW', trodAll_cons_mk (shut_bool Try.underlying4 _) trodAll_mk0, trodAll_cons_mk (Below.trod laidOut (by kernel_rfl) (of_decide_eq_true (by kernel_rfl)) h0 hb hlt) (trodAll_cons_mk (regReads _ _ _ _ _ _ w0 w1 w2 w3) (trodAll_cons_mk (shut_int Try.underlying3 wn) (trodAll_cons_mk (shut_int Try.underlying3 wd) trodAll_mk0))), rfl, hb.frame _, fun h => by cases h⟩

theorem over : Rows.fieldsResampleRow.holds Try.pinned (OpenSpec.ofChange Rows.fieldsResampleSpec) :=
  OpenClaim.holds_of_wide 8 Try.f8 rfl rfl rfl rfl rfl rfl rfl ⟨rfl, rfl, rfl, rfl, rfl⟩ rfl rfl rfl rfl rfl (by kernel_rfl) Try.func8 (by kernel_rfl)
    (of_decide_eq_true (by kernel_rfl)) (by unfold Func.isWrapper; rw [if_neg (of_decide_eq_false (by kernel_rfl))]; exact ⟨rfl, rfl⟩)
    (fun os started H enc _ => lifted os started H enc)

theorem proved : Rows.FieldsResampleSaid :=
  over
#print axioms proved
end Go.Proofs.Ytihjemookgnafaa.fieldsResample
