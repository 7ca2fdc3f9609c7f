/- The reference's bilinear. -/
import Derived.Test.YtaieokamfhpfbaaBtw2
namespace Go.Proofs.Ytaieokamfhpfbaa
open Go.RowKit Fl
set_option linter.unusedVariables false

theorem there_both {X Y W H i j : Int} {cs ct : Bool} : thereB X Y W H i j cs ct = (thereB X Y W H i j cs true && (ct || thereB X Y W H i (j + 1) cs true)) := by
  rw [Bool.eq_iff_iff]
  unfold thereB
  rw [Bool.and_eq_true, Bool.or_eq_true, insideB_iff, insideB_iff, insideB_iff]
  cases cs <;> cases ct <;> simp <;> omega
theorem num_next {X Y i j : Int} {W : Nat} (h1 : X ≤ i) (h2 : Y ≤ j) : numC X Y W i (j + 1) = numC X Y W i j + W := by
  unfold numC
  have : 0 ≤ (j - Y) * W := Int.mul_nonneg (by omega) (by omega)
  have e : (j + 1 - Y) * (W : Int) = (j - Y) * W + W := by rw [show j + 1 - Y = (j - Y) + 1 by omega, Int.add_mul]; omega
  rw [e]; omega

theorem refOut_of (x : Nat) (hx : x < 4294967296) (bb : Nat) (w : World) (h : w.heap[bb]? = some (flObj x)) :
    Calls Try.prog 50 #[.slice (some ⟨bb, 0, none⟩) 1 1] w fun e w' => e = .returned (.int .i64 (if hgtB x then 0 else 3)) ∧ w = w' := by
  have := refOut_row bb 0 1 1 (fun _ => x) (by omega) w (flAt_one_of h) (fun _ _ => hx)
  rw [show allB 1 (fun i => hgtB ((fun _ => x) i)) = hgtB x by simp [allB, List.range_succ]] at this
  exact this

theorem mixW_lt {i x y s : Nat} (hi : i ≤ 60) (bx : Bd i x) (by' : Bd i y) (bs : Bd 1 s) : mixW x y s < 4294967296 := by
  obtain ⟨d, q, r, e1, _, e2, _, e3, _, lr, _⟩ := mix_parts (i := i) (j := 1) hi (by omega) bx by' bs
  rw [mix_eq e1 e2 e3]; exact lr
theorem alongW_lt {cs : Bool} {x y s : Nat} (hx : x < 4294967296) (bx : Bd 20 x) (by' : cs = false → Bd 20 y) (bs : Bd 1 s) : alongW cs s x y < 4294967296 := by
  cases cs with
  | true => exact hx
  | false => exact mixW_lt (by omega) bx (by' rfl) bs

theorem enters_bil1 : Enters 170 := by intro args W; simp [callFunc, Try.func170, Try.f170]

set_option maxHeartbeats 4000000 in
theorem rbil_no (X Y : Int) (W H n b cap : Nat) (v : Nat → Nat) (i j : Int) (s t : Nat) (cs ct : Bool) (w : World) (h0 : checkR X Y W H = 0) (hn : n = W * H) (hc : FlAt w b 0 n v) (hh : allB n (fun i => hgtB (v i)) = true) (i1 : -16777216 ≤ i) (i2 : i ≤ 16777216) (j1 : -16777216 ≤ j) (j2 : j ≤ 16777216)
    (hs : (FloatKind.f32.format.order s 0 == some .eq) = cs) (ht : (FloatKind.f32.format.order t 0 == some .eq) = ct) (hth : thereB X Y W H i j cs ct = false) (bs : Bd 1 s) :
    Calls Try.prog 138 #[fldV X Y W H (.slice (some ⟨b, 0, none⟩) n cap), .int .i64 i, .int .i64 j, .float .f32 s, .float .f32 t] w fun e w' => e = .returned (.tuple #[.float .f32 0, .int .i64 5]) ∧ Below w.heap.size w w' := by
  have n1 : 1 ≤ n := by
    obtain ⟨b1, b2, b3, b4, b5, _⟩ := checkR_zero h0
    rw [hn]; exact Nat.mul_pos (by omega) (by omega)
  have z : b < w.heap.size := World.block_lt_of_cell? w _ (hc 0 n1)
  have RC := Lib.hid (show RCaps (((w.alloc (fldO X Y W H (.slice (some ⟨b, 0, none⟩) n cap))).alloc (.cells #[.int .i64 i] 3)).alloc (flObj s)) X Y W H n b cap v w.heap.size i s from
    ⟨by ((simp only [heap_alloc_get, heap_size_alloc, if_true]) <;> ((repeat' split) <;> first | rfl | omega)), by ((simp only [heap_alloc_get, heap_size_alloc, if_true]) <;> ((repeat' split) <;> first | rfl | omega)), by ((simp only [heap_alloc_get, heap_size_alloc, if_true]) <;> ((repeat' split) <;> first | rfl | omega)), flAt_congr hc ((show Below w.heap.size w _ from (by repeat (first | exact Below.refl _ _ | refine Below.alloc ?_ (by first | omega | (simp; done) | (simp; omega)) _ | refine Below.setCell ?_ (by first | omega | (simp; done) | (simp; omega)) _ | refine Below.drew ?_))).block b z)⟩)
  have hcall := enters_bil1
  unfold Enters at hcall
  rw [there_both] at hth
  cases h1 : thereB X Y W H i j cs true with
  | false =>
    have R1 := Lib.hid (row_no X Y W H n b cap v w.heap.size i j s cs _ RC.out h0 i1 i2 (by omega) (by omega) hs h1)
    clear hc hh h0 hn RC hth h1
    go_enter Try.func138, Try.ntmps138
    go_wp2_with fail
    refine R1.out.mono ?_
    rintro e w2 ⟨rfl, hb2⟩
    have B2 := Lib.hid (Below.trans (show Below w.heap.size w _ from (by repeat (first | exact Below.refl _ _ | refine Below.alloc ?_ (by first | omega | (simp; done) | (simp; omega)) _ | refine Below.setCell ?_ (by first | omega | (simp; done) | (simp; omega)) _ | refine Below.drew ?_))) (hb2.mono (by simp; omega)))
    clear hb2 R1
    go_wp2
    go_ret2
    exact ⟨rfl, B2.out⟩
  | true =>
    rw [h1] at hth
    cases ct with
    | true => simp at hth
    | false =>
      have h2 : thereB X Y W H i (j + 1) cs true = false := by simpa using hth
      have R1 := Lib.hid (row_ok X Y W H n b cap v w.heap.size i j s cs _ RC.out h0 hn hh hs h1 bs)
      have R2 := Lib.hid (fun W' (hb : Below _ _ W') => row_no X Y W H n b cap v w.heap.size i (j + 1) s cs W' (RC.out.stay n1 hb) h0 i1 i2 (by omega) (by omega) hs h2)
      generalize alongW cs s (v (numC X Y W i j)) (v (numC X Y W i j + 1)) = P at *
      clear hc hh h0 hn RC hth h1 h2
      go_enter Try.func138, Try.ntmps138
      go_wp2_with fail
      refine R1.out.mono ?_
      rintro e w2 ⟨rfl, hb2⟩
      have R3 := Lib.hid (R2.out w2 hb2)
      have B2 := Lib.hid (Below.trans (show Below w.heap.size w _ from (by repeat (first | exact Below.refl _ _ | refine Below.alloc ?_ (by first | omega | (simp; done) | (simp; omega)) _ | refine Below.setCell ?_ (by first | omega | (simp; done) | (simp; omega)) _ | refine Below.drew ?_))) (hb2.mono (by simp; omega)))
      clear hb2 R1 R2
      go_wp2_with fail
      refine R3.out.mono ?_
      rintro e w3 ⟨rfl, hb3⟩
      have B3 := Lib.hid (B2.out.trans (hb3.mono B2.out.size))
      clear hb3 R3
      go_wp2
      go_ret2
      exact ⟨rfl, B3.out⟩

set_option maxHeartbeats 4000000 in
theorem rbil_ok (X Y : Int) (W H n b cap : Nat) (v : Nat → Nat) (i j : Int) (s t : Nat) (cs ct : Bool) (w : World) (h0 : checkR X Y W H = 0) (hn : n = W * H) (hc : FlAt w b 0 n v) (hh : allB n (fun i => hgtB (v i)) = true) (hvw : wf32 n v)
    (hs : (FloatKind.f32.format.order s 0 == some .eq) = cs) (ht : (FloatKind.f32.format.order t 0 == some .eq) = ct) (hth : thereB X Y W H i j cs ct = true) (bs : Bd 1 s) (bt : Bd 1 t) :
    Calls Try.prog 138 #[fldV X Y W H (.slice (some ⟨b, 0, none⟩) n cap), .int .i64 i, .int .i64 j, .float .f32 s, .float .f32 t] w fun e w' => e = .returned (.tuple #[.float .f32 (btwW v W (numC X Y W i j) cs ct s t), .int .i64 (if hgtB (btwW v W (numC X Y W i j) cs ct s t) then 0 else 3)]) ∧ Below w.heap.size w w' := by
  obtain ⟨b1, b2, b3, b4, b5, b6, b7, b8, b9⟩ := checkR_zero h0
  have hnn : n = H * W := by rw [hn]; exact Nat.mul_comm _ _
  have n1 : 1 ≤ n := by rw [hn]; exact Nat.mul_pos (by omega) (by omega)
  have z : b < w.heap.size := World.block_lt_of_cell? w _ (hc 0 n1)
  have RC := Lib.hid (show RCaps (((w.alloc (fldO X Y W H (.slice (some ⟨b, 0, none⟩) n cap))).alloc (.cells #[.int .i64 i] 3)).alloc (flObj s)) X Y W H n b cap v w.heap.size i s from
    ⟨by ((simp only [heap_alloc_get, heap_size_alloc, if_true]) <;> ((repeat' split) <;> first | rfl | omega)), by ((simp only [heap_alloc_get, heap_size_alloc, if_true]) <;> ((repeat' split) <;> first | rfl | omega)), by ((simp only [heap_alloc_get, heap_size_alloc, if_true]) <;> ((repeat' split) <;> first | rfl | omega)), flAt_congr hc ((show Below w.heap.size w _ from (by repeat (first | exact Below.refl _ _ | refine Below.alloc ?_ (by first | omega | (simp; done) | (simp; omega)) _ | refine Below.setCell ?_ (by first | omega | (simp; done) | (simp; omega)) _ | refine Below.drew ?_))).block b z)⟩)
  have hcall := enters_bil1
  unfold Enters at hcall
  have hth' : X ≤ i ∧ Y ≤ j ∧ i + (if cs then 1 else 2) ≤ X + W ∧ j + (if ct then 1 else 2) ≤ Y + H := insideB_iff.1 hth
  obtain ⟨t1, t2, t3, t4⟩ := hth'
  have t5 : i + 1 ≤ X + W := by cases cs <;> simp at t3 <;> omega
  have t6 : j + 1 ≤ Y + H := by cases ct <;> simp at t4 <;> omega
  have hk : ((numC X Y W i j : Nat) : Int) = (j - Y) * W + (i - X) := by
    unfold numC
    have : 0 ≤ (j - Y) * W := Int.mul_nonneg (by omega) (by omega)
    omega
  have hkn : numC X Y W i j < n := cell_lt (X := X) (Y := Y) (x := i) (y := j) (by omega) t1 (by omega) (by omega) hk hnn
  have hk1 : cs = false → numC X Y W i j + 1 < n := fun h => by
    rw [h] at t3; simp at t3
    exact cell_lt (X := X) (Y := Y) (x := i + 1) (y := j) (by omega) (by omega) (by omega) (by omega) (by omega) hnn
  have hb20 : ∀ m, m < n → Bd 20 (v m) := fun m hm => hgt_bd (allB_iff.1 hh m hm)
  have la := alongW_lt (s := s) (hvw _ hkn) (hb20 _ hkn) (fun h => hb20 _ (hk1 h)) bs
  have pa := along_bd (cs := cs) (s := s) (hb20 _ hkn) (fun h => hb20 _ (hk1 h)) bs
  rw [there_both, Bool.and_eq_true, Bool.or_eq_true] at hth
  obtain ⟨h1, h2⟩ := hth
  have R1 := Lib.hid (row_ok X Y W H n b cap v w.heap.size i j s cs _ RC.out h0 hn hh hs h1 bs)
  cases ct with
  | true =>
    show Calls _ _ _ _ fun e w' => e = .returned (.tuple #[.float .f32 (alongW cs s (v (numC X Y W i j)) (v (numC X Y W i j + 1))), .int .i64 (if hgtB (alongW cs s (v (numC X Y W i j)) (v (numC X Y W i j + 1))) then 0 else 3)]) ∧ _
    generalize alongW cs s (v (numC X Y W i j)) (v (numC X Y W i j + 1)) = P at *
    have OT := Lib.hid (fun bb w => refOut_of P la bb w)
    generalize (if hgtB P = true then (0 : Int) else 3) = er at *
    clear hc hh h0 hn RC h1 h2 b1 b2 b3 b4 b5 b6 b7 b8 b9 hnn t1 t2 t3 t4 t5 t6 hk hkn hk1 hb20 pa la
    go_enter Try.func138, Try.ntmps138
    go_wp2_with fail
    refine R1.out.mono ?_
    rintro e w2 ⟨rfl, hb2⟩
    have B2 := Lib.hid (Below.trans (show Below w.heap.size w _ from (by repeat (first | exact Below.refl _ _ | refine Below.alloc ?_ (by first | omega | (simp; done) | (simp; omega)) _ | refine Below.setCell ?_ (by first | omega | (simp; done) | (simp; omega)) _ | refine Below.drew ?_))) (hb2.mono (by simp; omega)))
    clear hb2 R1
    go_wp2_with (first | (go_at_call 50; refine (OT.out _ _ (by ((simp only [heap_alloc_get, heap_size_alloc, if_true]) <;> ((repeat' split) <;> first | rfl | omega)))).mono ?_; rintro e w3 ⟨rfl, rfl⟩))
    go_ret2
    exact ⟨rfl, (B2.out).alloc B2.out.size _⟩
  | false =>
    have h3 : thereB X Y W H i (j + 1) cs true = true := by simpa using h2
    simp at t4
    have hkW : numC X Y W i j + W < n := cell_lt (X := X) (Y := Y) (x := i) (y := j + 1) (by omega) t1 (by omega) (by omega) (by rw [show (j + 1 - Y) = (j - Y) + 1 by omega, Int.add_mul]; omega) hnn
    have hkW1 : cs = false → numC X Y W i j + W + 1 < n := fun h => by
      rw [h] at t3; simp at t3
      exact cell_lt (X := X) (Y := Y) (x := i + 1) (y := j + 1) (by omega) (by omega) (by omega) (by omega) (by rw [show (j + 1 - Y) = (j - Y) + 1 by omega, Int.add_mul]; omega) hnn
    have pb := along_bd (cs := cs) (s := s) (hb20 _ hkW) (fun h => hb20 _ (hkW1 h)) bs
    have R2 := Lib.hid (fun W' (hb : Below _ _ W') => row_ok X Y W H n b cap v w.heap.size i (j + 1) s cs W' (RC.out.stay n1 hb) h0 hn hh hs h3 bs)
    rw [num_next t1 t2] at R2
    show Calls _ _ _ _ fun e w' => e = .returned (.tuple #[.float .f32 (mixW (alongW cs s (v (numC X Y W i j)) (v (numC X Y W i j + 1))) (alongW cs s (v (numC X Y W i j + W)) (v (numC X Y W i j + W + 1))) t), .int .i64 (if hgtB (mixW (alongW cs s (v (numC X Y W i j)) (v (numC X Y W i j + 1))) (alongW cs s (v (numC X Y W i j + W)) (v (numC X Y W i j + W + 1))) t) then 0 else 3)]) ∧ _
    generalize alongW cs s (v (numC X Y W i j)) (v (numC X Y W i j + 1)) = P at *
    generalize alongW cs s (v (numC X Y W i j + W)) (v (numC X Y W i j + W + 1)) = Q at *
    obtain ⟨d, q, r, e1, s1, e2, s2, e3, s3, lr, _⟩ := mix_parts (i := 23) (j := 1) (by omega) (by omega) pa pb bt
    rw [mix_eq e1 e2 e3]
    have LP := Lib.hid (fun w => lerp_any _ _ _ P Q t d q r e1 s1 e2 s2 e3 s3 w)
    have OT := Lib.hid (fun bb w => refOut_of r lr bb w)
    generalize (if hgtB r = true then (0 : Int) else 3) = er at *
    have j1 : -16777216 ≤ j := by omega
    have j2 : j ≤ 16777216 := by omega
    clear hc hh h0 hn RC h1 h2 h3 b1 b2 b3 b4 b5 b6 b7 b8 b9 hnn t1 t2 t3 t4 t5 t6 hk hkn hk1 hkW hkW1 hb20 pa pb la e1 s1 e2 s2 e3 s3 lr
    go_enter Try.func138, Try.ntmps138
    go_wp2_with fail
    refine R1.out.mono ?_
    rintro e w2 ⟨rfl, hb2⟩
    have R3 := Lib.hid (R2.out w2 hb2)
    have B2 := Lib.hid (Below.trans (show Below w.heap.size w _ from (by repeat (first | exact Below.refl _ _ | refine Below.alloc ?_ (by first | omega | (simp; done) | (simp; omega)) _ | refine Below.setCell ?_ (by first | omega | (simp; done) | (simp; omega)) _ | refine Below.drew ?_))) (hb2.mono (by simp; omega)))
    clear hb2 R1 R2
    go_wp2_with fail
    refine R3.out.mono ?_
    rintro e w3 ⟨rfl, hb3⟩
    have B3 := Lib.hid (B2.out.trans (hb3.mono B2.out.size))
    clear hb3 R3
    go_wp2_with (first | (go_at_call 116; refine (LP.out _).mono ?_; rintro e w' ⟨rfl, rfl⟩) | (go_at_call 50; refine (OT.out _ _ (by ((simp only [heap_alloc_get, heap_size_alloc, if_true]) <;> ((repeat' split) <;> first | rfl | omega)))).mono ?_; rintro e w4 ⟨rfl, rfl⟩))
    go_ret2
    exact ⟨rfl, (B3.out).alloc B3.out.size _⟩
end Go.Proofs.Ytaieokamfhpfbaa
