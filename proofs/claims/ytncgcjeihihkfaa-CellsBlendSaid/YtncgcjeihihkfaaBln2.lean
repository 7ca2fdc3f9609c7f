/- Blend of the reference, of three right fields of one region. -/
import Derived.Test.YtncgcjeihihkfaaBln
namespace Go.Proofs.Ytncgcjeihihkfaa
open Go.RowKit Fl
set_option linter.unusedVariables false

theorem enters_rBl1 : Enters 67 := by intro args W; simp [callFunc, Try.func67, Try.f67]

set_option maxHeartbeats 400000 in
theorem rbl1_any (x : Nat) (w : World) :
    Calls Try.prog 67 #[.float .f32 x] w fun e w' => e = .returned (.bool (badB x)) ∧ w = w' := by
  unfold badB
  cases h1 : (FloatKind.f32.format.order x 0 == some .lt) with
  | true =>
    go_enter Try.func67, Try.ntmps67
    go_wp2
    go_ret
    exact ⟨by simp, rfl⟩
  | false =>
    cases h2 : (FloatKind.f32.format.order x 1065353216 == some .gt) with
    | true =>
      go_enter Try.func67, Try.ntmps67
      go_wp2
      go_ret
      exact ⟨by simp, rfl⟩
    | false =>
      go_enter Try.func67, Try.ntmps67
      go_wp2
      go_ret
      exact ⟨by simp, rfl⟩

set_option maxHeartbeats 1000000 in
theorem rblIndex_any (b cap n : Nat) (v : Nat → Nat) (hl : n ≤ 9223372036854775807) (w : World) (hc : FlAt w b 0 n v) :
    Calls Try.prog 114 #[.slice (some ⟨b, 0, none⟩) n cap, .func (.func 67) #[] #[]] w fun e w' => (∃ r : Int, e = .returned (.int .i64 r) ∧ ((r = -1 ∧ allB n (fun i => !badB (v i)) = true) ∨ (0 ≤ r ∧ allB n (fun i => !badB (v i)) = false))) ∧ w = w' := by
  have hcall := enters_rBl1
  unfold Enters at hcall
  go_enter Try.func114, Try.ntmps114
  go_wp2
  go_loop [8] (fun i => ∃ k : Nat, k ≤ n ∧ i = .int .i64 k ∧ allB k (fun i => !badB (v i)) = true) (fun i => n - (intOf i).toNat)
  case atStart => exact ⟨0, Nat.zero_le _, rfl, rfl⟩
  case round =>
    obtain ⟨k, hk, rfl, ha⟩ := hrel
    have HA := Lib.hid ha
    clear ha
    by_cases hlt : k < n
    · have hcell := hc k hlt
      rw [Nat.zero_add] at hcell
      have IH := Lib.hid (fun w => rbl1_any (v k) w)
      cases hq : badB (v k) with
      | true =>
        rw [hq] at IH
        have HQ := Lib.hid (show allB n (fun i => !badB (v i)) = false from allB_no hlt (by rw [hq]; rfl))
        clear hq
        go_wp2_with fail
        refine (IH.out _).mono ?_
        rintro e w' ⟨rfl, rfl⟩
        go_wp2
        go_ret
        exact ⟨⟨k, rfl, .inr ⟨by omega, HQ.out⟩⟩, rfl⟩
      | false =>
        rw [hq] at IH
        have HQ := Lib.hid hq
        clear hq
        go_wp2_with fail
        refine (IH.out _).mono ?_
        rintro e w' ⟨rfl, rfl⟩
        go_wp2
        go_round
        case rel =>
          refine ⟨k + 1, by omega, by go_num, allB_iff.2 fun i hi => ?_⟩
          rcases Nat.lt_or_ge i k with c | c
          · exact allB_iff.1 HA.out i c
          · obtain rfl : i = k := by omega
            rw [HQ.out]; rfl
        case measure => simp [intOf]; omega
    · obtain rfl : k = n := by omega
      go_wp2
      go_ret
      exact ⟨⟨-1, rfl, .inl ⟨rfl, HA.out⟩⟩, rfl⟩

set_option maxHeartbeats 1000000 in
theorem rblContains_any (b cap n : Nat) (v : Nat → Nat) (hl : n ≤ 9223372036854775807) (w : World) (hc : FlAt w b 0 n v) :
    Calls Try.prog 66 #[.slice (some ⟨b, 0, none⟩) n cap, .func (.func 67) #[] #[]] w fun e w' => e = .returned (.bool (!allB n (fun i => !badB (v i)))) ∧ w = w' := by
  have IX := Lib.hid (rblIndex_any b cap n v hl w hc)
  clear hc
  go_enter Try.func66, Try.ntmps66
  go_wp2_with fail
  refine IX.out.mono ?_
  rintro e w' ⟨⟨r, rfl, h⟩, rfl⟩
  rcases h with ⟨rfl, h⟩ | ⟨h0, h⟩
  · have H := Lib.hid h
    clear h
    go_wp2
    go_ret
    exact ⟨ret_bool (by rw [H.out]; rfl), rfl⟩
  · have H := Lib.hid h
    clear h
    go_wp2
    go_ret
    exact ⟨ret_bool (by rw [H.out]; simp), rfl⟩

theorem blW_wf {n : Nat} {v1 v2 v3 : Nat → Nat} (g1 : allB n (fun i => hgtB (v1 i)) = true) (g2 : allB n (fun i => hgtB (v2 i)) = true) (g3 : allB n (fun i => hgtB (v3 i)) = true) : wf32 n (blW v1 v2 v3) := fun i hi => by
  obtain ⟨d, q, r, e1, _, e2, _, e3, _, h, _⟩ := mix_parts (i := 20) (j := 20) (by omega) (by omega) (hgt_bd (allB_iff.1 g1 i hi)) (hgt_bd (allB_iff.1 g2 i hi)) (hgt_bd (allB_iff.1 g3 i hi))
  show mixW (v1 i) (v2 i) (v3 i) < 4294967296
  rw [mix_eq e1 e2 e3]
  exact h

set_option maxHeartbeats 4000000 in
set_option maxRecDepth 100000 in
theorem rblend_any (X Y : Int) (W H n b1 c1 b2 c2 b3 c3 : Nat) (v1 v2 v3 : Nat → Nat) (w : World) (h0 : checkR X Y W H = 0) (hn : n = W * H) (f1 : FlAt w b1 0 n v1) (f2 : FlAt w b2 0 n v2) (f3 : FlAt w b3 0 n v3)
    (g1 : allB n (fun i => hgtB (v1 i)) = true) (g2 : allB n (fun i => hgtB (v2 i)) = true) (g3 : allB n (fun i => hgtB (v3 i)) = true) :
    Calls Try.prog 18 #[fldV X Y W H (.slice (some ⟨b1, 0, none⟩) n c1), fldV X Y W H (.slice (some ⟨b2, 0, none⟩) n c2), fldV X Y W H (.slice (some ⟨b3, 0, none⟩) n c3)] w (ScPost w X Y W H n (blW v1 v2 v3) (blE n v3)) := by
  obtain ⟨d1, d2, d3, d4, d5, d6, d7, d8, d9⟩ := checkR_zero h0
  have en : ((W : Int) * (H : Int)) = (n : Int) := by rw [hn]; simp
  have hnm : n = H * W := by rw [hn]; exact Nat.mul_comm _ _
  have hn2 : n ≤ 65536 := by omega
  have hn1 : 1 ≤ n := by rw [hn]; exact Nat.mul_pos (by omega) (by omega)
  have l1 : b1 < w.heap.size := World.block_lt_of_cell? w _ (f1 0 hn1)
  have l2 : b2 < w.heap.size := World.block_lt_of_cell? w _ (f2 0 hn1)
  have l3 : b3 < w.heap.size := World.block_lt_of_cell? w _ (f3 0 hn1)
  have CF := Lib.hid (fun W' (hb : Below w.heap.size w W') => rblContains_any b3 c3 n v3 (by omega) W' (flAt_congr f3 (hb.block _ l3)))
  have MP := Lib.hid (fun W' p1 p2 p3 (hb : Below w.heap.size w W') (k1 : W'.heap[p1]? = some (fldO X Y W H (.slice (some ⟨b1, 0, none⟩) n c1))) (k2 : W'.heap[p2]? = some (fldO X Y W H (.slice (some ⟨b2, 0, none⟩) n c2))) (k3 : W'.heap[p3]? = some (fldO X Y W H (.slice (some ⟨b3, 0, none⟩) n c3))) =>
    made_any X Y W H n 69 #[.pointer (some ⟨p1, 0, none⟩), .pointer (some ⟨p2, 0, none⟩), .pointer (some ⟨p3, 0, none⟩)] (blW v1 v2 v3) W' enters_rBlend2
      (rblend2_any X Y W H n p1 b1 c1 p2 b2 c2 p3 b3 c3 v1 v2 v3 W' ⟨k1, flAt_congr f1 (hb.block _ l1), g1⟩ ⟨k2, flAt_congr f2 (hb.block _ l2), g2⟩ ⟨k3, flAt_congr f3 (hb.block _ l3), g3⟩ hn2 (by omega) (by omega) (by omega) (by omega) (by omega) (by omega) (by omega) hnm) (blW_wf g1 g2 g3) (by omega) (by omega) (by omega) (by omega) (by omega) (by omega) (by omega) (by omega) hnm)
  have hx : blE n v3 = if (!allB n (fun i => !badB (v3 i))) then 3 else 0 := by unfold blE; cases allB n (fun i => !badB (v3 i)) <;> rfl
  have HX := Lib.hid hx
  generalize (!allB n (fun i => !badB (v3 i))) = bad at *
  clear d1 d2 d3 d4 d5 d6 d7 d8 d9 h0 hn f1 f2 f3 g1 g2 g3 en hnm hx l1 l2 l3 hn2 hn1
  have HB := Lib.hid (show Below w.heap.size w ((((w.alloc (fldO X Y W H (.slice (some ⟨b1, 0, none⟩) n c1))).alloc (fldO X Y W H (.slice (some ⟨b2, 0, none⟩) n c2))).alloc (fldO X Y W H (.slice (some ⟨b3, 0, none⟩) n c3))).alloc (fldO 0 0 0 0 (.slice none 0 0))) from (by repeat (first | exact Below.refl _ _ | refine Below.alloc ?_ (by first | omega | (simp; done) | (simp; omega)) _ | refine Below.setCell ?_ (by first | omega | (simp; done) | (simp; omega)) _ | refine Below.drew ?_)))
  cases bad with
  | true =>
    go_enter Try.func18, Try.ntmps18
    go_wp2_with (first | (go_at_call 66; refine (CF.out _ HB.out).mono ?_; rintro e w' ⟨rfl, rfl⟩))
    refine bodyPost_ret (v := .tuple #[fldV 0 0 0 0 (.slice none 0 0), .int .i64 3]) (by simp [results, Try.results18, go_sem]) rfl ?_
    rw [HX.out]
    exact .inl ⟨by decide, rfl, (by repeat (first | exact Below.refl _ _ | refine Below.alloc ?_ (by first | omega | (simp; done) | (simp; omega)) _ | refine Below.setCell ?_ (by first | omega | (simp; done) | (simp; omega)) _ | refine Below.drew ?_))⟩
  | false =>
    go_enter Try.func18, Try.ntmps18
    go_wp2_with (first | (go_at_call 66; refine (CF.out _ HB.out).mono ?_; rintro e w' ⟨rfl, rfl⟩))
    refine (MP.out _ w.heap.size (w.heap.size + 1) (w.heap.size + 1 + 1) HB.out (by (first | (rw [heap_alloc_get, if_pos rfl]; done) | ((simp only [heap_alloc_get, heap_size_alloc, if_true]) <;> ((repeat' split) <;> first | rfl | omega)))) (by (first | (rw [heap_alloc_get, if_pos rfl]; done) | ((simp only [heap_alloc_get, heap_size_alloc, if_true]) <;> ((repeat' split) <;> first | rfl | omega)))) (by (first | (rw [heap_alloc_get, if_pos rfl]; done) | ((simp only [heap_alloc_get, heap_size_alloc, if_true]) <;> ((repeat' split) <;> first | rfl | omega))))).mono ?_
    intro e w4 hmade
    rcases hmade with ⟨hall, b', cap', rfl, hb', hlt', hrow, hbel⟩ | ⟨hall, rfl, hbel⟩
    · have hS := Lib.hid (blkStay (b := w.heap.size + 1 + 1 + 1) (o := fldO 0 0 0 0 (.slice none 0 0)) (by (first | (rw [heap_alloc_get, if_pos rfl]; done) | ((simp only [heap_alloc_get, heap_size_alloc, if_true]) <;> ((repeat' split) <;> first | rfl | omega)))) hbel)
      have hB := HB.out.trans (hbel.mono HB.out.size)
      obtain ⟨cS, fS, zS⟩ := blkC hS.out
      have HBB := Lib.hid hb'
      clear hb'
      go_wp2
      refine bodyPost_ret (v := .tuple #[fldV X Y W H (.slice (some ⟨b', 0, none⟩) n cap'), .int .i64 0]) (by simp [results, Try.results18, go_sem, cS]) rfl ?_
      have hb' := HBB.out
      simp only [heap_size_alloc] at hb'
      exact .inr ⟨by rw [HX.out]; rfl, .inl ⟨hall, b', cap', rfl, by omega, by rw [set5_size]; exact hlt', flAt_congr hrow (set5_heap w4 _ _ _ _ _ _ _ (by omega)), set5_below hB _ _ _ _ _ _ (by omega)⟩⟩
    · have hS := Lib.hid (blkStay (b := w.heap.size + 1 + 1 + 1) (o := fldO 0 0 0 0 (.slice none 0 0)) (by (first | (rw [heap_alloc_get, if_pos rfl]; done) | ((simp only [heap_alloc_get, heap_size_alloc, if_true]) <;> ((repeat' split) <;> first | rfl | omega)))) hbel)
      have hB := HB.out.trans (hbel.mono HB.out.size)
      obtain ⟨cS, fS, zS⟩ := blkC hS.out
      go_wp2
      refine bodyPost_ret (v := .tuple #[fldV 0 0 0 0 (.slice none 0 0), .int .i64 3]) (by simp [results, Try.results18, go_sem, cS]) rfl ?_
      exact .inr ⟨by rw [HX.out]; rfl, .inr ⟨hall, rfl, set5_below hB _ _ _ _ _ _ (by omega)⟩⟩
end Go.Proofs.Ytncgcjeihihkfaa
