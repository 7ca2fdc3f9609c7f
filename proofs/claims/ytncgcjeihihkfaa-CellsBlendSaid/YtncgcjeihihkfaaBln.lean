/- Blend of the program, of three right fields of one region. -/
import Derived.Test.YtncgcjeihihkfaaBlClo
import Derived.Test.YtncgcjeihihkfaaCut6
namespace Go.Proofs.Ytncgcjeihihkfaa
open Go.RowKit Fl
set_option linter.unusedVariables false

/-- Is a share none? -/
def badB (x : Nat) : Bool := (FloatKind.f32.format.order x 0 == some .lt) || (FloatKind.f32.format.order x 1065353216 == some .gt)
/-- The error of Blend ahead of the making. -/
def blE (n : Nat) (v : Nat → Nat) : Int := if allB n (fun i => !badB (v i)) then 0 else 3

abbrev threeFlds (X Y W H : Int) (s s2 s3 : Value) : Obj := .cells #[.int .i64 X, .int .i64 Y, .int .i64 W, .int .i64 H, s, .int .i64 X, .int .i64 Y, .int .i64 W, .int .i64 H, s2, .int .i64 X, .int .i64 Y, .int .i64 W, .int .i64 H, s3] 36

set_option maxHeartbeats 2000000 in
theorem checkFields_three (X Y : Int) (W H n b1 c1 b2 c2 b3 c3 : Nat) (v1 v2 v3 : Nat → Nat) (p : Nat) (w : World) (h0 : checkR X Y W H = 0) (hn : n = W * H) (f1 : FlAt w b1 0 n v1) (f2 : FlAt w b2 0 n v2) (f3 : FlAt w b3 0 n v3)
    (g1 : allB n (fun i => hgtB (v1 i)) = true) (g2 : allB n (fun i => hgtB (v2 i)) = true) (g3 : allB n (fun i => hgtB (v3 i)) = true)
    (hp : w.heap[p]? = some (threeFlds X Y W H (.slice (some ⟨b1, 0, none⟩) n c1) (.slice (some ⟨b2, 0, none⟩) n c2) (.slice (some ⟨b3, 0, none⟩) n c3))) :
    Calls Try.prog 62 #[.slice (some ⟨p, 0, none⟩) 3 3] w fun e w' => e = .returned (.int .i64 0) ∧ Below w.heap.size w w' := by
  have hn1 : 1 ≤ n := by rw [hn]; obtain ⟨a, _, c, _⟩ := checkR_zero h0; exact Nat.mul_pos (by omega) (by omega)
  have l1 : b1 < w.heap.size := World.block_lt_of_cell? w _ (f1 0 hn1)
  have l2 : b2 < w.heap.size := World.block_lt_of_cell? w _ (f2 0 hn1)
  have l3 : b3 < w.heap.size := World.block_lt_of_cell? w _ (f3 0 hn1)
  have C1 := Lib.hid (fun W' (hb : Below w.heap.size w W') => check_ok X Y W H n b1 c1 v1 W' h0 hn (flAt_congr f1 (hb.block _ l1)) g1)
  have C2 := Lib.hid (fun W' (hb : Below w.heap.size w W') => check_ok X Y W H n b2 c2 v2 W' h0 hn (flAt_congr f2 (hb.block _ l2)) g2)
  have C3 := Lib.hid (fun W' (hb : Below w.heap.size w W') => check_ok X Y W H n b3 c3 v3 W' h0 hn (flAt_congr f3 (hb.block _ l3)) g3)
  have HP := Lib.hid hp
  clear h0 hn f1 f2 f3 g1 g2 g3 hp l1 l2 l3 hn1
  go_enter Try.func62, Try.ntmps62
  go_wp2
  go_loopw [8] (fun i wr => ∃ k : Nat, k ≤ 3 ∧ i = .int .i64 k ∧ Below w.heap.size w wr) (fun i _ => 3 - (intOf i).toNat)
  case atStart => exact ⟨0, by omega, rfl, Below.refl _ _⟩
  case round =>
    obtain ⟨k, hk, rfl, hb⟩ := hrel
    have GP := Lib.hid (blkStay HP.out hb)
    obtain ⟨cP, fP, zP⟩ := blkC GP.out
    have : k = 0 ∨ k = 1 ∨ k = 2 ∨ k = 3 := by omega
    rcases this with rfl | rfl | rfl | rfl
    · go_wp2_with (first | (go_at_call 89; refine (C1.out _ (hb.alloc hb.size _)).mono ?_; rintro e w2 ⟨rfl, hb2⟩))
      go_roundw
      case rel => exact ⟨1, by omega, by go_num, (hb.alloc hb.size _).trans (hb2.mono (hb.alloc hb.size _).size)⟩
      case measure => simp [intOf]
    · go_wp2_with (first | (go_at_call 89; refine (C2.out _ (hb.alloc hb.size _)).mono ?_; rintro e w2 ⟨rfl, hb2⟩))
      go_roundw
      case rel => exact ⟨2, by omega, by go_num, (hb.alloc hb.size _).trans (hb2.mono (hb.alloc hb.size _).size)⟩
      case measure => simp [intOf]
    · go_wp2_with (first | (go_at_call 89; refine (C3.out _ (hb.alloc hb.size _)).mono ?_; rintro e w2 ⟨rfl, hb2⟩))
      go_roundw
      case rel => exact ⟨3, by omega, by go_num, (hb.alloc hb.size _).trans (hb2.mono (hb.alloc hb.size _).size)⟩
      case measure => simp [intOf]
    · go_wp2
      go_ret
      exact ⟨rfl, hb⟩

set_option maxHeartbeats 4000000 in
set_option maxRecDepth 100000 in
theorem blend_any (X Y : Int) (W H n b1 c1 b2 c2 b3 c3 : Nat) (v1 v2 v3 : Nat → Nat) (w : World) (h0 : checkR X Y W H = 0) (hn : n = W * H) (f1 : FlAt w b1 0 n v1) (f2 : FlAt w b2 0 n v2) (f3 : FlAt w b3 0 n v3)
    (g1 : allB n (fun i => hgtB (v1 i)) = true) (g2 : allB n (fun i => hgtB (v2 i)) = true) (g3 : allB n (fun i => hgtB (v3 i)) = true) :
    Calls Try.prog 17 #[fldV X Y W H (.slice (some ⟨b1, 0, none⟩) n c1), fldV X Y W H (.slice (some ⟨b2, 0, none⟩) n c2), fldV X Y W H (.slice (some ⟨b3, 0, none⟩) n c3)] w (ScPost w X Y W H n (blW v1 v2 v3) (blE n v3)) := by
  obtain ⟨d1, d2, d3, d4, d5, d6, d7, d8, d9⟩ := checkR_zero h0
  have en : ((W : Int) * (H : Int)) = (n : Int) := by rw [hn]; simp
  have hn2 : n ≤ 65536 := by omega
  have hn1 : 1 ≤ n := by rw [hn]; exact Nat.mul_pos (by omega) (by omega)
  have l1 : b1 < w.heap.size := World.block_lt_of_cell? w _ (f1 0 hn1)
  have l2 : b2 < w.heap.size := World.block_lt_of_cell? w _ (f2 0 hn1)
  have l3 : b3 < w.heap.size := World.block_lt_of_cell? w _ (f3 0 hn1)
  have CF := Lib.hid (fun W' p (hb : Below w.heap.size w W') hp => checkFields_three X Y W H n b1 c1 b2 c2 b3 c3 v1 v2 v3 p W' h0 hn (flAt_congr f1 (hb.block _ l1)) (flAt_congr f2 (hb.block _ l2)) (flAt_congr f3 (hb.block _ l3)) g1 g2 g3 hp)
  have BY := Lib.hid (fun W' p1 p2 p3 (hb : Below w.heap.size w W') (k1 : W'.heap[p1]? = some (fldO X Y W H (.slice (some ⟨b1, 0, none⟩) n c1))) (k2 : W'.heap[p2]? = some (fldO X Y W H (.slice (some ⟨b2, 0, none⟩) n c2))) (k3 : W'.heap[p3]? = some (fldO X Y W H (.slice (some ⟨b3, 0, none⟩) n c3))) =>
    byCell_any X Y W H n 64 #[.pointer (some ⟨p1, 0, none⟩), .pointer (some ⟨p2, 0, none⟩), .pointer (some ⟨p3, 0, none⟩)] (blW v1 v2 v3) W' enters_Blend1
      (blend1_any X Y W H n p1 b1 c1 p2 b2 c2 p3 b3 c3 v1 v2 v3 W' ⟨k1, flAt_congr f1 (hb.block _ l1), g1⟩ ⟨k2, flAt_congr f2 (hb.block _ l2), g2⟩ ⟨k3, flAt_congr f3 (hb.block _ l3), g3⟩ hn2) en.symm hn1 hn2)
  have F3 := Lib.hid f3
  clear d1 d2 d3 d4 d5 d6 d7 d8 d9 h0 hn f1 f2 f3 g1 g2 g3 en
  go_enter Try.func17, Try.ntmps17
  go_wp2_with (first | (go_at_call 62; refine (CF.out _ _ (by repeat (first | exact Below.refl _ _ | refine Below.alloc ?_ (by first | omega | (simp; done) | (simp; omega)) _ | refine Below.setCell ?_ (by first | omega | (simp; done) | (simp; omega)) _ | refine Below.drew ?_)) (by (first | (rw [heap_alloc_get, if_pos rfl]; done) | ((simp only [heap_alloc_get, heap_size_alloc, if_true]) <;> ((repeat' split) <;> first | rfl | omega))))).mono ?_; rintro e w2 ⟨rfl, hb2⟩; have HA := Lib.hid (blkStay (b := w.heap.size) (o := fldO X Y W H (.slice (some ⟨b1, 0, none⟩) n c1)) (by (first | (rw [heap_alloc_get, if_pos rfl]; done) | ((simp only [heap_alloc_get, heap_size_alloc, if_true]) <;> ((repeat' split) <;> first | rfl | omega)))) hb2); have HB := Lib.hid (blkStay (b := w.heap.size + 1) (o := fldO X Y W H (.slice (some ⟨b2, 0, none⟩) n c2)) (by (first | (rw [heap_alloc_get, if_pos rfl]; done) | ((simp only [heap_alloc_get, heap_size_alloc, if_true]) <;> ((repeat' split) <;> first | rfl | omega)))) hb2); have HC := Lib.hid (blkStay (b := w.heap.size + 1 + 1) (o := fldO X Y W H (.slice (some ⟨b3, 0, none⟩) n c3)) (by (first | (rw [heap_alloc_get, if_pos rfl]; done) | ((simp only [heap_alloc_get, heap_size_alloc, if_true]) <;> ((repeat' split) <;> first | rfl | omega)))) hb2); have HS := Lib.hid (blkStay (b := w.heap.size + 1 + 1 + 1) (o := fldO 0 0 0 0 (.slice none 0 0)) (by (first | (rw [heap_alloc_get, if_pos rfl]; done) | ((simp only [heap_alloc_get, heap_size_alloc, if_true]) <;> ((repeat' split) <;> first | rfl | omega)))) hb2); have hB2 : Below w.heap.size w w2 := Below.trans (by repeat (first | exact Below.refl _ _ | refine Below.alloc ?_ (by first | omega | (simp; done) | (simp; omega)) _ | refine Below.setCell ?_ (by first | omega | (simp; done) | (simp; omega)) _ | refine Below.drew ?_)) (Below.mono hb2 (by first | omega | (simp; done) | (simp; omega))); obtain ⟨cA, fA, zA⟩ := blkC HA.out; obtain ⟨cB, fB, zB⟩ := blkC HB.out; obtain ⟨cC, fC, zC⟩ := blkC HC.out; clear hb2))
  have R3 := Lib.hid (flAt_congr F3.out (hB2.block _ l3))
  have l32 : b3 < w2.heap.size := Nat.lt_of_lt_of_le l3 hB2.size
  go_loopw [36] (fun i wr => ∃ k : Nat, k ≤ n ∧ i = .int .i64 k ∧ allB k (fun i => !badB (v3 i)) = true ∧ w2 = wr) (fun i _ => n - (intOf i).toNat)
  case atStart => exact ⟨0, Nat.zero_le _, rfl, rfl, rfl⟩
  case round =>
    obtain ⟨k, hk, rfl, ha, rfl⟩ := hrel
    have HA0 := Lib.hid ha
    clear ha
    by_cases hlt : k < n
    · have hcell := R3.out k hlt
      rw [Nat.zero_add] at hcell
      have hi2 : (k : Int) < (n : Int) := by omega
      cases hq : badB (v3 k) with
      | true =>
        have hx : blE n v3 = 3 := by unfold blE; rw [allB_no hlt (show (!badB (v3 k)) = false by rw [hq]; rfl)]; rfl
        have HX := Lib.hid hx
        clear hx
        obtain ⟨cS, fS, zS⟩ := blkC HS.out
        unfold badB at hq
        rw [Bool.or_eq_true] at hq
        cases h1 : (FloatKind.f32.format.order (v3 k) 0 == some .lt) with
        | true =>
          clear hq
          go_wp2
          refine bodyPost_ret (v := .tuple #[fldV 0 0 0 0 (.slice none 0 0), .int .i64 3]) (by simp [results, Try.results17, go_sem, cS]) rfl ?_
          rw [HX.out]
          exact .inl ⟨by decide, rfl, set5_below hB2 _ _ _ _ _ _ (by omega)⟩
        | false =>
          have h2 : (FloatKind.f32.format.order (v3 k) 1065353216 == some .gt) = true := by rcases hq with h | h; rw [h1] at h; cases h; exact h
          clear hq
          go_wp2
          refine bodyPost_ret (v := .tuple #[fldV 0 0 0 0 (.slice none 0 0), .int .i64 3]) (by simp [results, Try.results17, go_sem, cS]) rfl ?_
          rw [HX.out]
          exact .inl ⟨by decide, rfl, set5_below hB2 _ _ _ _ _ _ (by omega)⟩
      | false =>
        have HQ := Lib.hid hq
        unfold badB at hq
        rw [Bool.or_eq_false_iff] at hq
        obtain ⟨h1, h2⟩ := hq
        go_wp2
        go_roundw
        case rel =>
          refine ⟨k + 1, by omega, by go_num, allB_iff.2 fun i hi => ?_, trivial⟩
          rcases Nat.lt_or_ge i k with c | c
          · exact allB_iff.1 HA0.out i c
          · obtain rfl : i = k := by omega
            rw [HQ.out]; rfl
        case measure => simp [intOf]; omega
    · obtain rfl : k = n := by omega
      have HX := Lib.hid (show blE k v3 = 0 by unfold blE; rw [HA0.out]; rfl)
      go_wp2_with fail
      refine (BY.out _ w.heap.size (w.heap.size + 1) (w.heap.size + 1 + 1) hB2 HA.out HB.out HC.out).mono ?_
      intro e w4 hmade
      have z2 := hB2.size
      rcases hmade with ⟨hall, b', cap', rfl, hb', hlt', hrow, hbel⟩ | ⟨hall, rfl, hbel⟩
      · obtain ⟨cS, fS, zS⟩ := blkC (blkStay HS.out hbel)
        have zS2 := (blkC HS.out).2.2
        go_wp2
        refine bodyPost_ret (v := .tuple #[fldV X Y W H (.slice (some ⟨b', 0, none⟩) k cap'), .int .i64 0]) (by simp [results, Try.results17, go_sem, cS]) rfl ?_
        exact .inr ⟨HX.out, .inl ⟨hall, b', cap', rfl, by omega, by rw [set5_size]; exact hlt', flAt_congr hrow (set5_heap w4 _ _ _ _ _ _ _ (by omega)), set5_below (hB2.trans (hbel.mono z2)) _ _ _ _ _ _ (by omega)⟩⟩
      · obtain ⟨cS, fS, zS⟩ := blkC (blkStay HS.out hbel)
        go_wp2
        refine bodyPost_ret (v := .tuple #[fldV 0 0 0 0 (.slice none 0 0), .int .i64 3]) (by simp [results, Try.results17, go_sem, cS]) rfl ?_
        exact .inr ⟨HX.out, .inr ⟨hall, rfl, set5_below (hB2.trans (hbel.mono z2)) _ _ _ _ _ _ (by omega)⟩⟩
end Go.Proofs.Ytncgcjeihihkfaa
