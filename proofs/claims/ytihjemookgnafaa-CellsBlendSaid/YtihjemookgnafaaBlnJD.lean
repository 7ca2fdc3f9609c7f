/- CellsBlend, for every three fields: what Blend answers is what the reference answers, bit by bit, and where both fields are one and there is no error, each value is the field's own by value. No condition. -/
import Derived.Test.YtihjemookgnafaaBlnJC
import Derived.ProofKit
import Derived.OpenShut
import Derived.Lib.SmallJoins
import Derived.Laws.Cover2
import Derived.Deep.Slices

/- CellsBlend: up to the three fields that fit makes. -/
namespace Go.Proofs.Ytihjemookgnafaa
open Go.RowKit Fl
set_option linter.unusedVariables false

set_option maxHeartbeats 4000000 in
set_option maxRecDepth 100000 in
theorem cellsBlend_any (X0 Y0 W0 H0 : Int) (sl : Value) (X1 Y1 W1 H1 : Int) (sl1 : Value) (X2 Y2 W2 H2 : Int) (sl2 : Value) (w : World)
    (hfit : ∀ W', Below w.heap.size w W' → Calls Try.prog 24 #[fldV X0 Y0 W0 H0 sl] W' (FitPost W')) (hfit1 : ∀ W', Below w.heap.size w W' → Calls Try.prog 24 #[fldV X1 Y1 W1 H1 sl1] W' (FitPost W')) (hfit2 : ∀ W', Below w.heap.size w W' → Calls Try.prog 24 #[fldV X2 Y2 W2 H2 sl2] W' (FitPost W')) :
    Calls Try.prog 6 #[fldV X0 Y0 W0 H0 sl, fldV X1 Y1 W1 H1 sl1, fldV X2 Y2 W2 H2 sl2] w fun e w' => e = .returned (.bool true) ∧ Below w.heap.size w w' := by
  have HF := Lib.hid hfit
  have HF1 := Lib.hid hfit1
  have HF2 := Lib.hid hfit2
  clear hfit hfit1 hfit2
  go_enter Try.func6, Try.ntmps6
  go_wp2_with (first | (go_at_call 14; refine (landed_any _).mono ?_; rintro e w1 ⟨rfl, hb1⟩; have HA1 := Lib.hid (blkStay (b := w.heap.size) (o := fldO X0 Y0 W0 H0 sl) (by (first | (rw [heap_alloc_get, if_pos rfl]; done) | ((simp only [heap_alloc_get, heap_size_alloc, if_true]) <;> ((repeat' split) <;> first | rfl | omega)))) hb1); have HG1 := Lib.hid (blkStay (b := w.heap.size + 1) (o := fldO X1 Y1 W1 H1 sl1) (by (first | (rw [heap_alloc_get, if_pos rfl]; done) | ((simp only [heap_alloc_get, heap_size_alloc, if_true]) <;> ((repeat' split) <;> first | rfl | omega)))) hb1); have HW1 := Lib.hid (blkStay (b := w.heap.size + 1 + 1) (o := fldO X2 Y2 W2 H2 sl2) (by (first | (rw [heap_alloc_get, if_pos rfl]; done) | ((simp only [heap_alloc_get, heap_size_alloc, if_true]) <;> ((repeat' split) <;> first | rfl | omega)))) hb1); have hB1 : Below w.heap.size w w1 := Below.trans (by repeat (first | exact Below.refl _ _ | refine Below.alloc ?_ (by first | omega | (simp; done) | (simp; omega)) _ | refine Below.setCell ?_ (by first | omega | (simp; done) | (simp; omega)) _ | refine Below.drew ?_)) (Below.mono hb1 (by first | omega | (simp; done) | (simp; omega))); obtain ⟨cA, fA, zA⟩ := blkC HA1.out; obtain ⟨cG, fG, zG⟩ := blkC HG1.out; obtain ⟨cW, fW, zW⟩ := blkC HW1.out; clear hb1))
  go_upto_region 3 with fail
  go_cut [] from 15 to 20 (fun wx => TriAt w wx)
  case first =>
    have HB1 := Lib.hid hB1
    clear hB1
    go_region_law (first
      | (go_simp; (with_reducible refine Calls.mono (HF2.out _ ?_) ?_); (first | exact HB3.out | exact HB3.out.drew | exact HB3.out.drew.drew); rintro e w4 ⟨X5, Y5, W5', H5', b5, n5, rfl, kx1, kx2, ky1, ky2, ku1, ku2, kh1, kh2, khn, khn1, khn2, khlo, khrow, hb4⟩; have hb4' : Below w3.heap.size w3 w4 := ⟨hb4.os, hb4.tape, hb4.output, hb4.size, hb4.block⟩; have z34 := hb4'.size; have HB4 := Lib.hid (HB3.out.trans (hb4'.mono HB3.out.size)); have HA4 := Lib.hid (blkStay HA3.out hb4'); have HG4 := Lib.hid (blkStay HG3.out hb4'); have HW4 := Lib.hid (blkStay HW3.out hb4'); have HX4 := Lib.hid hb4'; clear cA fA zA cG fG zG cW fW zW hb4 hb4'; obtain ⟨cA, fA, zA⟩ := blkC HA4.out; obtain ⟨cG, fG, zG⟩ := blkC HG4.out; obtain ⟨cW, fW, zW⟩ := blkC HW4.out)
      | (go_simp; (with_reducible refine Calls.mono (HF1.out _ ?_) ?_); (first | exact HB2.out | exact HB2.out.drew | exact HB2.out.drew.drew); rintro e w3 ⟨X4, Y4, W4', H4', b4, n4, rfl, gx1, gx2, gy1, gy2, gu1, gu2, gh1, gh2, ghn, ghn1, ghn2, ghlo, ghrow, hb3⟩; have hb3' : Below w2.heap.size w2 w3 := ⟨hb3.os, hb3.tape, hb3.output, hb3.size, hb3.block⟩; have z23 := hb3'.size; have HB3 := Lib.hid (HB2.out.trans (hb3'.mono HB2.out.size)); have HA3 := Lib.hid (blkStay HA2.out hb3'); have HG3 := Lib.hid (blkStay HG2.out hb3'); have HW3 := Lib.hid (blkStay HW2.out hb3'); have HX3 := Lib.hid hb3'; clear cA fA zA cG fG zG cW fW zW hb3 hb3'; obtain ⟨cA, fA, zA⟩ := blkC HA3.out; obtain ⟨cG, fG, zG⟩ := blkC HG3.out; obtain ⟨cW, fW, zW⟩ := blkC HW3.out)
      | (go_simp; (with_reducible refine Calls.mono (HF.out _ ?_) ?_); (first | exact HB1.out | exact HB1.out.drew | exact HB1.out.drew.drew); rintro e w2 ⟨X3, Y3, W3', H3', b3, n3, rfl, fx1, fx2, fy1, fy2, fu1, fu2, fh1, fh2, fhn, fhn1, fhn2, fhlo, fhrow, hb2⟩; have hb2' : Below w1.heap.size w1 w2 := ⟨hb2.os, hb2.tape, hb2.output, hb2.size, hb2.block⟩; have z12 := hb2'.size; have HB2 := Lib.hid (HB1.out.trans (hb2'.mono HB1.out.size)); have HA2 := Lib.hid (blkStay HA1.out hb2'); have HG2 := Lib.hid (blkStay HG1.out hb2'); have HW2 := Lib.hid (blkStay HW1.out hb2'); clear cA fA zA cG fG zG cW fW zW hb2 hb2'; obtain ⟨cA, fA, zA⟩ := blkC HA2.out; obtain ⟨cG, fG, zG⟩ := blkC HG2.out; obtain ⟨cW, fW, zW⟩ := blkC HW2.out))
    all_goals
      have zh := (blkC HW1.out).2.2
      go_wp2_with fail
      go_meet
      case rel =>
        have lo1 : w.heap.size + 1 + 1 + 1 ≤ b3 := by first | omega | (simp at fhlo; omega)
        have lo2 : w.heap.size + 1 + 1 + 1 ≤ b4 := by first | omega | (simp at ghlo; omega)
        have lo3 : w.heap.size + 1 + 1 + 1 ≤ b5 := by first | omega | (simp at khlo; omega)
        have r1 : FitRow w3 b3 n3 n3 := fitRow_congr fhrow (HX3.out.block _ (fitRow_lt fhrow))
        have r1' : FitRow w4 b3 n3 n3 := fitRow_congr r1 (HX4.out.block _ (fitRow_lt r1))
        have r2 : FitRow w4 b4 n4 n4 := fitRow_congr ghrow (HX4.out.block _ (fitRow_lt ghrow))
        exact tri_rel HA4.out HG4.out HW4.out HB4.out fx1 fx2 fy1 fy2 fu1 fu2 fh1 fh2 fhn fhn1 fhn2 lo1 r1' gx1 gx2 gy1 gy2 gu1 gu2 gh1 gh2 ghn ghn1 ghn2 lo2 r2 kx1 kx2 ky1 ky2 ku1 ku2 kh1 kh2 khn khn1 khn2 lo3 khrow
  case rest =>
    obtain ⟨X, Y, W, H, n, b, v, X2', Y2', W2', H2', n2, b2, v2, X3', Y3', W3', H3', n3, b3, v3, FF, FG, FW, RR2, RR3, HB0⟩ := hcut
    clear HA1 HG1 HW1 HF HF1 HF2 cA fA zA cG fG zG cW fW zW hB1
    have zh := (blkC FW.fld).2.2
    have fA := FF.fld
    have fG := FG.fld
    have fW := FW.fld
    obtain ⟨cA, _, zA⟩ := blkC fA
    obtain ⟨cG, _, zG⟩ := blkC fG
    obtain ⟨cW, _, zW⟩ := blkC fW
    have FF := Lib.hid FF
    have FG := Lib.hid FG
    have FW := Lib.hid FW
    have HB0 := Lib.hid HB0
    have RR2 := Lib.hid RR2
    have RR3 := Lib.hid RR3
    go_upto_region 4 with fail
    go_cut [] from 21 to 26 (fun wx => QuadAt w wx)
    case first =>
      go_region
      go_wp2_with fail
      go_meet
      case rel =>
        first
          | refine QuadAt.drew ?_
          | skip
        have q := quad_rel FF.out FG.out FW.out RR2.out RR3.out HB0.out
        unfold set4 at q
        exact q
    case rest =>
      clear FF FG FW RR2 RR3 HB0 zh fA fG fW cA zA cG zG cW zW
      obtain ⟨X, Y, W, H, n, b, v, n2, b2, n3, b3, FA, fG, fW, r2, r3, a1, a2, a3, a4, l2, l3, HB0⟩ := hcut
      have q1 := FA.pos
      have q2 := FA.few
      obtain ⟨N2, hN2⟩ : ∃ N2, N2 = n2 * 300 := ⟨_, rfl⟩
      obtain ⟨N3, hN3⟩ : ∃ N3, N3 = n3 * 300 := ⟨_, rfl⟩
      have k2 : n ≤ N2 := by omega
      have k3 : n ≤ N3 := by omega
      have RP2 := Lib.hid (fun w h => repeat_any b2 n2 w h a1 a2)
      have RP3 := Lib.hid (fun w h => repeat_any b3 n3 w h a3 a4)
      rw [← hN2] at RP2
      rw [← hN3] at RP3
      clear hN2 hN3
      have s2 := fun g W => slice_fl_h g n N2 k2 W
      have s3 := fun g W => slice_fl_h g n N3 k3 W
      have T0 := Lib.hid (show St5 w wc.drew X Y W H n b v (.slice (some ⟨b2, 0, none⟩) n2 n2) (.slice (some ⟨b3, 0, none⟩) n3 n3) from ⟨FA.congr rfl rfl rfl, fG, fW, HB0.drew⟩)
      have R02 := Lib.hid (fitRow_congr (w' := wc.drew) r2 rfl)
      have R03 := Lib.hid (fitRow_congr (w' := wc.drew) r3 rfl)
      have TT := Lib.hid (show St5 w wc X Y W H n b v (.slice (some ⟨b2, 0, none⟩) n2 n2) (.slice (some ⟨b3, 0, none⟩) n3 n3) from ⟨FA, fG, fW, HB0⟩)
      clear FA fG fW HB0 r2 r3
      go_upto_region 5 with fail
      go_cut [] from 27 to 42 (fun wx => PentAt w wx)
      case first =>
        refine wp_region_held_drew (S := (fun w' => ∀ o, w'.cell? ⟨w.heap.size, o, none⟩ = #[.int .i64 X, .int .i64 Y, .int .i64 W, .int .i64 H, .slice (some ⟨b, 0, none⟩) n n][o]?)) (by kernel_rfl) ?_ (fun hHeld => ?_)
        · (try dsimp only); exact (blkC T0.out.f.fld).1
        clear TT
        generalize wc.drew = v0 at *
        refine wpAnyH_take (i := 0) (v := ?hv1) rfl (by kernel_rfl) (by kernel_rfl) (by kernel_rfl) (fun _ _ _ h => h) (Or.inl ⟨by rfl, ?hy1⟩) (by assumption) ?hr1; (case hy1 => ((intro w hSw; (try dsimp only at hSw); go_simp) <;> with_reducible rfl)); try simp only [Act.put, List.setIfInBounds_toArray, List.set_cons_zero, List.set_cons_succ]
        refine wpAnyH_take (i := 3) (v := ?hv2) rfl (by kernel_rfl) (by kernel_rfl) (by kernel_rfl) (fun _ _ _ h => h) (Or.inl ⟨by rfl, ?hy2⟩) (by assumption) ?hr2; (case hy2 => ((intro w hSw; (try dsimp only at hSw); go_simp) <;> with_reducible rfl)); try simp only [Act.put, List.setIfInBounds_toArray, List.set_cons_zero, List.set_cons_succ]
        refine wpAnyH_take (i := 4) (v := ?hv3) rfl (by kernel_rfl) (by kernel_rfl) (by kernel_rfl) (fun _ _ _ h => h) (Or.inl ⟨by rfl, ?hy3⟩) (by assumption) ?hr3; (case hy3 => ((intro w hSw; (try dsimp only at hSw); go_simp) <;> with_reducible rfl)); try simp only [Act.put, List.setIfInBounds_toArray, List.set_cons_zero, List.set_cons_succ]
        refine wpAnyH_take (i := 5) (v := ?hv4) rfl (by kernel_rfl) (by kernel_rfl) (by kernel_rfl) (fun _ _ _ h => h) (Or.inl ⟨by rfl, ?hy4⟩) (by assumption) ?hr4; (case hy4 => ((intro w hSw; (try dsimp only at hSw); go_simp) <;> with_reducible rfl)); try simp only [Act.put, List.setIfInBounds_toArray, List.set_cons_zero, List.set_cons_succ]
        refine wpAnyH_take (i := 7) (v := ?hv5) rfl (by kernel_rfl) (by kernel_rfl) (by kernel_rfl) (fun _ _ _ h => h) (Or.inl ⟨by rfl, ?hy5⟩) (by assumption) ?hr5; (case hy5 => ((intro w hSw; (try dsimp only at hSw); go_simp) <;> with_reducible rfl)); try simp only [Act.put, List.setIfInBounds_toArray, List.set_cons_zero, List.set_cons_succ]
        refine wpAnyH_take (i := 10) (v := ?hv6) rfl (by kernel_rfl) (by kernel_rfl) (by kernel_rfl) (fun _ _ _ h => h) (Or.inl ⟨by rfl, ?hy6⟩) (by assumption) ?hr6; (case hy6 => ((intro w hSw; (try dsimp only at hSw); go_simp) <;> with_reducible rfl)); try simp only [Act.put, List.setIfInBounds_toArray, List.set_cons_zero, List.set_cons_succ]
        refine wpAnyH_take (i := 11) (v := ?hv7) rfl (by kernel_rfl) (by kernel_rfl) (by kernel_rfl) (fun _ _ _ h => h) (Or.inl ⟨by rfl, ?hy7⟩) (by assumption) ?hr7; (case hy7 => ((intro w hSw; (try dsimp only at hSw); go_simp) <;> with_reducible rfl)); try simp only [Act.put, List.setIfInBounds_toArray, List.set_cons_zero, List.set_cons_succ]
        refine wpAnyH_take (i := 12) (v := ?hv8) rfl (by kernel_rfl) (by kernel_rfl) (by kernel_rfl) (fun _ _ _ h => h) (Or.inl ⟨by rfl, ?hy8⟩) (by assumption) ?hr8; (case hy8 => ((intro w hSw; (try dsimp only at hSw); go_simp) <;> with_reducible rfl)); try simp only [Act.put, List.setIfInBounds_toArray, List.set_cons_zero, List.set_cons_succ]
        obtain ⟨cA, fA, zA⟩ := blkC T0.out.f.fld
        obtain ⟨cG, fG, zG⟩ := blkC T0.out.g
        obtain ⟨cW, fW, zW⟩ := blkC T0.out.h
        have zw := T0.out.size
        refine wpAnyH_ready (rs := [1, 8]) (by kernel_rfl) (by simp) ?_
        refine AllReadyH.cons rfl (fun K hK => ?_) (AllReadyH.cons rfl (fun K hK => ?_) AllReadyH.nil)
        · go_simp
          refine hK.out _ _ ?_ (fun hHeld => ?_)
          · (try dsimp only); exact (blkC T0.out.f.fld).1
          clear hK K; try simp only [Act.put, List.setIfInBounds_toArray, List.set_cons_zero, List.set_cons_succ]
          clear cA fA zA cG fG zG cW fW zW zw
          obtain ⟨cA, fA, zA⟩ := blkC T0.out.f.fld
          obtain ⟨cG, fG, zG⟩ := blkC T0.out.g
          obtain ⟨cW, fW, zW⟩ := blkC T0.out.h
          have zw := T0.out.size
          refine wpAnyH_ready (rs := [2, 8]) (by kernel_rfl) (by simp) ?_
          refine AllReadyH.cons rfl (fun K hK => ?_) (AllReadyH.cons rfl (fun K hK => ?_) AllReadyH.nil)
          · go_simp
            (with_reducible refine Calls.mono (RP2.out _ R02.out) ?_)
            rintro e v1 ⟨g2, rfl, y1, y2, y3⟩
            have y3' : Below v0.heap.size v0 v1 := ⟨y3.os, y3.tape, y3.output, y3.size, y3.block⟩
            have T3 := Lib.hid (T0.out.stay y3')
            have U2 := Lib.hid y2
            have lg2 : w.heap.size + 1 + 1 + 1 ≤ g2 := Nat.le_trans T0.out.size y1
            have R4 := Lib.hid (fitRow_congr R03.out (y3'.block _ (fitRow_lt R03.out)))
            clear y1 y2 y3 y3' cA fA zA cG fG zG cW fW zW zw
            try go_wp2_with fail
            refine hK.out _ _ ?_ (fun hHeld => ?_)
            · (try dsimp only); exact (blkC T3.out.f.fld).1
            clear hK K; try simp only [Act.put, List.setIfInBounds_toArray, List.set_cons_zero, List.set_cons_succ]
            refine wpAnyH_take (i := 6) (v := ?hv9) rfl (by kernel_rfl) (by kernel_rfl) (by kernel_rfl) (fun _ _ _ h => h) (Or.inl ⟨by rfl, ?hy9⟩) (by assumption) ?hr9; (case hy9 => ((intro w hSw; (try dsimp only at hSw); go_simp) <;> with_reducible rfl)); try simp only [Act.put, List.setIfInBounds_toArray, List.set_cons_zero, List.set_cons_succ]
            refine wpAnyH_take (i := 14) (v := ?hv10) rfl (by kernel_rfl) (by kernel_rfl) (by kernel_rfl) (fun _ _ _ h => h) (Or.inl ⟨by rfl, ?hy10⟩) (by assumption) ?hr10; (case hy10 => ((intro w hSw; (try dsimp only at hSw); go_simp) <;> with_reducible rfl)); try simp only [Act.put, List.setIfInBounds_toArray, List.set_cons_zero, List.set_cons_succ]
            obtain ⟨cA, fA, zA⟩ := blkC T3.out.f.fld
            obtain ⟨cG, fG, zG⟩ := blkC T3.out.g
            obtain ⟨cW, fW, zW⟩ := blkC T3.out.h
            have zw := T3.out.size
            refine wpAnyH_ready (rs := [8]) (by kernel_rfl) (by simp) ?_; refine AllReadyH.cons rfl (fun K hK => ?_) AllReadyH.nil; go_simp
            refine hK.out _ _ ?_ (fun hHeld => ?_)
            · (try dsimp only); exact (blkC T3.out.f.fld).1
            clear hK K; try simp only [Act.put, List.setIfInBounds_toArray, List.set_cons_zero, List.set_cons_succ]
            clear cA fA zA cG fG zG cW fW zW zw
            obtain ⟨cA, fA, zA⟩ := blkC T3.out.f.fld
            obtain ⟨cG, fG, zG⟩ := blkC T3.out.g
            obtain ⟨cW, fW, zW⟩ := blkC T3.out.h
            have zw := T3.out.size
            refine wpAnyH_ready (rs := [9]) (by kernel_rfl) (by simp) ?_; refine AllReadyH.cons rfl (fun K hK => ?_) AllReadyH.nil; go_simp
            (with_reducible refine Calls.mono (RP3.out _ R4.out) ?_)
            rintro e v5 ⟨g3, rfl, y1, y2, y3⟩
            have y3' : Below v1.heap.size v1 v5 := ⟨y3.os, y3.tape, y3.output, y3.size, y3.block⟩
            have T7 := Lib.hid (T3.out.stay y3')
            have U6 := Lib.hid y2
            have lg3 : w.heap.size + 1 + 1 + 1 ≤ g3 := Nat.le_trans T3.out.size y1
            have R8 := Lib.hid (fitRow_congr U2.out (y3'.block _ (fitRow_lt U2.out)))
            clear y1 y2 y3 y3' cA fA zA cG fG zG cW fW zW zw
            try go_wp2_with fail
            refine hK.out _ _ ?_ (fun hHeld => ?_)
            · (try dsimp only); exact (blkC T7.out.f.fld).1
            clear hK K; try simp only [Act.put, List.setIfInBounds_toArray, List.set_cons_zero, List.set_cons_succ]
            refine wpAnyH_take (i := 13) (v := ?hv11) rfl (by kernel_rfl) (by kernel_rfl) (by kernel_rfl) (fun _ _ _ h => h) (Or.inl ⟨by rfl, ?hy11⟩) (by assumption) ?hr11; (case hy11 => ((intro w hSw; (try dsimp only at hSw); go_simp) <;> with_reducible rfl)); try simp only [Act.put, List.setIfInBounds_toArray, List.set_cons_zero, List.set_cons_succ]
            obtain ⟨cA, fA, zA⟩ := blkC T7.out.f.fld
            obtain ⟨cG, fG, zG⟩ := blkC T7.out.g
            obtain ⟨cW, fW, zW⟩ := blkC T7.out.h
            have zw := T7.out.size
            refine wpAnyH_ready (rs := [15]) (by kernel_rfl) (by simp) ?_; refine AllReadyH.cons rfl (fun K hK => ?_) AllReadyH.nil; go_simp
            have T10 := Lib.hid (T7.out.put2 (.slice (some ⟨g2, 0, none⟩) n N2))
            have R11 := Lib.hid (fitRow_put R4.out (p := w.heap.size + 1) (by omega) (.slice (some ⟨g2, 0, none⟩) n N2))
            have R12 := Lib.hid (fitRow_put R8.out (p := w.heap.size + 1) (by omega) (.slice (some ⟨g2, 0, none⟩) n N2))
            have R13 := Lib.hid (fitRow_put U6.out (p := w.heap.size + 1) (by omega) (.slice (some ⟨g2, 0, none⟩) n N2))
            generalize v5.setCell ⟨w.heap.size + 1, 4, none⟩ (.slice (some ⟨g2, 0, none⟩) n N2) = v9 at *
            clear cA fA zA cG fG zG cW fW zW zw
            refine hK.out _ _ ?_ (fun hHeld => ?_)
            · (try dsimp only); exact (blkC T10.out.f.fld).1
            clear hK K; try simp only [Act.put, List.setIfInBounds_toArray, List.set_cons_zero, List.set_cons_succ]
            refine wpAnyH_take (i := 16) (v := ?hv12) rfl (by kernel_rfl) (by kernel_rfl) (by kernel_rfl) (fun _ _ _ h => h) (Or.inl ⟨by rfl, ?hy12⟩) (by assumption) ?hr12; (case hy12 => ((intro w hSw; (try dsimp only at hSw); go_simp) <;> with_reducible rfl)); try simp only [Act.put, List.setIfInBounds_toArray, List.set_cons_zero, List.set_cons_succ]
            obtain ⟨cA, fA, zA⟩ := blkC T10.out.f.fld
            obtain ⟨cG, fG, zG⟩ := blkC T10.out.g
            obtain ⟨cW, fW, zW⟩ := blkC T10.out.h
            have zw := T10.out.size
            refine wpAnyH_ready (rs := [17]) (by kernel_rfl) (by simp) ?_; refine AllReadyH.cons rfl (fun K hK => ?_) AllReadyH.nil; go_simp
            have T15 := Lib.hid (T10.out.put3 (.slice (some ⟨g3, 0, none⟩) n N3))
            have R16 := Lib.hid (fitRow_put R11.out (p := w.heap.size + 1 + 1) (by omega) (.slice (some ⟨g3, 0, none⟩) n N3))
            have R17 := Lib.hid (fitRow_put R12.out (p := w.heap.size + 1 + 1) (by omega) (.slice (some ⟨g3, 0, none⟩) n N3))
            have R18 := Lib.hid (fitRow_put R13.out (p := w.heap.size + 1 + 1) (by omega) (.slice (some ⟨g3, 0, none⟩) n N3))
            generalize v9.setCell ⟨w.heap.size + 1 + 1, 4, none⟩ (.slice (some ⟨g3, 0, none⟩) n N3) = v14 at *
            clear cA fA zA cG fG zG cW fW zW zw
            refine hK.out _ _ ?_ (fun hHeld => ?_)
            · (try dsimp only); exact (blkC T15.out.f.fld).1
            clear hK K; try simp only [Act.put, List.setIfInBounds_toArray, List.set_cons_zero, List.set_cons_succ]
            refine wpAnyH_done (by kernel_rfl) ?_ _
            go_wp2_with fail
            go_meet
            case rel => exact pent_mk T15.out R17.out R18.out k2 k3
          · go_simp
            refine hK.out _ _ ?_ (fun hHeld => ?_)
            · (try dsimp only); exact (blkC T0.out.f.fld).1
            clear hK K; try simp only [Act.put, List.setIfInBounds_toArray, List.set_cons_zero, List.set_cons_succ]
            clear cA fA zA cG fG zG cW fW zW zw
            obtain ⟨cA, fA, zA⟩ := blkC T0.out.f.fld
            obtain ⟨cG, fG, zG⟩ := blkC T0.out.g
            obtain ⟨cW, fW, zW⟩ := blkC T0.out.h
            have zw := T0.out.size
            refine wpAnyH_ready (rs := [2]) (by kernel_rfl) (by simp) ?_; refine AllReadyH.cons rfl (fun K hK => ?_) AllReadyH.nil; go_simp
            (with_reducible refine Calls.mono (RP2.out _ R02.out) ?_)
            rintro e v19 ⟨g2, rfl, y1, y2, y3⟩
            have y3' : Below v0.heap.size v0 v19 := ⟨y3.os, y3.tape, y3.output, y3.size, y3.block⟩
            have T21 := Lib.hid (T0.out.stay y3')
            have U20 := Lib.hid y2
            have lg2 : w.heap.size + 1 + 1 + 1 ≤ g2 := Nat.le_trans T0.out.size y1
            have R22 := Lib.hid (fitRow_congr R03.out (y3'.block _ (fitRow_lt R03.out)))
            clear y1 y2 y3 y3' cA fA zA cG fG zG cW fW zW zw
            try go_wp2_with fail
            refine hK.out _ _ ?_ (fun hHeld => ?_)
            · (try dsimp only); exact (blkC T21.out.f.fld).1
            clear hK K; try simp only [Act.put, List.setIfInBounds_toArray, List.set_cons_zero, List.set_cons_succ]
            refine wpAnyH_take (i := 6) (v := ?hv13) rfl (by kernel_rfl) (by kernel_rfl) (by kernel_rfl) (fun _ _ _ h => h) (Or.inl ⟨by rfl, ?hy13⟩) (by assumption) ?hr13; (case hy13 => ((intro w hSw; (try dsimp only at hSw); go_simp) <;> with_reducible rfl)); try simp only [Act.put, List.setIfInBounds_toArray, List.set_cons_zero, List.set_cons_succ]
            refine wpAnyH_take (i := 14) (v := ?hv14) rfl (by kernel_rfl) (by kernel_rfl) (by kernel_rfl) (fun _ _ _ h => h) (Or.inl ⟨by rfl, ?hy14⟩) (by assumption) ?hr14; (case hy14 => ((intro w hSw; (try dsimp only at hSw); go_simp) <;> with_reducible rfl)); try simp only [Act.put, List.setIfInBounds_toArray, List.set_cons_zero, List.set_cons_succ]
            obtain ⟨cA, fA, zA⟩ := blkC T21.out.f.fld
            obtain ⟨cG, fG, zG⟩ := blkC T21.out.g
            obtain ⟨cW, fW, zW⟩ := blkC T21.out.h
            have zw := T21.out.size
            refine wpAnyH_ready (rs := [9]) (by kernel_rfl) (by simp) ?_; refine AllReadyH.cons rfl (fun K hK => ?_) AllReadyH.nil; go_simp
            (with_reducible refine Calls.mono (RP3.out _ R22.out) ?_)
            rintro e v23 ⟨g3, rfl, y1, y2, y3⟩
            have y3' : Below v19.heap.size v19 v23 := ⟨y3.os, y3.tape, y3.output, y3.size, y3.block⟩
            have T25 := Lib.hid (T21.out.stay y3')
            have U24 := Lib.hid y2
            have lg3 : w.heap.size + 1 + 1 + 1 ≤ g3 := Nat.le_trans T21.out.size y1
            have R26 := Lib.hid (fitRow_congr U20.out (y3'.block _ (fitRow_lt U20.out)))
            clear y1 y2 y3 y3' cA fA zA cG fG zG cW fW zW zw
            try go_wp2_with fail
            refine hK.out _ _ ?_ (fun hHeld => ?_)
            · (try dsimp only); exact (blkC T25.out.f.fld).1
            clear hK K; try simp only [Act.put, List.setIfInBounds_toArray, List.set_cons_zero, List.set_cons_succ]
            refine wpAnyH_take (i := 13) (v := ?hv15) rfl (by kernel_rfl) (by kernel_rfl) (by kernel_rfl) (fun _ _ _ h => h) (Or.inl ⟨by rfl, ?hy15⟩) (by assumption) ?hr15; (case hy15 => ((intro w hSw; (try dsimp only at hSw); go_simp) <;> with_reducible rfl)); try simp only [Act.put, List.setIfInBounds_toArray, List.set_cons_zero, List.set_cons_succ]
            obtain ⟨cA, fA, zA⟩ := blkC T25.out.f.fld
            obtain ⟨cG, fG, zG⟩ := blkC T25.out.g
            obtain ⟨cW, fW, zW⟩ := blkC T25.out.h
            have zw := T25.out.size
            refine wpAnyH_ready (rs := [15]) (by kernel_rfl) (by simp) ?_; refine AllReadyH.cons rfl (fun K hK => ?_) AllReadyH.nil; go_simp
            have T28 := Lib.hid (T25.out.put2 (.slice (some ⟨g2, 0, none⟩) n N2))
            have R29 := Lib.hid (fitRow_put R22.out (p := w.heap.size + 1) (by omega) (.slice (some ⟨g2, 0, none⟩) n N2))
            have R30 := Lib.hid (fitRow_put R26.out (p := w.heap.size + 1) (by omega) (.slice (some ⟨g2, 0, none⟩) n N2))
            have R31 := Lib.hid (fitRow_put U24.out (p := w.heap.size + 1) (by omega) (.slice (some ⟨g2, 0, none⟩) n N2))
            generalize v23.setCell ⟨w.heap.size + 1, 4, none⟩ (.slice (some ⟨g2, 0, none⟩) n N2) = v27 at *
            clear cA fA zA cG fG zG cW fW zW zw
            refine hK.out _ _ ?_ (fun hHeld => ?_)
            · (try dsimp only); exact (blkC T28.out.f.fld).1
            clear hK K; try simp only [Act.put, List.setIfInBounds_toArray, List.set_cons_zero, List.set_cons_succ]
            refine wpAnyH_take (i := 16) (v := ?hv16) rfl (by kernel_rfl) (by kernel_rfl) (by kernel_rfl) (fun _ _ _ h => h) (Or.inl ⟨by rfl, ?hy16⟩) (by assumption) ?hr16; (case hy16 => ((intro w hSw; (try dsimp only at hSw); go_simp) <;> with_reducible rfl)); try simp only [Act.put, List.setIfInBounds_toArray, List.set_cons_zero, List.set_cons_succ]
            obtain ⟨cA, fA, zA⟩ := blkC T28.out.f.fld
            obtain ⟨cG, fG, zG⟩ := blkC T28.out.g
            obtain ⟨cW, fW, zW⟩ := blkC T28.out.h
            have zw := T28.out.size
            refine wpAnyH_ready (rs := [17]) (by kernel_rfl) (by simp) ?_; refine AllReadyH.cons rfl (fun K hK => ?_) AllReadyH.nil; go_simp
            have T33 := Lib.hid (T28.out.put3 (.slice (some ⟨g3, 0, none⟩) n N3))
            have R34 := Lib.hid (fitRow_put R29.out (p := w.heap.size + 1 + 1) (by omega) (.slice (some ⟨g3, 0, none⟩) n N3))
            have R35 := Lib.hid (fitRow_put R30.out (p := w.heap.size + 1 + 1) (by omega) (.slice (some ⟨g3, 0, none⟩) n N3))
            have R36 := Lib.hid (fitRow_put R31.out (p := w.heap.size + 1 + 1) (by omega) (.slice (some ⟨g3, 0, none⟩) n N3))
            generalize v27.setCell ⟨w.heap.size + 1 + 1, 4, none⟩ (.slice (some ⟨g3, 0, none⟩) n N3) = v32 at *
            clear cA fA zA cG fG zG cW fW zW zw
            refine hK.out _ _ ?_ (fun hHeld => ?_)
            · (try dsimp only); exact (blkC T33.out.f.fld).1
            clear hK K; try simp only [Act.put, List.setIfInBounds_toArray, List.set_cons_zero, List.set_cons_succ]
            refine wpAnyH_done (by kernel_rfl) ?_ _
            go_wp2_with fail
            go_meet
            case rel => exact pent_mk T33.out R35.out R36.out k2 k3
        · go_simp
          refine hK.out _ _ ?_ (fun hHeld => ?_)
          · (try dsimp only); exact (blkC T0.out.f.fld).1
          clear hK K; try simp only [Act.put, List.setIfInBounds_toArray, List.set_cons_zero, List.set_cons_succ]
          clear cA fA zA cG fG zG cW fW zW zw
          obtain ⟨cA, fA, zA⟩ := blkC T0.out.f.fld
          obtain ⟨cG, fG, zG⟩ := blkC T0.out.g
          obtain ⟨cW, fW, zW⟩ := blkC T0.out.h
          have zw := T0.out.size
          refine wpAnyH_ready (rs := [1]) (by kernel_rfl) (by simp) ?_; refine AllReadyH.cons rfl (fun K hK => ?_) AllReadyH.nil; go_simp
          refine hK.out _ _ ?_ (fun hHeld => ?_)
          · (try dsimp only); exact (blkC T0.out.f.fld).1
          clear hK K; try simp only [Act.put, List.setIfInBounds_toArray, List.set_cons_zero, List.set_cons_succ]
          clear cA fA zA cG fG zG cW fW zW zw
          obtain ⟨cA, fA, zA⟩ := blkC T0.out.f.fld
          obtain ⟨cG, fG, zG⟩ := blkC T0.out.g
          obtain ⟨cW, fW, zW⟩ := blkC T0.out.h
          have zw := T0.out.size
          refine wpAnyH_ready (rs := [2]) (by kernel_rfl) (by simp) ?_; refine AllReadyH.cons rfl (fun K hK => ?_) AllReadyH.nil; go_simp
          (with_reducible refine Calls.mono (RP2.out _ R02.out) ?_)
          rintro e v37 ⟨g2, rfl, y1, y2, y3⟩
          have y3' : Below v0.heap.size v0 v37 := ⟨y3.os, y3.tape, y3.output, y3.size, y3.block⟩
          have T39 := Lib.hid (T0.out.stay y3')
          have U38 := Lib.hid y2
          have lg2 : w.heap.size + 1 + 1 + 1 ≤ g2 := Nat.le_trans T0.out.size y1
          have R40 := Lib.hid (fitRow_congr R03.out (y3'.block _ (fitRow_lt R03.out)))
          clear y1 y2 y3 y3' cA fA zA cG fG zG cW fW zW zw
          try go_wp2_with fail
          refine hK.out _ _ ?_ (fun hHeld => ?_)
          · (try dsimp only); exact (blkC T39.out.f.fld).1
          clear hK K; try simp only [Act.put, List.setIfInBounds_toArray, List.set_cons_zero, List.set_cons_succ]
          refine wpAnyH_take (i := 6) (v := ?hv17) rfl (by kernel_rfl) (by kernel_rfl) (by kernel_rfl) (fun _ _ _ h => h) (Or.inl ⟨by rfl, ?hy17⟩) (by assumption) ?hr17; (case hy17 => ((intro w hSw; (try dsimp only at hSw); go_simp) <;> with_reducible rfl)); try simp only [Act.put, List.setIfInBounds_toArray, List.set_cons_zero, List.set_cons_succ]
          refine wpAnyH_take (i := 14) (v := ?hv18) rfl (by kernel_rfl) (by kernel_rfl) (by kernel_rfl) (fun _ _ _ h => h) (Or.inl ⟨by rfl, ?hy18⟩) (by assumption) ?hr18; (case hy18 => ((intro w hSw; (try dsimp only at hSw); go_simp) <;> with_reducible rfl)); try simp only [Act.put, List.setIfInBounds_toArray, List.set_cons_zero, List.set_cons_succ]
          obtain ⟨cA, fA, zA⟩ := blkC T39.out.f.fld
          obtain ⟨cG, fG, zG⟩ := blkC T39.out.g
          obtain ⟨cW, fW, zW⟩ := blkC T39.out.h
          have zw := T39.out.size
          refine wpAnyH_ready (rs := [9]) (by kernel_rfl) (by simp) ?_; refine AllReadyH.cons rfl (fun K hK => ?_) AllReadyH.nil; go_simp
          (with_reducible refine Calls.mono (RP3.out _ R40.out) ?_)
          rintro e v41 ⟨g3, rfl, y1, y2, y3⟩
          have y3' : Below v37.heap.size v37 v41 := ⟨y3.os, y3.tape, y3.output, y3.size, y3.block⟩
          have T43 := Lib.hid (T39.out.stay y3')
          have U42 := Lib.hid y2
          have lg3 : w.heap.size + 1 + 1 + 1 ≤ g3 := Nat.le_trans T39.out.size y1
          have R44 := Lib.hid (fitRow_congr U38.out (y3'.block _ (fitRow_lt U38.out)))
          clear y1 y2 y3 y3' cA fA zA cG fG zG cW fW zW zw
          try go_wp2_with fail
          refine hK.out _ _ ?_ (fun hHeld => ?_)
          · (try dsimp only); exact (blkC T43.out.f.fld).1
          clear hK K; try simp only [Act.put, List.setIfInBounds_toArray, List.set_cons_zero, List.set_cons_succ]
          refine wpAnyH_take (i := 13) (v := ?hv19) rfl (by kernel_rfl) (by kernel_rfl) (by kernel_rfl) (fun _ _ _ h => h) (Or.inl ⟨by rfl, ?hy19⟩) (by assumption) ?hr19; (case hy19 => ((intro w hSw; (try dsimp only at hSw); go_simp) <;> with_reducible rfl)); try simp only [Act.put, List.setIfInBounds_toArray, List.set_cons_zero, List.set_cons_succ]
          obtain ⟨cA, fA, zA⟩ := blkC T43.out.f.fld
          obtain ⟨cG, fG, zG⟩ := blkC T43.out.g
          obtain ⟨cW, fW, zW⟩ := blkC T43.out.h
          have zw := T43.out.size
          refine wpAnyH_ready (rs := [15]) (by kernel_rfl) (by simp) ?_; refine AllReadyH.cons rfl (fun K hK => ?_) AllReadyH.nil; go_simp
          have T46 := Lib.hid (T43.out.put2 (.slice (some ⟨g2, 0, none⟩) n N2))
          have R47 := Lib.hid (fitRow_put R40.out (p := w.heap.size + 1) (by omega) (.slice (some ⟨g2, 0, none⟩) n N2))
          have R48 := Lib.hid (fitRow_put R44.out (p := w.heap.size + 1) (by omega) (.slice (some ⟨g2, 0, none⟩) n N2))
          have R49 := Lib.hid (fitRow_put U42.out (p := w.heap.size + 1) (by omega) (.slice (some ⟨g2, 0, none⟩) n N2))
          generalize v41.setCell ⟨w.heap.size + 1, 4, none⟩ (.slice (some ⟨g2, 0, none⟩) n N2) = v45 at *
          clear cA fA zA cG fG zG cW fW zW zw
          refine hK.out _ _ ?_ (fun hHeld => ?_)
          · (try dsimp only); exact (blkC T46.out.f.fld).1
          clear hK K; try simp only [Act.put, List.setIfInBounds_toArray, List.set_cons_zero, List.set_cons_succ]
          refine wpAnyH_take (i := 16) (v := ?hv20) rfl (by kernel_rfl) (by kernel_rfl) (by kernel_rfl) (fun _ _ _ h => h) (Or.inl ⟨by rfl, ?hy20⟩) (by assumption) ?hr20; (case hy20 => ((intro w hSw; (try dsimp only at hSw); go_simp) <;> with_reducible rfl)); try simp only [Act.put, List.setIfInBounds_toArray, List.set_cons_zero, List.set_cons_succ]
          obtain ⟨cA, fA, zA⟩ := blkC T46.out.f.fld
          obtain ⟨cG, fG, zG⟩ := blkC T46.out.g
          obtain ⟨cW, fW, zW⟩ := blkC T46.out.h
          have zw := T46.out.size
          refine wpAnyH_ready (rs := [17]) (by kernel_rfl) (by simp) ?_; refine AllReadyH.cons rfl (fun K hK => ?_) AllReadyH.nil; go_simp
          have T51 := Lib.hid (T46.out.put3 (.slice (some ⟨g3, 0, none⟩) n N3))
          have R52 := Lib.hid (fitRow_put R47.out (p := w.heap.size + 1 + 1) (by omega) (.slice (some ⟨g3, 0, none⟩) n N3))
          have R53 := Lib.hid (fitRow_put R48.out (p := w.heap.size + 1 + 1) (by omega) (.slice (some ⟨g3, 0, none⟩) n N3))
          have R54 := Lib.hid (fitRow_put R49.out (p := w.heap.size + 1 + 1) (by omega) (.slice (some ⟨g3, 0, none⟩) n N3))
          generalize v45.setCell ⟨w.heap.size + 1 + 1, 4, none⟩ (.slice (some ⟨g3, 0, none⟩) n N3) = v50 at *
          clear cA fA zA cG fG zG cW fW zW zw
          refine hK.out _ _ ?_ (fun hHeld => ?_)
          · (try dsimp only); exact (blkC T51.out.f.fld).1
          clear hK K; try simp only [Act.put, List.setIfInBounds_toArray, List.set_cons_zero, List.set_cons_succ]
          refine wpAnyH_done (by kernel_rfl) ?_ _
          go_wp2_with fail
          go_meet
          case rel => exact pent_mk T51.out R53.out R54.out k2 k3
      case rest =>
        clear RP2 RP3 s2 s3 k2 k3 T0 R02 R03 TT q1 q2 a1 a2 a3 a4 l2 l3
        obtain ⟨X, Y, W, H, n, b, v, g2, N2, v2, g3, N3, v3, F, hG, hW, ⟨m1, m2, m3, m4⟩, ⟨m5, m6, m7, m8⟩, hb⟩ := hcut
        have S0 := Lib.hid (St5.mk F hG hW hb)
        have hn1 := F.pos
        have hn2 := F.few
        have BL := Lib.hid (fun W' (hb : Below wc.heap.size wc W') => blend_any X Y W H n b n g2 N2 g3 N3 v v2 v3 W' F.chk F.num (flAt_congr F.row (hb.block _ F.lt)) (flAt_congr m1 (hb.block _ m4)) (flAt_congr m5 (hb.block _ m8)) F.hgt m3 m7)
        have RB := Lib.hid (fun W' (hb : Below wc.heap.size wc W') => rblend_any X Y W H n b n g2 N2 g3 N3 v v2 v3 W' F.chk F.num (flAt_congr F.row (hb.block _ F.lt)) (flAt_congr m1 (hb.block _ m4)) (flAt_congr m5 (hb.block _ m8)) F.hgt m3 m7)
        have B2 := Lib.hid (fun W' (hb : Below wc.heap.size wc W') => blend_any X Y W H n b n b n g3 N3 v v v3 W' F.chk F.num (flAt_congr F.row (hb.block _ F.lt)) (flAt_congr F.row (hb.block _ F.lt)) (flAt_congr m5 (hb.block _ m8)) F.hgt F.hgt m7)
        have SELF := Lib.hid (fun i hi => blW_self (n := n) (s := v3) F.hgt m7 i hi)
        clear F hG hW hb m1 m2 m3 m4 m5 m6 m7 m8
        obtain ⟨cA, fA, zA⟩ := blkC S0.out.f.fld
        obtain ⟨cG, fG, zG⟩ := blkC S0.out.g
        obtain ⟨cW, fW, zW⟩ := blkC S0.out.h
        have z0 := S0.out.size
        go_wp2_with fail
        refine (BL.out _ (Below.refl _ _)).mono ?_
        intro e w4 hp
        obtain ⟨x1, y1, u1, h1, p1, l1, q1, k1, rfl, r1, hb4⟩ := made_res hp
        have S4 := Lib.hid (S0.out.stay hb4)
        have z4 := hb4.size
        clear hp cA fA zA cG fG zG cW fW zW BL
        obtain ⟨cA, fA, zA⟩ := blkC S4.out.f.fld
        obtain ⟨cG, fG, zG⟩ := blkC S4.out.g
        obtain ⟨cW, fW, zW⟩ := blkC S4.out.h
        have hb5 : Below w4.heap.size w4 (w4.alloc (fldO x1 y1 u1 h1 (.slice p1 l1 q1))) := (Below.refl _ _).alloc (Nat.le_refl _) _
        have HB5 := Lib.hid (hb4.trans (hb5.mono hb4.size))
        have S5 := Lib.hid (S4.out.stay hb5)
        have HQ5 := Lib.hid (heap_alloc_new w4 (fldO x1 y1 u1 h1 (.slice p1 l1 q1)))
        have R5 := Lib.hid (r1.stay hb5)
        clear hb4 hb5 r1
        go_wp2_with fail
        refine (RB.out _ HB5.out).mono ?_
        intro e w6 hp
        obtain ⟨x2, y2, u2, h2, p2, l2, q2, k2, rfl, r2, hb6⟩ := made_res hp
        have S6 := Lib.hid (S5.out.stay hb6)
        have HQ6 := Lib.hid (blkStay HQ5.out hb6)
        have R6 := Lib.hid (R5.out.stay hb6)
        have HB6 := Lib.hid (HB5.out.trans (hb6.mono HB5.out.size))
        have z6 := HB6.out.size
        clear hp cA fA zA cG fG zG cW fW zW RB HB5 S5 HQ5 R5 S4 hb6
        obtain ⟨cA, fA, zA⟩ := blkC S6.out.f.fld
        obtain ⟨cG, fG, zG⟩ := blkC S6.out.g
        obtain ⟨cW, fW, zW⟩ := blkC S6.out.h
        obtain ⟨cQ, fQ, zQ⟩ := blkC HQ6.out
        have hb7 : Below w6.heap.size w6 (w6.alloc (fldO x2 y2 u2 h2 (.slice p2 l2 q2))) := (Below.refl _ _).alloc (Nat.le_refl _) _
        have HB7 := Lib.hid (HB6.out.trans (hb7.mono HB6.out.size))
        have S7 := Lib.hid (S6.out.stay hb7)
        have HQ7 := Lib.hid (blkStay HQ6.out hb7)
        have R7 := Lib.hid (R6.out.stay hb7)
        have T7 := Lib.hid (r2.stay hb7)
        clear hb7 r2
        go_wp2_with fail
        refine (same_res hn1 (by omega) R7.out T7.out).mono ?_
        rintro e w8 ⟨rfl, hb8⟩
        have S8 := Lib.hid (S7.out.stay hb8)
        have HQ8 := Lib.hid (blkStay HQ7.out hb8)
        have HB8 := Lib.hid (HB7.out.trans (hb8.mono HB7.out.size))
        clear cA fA zA cG fG zG cW fW zW cQ fQ zQ HB7 S7 HQ7 R7 T7 R6 HB6 HQ6 S6 hb8
        obtain ⟨cA, fA, zA⟩ := blkC S8.out.f.fld
        obtain ⟨cG, fG, zG⟩ := blkC S8.out.g
        obtain ⟨cW, fW, zW⟩ := blkC S8.out.h
        obtain ⟨cQ, fQ, zQ⟩ := blkC HQ8.out
        go_wp2_with fail
        refine (B2.out _ HB8.out).mono ?_
        intro e w9 hp
        obtain ⟨x3, y3, u3, h3, p3, l3, q3, k3, rfl, r3, hb9⟩ := made_res hp
        have S9 := Lib.hid (S8.out.stay hb9)
        have HQ9 := Lib.hid (blkStay HQ8.out hb9)
        have HB9 := Lib.hid (HB8.out.trans (hb9.mono HB8.out.size))
        have z8 := HB8.out.size
        have zq8 : w4.heap.size < w8.heap.size := (blkC HQ8.out).2.2
        have z9 := hb9.size
        clear cA fA zA cG fG zG cW fW zW cQ fQ zQ S8 HQ8 HB8 hb9 hp B2
        obtain ⟨cA, fA, zA⟩ := blkC S9.out.f.fld
        obtain ⟨cG, fG, zG⟩ := blkC S9.out.g
        obtain ⟨cW, fW, zW⟩ := blkC S9.out.h
        obtain ⟨cQ, fQ, zQ⟩ := blkC HQ9.out
        rcases r3 with ⟨a1, rfl, rfl, rfl, rfl, hs, rfl⟩ | ⟨a1, a2, e1, e2, e3, e4, ⟨b9, cap9, hs, lo9, lt9, row9⟩, rfl⟩ | ⟨a1, a2, rfl, rfl, rfl, rfl, hs, rfl⟩
        · have hk : (blE n v3 != 0) = true := by simpa using a1
          clear a1
          generalize blE n v3 = er at *
          go_wp2
          go_ret
          exact ⟨rfl, set5_below S9.out.bel w4.heap.size _ _ _ _ _ (by omega)⟩
        · obtain rfl := e1.symm
          obtain rfl := e2.symm
          obtain rfl := e3.symm
          obtain rfl := e4.symm
          obtain ⟨rfl, rfl, rfl⟩ : p3 = some ⟨b9, 0, none⟩ ∧ n = l3 ∧ cap9 = q3 := by cases hs; exact ⟨rfl, rfl, rfl⟩
          clear hs
          have lb := S0.out.f.lt
          have lw := S0.out.f.low
          have S10 := Lib.hid (show St5 w (set5 w9 w4.heap.size (.int .i64 X) (.int .i64 Y) (.int .i64 W) (.int .i64 H) (.slice (some ⟨b9, 0, none⟩) n cap9)) X Y W H n b v (.slice (some ⟨g2, 0, none⟩) n N2) (.slice (some ⟨g3, 0, none⟩) n N3) from
            ⟨S9.out.f.congr (set5_heap w9 w4.heap.size w.heap.size _ _ _ _ _ (by omega)) (set5_heap w9 w4.heap.size b _ _ _ _ _ (by omega)) (set5_size _ _ _ _ _ _ _), (set5_heap w9 _ _ _ _ _ _ _ (by omega)).trans S9.out.g, (set5_heap w9 _ _ _ _ _ _ _ (by omega)).trans S9.out.h, set5_below S9.out.bel _ _ _ _ _ _ (by omega)⟩)
          have Q10 := Lib.hid (set5_self (.int .i64 X) (.int .i64 Y) (.int .i64 W) (.int .i64 H) (.slice (some ⟨b9, 0, none⟩) n cap9) HQ9.out)
          have R10 := Lib.hid (flAt_congr row9 (set5_heap w9 w4.heap.size b9 (.int .i64 X) (.int .i64 Y) (.int .i64 W) (.int .i64 H) (.slice (some ⟨b9, 0, none⟩) n cap9) (by omega)))
          clear a1 a2
          have RA := Lib.hid S10.out.f.row
          go_wp2_with fail
          unfold set5 at S10 Q10 R10 RA
          generalize ((((w9.setCell ⟨w4.heap.size, 0, none⟩ (.int .i64 X)).setCell ⟨w4.heap.size, 1, none⟩ (.int .i64 Y)).setCell ⟨w4.heap.size, 2, none⟩ (.int .i64 W)).setCell ⟨w4.heap.size, 3, none⟩ (.int .i64 H)).setCell ⟨w4.heap.size, 4, none⟩ (.slice (some ⟨b9, 0, none⟩) n cap9) = w10 at *
          clear cA fA zA cG fG zG cW fW zW cQ fQ zQ
          go_loopw [75] (fun i wr => ∃ k : Nat, k ≤ n ∧ i = .int .i64 k ∧ wr = w10) (fun i _ => n - (intOf i).toNat)
          case atStart => exact ⟨0, Nat.zero_le _, rfl, rfl⟩
          case round =>
            obtain ⟨k, hk, rfl, rfl⟩ := hrel
            by_cases hlt : k < n
            · have c1 := R10.out k hlt
              have c2 := RA.out k hlt
              have se := SELF.out k hlt
              have se2 : (FloatKind.f32.format.order (blW v v v3 k) (v k) != some .eq) = false := by rw [bne, se]; rfl
              rw [Nat.zero_add] at c1 c2
              obtain ⟨cA, fA, zA⟩ := blkC S10.out.f.fld
              obtain ⟨cQ, fQ, zQ⟩ := blkC Q10.out
              generalize blW v v v3 k = va at *
              generalize v k = vb at *
              go_wp2
              go_roundw
              case rel => first | exact ⟨k + 1, by omega, by go_num, rfl⟩ | exact ⟨k + 1, by omega, by go_num, trivial⟩
              case measure => simp [intOf]; omega
            · go_wp2
              go_ret
              exact ⟨rfl, S10.out.bel⟩
        · have hk : ((3 : Int) != 0) = true := by decide
          cases hs
          clear a1 a2
          go_wp2
          go_ret
          exact ⟨rfl, set5_below S9.out.bel w4.heap.size _ _ _ _ _ (by omega)⟩
end Go.Proofs.Ytihjemookgnafaa

/- A field that came in, opened: four integers, and a slice of singles that is empty or known cell by cell. -/
namespace Go.Proofs.Ytihjemookgnafaa
open Go.ChangeShapes Go.WideShapes Go.ChangeAt Go.RowKit Go.Joins Fl

section
variable {H : Type} {enc : TypeId × Value → H} {w : World} {base : Nat} {spare : Nat → Bool} {held : Bool}

theorem trod_f32 {P : Program} {t : TypeId} {fuel : Nat} {v : Value} {y : DataW H × List MemPlace} (ht : P.underlying t = some (.float .f32)) (h : DataW.trod enc P w base spare held fuel t [v] = some y) : ∃ b, v = .float .f32 b ∧ b < 4294967296 := by
  cases fuel with
  | zero => simp [DataW.trod] at h
  | succ n =>
    unfold DataW.trod at h
    rw [ht] at h
    cases v <;> simp at h
    rename_i k b
    obtain ⟨⟨rfl, hw⟩, _⟩ := h
    exact ⟨b, rfl, by simpa [Lit.wf] using hw⟩

theorem array5 {α : Type} {cs : Array α} (h : cs.size = 5) : ∃ c0 c1 c2 c3 c4, cs = #[c0, c1, c2, c3, c4] := by
  obtain ⟨l⟩ := cs
  match l, h with
  | [c0, c1, c2, c3, c4], _ => exact ⟨c0, c1, c2, c3, c4, rfl⟩

theorem flAt_congr' {w w' : World} {b off n : Nat} {f : Nat → Nat} (h : FlAt w b off n f) (e : w'.heap[b]? = w.heap[b]?) : FlAt w' b off n f := fun i hi => by
  rw [← h i hi]; exact World.cell?_of_block (w := w) (a := ⟨b, off + i, none⟩) e

/-- What a slice of singles is: empty, or known cell by cell. -/
def SlF (w : World) (s : Value) : Prop :=
  (∃ a cap, s = .slice a 0 cap) ∨ ∃ b off len cap x, s = .slice (some ⟨b, off, none⟩) len cap ∧ 0 < len ∧ len ≤ 9223372036854775807 ∧ FlAt w b off len x ∧ wf32 len x

theorem open_singles {t e : TypeId} {fuel : Nat} {cs : List Value} {y : DataW H × List MemPlace} (ht : Try.prog.underlying t = some (.slice e)) (he : Try.prog.underlying e = some (.float .f32)) (hc : Try.prog.cellsOf e = 1)
    (h : DataW.trod enc Try.prog w base spare held fuel t cs = some y) : ∃ s, cs = [s] ∧ SlF w s := by
  rcases Go.Deep.open_slice1 ht hc h with ⟨rfl, _⟩ | ⟨a, len, cap, m, n, V, D, Pl, rfl, hb, hl, hm, hmm, _, hx⟩
  · exact ⟨_, rfl, .inl ⟨none, 0, rfl⟩⟩
  · refine ⟨_, rfl, ?_⟩
    rcases Nat.eq_zero_or_pos len with z | z
    · subst z; exact .inl ⟨_, _, rfl⟩
    · have hlm : len ≤ m := by rw [hmm]; split <;> omega
      have h0 := (hx 0 (by omega)).1
      obtain ⟨b, off, spot⟩ := a
      have hspot : spot = none := by simpa [Addr.add] using World.cell?_spot h0
      subst hspot
      have hv : ∀ i, i < len → ∃ x, V i = .float .f32 x ∧ x < 4294967296 := fun i hi => trod_f32 he (hx i (by omega)).2
      refine .inr ⟨b, off, len, cap, fun i => match V i with | .float _ x => x | _ => 0, rfl, z, ?_, fun i hi => ?_, fun i hi => ?_⟩
      · exact Nat.le_trans hl (Nat.le_trans hm (by decide))
      · have h1 := (hx i (by omega)).1
        obtain ⟨x, e1, _⟩ := hv i hi
        rw [← Go.WideShapes.add_plain, h1]
        simp only [e1]
      · obtain ⟨x, e1, e2⟩ := hv i hi
        simp only [e1]; exact e2

theorem cellsF : Try.prog.cellsOf 36 = 5 := by kernel_rfl
theorem cellsR : Try.prog.cellsOf 23 = 4 := by kernel_rfl
theorem cellsS : Try.prog.cellsOf 34 = 1 := by kernel_rfl
theorem cells1 : Try.prog.cellsOf 37 = 1 := by kernel_rfl
theorem cellsI : Try.prog.cellsOf 3 = 1 := by kernel_rfl

set_option maxRecDepth 100000 in
theorem open_field {r : Reach} {b0 : Nat} {v : Value} {d : DataW H} {p : List MemPlace} (hv : Value.okWide Try.prog w r b0 36 v) (h : DataW.Trod enc Try.prog w base spare held 36 v d p) :
    ∃ X Y W' H' : Int, ∃ s, v = fldV X Y W' H' s ∧ SlF w s := by
  obtain ⟨cs, rfl, hsz⟩ := okWide_struct Try.underlying36 hv
  obtain ⟨c0, c1, c2, c3, c4, rfl⟩ := array5 (hsz.trans cellsF)
  obtain ⟨fuel, hf⟩ := h
  obtain ⟨y0, y1, n, _, _, h0, h1⟩ := trod_struct2 Try.underlying36 hf
  rw [cellsR] at h0
  rw [cellsS] at h1
  obtain ⟨s, e4, hs⟩ := open_singles Try.underlying34 Try.underlying37 cells1 h1
  obtain ⟨z0, z1, z2, z3, n2, _, _, g0, g1, g2, g3⟩ := trod_struct4 Try.underlying23 h0
  rw [cellsI] at g0 g1 g2 g3
  obtain ⟨x0, e0, _, _⟩ := DataW.trod_int Try.underlying3 g0
  obtain ⟨x1, e1, _, _⟩ := DataW.trod_int Try.underlying3 g1
  obtain ⟨x2, e2, _, _⟩ := DataW.trod_int Try.underlying3 g2
  obtain ⟨x3, e3, _, _⟩ := DataW.trod_int Try.underlying3 g3
  simp [Value.cells] at e0 e1 e2 e3 e4
  subst e0 e1 e2 e3 e4
  exact ⟨x0, x1, x2, x3, _, rfl, hs⟩
end

theorem SlF.stay {w w' : World} {s : Value} (h : SlF w s) (hb : Below w.heap.size w w') : SlF w' s := by
  rcases h with h | ⟨b, off, len, cap, x, rfl, h1, h2, h3, h4⟩
  · exact .inl h
  · exact .inr ⟨b, off, len, cap, x, rfl, h1, h2, flAt_congr' h3 (hb.block _ (World.block_lt_of_cell? w _ (h3 0 h1))), h4⟩

/-- fit, of whatever slice. -/
theorem fit_any {X Y W H : Int} {s : Value} {w : World} (h : SlF w s) : Calls Try.prog 24 #[fldV X Y W H s] w (FitPost w) := by
  rcases h with ⟨a, cap, rfl⟩ | ⟨b, off, len, cap, x, rfl, h1, h2, h3, h4⟩
  · exact fit_none X Y W H a cap w
  · exact fit_some X Y W H b off len cap x w h1 h2 h3 h4

theorem laidOut : laidOutB Try.prog = true := by kernel_rfl
end Go.Proofs.Ytihjemookgnafaa

/- CellsBlend, for every three fields: what Blend answers is what the reference answers, bit by bit, and where both fields are one and there is no error, each value is the field's own by value. No condition. -/
namespace Go.Proofs.Ytihjemookgnafaa.cellsBlend
open Go.ChangeShapes Go.WideShapes Go.ChangeAt Go.RowKit Go.Joins
set_option linter.unusedVariables false

theorem own : ownKnob Try.prog.godebug = none := by kernel_rfl

set_option maxRecDepth 100000 in
theorem lifted (os : Os) (started : os.Started) (H : Type) (enc : TypeId × Value → H) :
    ReturnsInHanded {} Try.checked os 6 .any (Rows.cellsBlendSpec.pre6 enc Try.prog Try.f6 Rows.cellsBlendRow.domain false) (Rows.cellsBlendSpec.post enc Try.prog Try.f6 false true false false) := by
  refine returnsInHanded_of_change (C := Try.checked) own started (by kernel_rfl) Try.func6
    (ChangeSpec.witness6 (enc := enc) (C := Try.checked) false ⟨#[], #[fldV 0 0 0 0 (.slice none 0 0), fldV 0 0 0 0 (.slice none 0 0), fldV 0 0 0 0 (.slice none 0 0)], []⟩ 8 (by kernel_rfl) (by kernel_rfl) (by kernel_rfl) (by kernel_rfl)) ?_
  intro W base args ds gs before hval0 hW hcnd _
  have hval : ∀ (j : Nat) t v, Try.f6.params[j]? = some t → args[j]? = some v → Value.okWide Try.prog W .any base t v := hval0
  have hW' := hW
  have hplt : ∀ x ∈ before, x.block < W.heap.size := fun x hx => by simpa using hW'.lt x hx
  obtain ⟨p, q, hA0, hV, rfl, hfz, hnd⟩ := hW
  have hA : DataW.TrodAll enc Try.prog W 0 (fun _ => true) true Try.f6.params.toList args.toList ds p := hA0
  rw [Try.params6] at hA hval
  obtain ⟨v0, vs0, d0, ds0, p0, q0, hargs, rfl, rfl, h0, r0⟩ := trodAll_cons hA
  obtain ⟨v1, vs1, d1, ds1, p1, q1, rfl, rfl, rfl, h1, r1⟩ := trodAll_cons r0
  obtain ⟨v2, vs2, d2, ds2, p2, q2, rfl, rfl, rfl, h2, r2⟩ := trodAll_cons r1
  obtain ⟨rfl, rfl, rfl⟩ := trodAll_nil r2
  obtain rfl : args = #[v0, v1, v2] := by cases args; simp_all
  obtain ⟨rfl, rfl⟩ := trodVars_none hV
  obtain ⟨X, Y, W0, H0, s, rfl, hs⟩ := open_field (hval 0 36 v0 rfl rfl) h0
  obtain ⟨X1, Y1, W1, H1, s1, rfl, hs1⟩ := open_field (hval 1 36 v1 rfl rfl) h1
  obtain ⟨X2, Y2, W2, H2, s2, rfl, hs2⟩ := open_field (hval 2 36 v2 rfl rfl) h2
  have hlt : ∀ x ∈ p0, x.block < W.heap.size := fun x hx => hplt x (by simp [hx])
  have hlt1 : ∀ x ∈ p1, x.block < W.heap.size := fun x hx => hplt x (by simp [hx])
  have hlt2 : ∀ x ∈ p2, x.block < W.heap.size := fun x hx => hplt x (by simp [hx])
  clear hA0 hval0 hplt
  simp only [List.append_nil] at hW'
  refine (cellsBlend_any X Y W0 H0 s X1 Y1 W1 H1 s1 X2 Y2 W2 H2 s2 W (fun W' hb => fit_any (hs.stay hb)) (fun W' hb => fit_any (hs1.stay hb)) (fun W' hb => fit_any (hs2.stay hb))).mono fun e W' ⟨he, hb⟩ => ?_
  subst he
  exact ⟨_, rfl, _, _, _, [], _, [], hW', trodAll_cons_mk (shut_bool Try.underlying4 _) trodAll_mk0, trodAll_cons_mk (Below.trod laidOut (by kernel_rfl) (of_decide_eq_true (by kernel_rfl)) h0 hb hlt) (trodAll_cons_mk (Below.trod laidOut (by kernel_rfl) (of_decide_eq_true (by kernel_rfl)) h1 hb hlt1) (trodAll_cons_mk (Below.trod laidOut (by kernel_rfl) (of_decide_eq_true (by kernel_rfl)) h2 hb hlt2) trodAll_mk0)), rfl, hb.frame _, fun h => by cases h⟩

theorem over : Rows.cellsBlendRow.holds Try.pinned (OpenSpec.ofChange Rows.cellsBlendSpec) :=
  OpenClaim.holds_of_wide 6 Try.f6 rfl rfl rfl rfl rfl rfl rfl ⟨rfl, rfl, rfl, rfl, rfl⟩ rfl rfl rfl rfl rfl (by kernel_rfl) Try.func6 (by kernel_rfl)
    (of_decide_eq_true (by kernel_rfl)) (by unfold Func.isWrapper; rw [if_neg (of_decide_eq_false (by kernel_rfl))]; exact ⟨rfl, rfl⟩)
    (fun os started H enc _ => lifted os started H enc)

theorem proved : Rows.CellsBlendSaid :=
  over
#print axioms proved
end Go.Proofs.Ytihjemookgnafaa.cellsBlend
