/- FieldsAreCut, where the region is wrong. -/
import Derived.Test.YtgkpkpbigmcapaaCutLaw
namespace Go.Proofs.Ytgkpkpbigmcapaa
open Go.RowKit Fl
set_option linter.unusedVariables false

set_option maxHeartbeats 4000000 in
set_option maxRecDepth 100000 in
theorem fieldsAreCut_0 (X0 Y0 W0 H0 : Int) (sl : Value) (X1 Y1 W1 H1 : Int) (sl1 : Value) (rx ry rw rh : Int) (h : Nat) (w : World) (hh : h < 4294967296) (hz : checkR rx ry rw rh ≠ 0)
    (hfit : ∀ W', Below w.heap.size w W' → Calls Try.prog 9 #[fldV X0 Y0 W0 H0 sl] W' (FitPost W')) (hfit1 : ∀ W', Below w.heap.size w W' → Calls Try.prog 9 #[fldV X1 Y1 W1 H1 sl1] W' (FitPost W')) :
    Calls Try.prog 4 #[fldV X0 Y0 W0 H0 sl, fldV X1 Y1 W1 H1 sl1, reg rx ry rw rh, .float .f32 h] w fun e w' => e = .returned (.bool true) ∧ Below w.heap.size w w' := by
  have HF := Lib.hid hfit
  have HF1 := Lib.hid hfit1
  clear hfit hfit1
  go_enter Try.func4, Try.ntmps4
  go_wp2_with (first | (go_at_call 8; refine (landed_any _).mono ?_; rintro e w1 ⟨rfl, hb1⟩; have HA1 := Lib.hid (blkStay (b := w.heap.size) (o := fldO X0 Y0 W0 H0 sl) (by (first | (rw [heap_alloc_get, if_pos rfl]; done) | ((simp only [heap_alloc_get, heap_size_alloc, if_true]) <;> ((repeat' split) <;> first | rfl | omega)))) hb1); have HG1 := Lib.hid (blkStay (b := w.heap.size + 1) (o := fldO X1 Y1 W1 H1 sl1) (by (first | (rw [heap_alloc_get, if_pos rfl]; done) | ((simp only [heap_alloc_get, heap_size_alloc, if_true]) <;> ((repeat' split) <;> first | rfl | omega)))) hb1); have HR1 := Lib.hid (blkStay (b := w.heap.size + 1 + 1) (o := regObj rx ry rw rh) (by (first | (rw [heap_alloc_get, if_pos rfl]; done) | ((simp only [heap_alloc_get, heap_size_alloc, if_true]) <;> ((repeat' split) <;> first | rfl | omega)))) hb1); have HH1 := Lib.hid (blkStay (b := w.heap.size + 1 + 1 + 1) (o := flObj h) (by (first | (rw [heap_alloc_get, if_pos rfl]; done) | ((simp only [heap_alloc_get, heap_size_alloc, if_true]) <;> ((repeat' split) <;> first | rfl | omega)))) hb1); have hB1 : Below w.heap.size w w1 := Below.trans (by repeat (first | exact Below.refl _ _ | refine Below.alloc ?_ (by first | omega | (simp; done) | (simp; omega)) _ | refine Below.setCell ?_ (by first | omega | (simp; done) | (simp; omega)) _ | refine Below.drew ?_)) (Below.mono hb1 (by first | omega | (simp; done) | (simp; omega))); obtain ⟨cA, fA, zA⟩ := blkC HA1.out; obtain ⟨cG, fG, zG⟩ := blkC HG1.out; clear hb1))
  go_upto_region 3 with fail
  go_cut [] from 18 to 21 (fun wx => CutAt w wx rx ry rw rh h)
  case first =>
    have HB1 := Lib.hid hB1
    clear hB1
    go_region_law (first
      | (go_simp; (with_reducible refine Calls.mono (HF.out _ ?_) ?_); (first | exact HB2.out | exact HB2.out.drew | exact HB2.out.drew.drew); rintro e w3 ⟨X, Y, W', H', b, n, rfl, fx1, fx2, fy1, fy2, fu1, fu2, fh1, fh2, fhn, fhn1, fhn2, fhlo, fhrow, hb3⟩; have hb3' : Below w2.heap.size w2 w3 := ⟨hb3.os, hb3.tape, hb3.output, hb3.size, hb3.block⟩; have z23 := hb3'.size; have HB3 := Lib.hid (HB2.out.trans (hb3'.mono HB2.out.size)); have HA3 := Lib.hid (blkStay HA2.out hb3'); have HG3 := Lib.hid (blkStay HG2.out hb3'); have HR3 := Lib.hid (blkStay HR2.out hb3'); have HH3 := Lib.hid (blkStay HH2.out hb3'); have HX3 := Lib.hid hb3'; clear cA fA zA cG fG zG hb3 hb3'; obtain ⟨cA, fA, zA⟩ := blkC HA3.out; obtain ⟨cG, fG, zG⟩ := blkC HG3.out)
      | (go_simp; (with_reducible refine Calls.mono (HF1.out _ ?_) ?_); (first | exact HB2.out | exact HB2.out.drew | exact HB2.out.drew.drew); rintro e w3 ⟨X2, Y2, W2', H2', b2, n2, rfl, gx1, gx2, gy1, gy2, gu1, gu2, gh1, gh2, ghn, ghn1, ghn2, ghlo, ghrow, hb3⟩; have hb3' : Below w2.heap.size w2 w3 := ⟨hb3.os, hb3.tape, hb3.output, hb3.size, hb3.block⟩; have z23 := hb3'.size; have HB3 := Lib.hid (HB2.out.trans (hb3'.mono HB2.out.size)); have HA3 := Lib.hid (blkStay HA2.out hb3'); have HG3 := Lib.hid (blkStay HG2.out hb3'); have HR3 := Lib.hid (blkStay HR2.out hb3'); have HH3 := Lib.hid (blkStay HH2.out hb3'); have HX3 := Lib.hid hb3'; clear cA fA zA cG fG zG hb3 hb3'; obtain ⟨cA, fA, zA⟩ := blkC HA3.out; obtain ⟨cG, fG, zG⟩ := blkC HG3.out)
      | (go_simp; (with_reducible refine Calls.mono (HF.out _ ?_) ?_); (first | exact HB1.out | exact HB1.out.drew | exact HB1.out.drew.drew); rintro e w2 ⟨X, Y, W', H', b, n, rfl, fx1, fx2, fy1, fy2, fu1, fu2, fh1, fh2, fhn, fhn1, fhn2, fhlo, fhrow, hb2⟩; have hb2' : Below w1.heap.size w1 w2 := ⟨hb2.os, hb2.tape, hb2.output, hb2.size, hb2.block⟩; have z12 := hb2'.size; have HB2 := Lib.hid (HB1.out.trans (hb2'.mono HB1.out.size)); have HA2 := Lib.hid (blkStay HA1.out hb2'); have HG2 := Lib.hid (blkStay HG1.out hb2'); have HR2 := Lib.hid (blkStay HR1.out hb2'); have HH2 := Lib.hid (blkStay HH1.out hb2'); clear cA fA zA cG fG zG hb2 hb2'; obtain ⟨cA, fA, zA⟩ := blkC HA2.out; obtain ⟨cG, fG, zG⟩ := blkC HG2.out)
      | (go_simp; (with_reducible refine Calls.mono (HF1.out _ ?_) ?_); (first | exact HB1.out | exact HB1.out.drew | exact HB1.out.drew.drew); rintro e w2 ⟨X2, Y2, W2', H2', b2, n2, rfl, gx1, gx2, gy1, gy2, gu1, gu2, gh1, gh2, ghn, ghn1, ghn2, ghlo, ghrow, hb2⟩; have hb2' : Below w1.heap.size w1 w2 := ⟨hb2.os, hb2.tape, hb2.output, hb2.size, hb2.block⟩; have z12 := hb2'.size; have HB2 := Lib.hid (HB1.out.trans (hb2'.mono HB1.out.size)); have HA2 := Lib.hid (blkStay HA1.out hb2'); have HG2 := Lib.hid (blkStay HG1.out hb2'); have HR2 := Lib.hid (blkStay HR1.out hb2'); have HH2 := Lib.hid (blkStay HH1.out hb2'); clear cA fA zA cG fG zG hb2 hb2'; obtain ⟨cA, fA, zA⟩ := blkC HA2.out; obtain ⟨cG, fG, zG⟩ := blkC HG2.out))
    all_goals
      have zh := (blkC HH1.out).2.2
      go_wp2_with fail
      go_meet
      case rel =>
        have lo1 : w.heap.size + 1 + 1 + 1 + 1 ≤ b := by first | omega | (simp at fhlo; omega)
        have lo2 : w.heap.size + 1 + 1 + 1 + 1 ≤ b2 := by first | omega | (simp at ghlo; omega)
        have r1 : FitRow w3 b n n := by first | exact fhrow | exact fitRow_congr fhrow (HX3.out.block _ (fitRow_lt fhrow))
        have r2 : FitRow w3 b2 n2 n2 := by first | exact ghrow | exact fitRow_congr ghrow (HX3.out.block _ (fitRow_lt ghrow))
        exact cut_rel HA3.out HG3.out HR3.out HH3.out HB3.out fx1 fx2 fy1 fy2 fu1 fu2 fh1 fh2 fhn fhn1 fhn2 lo1 r1 gx1 gx2 gy1 gy2 gu1 gu2 gh1 gh2 ghn ghn1 ghn2 lo2 r2
  case rest =>
    obtain ⟨X, Y, W, H, n, b, v, X2, Y2, W2, H2, n2, b2, v2, FF0, FG0, HR0, HH0, HB0⟩ := hcut
    clear HA1 HG1 HR1 HH1 HF HF1 cA fA zA cG fG zG hB1
    have L := Lib.hid (show LawAt w wc X Y W H n b v X2 Y2 W2 H2 n2 b2 v2 rx ry rw rh h from ⟨FF0, FG0, HR0, HH0, HB0⟩)
    clear FF0 FG0 HR0 HH0 HB0
    obtain ⟨er, her⟩ : ∃ er, er = checkR rx ry rw rh := ⟨_, rfl⟩
    have hfe : filE rx ry rw rh h = er := by unfold filE; rw [if_neg hz, her]
    have hne : er ≠ 0 := by rw [her]; exact hz
    have FI := Lib.hid (fun w => fill_bad rx ry rw rh h w (by rw [hfe]; exact hne))
    rw [hfe] at FI
    have hcE : cutE X Y W H rx ry rw rh = er := by unfold cutE; rw [if_neg hz, her]
    have hzb : (er != 0) = true := by simp [hne]
    have hzc : (er == 0) = false := by simp [hne]
    have HE := Lib.hid her
    have HNE := Lib.hid hne
    have HCE := Lib.hid hcE
    clear her hfe hne hcE hz
    obtain ⟨cA, cG, cR, cH, zA, zG, zR, zH⟩ := L.out.cells
    go_wp2_with fail
    refine (FI.out _).mono ?_
    rintro e w2 ⟨rfl, hb2⟩
    have L2 := Lib.hid (L.out.stay hb2)
    have L3 := Lib.hid (L2.out.stay (al_belowC w2 (fldO 0 0 0 0 (.slice none 0 0))))
    clear hb2 cA cG cR cH zA zG zR zH L FI
    obtain ⟨cA, cG, cR, cH, zA, zG, zR, zH⟩ := L2.out.cells
    go_wp2_with fail
    refine (refCheckRegion_any _ _ _ _ _).mono ?_
    rintro e w4 ⟨rfl, hw4⟩
    rw [← HE.out]
    have L5 := Lib.hid (L3.out.stay (wy := w4) (by rw [hw4]; exact al_belowC _ _))
    clear hw4 L3 L2 cA cG cR cH zA zG zR zH
    obtain ⟨cA, cG, cR, cH, zA, zG, zR, zH⟩ := L5.out.cells
    go_wp2_with fail
    refine (cut_bad X Y W H n b n v rx ry rw rh er w4 L5.out.f.chk L5.out.f.num L5.out.f.row L5.out.f.hgt HCE.out HNE.out).mono ?_
    rintro e w6 ⟨rfl, hb6⟩
    have L6 := Lib.hid (L5.out.stay hb6)
    have L7 := Lib.hid (L6.out.stay (al_belowC w6 (fldO 0 0 0 0 (.slice none 0 0))))
    clear hb6 cA cG cR cH zA zG zR zH L5
    obtain ⟨cA, cG, cR, cH, zA, zG, zR, zH⟩ := L6.out.cells
    go_wp2_with fail
    refine (refCheckRegion_any _ _ _ _ _).mono ?_
    rintro e w8 ⟨rfl, hw8⟩
    rw [← HE.out]
    have L8 := Lib.hid (L7.out.stay (wy := w8) (by rw [hw8]; exact al_belowC _ _))
    clear hw8 L7 L6 cA cG cR cH zA zG zR zH
    obtain ⟨cA, cG, cR, cH, zA, zG, zR, zH⟩ := L8.out.cells
    go_wp2_with fail
    refine (refCheckRegion_any _ _ _ _ _).mono ?_
    rintro e w9 ⟨rfl, hw9⟩
    rw [← HE.out]
    have LA := Lib.hid (L8.out.stay (wy := w9) (by rw [hw9]; exact al_belowC _ _))
    clear hw9 L8 cA cG cR cH zA zG zR zH
    obtain ⟨cA, cG, cR, cH, zA, zG, zR, zH⟩ := LA.out.cells
    have hzf := checkR_zero LA.out.f.chk
    have hzg := checkR_zero LA.out.g.chk
    have RC2 := Lib.hid (fun w => refCommon_any X Y W H X2 Y2 W2 H2 w (by omega) (by omega) (by omega) (by omega) (by omega) (by omega) (by omega) (by omega) (by omega) (by omega) (by omega) (by omega) (by omega) (by omega) (by omega) (by omega))
    obtain ⟨q1, q2, q3, q4, hq⟩ := comR_regC X Y W H X2 Y2 W2 H2
    rw [hq] at RC2
    clear hq
    cases hcm : comB X Y W H X2 Y2 W2 H2 with
    | false =>
      rw [hcm] at RC2
      clear hzf hzg
      go_wp2_with fail
      refine (paste_no X Y W H n b n v X2 Y2 W2 H2 n2 b2 n2 v2 w9 LA.out.f.chk LA.out.f.num LA.out.f.row LA.out.f.hgt LA.out.g.chk LA.out.g.num LA.out.g.row LA.out.g.hgt hcm).mono ?_
      rintro e w10 ⟨rfl, hb10⟩
      have L10 := Lib.hid (LA.out.stay hb10)
      have L11 := Lib.hid (L10.out.stay (al_belowC w10 (fldO 0 0 0 0 (.slice none 0 0))))
      clear hb10 cA cG cR cH zA zG zR zH LA
      obtain ⟨cA, cG, cR, cH, zA, zG, zR, zH⟩ := L10.out.cells
      go_wp2_with fail
      refine (RC2.out _).mono ?_
      rintro e w12 ⟨rfl, hb12⟩
      have L12 := Lib.hid (L11.out.stay hb12)
      clear hb12 cA cG cR cH zA zG zR zH L10 L11
      go_wp2
      go_ret
      exact ⟨rfl, L12.out.bel.alloc L12.out.bel.size _⟩
    | true =>
      rw [hcm] at RC2
      have hnm : n = H * W := by rw [LA.out.f.num]; exact Nat.mul_comm _ _
      have hnm2 : n2 = H2 * W2 := by rw [LA.out.g.num]; exact Nat.mul_comm _ _
      have hpst := pstF_hgt (X := X) (Y := Y) (W := W) (H := H) (X2 := X2) (Y2 := Y2) LA.out.f.hgt LA.out.g.hgt (by omega) hnm2
      have hn1 := LA.out.f.pos
      have hn2 := LA.out.g.pos
      have hnl : n ≤ 9223372036854775807 := by have := LA.out.f.few; omega
      clear hzf hzg hnm hnm2
      go_wp2_with fail
      refine (paste_ok X Y W H n b n v X2 Y2 W2 H2 n2 b2 n2 v2 w9 LA.out.f.chk LA.out.f.num LA.out.f.row LA.out.f.hgt LA.out.g.chk LA.out.g.num LA.out.g.row LA.out.g.hgt hcm).mono ?_
      intro e w10 hp
      obtain ⟨b10, cap10, rfl, lt10, row10, hb10⟩ := made_yes hp hpst
      have L10 := Lib.hid (LA.out.stay hb10)
      have hb11 := al_belowC w10 (fldO X Y W H (.slice (some ⟨b10, 0, none⟩) n cap10))
      have HP11 := Lib.hid (heap_alloc_new w10 (fldO X Y W H (.slice (some ⟨b10, 0, none⟩) n cap10)))
      have L11 := Lib.hid (L10.out.stay hb11)
      have R11 := Lib.hid (flAt_congr row10 (heap_alloc_old w10 (fldO X Y W H (.slice (some ⟨b10, 0, none⟩) n cap10)) lt10))
      clear hp row10 hb10 cA cG cR cH zA zG zR zH LA
      obtain ⟨cA, cG, cR, cH, zA, zG, zR, zH⟩ := L10.out.cells
      go_wp2_with fail
      refine (RC2.out _).mono ?_
      rintro e w12 ⟨rfl, hb12⟩
      have L12 := Lib.hid (L11.out.stay hb12)
      have HP12 := Lib.hid (blkStay HP11.out hb12)
      have R12 := Lib.hid (flAt_congr R11.out (hb12.block _ (by rw [heap_size_alloc]; exact Nat.lt_succ_of_lt lt10)))
      have hb13 := al_belowC w12 (regObj q1 q2 q3 q4)
      have L13 := Lib.hid (L12.out.stay hb13)
      have HP13 := Lib.hid (blkStay HP12.out hb13)
      have R13 := Lib.hid (flAt_congr R12.out (hb13.block _ (World.block_lt_of_cell? w12 _ (R12.out 0 hn1))))
      clear hb12 hb11 cA cG cR cH zA zG zR zH L10 L11 HP11 R11 HP12 R12
      obtain ⟨cA, cG, cR, cH, zA, zG, zR, zH⟩ := L12.out.cells
      go_wp2_with fail
      have FS := Lib.hid (fun W' (hb : Below (w12.alloc (regObj q1 q2 q3 q4)).heap.size (w12.alloc (regObj q1 q2 q3 q4)) W') => fsame_any X Y W H n b n v X2 Y2 W2 H2 n2 b2 n2 v2 W' hnl hn1 hn2 L13.out.f.num L13.out.g.num (flAt_congr L13.out.f.row (hb.block _ L13.out.f.lt)) (flAt_congr L13.out.g.row (hb.block _ L13.out.g.lt)))
      have RS := Lib.hid (fun W' (hb : Below (w12.alloc (regObj q1 q2 q3 q4)).heap.size (w12.alloc (regObj q1 q2 q3 q4)) W') => rsame_any X Y W H n b n v X2 Y2 W2 H2 n2 b2 n2 v2 W' hnl hn1 hn2 L13.out.f.num L13.out.g.num (flAt_congr L13.out.f.row (hb.block _ L13.out.f.lt)) (flAt_congr L13.out.g.row (hb.block _ L13.out.g.lt)))
      have RP := Lib.hid (fun W' (hb : Below (w12.alloc (regObj q1 q2 q3 q4)).heap.size (w12.alloc (regObj q1 q2 q3 q4)) W') => rpaste_ok X Y W H n b n v X2 Y2 W2 H2 n2 b2 n2 v2 W' L13.out.f.chk L13.out.f.num (flAt_congr L13.out.f.row (hb.block _ L13.out.f.lt)) L13.out.f.hgt L13.out.f.wf L13.out.g.chk L13.out.g.num (flAt_congr L13.out.g.row (hb.block _ L13.out.g.lt)) L13.out.g.hgt L13.out.g.wf)
      generalize (sameR X Y W H X2 Y2 W2 H2 && sameV n v v2) = sq at FS RS
      have lt13 := World.block_lt_of_cell? _ _ (R13.out 0 hn1)
      clear cA cG cR cH zA zG zR zH L12 hb13
      generalize w12.alloc (regObj q1 q2 q3 q4) = w13 at *
      generalize pstF v v2 X Y W X2 Y2 W2 H2 = fp at *
      refine wp_region_held_drew (S := (fun w' => ((∀ o, w'.cell? ⟨w.heap.size, o, none⟩ = #[.int .i64 X, .int .i64 Y, .int .i64 W, .int .i64 H, .slice (some ⟨b, 0, none⟩) n n][o]?) ∧ (∀ o, w'.cell? ⟨w.heap.size + 1, o, none⟩ = #[.int .i64 X2, .int .i64 Y2, .int .i64 W2, .int .i64 H2, .slice (some ⟨b2, 0, none⟩) n2 n2][o]?) ∧ (∀ o, w'.cell? ⟨w10.heap.size, o, none⟩ = #[.int .i64 X, .int .i64 Y, .int .i64 W, .int .i64 H, .slice (some ⟨b10, 0, none⟩) n cap10][o]?)) ∧ Below w13.heap.size w13 w')) (by kernel_rfl) ?_ (fun hHeld => ?_)
      · try dsimp only
        exact (fun K => ⟨⟨(blkC (blkStay L13.out.f.fld K)).1, (blkC (blkStay L13.out.g.fld K)).1, (blkC (blkStay HP13.out K)).1⟩, K⟩) (Below.drew (Below.refl _ _))
      refine wpAnyH_take (i := 0) (v := ?hv1) rfl (by kernel_rfl) (by kernel_rfl) (by kernel_rfl) (fun _ _ _ h => h) (Or.inl ⟨by rfl, ?hy1⟩) (by assumption) ?hr1; (case hy1 => ((intro w hSw; (try dsimp only at hSw); go_simp) <;> with_reducible rfl)); try simp only [Act.put, List.setIfInBounds_toArray]
      refine wpAnyH_take (i := 1) (v := ?hv5) rfl (by kernel_rfl) (by kernel_rfl) (by kernel_rfl) (fun _ _ _ h => h) (Or.inl ⟨by rfl, ?hy5⟩) (by assumption) ?hr5; (case hy5 => ((intro w hSw; (try dsimp only at hSw); go_simp) <;> with_reducible rfl)); try simp only [Act.put]
      refine wpAnyH_take (i := 2) (v := ?hv6) rfl (by kernel_rfl) (by kernel_rfl) (by kernel_rfl) (fun _ _ _ h => h) (Or.inl ⟨by rfl, ?hy6⟩) (by assumption) ?hr6; (case hy6 => ((intro w hSw; (try dsimp only at hSw); go_simp) <;> with_reducible rfl)); try simp only [Act.put]
      refine wpAnyH_take (i := 3) (v := ?hv7) rfl (by kernel_rfl) (by kernel_rfl) (by kernel_rfl) (fun _ _ _ h => h) (Or.inl ⟨by rfl, ?hy7⟩) (by assumption) ?hr7; (case hy7 => ((intro w hSw; (try dsimp only at hSw); go_simp) <;> with_reducible rfl)); try simp only [Act.put]
      refine wpAnyH_take (i := 4) (v := ?hv8) rfl (by kernel_rfl) (by kernel_rfl) (by kernel_rfl) (fun _ _ _ h => h) (Or.inl ⟨by rfl, ?hy8⟩) (by assumption) ?hr8; (case hy8 => ((intro w hSw; (try dsimp only at hSw); go_simp) <;> with_reducible rfl)); try simp only [Act.put]
      refine wpAnyH_take (i := 5) (v := ?hv9) rfl (by kernel_rfl) (by kernel_rfl) (by kernel_rfl) (fun _ _ _ h => h) (Or.inl ⟨by rfl, ?hy9⟩) (by assumption) ?hr9; (case hy9 => ((intro w hSw; (try dsimp only at hSw); go_simp) <;> with_reducible rfl)); try simp only [Act.put]
      refine wpAnyH_ready (rs := [6]) (by kernel_rfl) (by simp) ?_; refine AllReadyH.cons rfl (fun K hK => ?_) AllReadyH.nil; go_simp
      (with_reducible refine Calls.mono (RP.out _ ?_) ?_)
      first | exact Below.refl _ _ | exact (Below.refl _ _).drew | exact hHeld.2
      intro e w14 hp
      obtain ⟨b14, cap14, rfl, lt14, row14, hb14⟩ := one_yes hp
      have hb9 : Below w13.heap.size w13 w14 := ⟨hb14.os, hb14.tape, hb14.output, hb14.size, hb14.block⟩
      have R14 := Lib.hid (flAt_congr R13.out (hb9.block _ lt13))
      have Q14 := Lib.hid row14
      clear hp row14 hb14
      try go_wp2_with fail
      refine hK.out _ _ ?_ (fun hHeld => ?_)
      · try dsimp only
        exact (fun K => ⟨⟨(blkC (blkStay L13.out.f.fld K)).1, (blkC (blkStay L13.out.g.fld K)).1, (blkC (blkStay HP13.out K)).1⟩, K⟩) (by first | exact hb9 | exact hb9.drew)
      clear hK K; try simp only [Act.put, List.setIfInBounds_toArray, List.set_cons_zero, List.set_cons_succ]
      refine wpAnyH_ready (rs := [7]) (by kernel_rfl) (by simp) ?_; refine AllReadyH.cons rfl (fun K hK => ?_) AllReadyH.nil; go_simp
      (with_reducible refine Calls.mono (same_ok _ _ _ _ _ _ _ _ n _ hnl hn1 _ R14.out Q14.out) ?_)
      rintro e w15 ⟨rfl, hb15⟩
      have hb8 : Below w14.heap.size w14 w15 := ⟨hb15.os, hb15.tape, hb15.output, hb15.size, hb15.block⟩
      have hb7 := hb9.trans (hb8.mono hb9.size)
      clear hb15 hb8
      try go_wp2_with fail
      refine hK.out _ _ ?_ (fun hHeld => ?_)
      · try dsimp only
        exact (fun K => ⟨⟨(blkC (blkStay L13.out.f.fld K)).1, (blkC (blkStay L13.out.g.fld K)).1, (blkC (blkStay HP13.out K)).1⟩, K⟩) (by first | exact hb7 | exact hb7.drew)
      clear hK K; try simp only [Act.put, List.setIfInBounds_toArray, List.set_cons_zero, List.set_cons_succ]
      refine wpAnyH_take (i := 8) (v := ?hv2) rfl (by kernel_rfl) (by kernel_rfl) (by kernel_rfl) (fun _ _ _ h => h) (Or.inl ⟨by rfl, ?hy2⟩) (by assumption) ?hr2; (case hy2 => ((intro w hSw; (try dsimp only at hSw); go_simp) <;> with_reducible rfl)); try simp only [Act.put, List.setIfInBounds_toArray]
      refine wpAnyH_take (i := 9) (v := ?hv10) rfl (by kernel_rfl) (by kernel_rfl) (by kernel_rfl) (fun _ _ _ h => h) (Or.inl ⟨by rfl, ?hy10⟩) (by assumption) ?hr10; (case hy10 => ((intro w hSw; (try dsimp only at hSw); go_simp) <;> with_reducible rfl)); try simp only [Act.put]
      refine wpAnyH_take (i := 10) (v := ?hv11) rfl (by kernel_rfl) (by kernel_rfl) (by kernel_rfl) (fun _ _ _ h => h) (Or.inl ⟨by rfl, ?hy11⟩) (by assumption) ?hr11; (case hy11 => ((intro w hSw; (try dsimp only at hSw); go_simp) <;> with_reducible rfl)); try simp only [Act.put]
      refine wpAnyH_take (i := 11) (v := ?hv12) rfl (by kernel_rfl) (by kernel_rfl) (by kernel_rfl) (fun _ _ _ h => h) (Or.inl ⟨by rfl, ?hy12⟩) (by assumption) ?hr12; (case hy12 => ((intro w hSw; (try dsimp only at hSw); go_simp) <;> with_reducible rfl)); try simp only [Act.put]
      refine wpAnyH_take (i := 13) (v := ?hv13) rfl (by kernel_rfl) (by kernel_rfl) (by kernel_rfl) (fun _ _ _ h => h) (Or.inl ⟨by rfl, ?hy13⟩) (by assumption) ?hr13; (case hy13 => ((intro w hSw; (try dsimp only at hSw); go_simp) <;> with_reducible rfl)); try simp only [Act.put]
      refine wpAnyH_take (i := 14) (v := ?hv14) rfl (by kernel_rfl) (by kernel_rfl) (by kernel_rfl) (fun _ _ _ h => h) (Or.inl ⟨by rfl, ?hy14⟩) (by assumption) ?hr14; (case hy14 => ((intro w hSw; (try dsimp only at hSw); go_simp) <;> with_reducible rfl)); try simp only [Act.put]
      refine wpAnyH_ready (rs := [12]) (by kernel_rfl) (by simp) ?_; refine AllReadyH.cons rfl (fun K hK => ?_) AllReadyH.nil; go_simp
      (with_reducible refine Calls.mono (FS.out _ ?_) ?_)
      first | exact hb7 | exact hb7.drew | exact hb7.drew.drew
      rintro e w16 ⟨rfl, hb16⟩
      have hb6 : Below w13.heap.size w13 w16 := hb7.trans (Below.mono ⟨hb16.os, hb16.tape, hb16.output, hb16.size, hb16.block⟩ hb7.size)
      clear hb16
      try go_wp2_with fail
      refine hK.out _ _ ?_ (fun hHeld => ?_)
      · try dsimp only
        exact (fun K => ⟨⟨(blkC (blkStay L13.out.f.fld K)).1, (blkC (blkStay L13.out.g.fld K)).1, (blkC (blkStay HP13.out K)).1⟩, K⟩) (by first | exact hb6 | exact hb6.drew)
      clear hK K; try simp only [Act.put, List.setIfInBounds_toArray, List.set_cons_zero, List.set_cons_succ]
      refine wpAnyH_ready (rs := [15]) (by kernel_rfl) (by simp) ?_; refine AllReadyH.cons rfl (fun K hK => ?_) AllReadyH.nil; go_simp
      (with_reducible refine Calls.mono (RS.out _ ?_) ?_)
      first | exact hb6 | exact hb6.drew | exact hb6.drew.drew
      rintro e w17 ⟨rfl, hb17⟩
      have hb5 : Below w13.heap.size w13 w17 := hb6.trans (Below.mono ⟨hb17.os, hb17.tape, hb17.output, hb17.size, hb17.block⟩ hb6.size)
      clear hb17
      try go_wp2_with fail
      refine hK.out _ _ ?_ (fun hHeld => ?_)
      · try dsimp only
        exact (fun K => ⟨⟨(blkC (blkStay L13.out.f.fld K)).1, (blkC (blkStay L13.out.g.fld K)).1, (blkC (blkStay HP13.out K)).1⟩, K⟩) (by first | exact hb5 | exact hb5.drew)
      clear hK K; try simp only [Act.put, List.setIfInBounds_toArray, List.set_cons_zero, List.set_cons_succ]
      refine wpAnyH_take (i := 16) (v := ?hv3) rfl (by kernel_rfl) (by kernel_rfl) (by kernel_rfl) (fun _ _ _ h => h) (Or.inl ⟨by rfl, ?hy3⟩) (by assumption) ?hr3; (case hy3 => ((intro w hSw; (try dsimp only at hSw); go_simp) <;> with_reducible rfl)); try simp only [Act.put, List.setIfInBounds_toArray]
      refine wpAnyH_take (i := 17) (v := ?hv15) rfl (by kernel_rfl) (by kernel_rfl) (by kernel_rfl) (fun _ _ _ h => h) (Or.inl ⟨by rfl, ?hy15⟩) (by assumption) ?hr15; (case hy15 => ((intro w hSw; (try dsimp only at hSw); go_simp) <;> with_reducible rfl)); try simp only [Act.put]
      try simp only [List.getElem_toArray, List.getElem_cons_succ, List.getElem_cons_zero, List.setIfInBounds_toArray, List.set_cons_zero, List.set_cons_succ]
      refine wpAnyH_take (i := 18) (v := ?hv4) rfl (by kernel_rfl) (by kernel_rfl) (by kernel_rfl) (fun _ _ _ h => h) (Or.inl ⟨by rfl, ?hy4⟩) (by assumption) ?hr4; (case hy4 => ((intro w hSw; (try dsimp only at hSw); go_simp) <;> with_reducible rfl)); try simp only [Act.put, List.setIfInBounds_toArray]
      try simp only [List.getElem_toArray, List.getElem_cons_succ, List.getElem_cons_zero, List.set_cons_zero, List.set_cons_succ]
      refine wpAnyH_done (by kernel_rfl) ?_ _
      have HBh := Lib.hid (L13.out.bel.trans (hHeld.2.mono L13.out.bel.size))
      clear hHeld
      go_wp2
      go_ret
      exact ⟨rfl, HBh.out⟩
end Go.Proofs.Ytgkpkpbigmcapaa
