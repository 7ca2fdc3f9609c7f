/- FieldsAreCut, for every two fields, every region and every single: what Fill, Cut, Paste and Same answer is what the references answer, bit by bit. No condition. -/
import Derived.Test.YtihjemookgnafaaCutJC
import Derived.ProofKit
import Derived.OpenShut
import Derived.Lib.SmallJoins
import Derived.Laws.Cover2
import Derived.Deep.Slices

/- FieldsAreCut, where the region is right and the single is no height. -/
namespace Go.Proofs.Ytihjemookgnafaa
open Go.RowKit Fl
set_option linter.unusedVariables false

set_option maxHeartbeats 4000000 in
set_option maxRecDepth 100000 in
theorem fieldsAreCut_1 (X0 Y0 W0 H0 : Int) (sl : Value) (X1 Y1 W1 H1 : Int) (sl1 : Value) (rx ry rw rh : Int) (h : Nat) (w : World) (hh : h < 4294967296) (hz : checkR rx ry rw rh = 0) (hf : fldE 1 (fun _ => h) ≠ 0)
    (hfit : ∀ W', Below w.heap.size w W' → Calls Try.prog 24 #[fldV X0 Y0 W0 H0 sl] W' (FitPost W')) (hfit1 : ∀ W', Below w.heap.size w W' → Calls Try.prog 24 #[fldV X1 Y1 W1 H1 sl1] W' (FitPost W')) :
    Calls Try.prog 4 #[fldV X0 Y0 W0 H0 sl, fldV X1 Y1 W1 H1 sl1, reg rx ry rw rh, .float .f32 h] w fun e w' => e = .returned (.bool true) ∧ Below w.heap.size w w' := by
  have HF := Lib.hid hfit
  have HF1 := Lib.hid hfit1
  clear hfit hfit1
  go_enter Try.func4, Try.ntmps4
  go_wp2_with (first | (go_at_call 14; refine (landed_any _).mono ?_; rintro e w1 ⟨rfl, hb1⟩; have HA1 := Lib.hid (blkStay (b := w.heap.size) (o := fldO X0 Y0 W0 H0 sl) (by (first | (rw [heap_alloc_get, if_pos rfl]; done) | ((simp only [heap_alloc_get, heap_size_alloc, if_true]) <;> ((repeat' split) <;> first | rfl | omega)))) hb1); have HG1 := Lib.hid (blkStay (b := w.heap.size + 1) (o := fldO X1 Y1 W1 H1 sl1) (by (first | (rw [heap_alloc_get, if_pos rfl]; done) | ((simp only [heap_alloc_get, heap_size_alloc, if_true]) <;> ((repeat' split) <;> first | rfl | omega)))) hb1); have HR1 := Lib.hid (blkStay (b := w.heap.size + 1 + 1) (o := regObj rx ry rw rh) (by (first | (rw [heap_alloc_get, if_pos rfl]; done) | ((simp only [heap_alloc_get, heap_size_alloc, if_true]) <;> ((repeat' split) <;> first | rfl | omega)))) hb1); have HH1 := Lib.hid (blkStay (b := w.heap.size + 1 + 1 + 1) (o := flObj h) (by (first | (rw [heap_alloc_get, if_pos rfl]; done) | ((simp only [heap_alloc_get, heap_size_alloc, if_true]) <;> ((repeat' split) <;> first | rfl | omega)))) hb1); have hB1 : Below w.heap.size w w1 := Below.trans (by repeat (first | exact Below.refl _ _ | refine Below.alloc ?_ (by first | omega | (simp; done) | (simp; omega)) _ | refine Below.setCell ?_ (by first | omega | (simp; done) | (simp; omega)) _ | refine Below.drew ?_)) (Below.mono hb1 (by first | omega | (simp; done) | (simp; omega))); obtain ⟨cA, fA, zA⟩ := blkC HA1.out; obtain ⟨cG, fG, zG⟩ := blkC HG1.out; clear hb1))
  go_upto_region 3 with fail
  go_cut [] from 18 to 21 (fun wx => CutAt w wx rx ry rw rh h)
  case first =>
    have HB1 := Lib.hid hB1
    clear hB1
    go_region_law (first
      | (go_simp; (with_reducible refine Calls.mono (HF.out _ ?_) ?_); (first | exact HB2.out | exact HB2.out.drew | exact HB2.out.drew.drew); rintro e w3 ⟨X, Y, W', H', b, n, rfl, fx1, fx2, fy1, fy2, fu1, fu2, fh1, fh2, fhn, fhn1, fhn2, fhlo, fhrow, hb3⟩; have hb3' : Below w2.heap.size w2 w3 := ⟨hb3.os, hb3.tape, hb3.output, hb3.size, hb3.block⟩; have z23 := hb3'.size; have HB3 := Lib.hid (HB2.out.trans (hb3'.mono HB2.out.size)); have HA3 := Lib.hid (blkStay HA2.out hb3'); have HG3 := Lib.hid (blkStay HG2.out hb3'); have HR3 := Lib.hid (blkStay HR2.out hb3'); have HH3 := Lib.hid (blkStay HH2.out hb3'); have HX3 := Lib.hid hb3'; clear cA fA zA cG fG zG hb3 hb3'; obtain ⟨cA, fA, zA⟩ := blkC HA3.out; obtain ⟨cG, fG, zG⟩ := blkC HG3.out)
      | (go_simp; (with_reducible refine Calls.mono (HF1.out _ ?_) ?_); (first | exact HB2.out | exact HB2.out.drew | exact HB2.out.drew.drew); rintro e w3 ⟨X2, Y2, W2', H2', b2, n2, rfl, gx1, gx2, gy1, gy2, gu1, gu2, gh1, gh2, ghn, ghn1, ghn2, ghlo, ghrow, hb3⟩; have hb3' : Below w2.heap.size w2 w3 := ⟨hb3.os, hb3.tape, hb3.output, hb3.size, hb3.block⟩; have z23 := hb3'.size; have HB3 := Lib.hid (HB2.out.trans (hb3'.mono HB2.out.size)); have HA3 := Lib.hid (blkStay HA2.out hb3'); have HG3 := Lib.hid (blkStay HG2.out hb3'); have HR3 := Lib.hid (blkStay HR2.out hb3'); have HH3 := Lib.hid (blkStay HH2.out hb3'); have HX3 := Lib.hid hb3'; clear cA fA zA cG fG zG hb3 hb3'; obtain ⟨cA, fA, zA⟩ := blkC HA3.out; obtain ⟨cG, fG, zG⟩ := blkC HG3.out)
      | (go_simp; (with_reducible refine Calls.mono (HF.out _ ?_) ?_); (first | exact HB1.out | exact HB1.out.drew | exact HB1.out.drew.drew); rintro e w2 ⟨X, Y, W', H', b, n, rfl, fx1, fx2, fy1, fy2, fu1, fu2, fh1, fh2, fhn, fhn1, fhn2, fhlo, fhrow, hb2⟩; have hb2' : Below w1.heap.size w1 w2 := ⟨hb2.os, hb2.tape, hb2.output, hb2.size, hb2.block⟩; have z12 := hb2'.size; have HB2 := Lib.hid (HB1.out.trans (hb2'.mono HB1.out.size)); have HA2 := Lib.hid (blkStay HA1.out hb2'); have HG2 := Lib.hid (blkStay HG1.out hb2'); have HR2 := Lib.hid (blkStay HR1.out hb2'); have HH2 := Lib.hid (blkStay HH1.out hb2'); clear cA fA zA cG fG zG hb2 hb2'; obtain ⟨cA, fA, zA⟩ := blkC HA2.out; obtain ⟨cG, fG, zG⟩ := blkC HG2.out)
      | (go_simp; (with_reducible refine Calls.mono (HF1.out _ ?_) ?_); (first | exact HB1.out | exact HB1.out.drew | exact HB1.out.drew.drew); rintro e w2 ⟨X2, Y2, W2', H2', b2, n2, rfl, gx1, gx2, gy1, gy2, gu1, gu2, gh1, gh2, ghn, ghn1, ghn2, ghlo, ghrow, hb2⟩; have hb2' : Below w1.heap.size w1 w2 := ⟨hb2.os, hb2.tape, hb2.output, hb2.size, hb2.block⟩; have z12 := hb2'.size; have HB2 := Lib.hid (HB1.out.trans (hb2'.mono HB1.out.size)); have HA2 := Lib.hid (blkStay HA1.out hb2'); have HG2 := Lib.hid (blkStay HG1.out hb2'); have HR2 := Lib.hid (blkStay HR1.out hb2'); have HH2 := Lib.hid (blkStay HH1.out hb2'); clear cA fA zA cG fG zG hb2 hb2'; obtain ⟨cA, fA, zA⟩ := blkC HA2.out; obtain ⟨cG, fG, zG⟩ := blkC HG2.out))
    all_goals
      have zh := (blkC HH1.out).2.2
      go_wp2_with fail
      go_meet
      case rel =>
        have lo1 : w.heap.size + 1 + 1 + 1 + 1 ≤ b := by first | omega | (simp at fhlo; omega)
        have lo2 : w.heap.size + 1 + 1 + 1 + 1 ≤ b2 := by first | omega | (simp at ghlo; omega)
        have r1 : FitRow w3 b n n := by first | exact fhrow | exact fitRow_congr fhrow (HX3.out.block _ (fitRow_lt fhrow))
        have r2 : FitRow w3 b2 n2 n2 := by first | exact ghrow | exact fitRow_congr ghrow (HX3.out.block _ (fitRow_lt ghrow))
        exact cut_rel HA3.out HG3.out HR3.out HH3.out HB3.out fx1 fx2 fy1 fy2 fu1 fu2 fh1 fh2 fhn fhn1 fhn2 lo1 r1 gx1 gx2 gy1 gy2 gu1 gu2 gh1 gh2 ghn ghn1 ghn2 lo2 r2
  case rest =>
    obtain ⟨X, Y, W, H, n, b, v, X2, Y2, W2, H2, n2, b2, v2, FF0, FG0, HR0, HH0, HB0⟩ := hcut
    clear HA1 HG1 HR1 HH1 HF HF1 cA fA zA cG fG zG hB1
    have L := Lib.hid (show LawAt w wc X Y W H n b v X2 Y2 W2 H2 n2 b2 v2 rx ry rw rh h from ⟨FF0, FG0, HR0, HH0, HB0⟩)
    clear FF0 FG0 HR0 HH0 HB0
    obtain ⟨RW, rfl⟩ : ∃ RW : Nat, rw = RW := ⟨rw.toNat, by have := checkR_zero hz; omega⟩
    obtain ⟨RH, rfl⟩ : ∃ RH : Nat, rh = RH := ⟨rh.toNat, by have := checkR_zero hz; omega⟩
    obtain ⟨m, hm⟩ : ∃ m, m = RW * RH := ⟨_, rfl⟩
    have hzz := checkR_zero hz
    have hm1 : ((RW : Int) * (RH : Int)) = (m : Int) := by rw [hm]; simp
    have hmw : wrap64 ((RW : Int) * (RH : Int)) = (m : Int) := by rw [hm1]; exact IntWalk.wrap64_in _ ⟨by omega, by omega⟩
    have hm2 : m ≤ 9223372036854775807 := by omega
    obtain ⟨er, her⟩ : ∃ er, er = fldE 1 (fun _ => h) := ⟨_, rfl⟩
    have hfe : filE rx ry RW RH h = er := by unfold filE; rw [if_pos hz, her]
    have hne : er ≠ 0 := by rw [her]; exact hf
    have FI := Lib.hid (fun w => fill_bad rx ry RW RH h w (by rw [hfe]; exact hne))
    rw [hfe] at FI
    have hzb : (er != 0) = true := by simp [hne]
    have hzc : (er == 0) = false := by simp [hne]
    have HE := Lib.hid her
    have hm0 : 0 < m := by have := Nat.mul_pos (show 0 < RW by omega) (show 0 < RH by omega); omega
    have hm0' : 1 ≤ m := hm0
    have HM := Lib.hid hm
    have HNE := Lib.hid hne
    clear hzz hm1 hm her hfe hf hne
    obtain ⟨cA, cG, cR, cH, zA, zG, zR, zH⟩ := L.out.cells
    go_wp2_with fail
    refine (FI.out _).mono ?_
    rintro e w2 ⟨rfl, hb2⟩
    have L2 := Lib.hid (L.out.stay hb2)
    have L3 := Lib.hid (L2.out.stay (al_belowC w2 (fldO 0 0 0 0 (.slice none 0 0))))
    clear hb2 cA cG cR cH zA zG zR zH L FI
    obtain ⟨cA, cG, cR, cH, zA, zG, zR, zH⟩ := L2.out.cells
    go_wp2_with fail
    refine (refCheckRegion_any _ _ _ _ _).mono ?_
    rintro e w4 ⟨rfl, hw4⟩
    rw [hz]
    have L4 := Lib.hid (L3.out.stay (wy := w4) (by rw [hw4]; exact al_belowC _ _))
    clear hw4 L3 L2 cA cG cR cH zA zG zR zH
    obtain ⟨cA, cG, cR, cH, zA, zG, zR, zH⟩ := L4.out.cells
    go_wp2_with fail
    refine (refHeight_of h hh _ _ (heap_alloc_new _ _)).mono ?_
    rintro e w5 ⟨rfl, hw5⟩
    rw [← HE.out]
    have hb5 : Below w4.heap.size w4 w5 := by rw [← hw5]; exact al_belowC _ _
    have L5 := Lib.hid (L4.out.stay hb5)
    clear hw5 hb5 L4 cA cG cR cH zA zG zR zH
    obtain ⟨cA, cG, cR, cH, zA, zG, zR, zH⟩ := L5.out.cells
    go_wp2_with fail
    cases hi : insideB rx ry RW RH X Y W H with
    | true =>
      have hE : cutE X Y W H rx ry RW RH = 0 := by unfold cutE; rw [if_pos hz, hi]; rfl
      have hnm : n = H * W := by rw [L5.out.f.num]; exact Nat.mul_comm _ _
      have hmm : m = RH * RW := by rw [HM.out]; exact Nat.mul_comm _ _
      have HMM := Lib.hid hmm
      obtain ⟨i1, i2, i3, i4⟩ := insideB_iff.1 hi
      have hzf := checkR_zero L5.out.f.chk
      have hzr := checkR_zero hz
      have hcut := cutF_hgt L5.out.f.hgt hnm hmm (by omega) (by omega) i1 i2 i3 i4
      have RI := Lib.hid (fun w => refInside_any rx ry RW RH X Y W H w (by omega) (by omega) (by omega) (by omega) (by omega) (by omega) (by omega) (by omega) (by omega) (by omega) (by omega) (by omega) (by omega) (by omega) (by omega) (by omega))
      rw [hi] at RI
      clear hzf hzr i1 i2 i3 i4 hnm hmm
      refine (cut_ok X Y W H n b n v rx ry RW RH m w5 L5.out.f.chk L5.out.f.num L5.out.f.row L5.out.f.hgt hE HMM.out).mono ?_
      intro e w6 hp
      obtain ⟨b6, cap6, rfl, lt6, row6, hb6⟩ := made_yes hp hcut
      have L6 := Lib.hid (L5.out.stay hb6)
      have hb7 := al_belowC w6 (fldO rx ry RW RH (.slice (some ⟨b6, 0, none⟩) m cap6))
      have HC7 := Lib.hid (heap_alloc_new w6 (fldO rx ry RW RH (.slice (some ⟨b6, 0, none⟩) m cap6)))
      have L7 := Lib.hid (L6.out.stay hb7)
      have R7 := Lib.hid (flAt_congr row6 (heap_alloc_old w6 (fldO rx ry RW RH (.slice (some ⟨b6, 0, none⟩) m cap6)) lt6))
      clear hp row6 hb6 cA cG cR cH zA zG zR zH L5
      obtain ⟨cA, cG, cR, cH, zA, zG, zR, zH⟩ := L6.out.cells
      go_wp2_with fail
      refine (refCheckRegion_any _ _ _ _ _).mono ?_
      rintro e w8 ⟨rfl, hw8⟩
      rw [hz]
      have hb8 : Below (w6.alloc (fldO rx ry RW RH (.slice (some ⟨b6, 0, none⟩) m cap6))).heap.size (w6.alloc (fldO rx ry RW RH (.slice (some ⟨b6, 0, none⟩) m cap6))) w8 := by rw [hw8]; exact al_belowC _ _
      have L8 := Lib.hid (L7.out.stay hb8)
      have HC8 := Lib.hid (blkStay HC7.out hb8)
      have R8 := Lib.hid (flAt_congr R7.out (hb8.block _ (by rw [heap_size_alloc]; exact Nat.lt_succ_of_lt lt6)))
      clear hw8 hb8 hb7 HC7 L7 R7 L6 cA cG cR cH zA zG zR zH
      obtain ⟨cA, cG, cR, cH, zA, zG, zR, zH⟩ := L8.out.cells
      go_wp2_with fail
      refine (RI.out _).mono ?_
      rintro e w9 ⟨rfl, hb9⟩
      have L9 := Lib.hid (L8.out.stay hb9)
      have HC9 := Lib.hid (blkStay HC8.out hb9)
      have R9 := Lib.hid (flAt_congr R8.out (hb9.block _ (World.block_lt_of_cell? w8 _ (R8.out 0 hm0))))
      clear hb9 HC8 L8 R8 cA cG cR cH zA zG zR zH
      obtain ⟨cA, cG, cR, cH, zA, zG, zR, zH⟩ := L9.out.cells
      obtain ⟨cC, fC, zC⟩ := blkC HC9.out
      go_upto_region 11 with fail
      go_cut [80] from 71 to 80 (fun s80 wx => s80 = .bool false ∧ LawAt w wx X Y W H n b v X2 Y2 W2 H2 n2 b2 v2 rx ry RW RH h)
      case first =>
        have CT := Lib.hid (fun W' (hb : Below w9.heap.size w9 W') => rcut_ok X Y W H n b n v rx ry RW RH m W' L9.out.f.chk L9.out.f.num (flAt_congr L9.out.f.row (hb.block _ L9.out.f.lt)) L9.out.f.hgt L9.out.f.wf hE HMM.out)
        have lt9 : b6 < w9.heap.size := World.block_lt_of_cell? w9 _ (R9.out 0 hm0)
        have HREF := Lib.hid (Below.refl w9.heap.size w9)
        go_region_law (first
          | (go_simp; (with_reducible refine Calls.mono (CT.out _ ?_) ?_); (first | exact HREF.out | exact HREF.out.drew | exact HREF.out.drew.drew | exact HREF.out.drew.drew.drew); intro e w10 hp; obtain ⟨b10, cap10, rfl, lt10, row10, hb10⟩ := one_yes hp; have hb10' : Below w9.heap.size w9 w10 := ⟨hb10.os, hb10.tape, hb10.output, hb10.size, hb10.block⟩; have L10 := Lib.hid (L9.out.stay hb10'); have HC10 := Lib.hid (blkStay HC9.out hb10'); have R10 := Lib.hid (flAt_congr R9.out (hb10'.block _ lt9)); have S10 := Lib.hid row10; clear hp row10 hb10 hb10' cA cG cR cH zA zG zR zH cC fC zC; obtain ⟨cA, cG, cR, cH, zA, zG, zR, zH⟩ := L10.out.cells; obtain ⟨cC, fC, zC⟩ := blkC HC10.out)
          | (go_simp; (with_reducible refine Calls.mono (same_ok _ _ _ _ _ _ _ _ m _ hm2 hm0' _ R10.out S10.out) ?_); rintro e w11 ⟨rfl, hb11⟩; have hb11' : Below w10.heap.size w10 w11 := ⟨hb11.os, hb11.tape, hb11.output, hb11.size, hb11.block⟩; have L11 := Lib.hid (L10.out.stay hb11'); clear hb11 hb11'))
        all_goals
          go_wp2_with fail
          go_meet
          exact ⟨rfl, L11.out⟩
      case rest =>
        obtain ⟨rfl, L0⟩ := hcut
        have LA := Lib.hid L0
        clear L0 L9 HC9 R9 cA cG cR cH zA zG zR zH cC fC zC
        obtain ⟨cA, cG, cR, cH, zA, zG, zR, zH⟩ := LA.out.cells
        have hzf := checkR_zero LA.out.f.chk
        have hzg := checkR_zero LA.out.g.chk
        have RC2 := Lib.hid (fun w => refCommon_any X Y W H X2 Y2 W2 H2 w (by omega) (by omega) (by omega) (by omega) (by omega) (by omega) (by omega) (by omega) (by omega) (by omega) (by omega) (by omega) (by omega) (by omega) (by omega) (by omega))
        obtain ⟨q1, q2, q3, q4, hq⟩ := comR_regC X Y W H X2 Y2 W2 H2
        rw [hq] at RC2
        clear hq
        cases hcm : comB X Y W H X2 Y2 W2 H2 with
        | false =>
          rw [hcm] at RC2
          clear hzf hzg
          go_wp2_with fail
          refine (paste_no X Y W H n b n v X2 Y2 W2 H2 n2 b2 n2 v2 wc LA.out.f.chk LA.out.f.num LA.out.f.row LA.out.f.hgt LA.out.g.chk LA.out.g.num LA.out.g.row LA.out.g.hgt hcm).mono ?_
          rintro e w10 ⟨rfl, hb10⟩
          have L10 := Lib.hid (LA.out.stay hb10)
          have L11 := Lib.hid (L10.out.stay (al_belowC w10 (fldO 0 0 0 0 (.slice none 0 0))))
          clear hb10 cA cG cR cH zA zG zR zH LA
          obtain ⟨cA, cG, cR, cH, zA, zG, zR, zH⟩ := L10.out.cells
          go_wp2_with fail
          refine (RC2.out _).mono ?_
          rintro e w12 ⟨rfl, hb12⟩
          have L12 := Lib.hid (L11.out.stay hb12)
          clear hb12 cA cG cR cH zA zG zR zH L10 L11
          go_wp2
          go_ret
          exact ⟨rfl, L12.out.bel.alloc L12.out.bel.size _⟩
        | true =>
          rw [hcm] at RC2
          have hnm : n = H * W := by rw [LA.out.f.num]; exact Nat.mul_comm _ _
          have hnm2 : n2 = H2 * W2 := by rw [LA.out.g.num]; exact Nat.mul_comm _ _
          have hpst := pstF_hgt (X := X) (Y := Y) (W := W) (H := H) (X2 := X2) (Y2 := Y2) LA.out.f.hgt LA.out.g.hgt (by omega) hnm2
          have hn1 := LA.out.f.pos
          have hn2 := LA.out.g.pos
          have hnl : n ≤ 9223372036854775807 := by have := LA.out.f.few; omega
          clear hzf hzg hnm hnm2
          go_wp2_with fail
          refine (paste_ok X Y W H n b n v X2 Y2 W2 H2 n2 b2 n2 v2 wc LA.out.f.chk LA.out.f.num LA.out.f.row LA.out.f.hgt LA.out.g.chk LA.out.g.num LA.out.g.row LA.out.g.hgt hcm).mono ?_
          intro e w10 hp
          obtain ⟨b10, cap10, rfl, lt10, row10, hb10⟩ := made_yes hp hpst
          have L10 := Lib.hid (LA.out.stay hb10)
          have hb11 := al_belowC w10 (fldO X Y W H (.slice (some ⟨b10, 0, none⟩) n cap10))
          have HP11 := Lib.hid (heap_alloc_new w10 (fldO X Y W H (.slice (some ⟨b10, 0, none⟩) n cap10)))
          have L11 := Lib.hid (L10.out.stay hb11)
          have R11 := Lib.hid (flAt_congr row10 (heap_alloc_old w10 (fldO X Y W H (.slice (some ⟨b10, 0, none⟩) n cap10)) lt10))
          clear hp row10 hb10 cA cG cR cH zA zG zR zH LA
          obtain ⟨cA, cG, cR, cH, zA, zG, zR, zH⟩ := L10.out.cells
          go_wp2_with fail
          refine (RC2.out _).mono ?_
          rintro e w12 ⟨rfl, hb12⟩
          have L12 := Lib.hid (L11.out.stay hb12)
          have HP12 := Lib.hid (blkStay HP11.out hb12)
          have R12 := Lib.hid (flAt_congr R11.out (hb12.block _ (by rw [heap_size_alloc]; exact Nat.lt_succ_of_lt lt10)))
          have hb13 := al_belowC w12 (regObj q1 q2 q3 q4)
          have L13 := Lib.hid (L12.out.stay hb13)
          have HP13 := Lib.hid (blkStay HP12.out hb13)
          have R13 := Lib.hid (flAt_congr R12.out (hb13.block _ (World.block_lt_of_cell? w12 _ (R12.out 0 hn1))))
          clear hb12 hb11 cA cG cR cH zA zG zR zH L10 L11 HP11 R11 HP12 R12
          obtain ⟨cA, cG, cR, cH, zA, zG, zR, zH⟩ := L12.out.cells
          go_wp2_with fail
          have FS := Lib.hid (fun W' (hb : Below (w12.alloc (regObj q1 q2 q3 q4)).heap.size (w12.alloc (regObj q1 q2 q3 q4)) W') => fsame_any X Y W H n b n v X2 Y2 W2 H2 n2 b2 n2 v2 W' hnl hn1 hn2 L13.out.f.num L13.out.g.num (flAt_congr L13.out.f.row (hb.block _ L13.out.f.lt)) (flAt_congr L13.out.g.row (hb.block _ L13.out.g.lt)))
          have RS := Lib.hid (fun W' (hb : Below (w12.alloc (regObj q1 q2 q3 q4)).heap.size (w12.alloc (regObj q1 q2 q3 q4)) W') => rsame_any X Y W H n b n v X2 Y2 W2 H2 n2 b2 n2 v2 W' hnl hn1 hn2 L13.out.f.num L13.out.g.num (flAt_congr L13.out.f.row (hb.block _ L13.out.f.lt)) (flAt_congr L13.out.g.row (hb.block _ L13.out.g.lt)))
          have RP := Lib.hid (fun W' (hb : Below (w12.alloc (regObj q1 q2 q3 q4)).heap.size (w12.alloc (regObj q1 q2 q3 q4)) W') => rpaste_ok X Y W H n b n v X2 Y2 W2 H2 n2 b2 n2 v2 W' L13.out.f.chk L13.out.f.num (flAt_congr L13.out.f.row (hb.block _ L13.out.f.lt)) L13.out.f.hgt L13.out.f.wf L13.out.g.chk L13.out.g.num (flAt_congr L13.out.g.row (hb.block _ L13.out.g.lt)) L13.out.g.hgt L13.out.g.wf)
          generalize (sameR X Y W H X2 Y2 W2 H2 && sameV n v v2) = sq at FS RS
          have lt13 := World.block_lt_of_cell? _ _ (R13.out 0 hn1)
          clear cA cG cR cH zA zG zR zH L12 hb13
          generalize w12.alloc (regObj q1 q2 q3 q4) = w13 at *
          generalize pstF v v2 X Y W X2 Y2 W2 H2 = fp at *
          refine wp_region_held_drew (S := (fun w' => ((∀ o, w'.cell? ⟨w.heap.size, o, none⟩ = #[.int .i64 X, .int .i64 Y, .int .i64 W, .int .i64 H, .slice (some ⟨b, 0, none⟩) n n][o]?) ∧ (∀ o, w'.cell? ⟨w.heap.size + 1, o, none⟩ = #[.int .i64 X2, .int .i64 Y2, .int .i64 W2, .int .i64 H2, .slice (some ⟨b2, 0, none⟩) n2 n2][o]?) ∧ (∀ o, w'.cell? ⟨w10.heap.size, o, none⟩ = #[.int .i64 X, .int .i64 Y, .int .i64 W, .int .i64 H, .slice (some ⟨b10, 0, none⟩) n cap10][o]?)) ∧ Below w13.heap.size w13 w')) (by kernel_rfl) ?_ (fun hHeld => ?_)
          · try dsimp only
            exact (fun K => ⟨⟨(blkC (blkStay L13.out.f.fld K)).1, (blkC (blkStay L13.out.g.fld K)).1, (blkC (blkStay HP13.out K)).1⟩, K⟩) (Below.drew (Below.refl _ _))
          refine wpAnyH_take (i := 0) (v := ?hv1) rfl (by kernel_rfl) (by kernel_rfl) (by kernel_rfl) (fun _ _ _ h => h) (Or.inl ⟨by rfl, ?hy1⟩) (by assumption) ?hr1; (case hy1 => ((intro w hSw; (try dsimp only at hSw); go_simp) <;> with_reducible rfl)); try simp only [Act.put, List.setIfInBounds_toArray]
          refine wpAnyH_take (i := 1) (v := ?hv9) rfl (by kernel_rfl) (by kernel_rfl) (by kernel_rfl) (fun _ _ _ h => h) (Or.inl ⟨by rfl, ?hy9⟩) (by assumption) ?hr9; (case hy9 => ((intro w hSw; (try dsimp only at hSw); go_simp) <;> with_reducible rfl)); try simp only [Act.put]
          refine wpAnyH_take (i := 2) (v := ?hv10) rfl (by kernel_rfl) (by kernel_rfl) (by kernel_rfl) (fun _ _ _ h => h) (Or.inl ⟨by rfl, ?hy10⟩) (by assumption) ?hr10; (case hy10 => ((intro w hSw; (try dsimp only at hSw); go_simp) <;> with_reducible rfl)); try simp only [Act.put]
          refine wpAnyH_take (i := 3) (v := ?hv11) rfl (by kernel_rfl) (by kernel_rfl) (by kernel_rfl) (fun _ _ _ h => h) (Or.inl ⟨by rfl, ?hy11⟩) (by assumption) ?hr11; (case hy11 => ((intro w hSw; (try dsimp only at hSw); go_simp) <;> with_reducible rfl)); try simp only [Act.put]
          refine wpAnyH_take (i := 4) (v := ?hv12) rfl (by kernel_rfl) (by kernel_rfl) (by kernel_rfl) (fun _ _ _ h => h) (Or.inl ⟨by rfl, ?hy12⟩) (by assumption) ?hr12; (case hy12 => ((intro w hSw; (try dsimp only at hSw); go_simp) <;> with_reducible rfl)); try simp only [Act.put]
          refine wpAnyH_take (i := 5) (v := ?hv13) rfl (by kernel_rfl) (by kernel_rfl) (by kernel_rfl) (fun _ _ _ h => h) (Or.inl ⟨by rfl, ?hy13⟩) (by assumption) ?hr13; (case hy13 => ((intro w hSw; (try dsimp only at hSw); go_simp) <;> with_reducible rfl)); try simp only [Act.put]
          refine wpAnyH_ready (rs := [6]) (by kernel_rfl) (by simp) ?_; refine AllReadyH.cons rfl (fun K hK => ?_) AllReadyH.nil; go_simp
          (with_reducible refine Calls.mono (RP.out _ ?_) ?_)
          first | exact Below.refl _ _ | exact (Below.refl _ _).drew | exact hHeld.2
          intro e w14 hp
          obtain ⟨b14, cap14, rfl, lt14, row14, hb14⟩ := one_yes hp
          have hb9 : Below w13.heap.size w13 w14 := ⟨hb14.os, hb14.tape, hb14.output, hb14.size, hb14.block⟩
          have R14 := Lib.hid (flAt_congr R13.out (hb9.block _ lt13))
          have Q14 := Lib.hid row14
          clear hp row14 hb14
          try go_wp2_with fail
          refine hK.out _ _ ?_ (fun hHeld => ?_)
          · try dsimp only
            exact (fun K => ⟨⟨(blkC (blkStay L13.out.f.fld K)).1, (blkC (blkStay L13.out.g.fld K)).1, (blkC (blkStay HP13.out K)).1⟩, K⟩) (by first | exact hb9 | exact hb9.drew)
          clear hK K; try simp only [Act.put, List.setIfInBounds_toArray, List.set_cons_zero, List.set_cons_succ]
          refine wpAnyH_ready (rs := [7]) (by kernel_rfl) (by simp) ?_; refine AllReadyH.cons rfl (fun K hK => ?_) AllReadyH.nil; go_simp
          (with_reducible refine Calls.mono (same_ok _ _ _ _ _ _ _ _ n _ hnl hn1 _ R14.out Q14.out) ?_)
          rintro e w15 ⟨rfl, hb15⟩
          have hb8 : Below w14.heap.size w14 w15 := ⟨hb15.os, hb15.tape, hb15.output, hb15.size, hb15.block⟩
          have hb7 := hb9.trans (hb8.mono hb9.size)
          clear hb15 hb8
          try go_wp2_with fail
          refine hK.out _ _ ?_ (fun hHeld => ?_)
          · try dsimp only
            exact (fun K => ⟨⟨(blkC (blkStay L13.out.f.fld K)).1, (blkC (blkStay L13.out.g.fld K)).1, (blkC (blkStay HP13.out K)).1⟩, K⟩) (by first | exact hb7 | exact hb7.drew)
          clear hK K; try simp only [Act.put, List.setIfInBounds_toArray, List.set_cons_zero, List.set_cons_succ]
          refine wpAnyH_take (i := 8) (v := ?hv2) rfl (by kernel_rfl) (by kernel_rfl) (by kernel_rfl) (fun _ _ _ h => h) (Or.inl ⟨by rfl, ?hy2⟩) (by assumption) ?hr2; (case hy2 => ((intro w hSw; (try dsimp only at hSw); go_simp) <;> with_reducible rfl)); try simp only [Act.put, List.setIfInBounds_toArray]
          refine wpAnyH_take (i := 9) (v := ?hv14) rfl (by kernel_rfl) (by kernel_rfl) (by kernel_rfl) (fun _ _ _ h => h) (Or.inl ⟨by rfl, ?hy14⟩) (by assumption) ?hr14; (case hy14 => ((intro w hSw; (try dsimp only at hSw); go_simp) <;> with_reducible rfl)); try simp only [Act.put]
          refine wpAnyH_take (i := 10) (v := ?hv15) rfl (by kernel_rfl) (by kernel_rfl) (by kernel_rfl) (fun _ _ _ h => h) (Or.inl ⟨by rfl, ?hy15⟩) (by assumption) ?hr15; (case hy15 => ((intro w hSw; (try dsimp only at hSw); go_simp) <;> with_reducible rfl)); try simp only [Act.put]
          refine wpAnyH_take (i := 11) (v := ?hv16) rfl (by kernel_rfl) (by kernel_rfl) (by kernel_rfl) (fun _ _ _ h => h) (Or.inl ⟨by rfl, ?hy16⟩) (by assumption) ?hr16; (case hy16 => ((intro w hSw; (try dsimp only at hSw); go_simp) <;> with_reducible rfl)); try simp only [Act.put]
          refine wpAnyH_take (i := 13) (v := ?hv17) rfl (by kernel_rfl) (by kernel_rfl) (by kernel_rfl) (fun _ _ _ h => h) (Or.inl ⟨by rfl, ?hy17⟩) (by assumption) ?hr17; (case hy17 => ((intro w hSw; (try dsimp only at hSw); go_simp) <;> with_reducible rfl)); try simp only [Act.put]
          refine wpAnyH_take (i := 14) (v := ?hv18) rfl (by kernel_rfl) (by kernel_rfl) (by kernel_rfl) (fun _ _ _ h => h) (Or.inl ⟨by rfl, ?hy18⟩) (by assumption) ?hr18; (case hy18 => ((intro w hSw; (try dsimp only at hSw); go_simp) <;> with_reducible rfl)); try simp only [Act.put]
          refine wpAnyH_ready (rs := [12]) (by kernel_rfl) (by simp) ?_; refine AllReadyH.cons rfl (fun K hK => ?_) AllReadyH.nil; go_simp
          (with_reducible refine Calls.mono (FS.out _ ?_) ?_)
          first | exact hb7 | exact hb7.drew | exact hb7.drew.drew
          rintro e w16 ⟨rfl, hb16⟩
          have hb6 : Below w13.heap.size w13 w16 := hb7.trans (Below.mono ⟨hb16.os, hb16.tape, hb16.output, hb16.size, hb16.block⟩ hb7.size)
          clear hb16
          try go_wp2_with fail
          refine hK.out _ _ ?_ (fun hHeld => ?_)
          · try dsimp only
            exact (fun K => ⟨⟨(blkC (blkStay L13.out.f.fld K)).1, (blkC (blkStay L13.out.g.fld K)).1, (blkC (blkStay HP13.out K)).1⟩, K⟩) (by first | exact hb6 | exact hb6.drew)
          clear hK K; try simp only [Act.put, List.setIfInBounds_toArray, List.set_cons_zero, List.set_cons_succ]
          refine wpAnyH_ready (rs := [15]) (by kernel_rfl) (by simp) ?_; refine AllReadyH.cons rfl (fun K hK => ?_) AllReadyH.nil; go_simp
          (with_reducible refine Calls.mono (RS.out _ ?_) ?_)
          first | exact hb6 | exact hb6.drew | exact hb6.drew.drew
          rintro e w17 ⟨rfl, hb17⟩
          have hb5 : Below w13.heap.size w13 w17 := hb6.trans (Below.mono ⟨hb17.os, hb17.tape, hb17.output, hb17.size, hb17.block⟩ hb6.size)
          clear hb17
          try go_wp2_with fail
          refine hK.out _ _ ?_ (fun hHeld => ?_)
          · try dsimp only
            exact (fun K => ⟨⟨(blkC (blkStay L13.out.f.fld K)).1, (blkC (blkStay L13.out.g.fld K)).1, (blkC (blkStay HP13.out K)).1⟩, K⟩) (by first | exact hb5 | exact hb5.drew)
          clear hK K; try simp only [Act.put, List.setIfInBounds_toArray, List.set_cons_zero, List.set_cons_succ]
          refine wpAnyH_take (i := 16) (v := ?hv3) rfl (by kernel_rfl) (by kernel_rfl) (by kernel_rfl) (fun _ _ _ h => h) (Or.inl ⟨by rfl, ?hy3⟩) (by assumption) ?hr3; (case hy3 => ((intro w hSw; (try dsimp only at hSw); go_simp) <;> with_reducible rfl)); try simp only [Act.put, List.setIfInBounds_toArray]
          refine wpAnyH_take (i := 17) (v := ?hv19) rfl (by kernel_rfl) (by kernel_rfl) (by kernel_rfl) (fun _ _ _ h => h) (Or.inl ⟨by rfl, ?hy19⟩) (by assumption) ?hr19; (case hy19 => ((intro w hSw; (try dsimp only at hSw); go_simp) <;> with_reducible rfl)); try simp only [Act.put]
          try simp only [List.getElem_toArray, List.getElem_cons_succ, List.getElem_cons_zero, List.setIfInBounds_toArray, List.set_cons_zero, List.set_cons_succ]
          refine wpAnyH_take (i := 18) (v := ?hv4) rfl (by kernel_rfl) (by kernel_rfl) (by kernel_rfl) (fun _ _ _ h => h) (Or.inl ⟨by rfl, ?hy4⟩) (by assumption) ?hr4; (case hy4 => ((intro w hSw; (try dsimp only at hSw); go_simp) <;> with_reducible rfl)); try simp only [Act.put, List.setIfInBounds_toArray]
          try simp only [List.getElem_toArray, List.getElem_cons_succ, List.getElem_cons_zero, List.set_cons_zero, List.set_cons_succ]
          refine wpAnyH_done (by kernel_rfl) ?_ _
          have HBh := Lib.hid (L13.out.bel.trans (hHeld.2.mono L13.out.bel.size))
          clear hHeld
          go_wp2
          go_ret
          exact ⟨rfl, HBh.out⟩
    | false =>
      have hE : cutE X Y W H rx ry RW RH = 5 := by unfold cutE; rw [if_pos hz, hi]; rfl
      have hzf := checkR_zero L5.out.f.chk
      have hzr := checkR_zero hz
      have RI := Lib.hid (fun w => refInside_any rx ry RW RH X Y W H w (by omega) (by omega) (by omega) (by omega) (by omega) (by omega) (by omega) (by omega) (by omega) (by omega) (by omega) (by omega) (by omega) (by omega) (by omega) (by omega))
      rw [hi] at RI
      clear hzf hzr
      refine (cut_bad X Y W H n b n v rx ry RW RH 5 w5 L5.out.f.chk L5.out.f.num L5.out.f.row L5.out.f.hgt hE (by omega)).mono ?_
      rintro e w6 ⟨rfl, hb6⟩
      have L6 := Lib.hid (L5.out.stay hb6)
      have L7 := Lib.hid (L6.out.stay (al_belowC w6 (fldO 0 0 0 0 (.slice none 0 0))))
      clear hb6 cA cG cR cH zA zG zR zH L5
      obtain ⟨cA, cG, cR, cH, zA, zG, zR, zH⟩ := L6.out.cells
      go_wp2_with fail
      refine (refCheckRegion_any _ _ _ _ _).mono ?_
      rintro e w8 ⟨rfl, hw8⟩
      rw [hz]
      have L8 := Lib.hid (L7.out.stay (wy := w8) (by rw [hw8]; exact al_belowC _ _))
      clear hw8 L7 L6 cA cG cR cH zA zG zR zH
      obtain ⟨cA, cG, cR, cH, zA, zG, zR, zH⟩ := L8.out.cells
      go_wp2_with fail
      refine (RI.out _).mono ?_
      rintro e w9 ⟨rfl, hb9⟩
      have LA := Lib.hid (L8.out.stay hb9)
      clear hb9 L8 cA cG cR cH zA zG zR zH RI
      obtain ⟨cA, cG, cR, cH, zA, zG, zR, zH⟩ := LA.out.cells
      have hzf := checkR_zero LA.out.f.chk
      have hzg := checkR_zero LA.out.g.chk
      have RC2 := Lib.hid (fun w => refCommon_any X Y W H X2 Y2 W2 H2 w (by omega) (by omega) (by omega) (by omega) (by omega) (by omega) (by omega) (by omega) (by omega) (by omega) (by omega) (by omega) (by omega) (by omega) (by omega) (by omega))
      obtain ⟨q1, q2, q3, q4, hq⟩ := comR_regC X Y W H X2 Y2 W2 H2
      rw [hq] at RC2
      clear hq
      cases hcm : comB X Y W H X2 Y2 W2 H2 with
      | false =>
        rw [hcm] at RC2
        clear hzf hzg
        go_wp2_with fail
        refine (paste_no X Y W H n b n v X2 Y2 W2 H2 n2 b2 n2 v2 w9 LA.out.f.chk LA.out.f.num LA.out.f.row LA.out.f.hgt LA.out.g.chk LA.out.g.num LA.out.g.row LA.out.g.hgt hcm).mono ?_
        rintro e w10 ⟨rfl, hb10⟩
        have L10 := Lib.hid (LA.out.stay hb10)
        have L11 := Lib.hid (L10.out.stay (al_belowC w10 (fldO 0 0 0 0 (.slice none 0 0))))
        clear hb10 cA cG cR cH zA zG zR zH LA
        obtain ⟨cA, cG, cR, cH, zA, zG, zR, zH⟩ := L10.out.cells
        go_wp2_with fail
        refine (RC2.out _).mono ?_
        rintro e w12 ⟨rfl, hb12⟩
        have L12 := Lib.hid (L11.out.stay hb12)
        clear hb12 cA cG cR cH zA zG zR zH L10 L11
        go_wp2
        go_ret
        exact ⟨rfl, L12.out.bel.alloc L12.out.bel.size _⟩
      | true =>
        rw [hcm] at RC2
        have hnm : n = H * W := by rw [LA.out.f.num]; exact Nat.mul_comm _ _
        have hnm2 : n2 = H2 * W2 := by rw [LA.out.g.num]; exact Nat.mul_comm _ _
        have hpst := pstF_hgt (X := X) (Y := Y) (W := W) (H := H) (X2 := X2) (Y2 := Y2) LA.out.f.hgt LA.out.g.hgt (by omega) hnm2
        have hn1 := LA.out.f.pos
        have hn2 := LA.out.g.pos
        have hnl : n ≤ 9223372036854775807 := by have := LA.out.f.few; omega
        clear hzf hzg hnm hnm2
        go_wp2_with fail
        refine (paste_ok X Y W H n b n v X2 Y2 W2 H2 n2 b2 n2 v2 w9 LA.out.f.chk LA.out.f.num LA.out.f.row LA.out.f.hgt LA.out.g.chk LA.out.g.num LA.out.g.row LA.out.g.hgt hcm).mono ?_
        intro e w10 hp
        obtain ⟨b10, cap10, rfl, lt10, row10, hb10⟩ := made_yes hp hpst
        have L10 := Lib.hid (LA.out.stay hb10)
        have hb11 := al_belowC w10 (fldO X Y W H (.slice (some ⟨b10, 0, none⟩) n cap10))
        have HP11 := Lib.hid (heap_alloc_new w10 (fldO X Y W H (.slice (some ⟨b10, 0, none⟩) n cap10)))
        have L11 := Lib.hid (L10.out.stay hb11)
        have R11 := Lib.hid (flAt_congr row10 (heap_alloc_old w10 (fldO X Y W H (.slice (some ⟨b10, 0, none⟩) n cap10)) lt10))
        clear hp row10 hb10 cA cG cR cH zA zG zR zH LA
        obtain ⟨cA, cG, cR, cH, zA, zG, zR, zH⟩ := L10.out.cells
        go_wp2_with fail
        refine (RC2.out _).mono ?_
        rintro e w12 ⟨rfl, hb12⟩
        have L12 := Lib.hid (L11.out.stay hb12)
        have HP12 := Lib.hid (blkStay HP11.out hb12)
        have R12 := Lib.hid (flAt_congr R11.out (hb12.block _ (by rw [heap_size_alloc]; exact Nat.lt_succ_of_lt lt10)))
        have hb13 := al_belowC w12 (regObj q1 q2 q3 q4)
        have L13 := Lib.hid (L12.out.stay hb13)
        have HP13 := Lib.hid (blkStay HP12.out hb13)
        have R13 := Lib.hid (flAt_congr R12.out (hb13.block _ (World.block_lt_of_cell? w12 _ (R12.out 0 hn1))))
        clear hb12 hb11 cA cG cR cH zA zG zR zH L10 L11 HP11 R11 HP12 R12
        obtain ⟨cA, cG, cR, cH, zA, zG, zR, zH⟩ := L12.out.cells
        go_wp2_with fail
        have FS := Lib.hid (fun W' (hb : Below (w12.alloc (regObj q1 q2 q3 q4)).heap.size (w12.alloc (regObj q1 q2 q3 q4)) W') => fsame_any X Y W H n b n v X2 Y2 W2 H2 n2 b2 n2 v2 W' hnl hn1 hn2 L13.out.f.num L13.out.g.num (flAt_congr L13.out.f.row (hb.block _ L13.out.f.lt)) (flAt_congr L13.out.g.row (hb.block _ L13.out.g.lt)))
        have RS := Lib.hid (fun W' (hb : Below (w12.alloc (regObj q1 q2 q3 q4)).heap.size (w12.alloc (regObj q1 q2 q3 q4)) W') => rsame_any X Y W H n b n v X2 Y2 W2 H2 n2 b2 n2 v2 W' hnl hn1 hn2 L13.out.f.num L13.out.g.num (flAt_congr L13.out.f.row (hb.block _ L13.out.f.lt)) (flAt_congr L13.out.g.row (hb.block _ L13.out.g.lt)))
        have RP := Lib.hid (fun W' (hb : Below (w12.alloc (regObj q1 q2 q3 q4)).heap.size (w12.alloc (regObj q1 q2 q3 q4)) W') => rpaste_ok X Y W H n b n v X2 Y2 W2 H2 n2 b2 n2 v2 W' L13.out.f.chk L13.out.f.num (flAt_congr L13.out.f.row (hb.block _ L13.out.f.lt)) L13.out.f.hgt L13.out.f.wf L13.out.g.chk L13.out.g.num (flAt_congr L13.out.g.row (hb.block _ L13.out.g.lt)) L13.out.g.hgt L13.out.g.wf)
        generalize (sameR X Y W H X2 Y2 W2 H2 && sameV n v v2) = sq at FS RS
        have lt13 := World.block_lt_of_cell? _ _ (R13.out 0 hn1)
        clear cA cG cR cH zA zG zR zH L12 hb13
        generalize w12.alloc (regObj q1 q2 q3 q4) = w13 at *
        generalize pstF v v2 X Y W X2 Y2 W2 H2 = fp at *
        refine wp_region_held_drew (S := (fun w' => ((∀ o, w'.cell? ⟨w.heap.size, o, none⟩ = #[.int .i64 X, .int .i64 Y, .int .i64 W, .int .i64 H, .slice (some ⟨b, 0, none⟩) n n][o]?) ∧ (∀ o, w'.cell? ⟨w.heap.size + 1, o, none⟩ = #[.int .i64 X2, .int .i64 Y2, .int .i64 W2, .int .i64 H2, .slice (some ⟨b2, 0, none⟩) n2 n2][o]?) ∧ (∀ o, w'.cell? ⟨w10.heap.size, o, none⟩ = #[.int .i64 X, .int .i64 Y, .int .i64 W, .int .i64 H, .slice (some ⟨b10, 0, none⟩) n cap10][o]?)) ∧ Below w13.heap.size w13 w')) (by kernel_rfl) ?_ (fun hHeld => ?_)
        · try dsimp only
          exact (fun K => ⟨⟨(blkC (blkStay L13.out.f.fld K)).1, (blkC (blkStay L13.out.g.fld K)).1, (blkC (blkStay HP13.out K)).1⟩, K⟩) (Below.drew (Below.refl _ _))
        refine wpAnyH_take (i := 0) (v := ?hv5) rfl (by kernel_rfl) (by kernel_rfl) (by kernel_rfl) (fun _ _ _ h => h) (Or.inl ⟨by rfl, ?hy5⟩) (by assumption) ?hr5; (case hy5 => ((intro w hSw; (try dsimp only at hSw); go_simp) <;> with_reducible rfl)); try simp only [Act.put, List.setIfInBounds_toArray]
        refine wpAnyH_take (i := 1) (v := ?hv20) rfl (by kernel_rfl) (by kernel_rfl) (by kernel_rfl) (fun _ _ _ h => h) (Or.inl ⟨by rfl, ?hy20⟩) (by assumption) ?hr20; (case hy20 => ((intro w hSw; (try dsimp only at hSw); go_simp) <;> with_reducible rfl)); try simp only [Act.put]
        refine wpAnyH_take (i := 2) (v := ?hv21) rfl (by kernel_rfl) (by kernel_rfl) (by kernel_rfl) (fun _ _ _ h => h) (Or.inl ⟨by rfl, ?hy21⟩) (by assumption) ?hr21; (case hy21 => ((intro w hSw; (try dsimp only at hSw); go_simp) <;> with_reducible rfl)); try simp only [Act.put]
        refine wpAnyH_take (i := 3) (v := ?hv22) rfl (by kernel_rfl) (by kernel_rfl) (by kernel_rfl) (fun _ _ _ h => h) (Or.inl ⟨by rfl, ?hy22⟩) (by assumption) ?hr22; (case hy22 => ((intro w hSw; (try dsimp only at hSw); go_simp) <;> with_reducible rfl)); try simp only [Act.put]
        refine wpAnyH_take (i := 4) (v := ?hv23) rfl (by kernel_rfl) (by kernel_rfl) (by kernel_rfl) (fun _ _ _ h => h) (Or.inl ⟨by rfl, ?hy23⟩) (by assumption) ?hr23; (case hy23 => ((intro w hSw; (try dsimp only at hSw); go_simp) <;> with_reducible rfl)); try simp only [Act.put]
        refine wpAnyH_take (i := 5) (v := ?hv24) rfl (by kernel_rfl) (by kernel_rfl) (by kernel_rfl) (fun _ _ _ h => h) (Or.inl ⟨by rfl, ?hy24⟩) (by assumption) ?hr24; (case hy24 => ((intro w hSw; (try dsimp only at hSw); go_simp) <;> with_reducible rfl)); try simp only [Act.put]
        refine wpAnyH_ready (rs := [6]) (by kernel_rfl) (by simp) ?_; refine AllReadyH.cons rfl (fun K hK => ?_) AllReadyH.nil; go_simp
        (with_reducible refine Calls.mono (RP.out _ ?_) ?_)
        first | exact Below.refl _ _ | exact (Below.refl _ _).drew | exact hHeld.2
        intro e w14 hp
        obtain ⟨b14, cap14, rfl, lt14, row14, hb14⟩ := one_yes hp
        have hb9 : Below w13.heap.size w13 w14 := ⟨hb14.os, hb14.tape, hb14.output, hb14.size, hb14.block⟩
        have R14 := Lib.hid (flAt_congr R13.out (hb9.block _ lt13))
        have Q14 := Lib.hid row14
        clear hp row14 hb14
        try go_wp2_with fail
        refine hK.out _ _ ?_ (fun hHeld => ?_)
        · try dsimp only
          exact (fun K => ⟨⟨(blkC (blkStay L13.out.f.fld K)).1, (blkC (blkStay L13.out.g.fld K)).1, (blkC (blkStay HP13.out K)).1⟩, K⟩) (by first | exact hb9 | exact hb9.drew)
        clear hK K; try simp only [Act.put, List.setIfInBounds_toArray, List.set_cons_zero, List.set_cons_succ]
        refine wpAnyH_ready (rs := [7]) (by kernel_rfl) (by simp) ?_; refine AllReadyH.cons rfl (fun K hK => ?_) AllReadyH.nil; go_simp
        (with_reducible refine Calls.mono (same_ok _ _ _ _ _ _ _ _ n _ hnl hn1 _ R14.out Q14.out) ?_)
        rintro e w15 ⟨rfl, hb15⟩
        have hb8 : Below w14.heap.size w14 w15 := ⟨hb15.os, hb15.tape, hb15.output, hb15.size, hb15.block⟩
        have hb7 := hb9.trans (hb8.mono hb9.size)
        clear hb15 hb8
        try go_wp2_with fail
        refine hK.out _ _ ?_ (fun hHeld => ?_)
        · try dsimp only
          exact (fun K => ⟨⟨(blkC (blkStay L13.out.f.fld K)).1, (blkC (blkStay L13.out.g.fld K)).1, (blkC (blkStay HP13.out K)).1⟩, K⟩) (by first | exact hb7 | exact hb7.drew)
        clear hK K; try simp only [Act.put, List.setIfInBounds_toArray, List.set_cons_zero, List.set_cons_succ]
        refine wpAnyH_take (i := 8) (v := ?hv6) rfl (by kernel_rfl) (by kernel_rfl) (by kernel_rfl) (fun _ _ _ h => h) (Or.inl ⟨by rfl, ?hy6⟩) (by assumption) ?hr6; (case hy6 => ((intro w hSw; (try dsimp only at hSw); go_simp) <;> with_reducible rfl)); try simp only [Act.put, List.setIfInBounds_toArray]
        refine wpAnyH_take (i := 9) (v := ?hv25) rfl (by kernel_rfl) (by kernel_rfl) (by kernel_rfl) (fun _ _ _ h => h) (Or.inl ⟨by rfl, ?hy25⟩) (by assumption) ?hr25; (case hy25 => ((intro w hSw; (try dsimp only at hSw); go_simp) <;> with_reducible rfl)); try simp only [Act.put]
        refine wpAnyH_take (i := 10) (v := ?hv26) rfl (by kernel_rfl) (by kernel_rfl) (by kernel_rfl) (fun _ _ _ h => h) (Or.inl ⟨by rfl, ?hy26⟩) (by assumption) ?hr26; (case hy26 => ((intro w hSw; (try dsimp only at hSw); go_simp) <;> with_reducible rfl)); try simp only [Act.put]
        refine wpAnyH_take (i := 11) (v := ?hv27) rfl (by kernel_rfl) (by kernel_rfl) (by kernel_rfl) (fun _ _ _ h => h) (Or.inl ⟨by rfl, ?hy27⟩) (by assumption) ?hr27; (case hy27 => ((intro w hSw; (try dsimp only at hSw); go_simp) <;> with_reducible rfl)); try simp only [Act.put]
        refine wpAnyH_take (i := 13) (v := ?hv28) rfl (by kernel_rfl) (by kernel_rfl) (by kernel_rfl) (fun _ _ _ h => h) (Or.inl ⟨by rfl, ?hy28⟩) (by assumption) ?hr28; (case hy28 => ((intro w hSw; (try dsimp only at hSw); go_simp) <;> with_reducible rfl)); try simp only [Act.put]
        refine wpAnyH_take (i := 14) (v := ?hv29) rfl (by kernel_rfl) (by kernel_rfl) (by kernel_rfl) (fun _ _ _ h => h) (Or.inl ⟨by rfl, ?hy29⟩) (by assumption) ?hr29; (case hy29 => ((intro w hSw; (try dsimp only at hSw); go_simp) <;> with_reducible rfl)); try simp only [Act.put]
        refine wpAnyH_ready (rs := [12]) (by kernel_rfl) (by simp) ?_; refine AllReadyH.cons rfl (fun K hK => ?_) AllReadyH.nil; go_simp
        (with_reducible refine Calls.mono (FS.out _ ?_) ?_)
        first | exact hb7 | exact hb7.drew | exact hb7.drew.drew
        rintro e w16 ⟨rfl, hb16⟩
        have hb6 : Below w13.heap.size w13 w16 := hb7.trans (Below.mono ⟨hb16.os, hb16.tape, hb16.output, hb16.size, hb16.block⟩ hb7.size)
        clear hb16
        try go_wp2_with fail
        refine hK.out _ _ ?_ (fun hHeld => ?_)
        · try dsimp only
          exact (fun K => ⟨⟨(blkC (blkStay L13.out.f.fld K)).1, (blkC (blkStay L13.out.g.fld K)).1, (blkC (blkStay HP13.out K)).1⟩, K⟩) (by first | exact hb6 | exact hb6.drew)
        clear hK K; try simp only [Act.put, List.setIfInBounds_toArray, List.set_cons_zero, List.set_cons_succ]
        refine wpAnyH_ready (rs := [15]) (by kernel_rfl) (by simp) ?_; refine AllReadyH.cons rfl (fun K hK => ?_) AllReadyH.nil; go_simp
        (with_reducible refine Calls.mono (RS.out _ ?_) ?_)
        first | exact hb6 | exact hb6.drew | exact hb6.drew.drew
        rintro e w17 ⟨rfl, hb17⟩
        have hb5 : Below w13.heap.size w13 w17 := hb6.trans (Below.mono ⟨hb17.os, hb17.tape, hb17.output, hb17.size, hb17.block⟩ hb6.size)
        clear hb17
        try go_wp2_with fail
        refine hK.out _ _ ?_ (fun hHeld => ?_)
        · try dsimp only
          exact (fun K => ⟨⟨(blkC (blkStay L13.out.f.fld K)).1, (blkC (blkStay L13.out.g.fld K)).1, (blkC (blkStay HP13.out K)).1⟩, K⟩) (by first | exact hb5 | exact hb5.drew)
        clear hK K; try simp only [Act.put, List.setIfInBounds_toArray, List.set_cons_zero, List.set_cons_succ]
        refine wpAnyH_take (i := 16) (v := ?hv7) rfl (by kernel_rfl) (by kernel_rfl) (by kernel_rfl) (fun _ _ _ h => h) (Or.inl ⟨by rfl, ?hy7⟩) (by assumption) ?hr7; (case hy7 => ((intro w hSw; (try dsimp only at hSw); go_simp) <;> with_reducible rfl)); try simp only [Act.put, List.setIfInBounds_toArray]
        refine wpAnyH_take (i := 17) (v := ?hv30) rfl (by kernel_rfl) (by kernel_rfl) (by kernel_rfl) (fun _ _ _ h => h) (Or.inl ⟨by rfl, ?hy30⟩) (by assumption) ?hr30; (case hy30 => ((intro w hSw; (try dsimp only at hSw); go_simp) <;> with_reducible rfl)); try simp only [Act.put]
        try simp only [List.getElem_toArray, List.getElem_cons_succ, List.getElem_cons_zero, List.setIfInBounds_toArray, List.set_cons_zero, List.set_cons_succ]
        refine wpAnyH_take (i := 18) (v := ?hv8) rfl (by kernel_rfl) (by kernel_rfl) (by kernel_rfl) (fun _ _ _ h => h) (Or.inl ⟨by rfl, ?hy8⟩) (by assumption) ?hr8; (case hy8 => ((intro w hSw; (try dsimp only at hSw); go_simp) <;> with_reducible rfl)); try simp only [Act.put, List.setIfInBounds_toArray]
        try simp only [List.getElem_toArray, List.getElem_cons_succ, List.getElem_cons_zero, List.set_cons_zero, List.set_cons_succ]
        refine wpAnyH_done (by kernel_rfl) ?_ _
        have HBh := Lib.hid (L13.out.bel.trans (hHeld.2.mono L13.out.bel.size))
        clear hHeld
        go_wp2
        go_ret
        exact ⟨rfl, HBh.out⟩
end Go.Proofs.Ytihjemookgnafaa

/- FieldsAreCut, where the region is right and the single is a height. -/
namespace Go.Proofs.Ytihjemookgnafaa
open Go.RowKit Fl
set_option linter.unusedVariables false

set_option maxHeartbeats 4000000 in
set_option maxRecDepth 100000 in
theorem fieldsAreCut_2 (X0 Y0 W0 H0 : Int) (sl : Value) (X1 Y1 W1 H1 : Int) (sl1 : Value) (rx ry rw rh : Int) (h : Nat) (w : World) (hh : h < 4294967296) (hz : checkR rx ry rw rh = 0) (hf : fldE 1 (fun _ => h) = 0)
    (hfit : ∀ W', Below w.heap.size w W' → Calls Try.prog 24 #[fldV X0 Y0 W0 H0 sl] W' (FitPost W')) (hfit1 : ∀ W', Below w.heap.size w W' → Calls Try.prog 24 #[fldV X1 Y1 W1 H1 sl1] W' (FitPost W')) :
    Calls Try.prog 4 #[fldV X0 Y0 W0 H0 sl, fldV X1 Y1 W1 H1 sl1, reg rx ry rw rh, .float .f32 h] w fun e w' => e = .returned (.bool true) ∧ Below w.heap.size w w' := by
  have HF := Lib.hid hfit
  have HF1 := Lib.hid hfit1
  clear hfit hfit1
  go_enter Try.func4, Try.ntmps4
  go_wp2_with (first | (go_at_call 14; refine (landed_any _).mono ?_; rintro e w1 ⟨rfl, hb1⟩; have HA1 := Lib.hid (blkStay (b := w.heap.size) (o := fldO X0 Y0 W0 H0 sl) (by (first | (rw [heap_alloc_get, if_pos rfl]; done) | ((simp only [heap_alloc_get, heap_size_alloc, if_true]) <;> ((repeat' split) <;> first | rfl | omega)))) hb1); have HG1 := Lib.hid (blkStay (b := w.heap.size + 1) (o := fldO X1 Y1 W1 H1 sl1) (by (first | (rw [heap_alloc_get, if_pos rfl]; done) | ((simp only [heap_alloc_get, heap_size_alloc, if_true]) <;> ((repeat' split) <;> first | rfl | omega)))) hb1); have HR1 := Lib.hid (blkStay (b := w.heap.size + 1 + 1) (o := regObj rx ry rw rh) (by (first | (rw [heap_alloc_get, if_pos rfl]; done) | ((simp only [heap_alloc_get, heap_size_alloc, if_true]) <;> ((repeat' split) <;> first | rfl | omega)))) hb1); have HH1 := Lib.hid (blkStay (b := w.heap.size + 1 + 1 + 1) (o := flObj h) (by (first | (rw [heap_alloc_get, if_pos rfl]; done) | ((simp only [heap_alloc_get, heap_size_alloc, if_true]) <;> ((repeat' split) <;> first | rfl | omega)))) hb1); have hB1 : Below w.heap.size w w1 := Below.trans (by repeat (first | exact Below.refl _ _ | refine Below.alloc ?_ (by first | omega | (simp; done) | (simp; omega)) _ | refine Below.setCell ?_ (by first | omega | (simp; done) | (simp; omega)) _ | refine Below.drew ?_)) (Below.mono hb1 (by first | omega | (simp; done) | (simp; omega))); obtain ⟨cA, fA, zA⟩ := blkC HA1.out; obtain ⟨cG, fG, zG⟩ := blkC HG1.out; clear hb1))
  go_upto_region 3 with fail
  go_cut [] from 18 to 21 (fun wx => CutAt w wx rx ry rw rh h)
  case first =>
    have HB1 := Lib.hid hB1
    clear hB1
    go_region_law (first
      | (go_simp; (with_reducible refine Calls.mono (HF.out _ ?_) ?_); (first | exact HB2.out | exact HB2.out.drew | exact HB2.out.drew.drew); rintro e w3 ⟨X, Y, W', H', b, n, rfl, fx1, fx2, fy1, fy2, fu1, fu2, fh1, fh2, fhn, fhn1, fhn2, fhlo, fhrow, hb3⟩; have hb3' : Below w2.heap.size w2 w3 := ⟨hb3.os, hb3.tape, hb3.output, hb3.size, hb3.block⟩; have z23 := hb3'.size; have HB3 := Lib.hid (HB2.out.trans (hb3'.mono HB2.out.size)); have HA3 := Lib.hid (blkStay HA2.out hb3'); have HG3 := Lib.hid (blkStay HG2.out hb3'); have HR3 := Lib.hid (blkStay HR2.out hb3'); have HH3 := Lib.hid (blkStay HH2.out hb3'); have HX3 := Lib.hid hb3'; clear cA fA zA cG fG zG hb3 hb3'; obtain ⟨cA, fA, zA⟩ := blkC HA3.out; obtain ⟨cG, fG, zG⟩ := blkC HG3.out)
      | (go_simp; (with_reducible refine Calls.mono (HF1.out _ ?_) ?_); (first | exact HB2.out | exact HB2.out.drew | exact HB2.out.drew.drew); rintro e w3 ⟨X2, Y2, W2', H2', b2, n2, rfl, gx1, gx2, gy1, gy2, gu1, gu2, gh1, gh2, ghn, ghn1, ghn2, ghlo, ghrow, hb3⟩; have hb3' : Below w2.heap.size w2 w3 := ⟨hb3.os, hb3.tape, hb3.output, hb3.size, hb3.block⟩; have z23 := hb3'.size; have HB3 := Lib.hid (HB2.out.trans (hb3'.mono HB2.out.size)); have HA3 := Lib.hid (blkStay HA2.out hb3'); have HG3 := Lib.hid (blkStay HG2.out hb3'); have HR3 := Lib.hid (blkStay HR2.out hb3'); have HH3 := Lib.hid (blkStay HH2.out hb3'); have HX3 := Lib.hid hb3'; clear cA fA zA cG fG zG hb3 hb3'; obtain ⟨cA, fA, zA⟩ := blkC HA3.out; obtain ⟨cG, fG, zG⟩ := blkC HG3.out)
      | (go_simp; (with_reducible refine Calls.mono (HF.out _ ?_) ?_); (first | exact HB1.out | exact HB1.out.drew | exact HB1.out.drew.drew); rintro e w2 ⟨X, Y, W', H', b, n, rfl, fx1, fx2, fy1, fy2, fu1, fu2, fh1, fh2, fhn, fhn1, fhn2, fhlo, fhrow, hb2⟩; have hb2' : Below w1.heap.size w1 w2 := ⟨hb2.os, hb2.tape, hb2.output, hb2.size, hb2.block⟩; have z12 := hb2'.size; have HB2 := Lib.hid (HB1.out.trans (hb2'.mono HB1.out.size)); have HA2 := Lib.hid (blkStay HA1.out hb2'); have HG2 := Lib.hid (blkStay HG1.out hb2'); have HR2 := Lib.hid (blkStay HR1.out hb2'); have HH2 := Lib.hid (blkStay HH1.out hb2'); clear cA fA zA cG fG zG hb2 hb2'; obtain ⟨cA, fA, zA⟩ := blkC HA2.out; obtain ⟨cG, fG, zG⟩ := blkC HG2.out)
      | (go_simp; (with_reducible refine Calls.mono (HF1.out _ ?_) ?_); (first | exact HB1.out | exact HB1.out.drew | exact HB1.out.drew.drew); rintro e w2 ⟨X2, Y2, W2', H2', b2, n2, rfl, gx1, gx2, gy1, gy2, gu1, gu2, gh1, gh2, ghn, ghn1, ghn2, ghlo, ghrow, hb2⟩; have hb2' : Below w1.heap.size w1 w2 := ⟨hb2.os, hb2.tape, hb2.output, hb2.size, hb2.block⟩; have z12 := hb2'.size; have HB2 := Lib.hid (HB1.out.trans (hb2'.mono HB1.out.size)); have HA2 := Lib.hid (blkStay HA1.out hb2'); have HG2 := Lib.hid (blkStay HG1.out hb2'); have HR2 := Lib.hid (blkStay HR1.out hb2'); have HH2 := Lib.hid (blkStay HH1.out hb2'); clear cA fA zA cG fG zG hb2 hb2'; obtain ⟨cA, fA, zA⟩ := blkC HA2.out; obtain ⟨cG, fG, zG⟩ := blkC HG2.out))
    all_goals
      have zh := (blkC HH1.out).2.2
      go_wp2_with fail
      go_meet
      case rel =>
        have lo1 : w.heap.size + 1 + 1 + 1 + 1 ≤ b := by first | omega | (simp at fhlo; omega)
        have lo2 : w.heap.size + 1 + 1 + 1 + 1 ≤ b2 := by first | omega | (simp at ghlo; omega)
        have r1 : FitRow w3 b n n := by first | exact fhrow | exact fitRow_congr fhrow (HX3.out.block _ (fitRow_lt fhrow))
        have r2 : FitRow w3 b2 n2 n2 := by first | exact ghrow | exact fitRow_congr ghrow (HX3.out.block _ (fitRow_lt ghrow))
        exact cut_rel HA3.out HG3.out HR3.out HH3.out HB3.out fx1 fx2 fy1 fy2 fu1 fu2 fh1 fh2 fhn fhn1 fhn2 lo1 r1 gx1 gx2 gy1 gy2 gu1 gu2 gh1 gh2 ghn ghn1 ghn2 lo2 r2
  case rest =>
    obtain ⟨X, Y, W, H, n, b, v, X2, Y2, W2, H2, n2, b2, v2, FF0, FG0, HR0, HH0, HB0⟩ := hcut
    clear HA1 HG1 HR1 HH1 HF HF1 cA fA zA cG fG zG hB1
    have L := Lib.hid (show LawAt w wc X Y W H n b v X2 Y2 W2 H2 n2 b2 v2 rx ry rw rh h from ⟨FF0, FG0, HR0, HH0, HB0⟩)
    clear FF0 FG0 HR0 HH0 HB0
    obtain ⟨RW, rfl⟩ : ∃ RW : Nat, rw = RW := ⟨rw.toNat, by have := checkR_zero hz; omega⟩
    obtain ⟨RH, rfl⟩ : ∃ RH : Nat, rh = RH := ⟨rh.toNat, by have := checkR_zero hz; omega⟩
    obtain ⟨m, hm⟩ : ∃ m, m = RW * RH := ⟨_, rfl⟩
    have hzz := checkR_zero hz
    have hm1 : ((RW : Int) * (RH : Int)) = (m : Int) := by rw [hm]; simp
    have hmw : wrap64 ((RW : Int) * (RH : Int)) = (m : Int) := by rw [hm1]; exact IntWalk.wrap64_in _ ⟨by omega, by omega⟩
    have hm2 : m ≤ 9223372036854775807 := by omega
    have FI := Lib.hid (fun w => fill_ok rx ry RW RH m h w hz hm hf)
    have ha : allB m (fun _ => hgtB h) = true := by
      have : hgtB h = true := allB_iff.1 (fldE_zero.1 hf) 0 (by omega)
      exact allB_iff.2 fun _ _ => this
    have hm0 : 0 < m := by have := Nat.mul_pos (show 0 < RW by omega) (show 0 < RH by omega); omega
    have hm0' : 1 ≤ m := hm0
    have HM := Lib.hid hm
    clear hzz hm1 hm
    obtain ⟨cA, cG, cR, cH, zA, zG, zR, zH⟩ := L.out.cells
    go_wp2_with fail
    refine (FI.out _).mono ?_
    intro e w2 hp
    obtain ⟨b3, cap3, rfl, lt3, row3, hb2⟩ := made_yes hp ha
    have L2 := Lib.hid (L.out.stay hb2)
    have hb3 := al_belowC w2 (fldO rx ry RW RH (.slice (some ⟨b3, 0, none⟩) m cap3))
    have HA3 := Lib.hid (heap_alloc_new w2 (fldO rx ry RW RH (.slice (some ⟨b3, 0, none⟩) m cap3)))
    have L3 := Lib.hid (L2.out.stay hb3)
    have R3 := Lib.hid (flAt_congr row3 (heap_alloc_old w2 (fldO rx ry RW RH (.slice (some ⟨b3, 0, none⟩) m cap3)) lt3))
    have z3 := hb3.size
    have zb3 : b3 ≠ w2.heap.size := by omega
    clear hp row3 hb2 cA cG cR cH zA zG zR zH L FI
    obtain ⟨cA, cG, cR, cH, zA, zG, zR, zH⟩ := L2.out.cells
    go_wp2_with fail
    refine (refCheckRegion_any _ _ _ _ _).mono ?_
    rintro e w4 ⟨rfl, hw4⟩
    rw [hz]
    have hb4 : Below (w2.alloc (fldO rx ry RW RH (.slice (some ⟨b3, 0, none⟩) m cap3))).heap.size (w2.alloc (fldO rx ry RW RH (.slice (some ⟨b3, 0, none⟩) m cap3))) w4 := by rw [hw4]; exact al_belowC _ _
    have L4 := Lib.hid (L3.out.stay hb4)
    have HA4 := Lib.hid (blkStay HA3.out hb4)
    have R4 := Lib.hid (flAt_congr R3.out (hb4.block _ (by rw [heap_size_alloc]; exact Nat.lt_succ_of_lt lt3)))
    clear hw4 hb4 hb3 HA3 L3 R3 L2 cA cG cR cH zA zG zR zH z3
    obtain ⟨cA, cG, cR, cH, zA, zG, zR, zH⟩ := L4.out.cells
    go_wp2_with fail
    refine (refHeight_of h hh _ _ (heap_alloc_new _ _)).mono ?_
    rintro e w5 ⟨rfl, hw5⟩
    rw [hf]
    have hb5 : Below w4.heap.size w4 w5 := by rw [← hw5]; exact al_belowC _ _
    have L5 := Lib.hid (L4.out.stay hb5)
    have HA5 := Lib.hid (blkStay HA4.out hb5)
    have R5 := Lib.hid (flAt_congr R4.out (hb5.block _ (World.block_lt_of_cell? w4 _ (R4.out 0 (by omega)))))
    clear hw5 hb5 HA4 L4 R4 cA cG cR cH zA zG zR zH
    obtain ⟨cA, cG, cR, cH, zA, zG, zR, zH⟩ := L5.out.cells
    obtain ⟨cB, fB, zB⟩ := blkC HA5.out
    go_wp2_with fail
    refine (facContains_no b3 cap3 m h (w.heap.size + 1 + 1 + 1) hm2 _ R5.out L5.out.h).mono ?_
    rintro e w6 ⟨rfl, rfl⟩
    clear HA5 R5 cB fB zB
    go_wp2_with fail
    cases hi : insideB rx ry RW RH X Y W H with
    | true =>
      have hE : cutE X Y W H rx ry RW RH = 0 := by unfold cutE; rw [if_pos hz, hi]; rfl
      have hnm : n = H * W := by rw [L5.out.f.num]; exact Nat.mul_comm _ _
      have hmm : m = RH * RW := by rw [HM.out]; exact Nat.mul_comm _ _
      have HMM := Lib.hid hmm
      obtain ⟨i1, i2, i3, i4⟩ := insideB_iff.1 hi
      have hzf := checkR_zero L5.out.f.chk
      have hzr := checkR_zero hz
      have hcut := cutF_hgt L5.out.f.hgt hnm hmm (by omega) (by omega) i1 i2 i3 i4
      have RI := Lib.hid (fun w => refInside_any rx ry RW RH X Y W H w (by omega) (by omega) (by omega) (by omega) (by omega) (by omega) (by omega) (by omega) (by omega) (by omega) (by omega) (by omega) (by omega) (by omega) (by omega) (by omega))
      rw [hi] at RI
      clear hzf hzr i1 i2 i3 i4 hnm hmm
      refine (cut_ok X Y W H n b n v rx ry RW RH m w5 L5.out.f.chk L5.out.f.num L5.out.f.row L5.out.f.hgt hE HMM.out).mono ?_
      intro e w6 hp
      obtain ⟨b6, cap6, rfl, lt6, row6, hb6⟩ := made_yes hp hcut
      have L6 := Lib.hid (L5.out.stay hb6)
      have hb7 := al_belowC w6 (fldO rx ry RW RH (.slice (some ⟨b6, 0, none⟩) m cap6))
      have HC7 := Lib.hid (heap_alloc_new w6 (fldO rx ry RW RH (.slice (some ⟨b6, 0, none⟩) m cap6)))
      have L7 := Lib.hid (L6.out.stay hb7)
      have R7 := Lib.hid (flAt_congr row6 (heap_alloc_old w6 (fldO rx ry RW RH (.slice (some ⟨b6, 0, none⟩) m cap6)) lt6))
      clear hp row6 hb6 cA cG cR cH zA zG zR zH L5
      obtain ⟨cA, cG, cR, cH, zA, zG, zR, zH⟩ := L6.out.cells
      go_wp2_with fail
      refine (refCheckRegion_any _ _ _ _ _).mono ?_
      rintro e w8 ⟨rfl, hw8⟩
      rw [hz]
      have hb8 : Below (w6.alloc (fldO rx ry RW RH (.slice (some ⟨b6, 0, none⟩) m cap6))).heap.size (w6.alloc (fldO rx ry RW RH (.slice (some ⟨b6, 0, none⟩) m cap6))) w8 := by rw [hw8]; exact al_belowC _ _
      have L8 := Lib.hid (L7.out.stay hb8)
      have HC8 := Lib.hid (blkStay HC7.out hb8)
      have R8 := Lib.hid (flAt_congr R7.out (hb8.block _ (by rw [heap_size_alloc]; exact Nat.lt_succ_of_lt lt6)))
      clear hw8 hb8 hb7 HC7 L7 R7 L6 cA cG cR cH zA zG zR zH
      obtain ⟨cA, cG, cR, cH, zA, zG, zR, zH⟩ := L8.out.cells
      go_wp2_with fail
      refine (RI.out _).mono ?_
      rintro e w9 ⟨rfl, hb9⟩
      have L9 := Lib.hid (L8.out.stay hb9)
      have HC9 := Lib.hid (blkStay HC8.out hb9)
      have R9 := Lib.hid (flAt_congr R8.out (hb9.block _ (World.block_lt_of_cell? w8 _ (R8.out 0 hm0))))
      clear hb9 HC8 L8 R8 cA cG cR cH zA zG zR zH
      obtain ⟨cA, cG, cR, cH, zA, zG, zR, zH⟩ := L9.out.cells
      obtain ⟨cC, fC, zC⟩ := blkC HC9.out
      go_upto_region 11 with fail
      go_cut [80] from 71 to 80 (fun s80 wx => s80 = .bool false ∧ LawAt w wx X Y W H n b v X2 Y2 W2 H2 n2 b2 v2 rx ry RW RH h)
      case first =>
        have CT := Lib.hid (fun W' (hb : Below w9.heap.size w9 W') => rcut_ok X Y W H n b n v rx ry RW RH m W' L9.out.f.chk L9.out.f.num (flAt_congr L9.out.f.row (hb.block _ L9.out.f.lt)) L9.out.f.hgt L9.out.f.wf hE HMM.out)
        have lt9 : b6 < w9.heap.size := World.block_lt_of_cell? w9 _ (R9.out 0 hm0)
        have HREF := Lib.hid (Below.refl w9.heap.size w9)
        go_region_law (first
          | (go_simp; (with_reducible refine Calls.mono (CT.out _ ?_) ?_); (first | exact HREF.out | exact HREF.out.drew | exact HREF.out.drew.drew | exact HREF.out.drew.drew.drew); intro e w10 hp; obtain ⟨b10, cap10, rfl, lt10, row10, hb10⟩ := one_yes hp; have hb10' : Below w9.heap.size w9 w10 := ⟨hb10.os, hb10.tape, hb10.output, hb10.size, hb10.block⟩; have L10 := Lib.hid (L9.out.stay hb10'); have HC10 := Lib.hid (blkStay HC9.out hb10'); have R10 := Lib.hid (flAt_congr R9.out (hb10'.block _ lt9)); have S10 := Lib.hid row10; clear hp row10 hb10 hb10' cA cG cR cH zA zG zR zH cC fC zC; obtain ⟨cA, cG, cR, cH, zA, zG, zR, zH⟩ := L10.out.cells; obtain ⟨cC, fC, zC⟩ := blkC HC10.out)
          | (go_simp; (with_reducible refine Calls.mono (same_ok _ _ _ _ _ _ _ _ m _ hm2 hm0' _ R10.out S10.out) ?_); rintro e w11 ⟨rfl, hb11⟩; have hb11' : Below w10.heap.size w10 w11 := ⟨hb11.os, hb11.tape, hb11.output, hb11.size, hb11.block⟩; have L11 := Lib.hid (L10.out.stay hb11'); clear hb11 hb11'))
        all_goals
          go_wp2_with fail
          go_meet
          exact ⟨rfl, L11.out⟩
      case rest =>
        obtain ⟨rfl, L0⟩ := hcut
        have LA := Lib.hid L0
        clear L0 L9 HC9 R9 cA cG cR cH zA zG zR zH cC fC zC
        obtain ⟨cA, cG, cR, cH, zA, zG, zR, zH⟩ := LA.out.cells
        have hzf := checkR_zero LA.out.f.chk
        have hzg := checkR_zero LA.out.g.chk
        have RC2 := Lib.hid (fun w => refCommon_any X Y W H X2 Y2 W2 H2 w (by omega) (by omega) (by omega) (by omega) (by omega) (by omega) (by omega) (by omega) (by omega) (by omega) (by omega) (by omega) (by omega) (by omega) (by omega) (by omega))
        obtain ⟨q1, q2, q3, q4, hq⟩ := comR_regC X Y W H X2 Y2 W2 H2
        rw [hq] at RC2
        clear hq
        cases hcm : comB X Y W H X2 Y2 W2 H2 with
        | false =>
          rw [hcm] at RC2
          clear hzf hzg
          go_wp2_with fail
          refine (paste_no X Y W H n b n v X2 Y2 W2 H2 n2 b2 n2 v2 wc LA.out.f.chk LA.out.f.num LA.out.f.row LA.out.f.hgt LA.out.g.chk LA.out.g.num LA.out.g.row LA.out.g.hgt hcm).mono ?_
          rintro e w10 ⟨rfl, hb10⟩
          have L10 := Lib.hid (LA.out.stay hb10)
          have L11 := Lib.hid (L10.out.stay (al_belowC w10 (fldO 0 0 0 0 (.slice none 0 0))))
          clear hb10 cA cG cR cH zA zG zR zH LA
          obtain ⟨cA, cG, cR, cH, zA, zG, zR, zH⟩ := L10.out.cells
          go_wp2_with fail
          refine (RC2.out _).mono ?_
          rintro e w12 ⟨rfl, hb12⟩
          have L12 := Lib.hid (L11.out.stay hb12)
          clear hb12 cA cG cR cH zA zG zR zH L10 L11
          go_wp2
          go_ret
          exact ⟨rfl, L12.out.bel.alloc L12.out.bel.size _⟩
        | true =>
          rw [hcm] at RC2
          have hnm : n = H * W := by rw [LA.out.f.num]; exact Nat.mul_comm _ _
          have hnm2 : n2 = H2 * W2 := by rw [LA.out.g.num]; exact Nat.mul_comm _ _
          have hpst := pstF_hgt (X := X) (Y := Y) (W := W) (H := H) (X2 := X2) (Y2 := Y2) LA.out.f.hgt LA.out.g.hgt (by omega) hnm2
          have hn1 := LA.out.f.pos
          have hn2 := LA.out.g.pos
          have hnl : n ≤ 9223372036854775807 := by have := LA.out.f.few; omega
          clear hzf hzg hnm hnm2
          go_wp2_with fail
          refine (paste_ok X Y W H n b n v X2 Y2 W2 H2 n2 b2 n2 v2 wc LA.out.f.chk LA.out.f.num LA.out.f.row LA.out.f.hgt LA.out.g.chk LA.out.g.num LA.out.g.row LA.out.g.hgt hcm).mono ?_
          intro e w10 hp
          obtain ⟨b10, cap10, rfl, lt10, row10, hb10⟩ := made_yes hp hpst
          have L10 := Lib.hid (LA.out.stay hb10)
          have hb11 := al_belowC w10 (fldO X Y W H (.slice (some ⟨b10, 0, none⟩) n cap10))
          have HP11 := Lib.hid (heap_alloc_new w10 (fldO X Y W H (.slice (some ⟨b10, 0, none⟩) n cap10)))
          have L11 := Lib.hid (L10.out.stay hb11)
          have R11 := Lib.hid (flAt_congr row10 (heap_alloc_old w10 (fldO X Y W H (.slice (some ⟨b10, 0, none⟩) n cap10)) lt10))
          clear hp row10 hb10 cA cG cR cH zA zG zR zH LA
          obtain ⟨cA, cG, cR, cH, zA, zG, zR, zH⟩ := L10.out.cells
          go_wp2_with fail
          refine (RC2.out _).mono ?_
          rintro e w12 ⟨rfl, hb12⟩
          have L12 := Lib.hid (L11.out.stay hb12)
          have HP12 := Lib.hid (blkStay HP11.out hb12)
          have R12 := Lib.hid (flAt_congr R11.out (hb12.block _ (by rw [heap_size_alloc]; exact Nat.lt_succ_of_lt lt10)))
          have hb13 := al_belowC w12 (regObj q1 q2 q3 q4)
          have L13 := Lib.hid (L12.out.stay hb13)
          have HP13 := Lib.hid (blkStay HP12.out hb13)
          have R13 := Lib.hid (flAt_congr R12.out (hb13.block _ (World.block_lt_of_cell? w12 _ (R12.out 0 hn1))))
          clear hb12 hb11 cA cG cR cH zA zG zR zH L10 L11 HP11 R11 HP12 R12
          obtain ⟨cA, cG, cR, cH, zA, zG, zR, zH⟩ := L12.out.cells
          go_wp2_with fail
          have FS := Lib.hid (fun W' (hb : Below (w12.alloc (regObj q1 q2 q3 q4)).heap.size (w12.alloc (regObj q1 q2 q3 q4)) W') => fsame_any X Y W H n b n v X2 Y2 W2 H2 n2 b2 n2 v2 W' hnl hn1 hn2 L13.out.f.num L13.out.g.num (flAt_congr L13.out.f.row (hb.block _ L13.out.f.lt)) (flAt_congr L13.out.g.row (hb.block _ L13.out.g.lt)))
          have RS := Lib.hid (fun W' (hb : Below (w12.alloc (regObj q1 q2 q3 q4)).heap.size (w12.alloc (regObj q1 q2 q3 q4)) W') => rsame_any X Y W H n b n v X2 Y2 W2 H2 n2 b2 n2 v2 W' hnl hn1 hn2 L13.out.f.num L13.out.g.num (flAt_congr L13.out.f.row (hb.block _ L13.out.f.lt)) (flAt_congr L13.out.g.row (hb.block _ L13.out.g.lt)))
          have RP := Lib.hid (fun W' (hb : Below (w12.alloc (regObj q1 q2 q3 q4)).heap.size (w12.alloc (regObj q1 q2 q3 q4)) W') => rpaste_ok X Y W H n b n v X2 Y2 W2 H2 n2 b2 n2 v2 W' L13.out.f.chk L13.out.f.num (flAt_congr L13.out.f.row (hb.block _ L13.out.f.lt)) L13.out.f.hgt L13.out.f.wf L13.out.g.chk L13.out.g.num (flAt_congr L13.out.g.row (hb.block _ L13.out.g.lt)) L13.out.g.hgt L13.out.g.wf)
          generalize (sameR X Y W H X2 Y2 W2 H2 && sameV n v v2) = sq at FS RS
          have lt13 := World.block_lt_of_cell? _ _ (R13.out 0 hn1)
          clear cA cG cR cH zA zG zR zH L12 hb13
          generalize w12.alloc (regObj q1 q2 q3 q4) = w13 at *
          generalize pstF v v2 X Y W X2 Y2 W2 H2 = fp at *
          refine wp_region_held_drew (S := (fun w' => ((∀ o, w'.cell? ⟨w.heap.size, o, none⟩ = #[.int .i64 X, .int .i64 Y, .int .i64 W, .int .i64 H, .slice (some ⟨b, 0, none⟩) n n][o]?) ∧ (∀ o, w'.cell? ⟨w.heap.size + 1, o, none⟩ = #[.int .i64 X2, .int .i64 Y2, .int .i64 W2, .int .i64 H2, .slice (some ⟨b2, 0, none⟩) n2 n2][o]?) ∧ (∀ o, w'.cell? ⟨w10.heap.size, o, none⟩ = #[.int .i64 X, .int .i64 Y, .int .i64 W, .int .i64 H, .slice (some ⟨b10, 0, none⟩) n cap10][o]?)) ∧ Below w13.heap.size w13 w')) (by kernel_rfl) ?_ (fun hHeld => ?_)
          · try dsimp only
            exact (fun K => ⟨⟨(blkC (blkStay L13.out.f.fld K)).1, (blkC (blkStay L13.out.g.fld K)).1, (blkC (blkStay HP13.out K)).1⟩, K⟩) (Below.drew (Below.refl _ _))
          refine wpAnyH_take (i := 0) (v := ?hv1) rfl (by kernel_rfl) (by kernel_rfl) (by kernel_rfl) (fun _ _ _ h => h) (Or.inl ⟨by rfl, ?hy1⟩) (by assumption) ?hr1; (case hy1 => ((intro w hSw; (try dsimp only at hSw); go_simp) <;> with_reducible rfl)); try simp only [Act.put, List.setIfInBounds_toArray]
          refine wpAnyH_take (i := 1) (v := ?hv9) rfl (by kernel_rfl) (by kernel_rfl) (by kernel_rfl) (fun _ _ _ h => h) (Or.inl ⟨by rfl, ?hy9⟩) (by assumption) ?hr9; (case hy9 => ((intro w hSw; (try dsimp only at hSw); go_simp) <;> with_reducible rfl)); try simp only [Act.put]
          refine wpAnyH_take (i := 2) (v := ?hv10) rfl (by kernel_rfl) (by kernel_rfl) (by kernel_rfl) (fun _ _ _ h => h) (Or.inl ⟨by rfl, ?hy10⟩) (by assumption) ?hr10; (case hy10 => ((intro w hSw; (try dsimp only at hSw); go_simp) <;> with_reducible rfl)); try simp only [Act.put]
          refine wpAnyH_take (i := 3) (v := ?hv11) rfl (by kernel_rfl) (by kernel_rfl) (by kernel_rfl) (fun _ _ _ h => h) (Or.inl ⟨by rfl, ?hy11⟩) (by assumption) ?hr11; (case hy11 => ((intro w hSw; (try dsimp only at hSw); go_simp) <;> with_reducible rfl)); try simp only [Act.put]
          refine wpAnyH_take (i := 4) (v := ?hv12) rfl (by kernel_rfl) (by kernel_rfl) (by kernel_rfl) (fun _ _ _ h => h) (Or.inl ⟨by rfl, ?hy12⟩) (by assumption) ?hr12; (case hy12 => ((intro w hSw; (try dsimp only at hSw); go_simp) <;> with_reducible rfl)); try simp only [Act.put]
          refine wpAnyH_take (i := 5) (v := ?hv13) rfl (by kernel_rfl) (by kernel_rfl) (by kernel_rfl) (fun _ _ _ h => h) (Or.inl ⟨by rfl, ?hy13⟩) (by assumption) ?hr13; (case hy13 => ((intro w hSw; (try dsimp only at hSw); go_simp) <;> with_reducible rfl)); try simp only [Act.put]
          refine wpAnyH_ready (rs := [6]) (by kernel_rfl) (by simp) ?_; refine AllReadyH.cons rfl (fun K hK => ?_) AllReadyH.nil; go_simp
          (with_reducible refine Calls.mono (RP.out _ ?_) ?_)
          first | exact Below.refl _ _ | exact (Below.refl _ _).drew | exact hHeld.2
          intro e w14 hp
          obtain ⟨b14, cap14, rfl, lt14, row14, hb14⟩ := one_yes hp
          have hb9 : Below w13.heap.size w13 w14 := ⟨hb14.os, hb14.tape, hb14.output, hb14.size, hb14.block⟩
          have R14 := Lib.hid (flAt_congr R13.out (hb9.block _ lt13))
          have Q14 := Lib.hid row14
          clear hp row14 hb14
          try go_wp2_with fail
          refine hK.out _ _ ?_ (fun hHeld => ?_)
          · try dsimp only
            exact (fun K => ⟨⟨(blkC (blkStay L13.out.f.fld K)).1, (blkC (blkStay L13.out.g.fld K)).1, (blkC (blkStay HP13.out K)).1⟩, K⟩) (by first | exact hb9 | exact hb9.drew)
          clear hK K; try simp only [Act.put, List.setIfInBounds_toArray, List.set_cons_zero, List.set_cons_succ]
          refine wpAnyH_ready (rs := [7]) (by kernel_rfl) (by simp) ?_; refine AllReadyH.cons rfl (fun K hK => ?_) AllReadyH.nil; go_simp
          (with_reducible refine Calls.mono (same_ok _ _ _ _ _ _ _ _ n _ hnl hn1 _ R14.out Q14.out) ?_)
          rintro e w15 ⟨rfl, hb15⟩
          have hb8 : Below w14.heap.size w14 w15 := ⟨hb15.os, hb15.tape, hb15.output, hb15.size, hb15.block⟩
          have hb7 := hb9.trans (hb8.mono hb9.size)
          clear hb15 hb8
          try go_wp2_with fail
          refine hK.out _ _ ?_ (fun hHeld => ?_)
          · try dsimp only
            exact (fun K => ⟨⟨(blkC (blkStay L13.out.f.fld K)).1, (blkC (blkStay L13.out.g.fld K)).1, (blkC (blkStay HP13.out K)).1⟩, K⟩) (by first | exact hb7 | exact hb7.drew)
          clear hK K; try simp only [Act.put, List.setIfInBounds_toArray, List.set_cons_zero, List.set_cons_succ]
          refine wpAnyH_take (i := 8) (v := ?hv2) rfl (by kernel_rfl) (by kernel_rfl) (by kernel_rfl) (fun _ _ _ h => h) (Or.inl ⟨by rfl, ?hy2⟩) (by assumption) ?hr2; (case hy2 => ((intro w hSw; (try dsimp only at hSw); go_simp) <;> with_reducible rfl)); try simp only [Act.put, List.setIfInBounds_toArray]
          refine wpAnyH_take (i := 9) (v := ?hv14) rfl (by kernel_rfl) (by kernel_rfl) (by kernel_rfl) (fun _ _ _ h => h) (Or.inl ⟨by rfl, ?hy14⟩) (by assumption) ?hr14; (case hy14 => ((intro w hSw; (try dsimp only at hSw); go_simp) <;> with_reducible rfl)); try simp only [Act.put]
          refine wpAnyH_take (i := 10) (v := ?hv15) rfl (by kernel_rfl) (by kernel_rfl) (by kernel_rfl) (fun _ _ _ h => h) (Or.inl ⟨by rfl, ?hy15⟩) (by assumption) ?hr15; (case hy15 => ((intro w hSw; (try dsimp only at hSw); go_simp) <;> with_reducible rfl)); try simp only [Act.put]
          refine wpAnyH_take (i := 11) (v := ?hv16) rfl (by kernel_rfl) (by kernel_rfl) (by kernel_rfl) (fun _ _ _ h => h) (Or.inl ⟨by rfl, ?hy16⟩) (by assumption) ?hr16; (case hy16 => ((intro w hSw; (try dsimp only at hSw); go_simp) <;> with_reducible rfl)); try simp only [Act.put]
          refine wpAnyH_take (i := 13) (v := ?hv17) rfl (by kernel_rfl) (by kernel_rfl) (by kernel_rfl) (fun _ _ _ h => h) (Or.inl ⟨by rfl, ?hy17⟩) (by assumption) ?hr17; (case hy17 => ((intro w hSw; (try dsimp only at hSw); go_simp) <;> with_reducible rfl)); try simp only [Act.put]
          refine wpAnyH_take (i := 14) (v := ?hv18) rfl (by kernel_rfl) (by kernel_rfl) (by kernel_rfl) (fun _ _ _ h => h) (Or.inl ⟨by rfl, ?hy18⟩) (by assumption) ?hr18; (case hy18 => ((intro w hSw; (try dsimp only at hSw); go_simp) <;> with_reducible rfl)); try simp only [Act.put]
          refine wpAnyH_ready (rs := [12]) (by kernel_rfl) (by simp) ?_; refine AllReadyH.cons rfl (fun K hK => ?_) AllReadyH.nil; go_simp
          (with_reducible refine Calls.mono (FS.out _ ?_) ?_)
          first | exact hb7 | exact hb7.drew | exact hb7.drew.drew
          rintro e w16 ⟨rfl, hb16⟩
          have hb6 : Below w13.heap.size w13 w16 := hb7.trans (Below.mono ⟨hb16.os, hb16.tape, hb16.output, hb16.size, hb16.block⟩ hb7.size)
          clear hb16
          try go_wp2_with fail
          refine hK.out _ _ ?_ (fun hHeld => ?_)
          · try dsimp only
            exact (fun K => ⟨⟨(blkC (blkStay L13.out.f.fld K)).1, (blkC (blkStay L13.out.g.fld K)).1, (blkC (blkStay HP13.out K)).1⟩, K⟩) (by first | exact hb6 | exact hb6.drew)
          clear hK K; try simp only [Act.put, List.setIfInBounds_toArray, List.set_cons_zero, List.set_cons_succ]
          refine wpAnyH_ready (rs := [15]) (by kernel_rfl) (by simp) ?_; refine AllReadyH.cons rfl (fun K hK => ?_) AllReadyH.nil; go_simp
          (with_reducible refine Calls.mono (RS.out _ ?_) ?_)
          first | exact hb6 | exact hb6.drew | exact hb6.drew.drew
          rintro e w17 ⟨rfl, hb17⟩
          have hb5 : Below w13.heap.size w13 w17 := hb6.trans (Below.mono ⟨hb17.os, hb17.tape, hb17.output, hb17.size, hb17.block⟩ hb6.size)
          clear hb17
          try go_wp2_with fail
          refine hK.out _ _ ?_ (fun hHeld => ?_)
          · try dsimp only
            exact (fun K => ⟨⟨(blkC (blkStay L13.out.f.fld K)).1, (blkC (blkStay L13.out.g.fld K)).1, (blkC (blkStay HP13.out K)).1⟩, K⟩) (by first | exact hb5 | exact hb5.drew)
          clear hK K; try simp only [Act.put, List.setIfInBounds_toArray, List.set_cons_zero, List.set_cons_succ]
          refine wpAnyH_take (i := 16) (v := ?hv3) rfl (by kernel_rfl) (by kernel_rfl) (by kernel_rfl) (fun _ _ _ h => h) (Or.inl ⟨by rfl, ?hy3⟩) (by assumption) ?hr3; (case hy3 => ((intro w hSw; (try dsimp only at hSw); go_simp) <;> with_reducible rfl)); try simp only [Act.put, List.setIfInBounds_toArray]
          refine wpAnyH_take (i := 17) (v := ?hv19) rfl (by kernel_rfl) (by kernel_rfl) (by kernel_rfl) (fun _ _ _ h => h) (Or.inl ⟨by rfl, ?hy19⟩) (by assumption) ?hr19; (case hy19 => ((intro w hSw; (try dsimp only at hSw); go_simp) <;> with_reducible rfl)); try simp only [Act.put]
          try simp only [List.getElem_toArray, List.getElem_cons_succ, List.getElem_cons_zero, List.setIfInBounds_toArray, List.set_cons_zero, List.set_cons_succ]
          refine wpAnyH_take (i := 18) (v := ?hv4) rfl (by kernel_rfl) (by kernel_rfl) (by kernel_rfl) (fun _ _ _ h => h) (Or.inl ⟨by rfl, ?hy4⟩) (by assumption) ?hr4; (case hy4 => ((intro w hSw; (try dsimp only at hSw); go_simp) <;> with_reducible rfl)); try simp only [Act.put, List.setIfInBounds_toArray]
          try simp only [List.getElem_toArray, List.getElem_cons_succ, List.getElem_cons_zero, List.set_cons_zero, List.set_cons_succ]
          refine wpAnyH_done (by kernel_rfl) ?_ _
          have HBh := Lib.hid (L13.out.bel.trans (hHeld.2.mono L13.out.bel.size))
          clear hHeld
          go_wp2
          go_ret
          exact ⟨rfl, HBh.out⟩
    | false =>
      have hE : cutE X Y W H rx ry RW RH = 5 := by unfold cutE; rw [if_pos hz, hi]; rfl
      have hzf := checkR_zero L5.out.f.chk
      have hzr := checkR_zero hz
      have RI := Lib.hid (fun w => refInside_any rx ry RW RH X Y W H w (by omega) (by omega) (by omega) (by omega) (by omega) (by omega) (by omega) (by omega) (by omega) (by omega) (by omega) (by omega) (by omega) (by omega) (by omega) (by omega))
      rw [hi] at RI
      clear hzf hzr
      refine (cut_bad X Y W H n b n v rx ry RW RH 5 w5 L5.out.f.chk L5.out.f.num L5.out.f.row L5.out.f.hgt hE (by omega)).mono ?_
      rintro e w6 ⟨rfl, hb6⟩
      have L6 := Lib.hid (L5.out.stay hb6)
      have L7 := Lib.hid (L6.out.stay (al_belowC w6 (fldO 0 0 0 0 (.slice none 0 0))))
      clear hb6 cA cG cR cH zA zG zR zH L5
      obtain ⟨cA, cG, cR, cH, zA, zG, zR, zH⟩ := L6.out.cells
      go_wp2_with fail
      refine (refCheckRegion_any _ _ _ _ _).mono ?_
      rintro e w8 ⟨rfl, hw8⟩
      rw [hz]
      have L8 := Lib.hid (L7.out.stay (wy := w8) (by rw [hw8]; exact al_belowC _ _))
      clear hw8 L7 L6 cA cG cR cH zA zG zR zH
      obtain ⟨cA, cG, cR, cH, zA, zG, zR, zH⟩ := L8.out.cells
      go_wp2_with fail
      refine (RI.out _).mono ?_
      rintro e w9 ⟨rfl, hb9⟩
      have LA := Lib.hid (L8.out.stay hb9)
      clear hb9 L8 cA cG cR cH zA zG zR zH RI
      obtain ⟨cA, cG, cR, cH, zA, zG, zR, zH⟩ := LA.out.cells
      have hzf := checkR_zero LA.out.f.chk
      have hzg := checkR_zero LA.out.g.chk
      have RC2 := Lib.hid (fun w => refCommon_any X Y W H X2 Y2 W2 H2 w (by omega) (by omega) (by omega) (by omega) (by omega) (by omega) (by omega) (by omega) (by omega) (by omega) (by omega) (by omega) (by omega) (by omega) (by omega) (by omega))
      obtain ⟨q1, q2, q3, q4, hq⟩ := comR_regC X Y W H X2 Y2 W2 H2
      rw [hq] at RC2
      clear hq
      cases hcm : comB X Y W H X2 Y2 W2 H2 with
      | false =>
        rw [hcm] at RC2
        clear hzf hzg
        go_wp2_with fail
        refine (paste_no X Y W H n b n v X2 Y2 W2 H2 n2 b2 n2 v2 w9 LA.out.f.chk LA.out.f.num LA.out.f.row LA.out.f.hgt LA.out.g.chk LA.out.g.num LA.out.g.row LA.out.g.hgt hcm).mono ?_
        rintro e w10 ⟨rfl, hb10⟩
        have L10 := Lib.hid (LA.out.stay hb10)
        have L11 := Lib.hid (L10.out.stay (al_belowC w10 (fldO 0 0 0 0 (.slice none 0 0))))
        clear hb10 cA cG cR cH zA zG zR zH LA
        obtain ⟨cA, cG, cR, cH, zA, zG, zR, zH⟩ := L10.out.cells
        go_wp2_with fail
        refine (RC2.out _).mono ?_
        rintro e w12 ⟨rfl, hb12⟩
        have L12 := Lib.hid (L11.out.stay hb12)
        clear hb12 cA cG cR cH zA zG zR zH L10 L11
        go_wp2
        go_ret
        exact ⟨rfl, L12.out.bel.alloc L12.out.bel.size _⟩
      | true =>
        rw [hcm] at RC2
        have hnm : n = H * W := by rw [LA.out.f.num]; exact Nat.mul_comm _ _
        have hnm2 : n2 = H2 * W2 := by rw [LA.out.g.num]; exact Nat.mul_comm _ _
        have hpst := pstF_hgt (X := X) (Y := Y) (W := W) (H := H) (X2 := X2) (Y2 := Y2) LA.out.f.hgt LA.out.g.hgt (by omega) hnm2
        have hn1 := LA.out.f.pos
        have hn2 := LA.out.g.pos
        have hnl : n ≤ 9223372036854775807 := by have := LA.out.f.few; omega
        clear hzf hzg hnm hnm2
        go_wp2_with fail
        refine (paste_ok X Y W H n b n v X2 Y2 W2 H2 n2 b2 n2 v2 w9 LA.out.f.chk LA.out.f.num LA.out.f.row LA.out.f.hgt LA.out.g.chk LA.out.g.num LA.out.g.row LA.out.g.hgt hcm).mono ?_
        intro e w10 hp
        obtain ⟨b10, cap10, rfl, lt10, row10, hb10⟩ := made_yes hp hpst
        have L10 := Lib.hid (LA.out.stay hb10)
        have hb11 := al_belowC w10 (fldO X Y W H (.slice (some ⟨b10, 0, none⟩) n cap10))
        have HP11 := Lib.hid (heap_alloc_new w10 (fldO X Y W H (.slice (some ⟨b10, 0, none⟩) n cap10)))
        have L11 := Lib.hid (L10.out.stay hb11)
        have R11 := Lib.hid (flAt_congr row10 (heap_alloc_old w10 (fldO X Y W H (.slice (some ⟨b10, 0, none⟩) n cap10)) lt10))
        clear hp row10 hb10 cA cG cR cH zA zG zR zH LA
        obtain ⟨cA, cG, cR, cH, zA, zG, zR, zH⟩ := L10.out.cells
        go_wp2_with fail
        refine (RC2.out _).mono ?_
        rintro e w12 ⟨rfl, hb12⟩
        have L12 := Lib.hid (L11.out.stay hb12)
        have HP12 := Lib.hid (blkStay HP11.out hb12)
        have R12 := Lib.hid (flAt_congr R11.out (hb12.block _ (by rw [heap_size_alloc]; exact Nat.lt_succ_of_lt lt10)))
        have hb13 := al_belowC w12 (regObj q1 q2 q3 q4)
        have L13 := Lib.hid (L12.out.stay hb13)
        have HP13 := Lib.hid (blkStay HP12.out hb13)
        have R13 := Lib.hid (flAt_congr R12.out (hb13.block _ (World.block_lt_of_cell? w12 _ (R12.out 0 hn1))))
        clear hb12 hb11 cA cG cR cH zA zG zR zH L10 L11 HP11 R11 HP12 R12
        obtain ⟨cA, cG, cR, cH, zA, zG, zR, zH⟩ := L12.out.cells
        go_wp2_with fail
        have FS := Lib.hid (fun W' (hb : Below (w12.alloc (regObj q1 q2 q3 q4)).heap.size (w12.alloc (regObj q1 q2 q3 q4)) W') => fsame_any X Y W H n b n v X2 Y2 W2 H2 n2 b2 n2 v2 W' hnl hn1 hn2 L13.out.f.num L13.out.g.num (flAt_congr L13.out.f.row (hb.block _ L13.out.f.lt)) (flAt_congr L13.out.g.row (hb.block _ L13.out.g.lt)))
        have RS := Lib.hid (fun W' (hb : Below (w12.alloc (regObj q1 q2 q3 q4)).heap.size (w12.alloc (regObj q1 q2 q3 q4)) W') => rsame_any X Y W H n b n v X2 Y2 W2 H2 n2 b2 n2 v2 W' hnl hn1 hn2 L13.out.f.num L13.out.g.num (flAt_congr L13.out.f.row (hb.block _ L13.out.f.lt)) (flAt_congr L13.out.g.row (hb.block _ L13.out.g.lt)))
        have RP := Lib.hid (fun W' (hb : Below (w12.alloc (regObj q1 q2 q3 q4)).heap.size (w12.alloc (regObj q1 q2 q3 q4)) W') => rpaste_ok X Y W H n b n v X2 Y2 W2 H2 n2 b2 n2 v2 W' L13.out.f.chk L13.out.f.num (flAt_congr L13.out.f.row (hb.block _ L13.out.f.lt)) L13.out.f.hgt L13.out.f.wf L13.out.g.chk L13.out.g.num (flAt_congr L13.out.g.row (hb.block _ L13.out.g.lt)) L13.out.g.hgt L13.out.g.wf)
        generalize (sameR X Y W H X2 Y2 W2 H2 && sameV n v v2) = sq at FS RS
        have lt13 := World.block_lt_of_cell? _ _ (R13.out 0 hn1)
        clear cA cG cR cH zA zG zR zH L12 hb13
        generalize w12.alloc (regObj q1 q2 q3 q4) = w13 at *
        generalize pstF v v2 X Y W X2 Y2 W2 H2 = fp at *
        refine wp_region_held_drew (S := (fun w' => ((∀ o, w'.cell? ⟨w.heap.size, o, none⟩ = #[.int .i64 X, .int .i64 Y, .int .i64 W, .int .i64 H, .slice (some ⟨b, 0, none⟩) n n][o]?) ∧ (∀ o, w'.cell? ⟨w.heap.size + 1, o, none⟩ = #[.int .i64 X2, .int .i64 Y2, .int .i64 W2, .int .i64 H2, .slice (some ⟨b2, 0, none⟩) n2 n2][o]?) ∧ (∀ o, w'.cell? ⟨w10.heap.size, o, none⟩ = #[.int .i64 X, .int .i64 Y, .int .i64 W, .int .i64 H, .slice (some ⟨b10, 0, none⟩) n cap10][o]?)) ∧ Below w13.heap.size w13 w')) (by kernel_rfl) ?_ (fun hHeld => ?_)
        · try dsimp only
          exact (fun K => ⟨⟨(blkC (blkStay L13.out.f.fld K)).1, (blkC (blkStay L13.out.g.fld K)).1, (blkC (blkStay HP13.out K)).1⟩, K⟩) (Below.drew (Below.refl _ _))
        refine wpAnyH_take (i := 0) (v := ?hv5) rfl (by kernel_rfl) (by kernel_rfl) (by kernel_rfl) (fun _ _ _ h => h) (Or.inl ⟨by rfl, ?hy5⟩) (by assumption) ?hr5; (case hy5 => ((intro w hSw; (try dsimp only at hSw); go_simp) <;> with_reducible rfl)); try simp only [Act.put, List.setIfInBounds_toArray]
        refine wpAnyH_take (i := 1) (v := ?hv20) rfl (by kernel_rfl) (by kernel_rfl) (by kernel_rfl) (fun _ _ _ h => h) (Or.inl ⟨by rfl, ?hy20⟩) (by assumption) ?hr20; (case hy20 => ((intro w hSw; (try dsimp only at hSw); go_simp) <;> with_reducible rfl)); try simp only [Act.put]
        refine wpAnyH_take (i := 2) (v := ?hv21) rfl (by kernel_rfl) (by kernel_rfl) (by kernel_rfl) (fun _ _ _ h => h) (Or.inl ⟨by rfl, ?hy21⟩) (by assumption) ?hr21; (case hy21 => ((intro w hSw; (try dsimp only at hSw); go_simp) <;> with_reducible rfl)); try simp only [Act.put]
        refine wpAnyH_take (i := 3) (v := ?hv22) rfl (by kernel_rfl) (by kernel_rfl) (by kernel_rfl) (fun _ _ _ h => h) (Or.inl ⟨by rfl, ?hy22⟩) (by assumption) ?hr22; (case hy22 => ((intro w hSw; (try dsimp only at hSw); go_simp) <;> with_reducible rfl)); try simp only [Act.put]
        refine wpAnyH_take (i := 4) (v := ?hv23) rfl (by kernel_rfl) (by kernel_rfl) (by kernel_rfl) (fun _ _ _ h => h) (Or.inl ⟨by rfl, ?hy23⟩) (by assumption) ?hr23; (case hy23 => ((intro w hSw; (try dsimp only at hSw); go_simp) <;> with_reducible rfl)); try simp only [Act.put]
        refine wpAnyH_take (i := 5) (v := ?hv24) rfl (by kernel_rfl) (by kernel_rfl) (by kernel_rfl) (fun _ _ _ h => h) (Or.inl ⟨by rfl, ?hy24⟩) (by assumption) ?hr24; (case hy24 => ((intro w hSw; (try dsimp only at hSw); go_simp) <;> with_reducible rfl)); try simp only [Act.put]
        refine wpAnyH_ready (rs := [6]) (by kernel_rfl) (by simp) ?_; refine AllReadyH.cons rfl (fun K hK => ?_) AllReadyH.nil; go_simp
        (with_reducible refine Calls.mono (RP.out _ ?_) ?_)
        first | exact Below.refl _ _ | exact (Below.refl _ _).drew | exact hHeld.2
        intro e w14 hp
        obtain ⟨b14, cap14, rfl, lt14, row14, hb14⟩ := one_yes hp
        have hb9 : Below w13.heap.size w13 w14 := ⟨hb14.os, hb14.tape, hb14.output, hb14.size, hb14.block⟩
        have R14 := Lib.hid (flAt_congr R13.out (hb9.block _ lt13))
        have Q14 := Lib.hid row14
        clear hp row14 hb14
        try go_wp2_with fail
        refine hK.out _ _ ?_ (fun hHeld => ?_)
        · try dsimp only
          exact (fun K => ⟨⟨(blkC (blkStay L13.out.f.fld K)).1, (blkC (blkStay L13.out.g.fld K)).1, (blkC (blkStay HP13.out K)).1⟩, K⟩) (by first | exact hb9 | exact hb9.drew)
        clear hK K; try simp only [Act.put, List.setIfInBounds_toArray, List.set_cons_zero, List.set_cons_succ]
        refine wpAnyH_ready (rs := [7]) (by kernel_rfl) (by simp) ?_; refine AllReadyH.cons rfl (fun K hK => ?_) AllReadyH.nil; go_simp
        (with_reducible refine Calls.mono (same_ok _ _ _ _ _ _ _ _ n _ hnl hn1 _ R14.out Q14.out) ?_)
        rintro e w15 ⟨rfl, hb15⟩
        have hb8 : Below w14.heap.size w14 w15 := ⟨hb15.os, hb15.tape, hb15.output, hb15.size, hb15.block⟩
        have hb7 := hb9.trans (hb8.mono hb9.size)
        clear hb15 hb8
        try go_wp2_with fail
        refine hK.out _ _ ?_ (fun hHeld => ?_)
        · try dsimp only
          exact (fun K => ⟨⟨(blkC (blkStay L13.out.f.fld K)).1, (blkC (blkStay L13.out.g.fld K)).1, (blkC (blkStay HP13.out K)).1⟩, K⟩) (by first | exact hb7 | exact hb7.drew)
        clear hK K; try simp only [Act.put, List.setIfInBounds_toArray, List.set_cons_zero, List.set_cons_succ]
        refine wpAnyH_take (i := 8) (v := ?hv6) rfl (by kernel_rfl) (by kernel_rfl) (by kernel_rfl) (fun _ _ _ h => h) (Or.inl ⟨by rfl, ?hy6⟩) (by assumption) ?hr6; (case hy6 => ((intro w hSw; (try dsimp only at hSw); go_simp) <;> with_reducible rfl)); try simp only [Act.put, List.setIfInBounds_toArray]
        refine wpAnyH_take (i := 9) (v := ?hv25) rfl (by kernel_rfl) (by kernel_rfl) (by kernel_rfl) (fun _ _ _ h => h) (Or.inl ⟨by rfl, ?hy25⟩) (by assumption) ?hr25; (case hy25 => ((intro w hSw; (try dsimp only at hSw); go_simp) <;> with_reducible rfl)); try simp only [Act.put]
        refine wpAnyH_take (i := 10) (v := ?hv26) rfl (by kernel_rfl) (by kernel_rfl) (by kernel_rfl) (fun _ _ _ h => h) (Or.inl ⟨by rfl, ?hy26⟩) (by assumption) ?hr26; (case hy26 => ((intro w hSw; (try dsimp only at hSw); go_simp) <;> with_reducible rfl)); try simp only [Act.put]
        refine wpAnyH_take (i := 11) (v := ?hv27) rfl (by kernel_rfl) (by kernel_rfl) (by kernel_rfl) (fun _ _ _ h => h) (Or.inl ⟨by rfl, ?hy27⟩) (by assumption) ?hr27; (case hy27 => ((intro w hSw; (try dsimp only at hSw); go_simp) <;> with_reducible rfl)); try simp only [Act.put]
        refine wpAnyH_take (i := 13) (v := ?hv28) rfl (by kernel_rfl) (by kernel_rfl) (by kernel_rfl) (fun _ _ _ h => h) (Or.inl ⟨by rfl, ?hy28⟩) (by assumption) ?hr28; (case hy28 => ((intro w hSw; (try dsimp only at hSw); go_simp) <;> with_reducible rfl)); try simp only [Act.put]
        refine wpAnyH_take (i := 14) (v := ?hv29) rfl (by kernel_rfl) (by kernel_rfl) (by kernel_rfl) (fun _ _ _ h => h) (Or.inl ⟨by rfl, ?hy29⟩) (by assumption) ?hr29; (case hy29 => ((intro w hSw; (try dsimp only at hSw); go_simp) <;> with_reducible rfl)); try simp only [Act.put]
        refine wpAnyH_ready (rs := [12]) (by kernel_rfl) (by simp) ?_; refine AllReadyH.cons rfl (fun K hK => ?_) AllReadyH.nil; go_simp
        (with_reducible refine Calls.mono (FS.out _ ?_) ?_)
        first | exact hb7 | exact hb7.drew | exact hb7.drew.drew
        rintro e w16 ⟨rfl, hb16⟩
        have hb6 : Below w13.heap.size w13 w16 := hb7.trans (Below.mono ⟨hb16.os, hb16.tape, hb16.output, hb16.size, hb16.block⟩ hb7.size)
        clear hb16
        try go_wp2_with fail
        refine hK.out _ _ ?_ (fun hHeld => ?_)
        · try dsimp only
          exact (fun K => ⟨⟨(blkC (blkStay L13.out.f.fld K)).1, (blkC (blkStay L13.out.g.fld K)).1, (blkC (blkStay HP13.out K)).1⟩, K⟩) (by first | exact hb6 | exact hb6.drew)
        clear hK K; try simp only [Act.put, List.setIfInBounds_toArray, List.set_cons_zero, List.set_cons_succ]
        refine wpAnyH_ready (rs := [15]) (by kernel_rfl) (by simp) ?_; refine AllReadyH.cons rfl (fun K hK => ?_) AllReadyH.nil; go_simp
        (with_reducible refine Calls.mono (RS.out _ ?_) ?_)
        first | exact hb6 | exact hb6.drew | exact hb6.drew.drew
        rintro e w17 ⟨rfl, hb17⟩
        have hb5 : Below w13.heap.size w13 w17 := hb6.trans (Below.mono ⟨hb17.os, hb17.tape, hb17.output, hb17.size, hb17.block⟩ hb6.size)
        clear hb17
        try go_wp2_with fail
        refine hK.out _ _ ?_ (fun hHeld => ?_)
        · try dsimp only
          exact (fun K => ⟨⟨(blkC (blkStay L13.out.f.fld K)).1, (blkC (blkStay L13.out.g.fld K)).1, (blkC (blkStay HP13.out K)).1⟩, K⟩) (by first | exact hb5 | exact hb5.drew)
        clear hK K; try simp only [Act.put, List.setIfInBounds_toArray, List.set_cons_zero, List.set_cons_succ]
        refine wpAnyH_take (i := 16) (v := ?hv7) rfl (by kernel_rfl) (by kernel_rfl) (by kernel_rfl) (fun _ _ _ h => h) (Or.inl ⟨by rfl, ?hy7⟩) (by assumption) ?hr7; (case hy7 => ((intro w hSw; (try dsimp only at hSw); go_simp) <;> with_reducible rfl)); try simp only [Act.put, List.setIfInBounds_toArray]
        refine wpAnyH_take (i := 17) (v := ?hv30) rfl (by kernel_rfl) (by kernel_rfl) (by kernel_rfl) (fun _ _ _ h => h) (Or.inl ⟨by rfl, ?hy30⟩) (by assumption) ?hr30; (case hy30 => ((intro w hSw; (try dsimp only at hSw); go_simp) <;> with_reducible rfl)); try simp only [Act.put]
        try simp only [List.getElem_toArray, List.getElem_cons_succ, List.getElem_cons_zero, List.setIfInBounds_toArray, List.set_cons_zero, List.set_cons_succ]
        refine wpAnyH_take (i := 18) (v := ?hv8) rfl (by kernel_rfl) (by kernel_rfl) (by kernel_rfl) (fun _ _ _ h => h) (Or.inl ⟨by rfl, ?hy8⟩) (by assumption) ?hr8; (case hy8 => ((intro w hSw; (try dsimp only at hSw); go_simp) <;> with_reducible rfl)); try simp only [Act.put, List.setIfInBounds_toArray]
        try simp only [List.getElem_toArray, List.getElem_cons_succ, List.getElem_cons_zero, List.set_cons_zero, List.set_cons_succ]
        refine wpAnyH_done (by kernel_rfl) ?_ _
        have HBh := Lib.hid (L13.out.bel.trans (hHeld.2.mono L13.out.bel.size))
        clear hHeld
        go_wp2
        go_ret
        exact ⟨rfl, HBh.out⟩
end Go.Proofs.Ytihjemookgnafaa

/- A field that came in, opened: four integers, and a slice of singles that is empty or known cell by cell. -/
namespace Go.Proofs.Ytihjemookgnafaa
open Go.ChangeShapes Go.WideShapes Go.ChangeAt Go.RowKit Go.Joins Fl

section
variable {H : Type} {enc : TypeId × Value → H} {w : World} {base : Nat} {spare : Nat → Bool} {held : Bool}

theorem trod_f32 {P : Program} {t : TypeId} {fuel : Nat} {v : Value} {y : DataW H × List MemPlace} (ht : P.underlying t = some (.float .f32)) (h : DataW.trod enc P w base spare held fuel t [v] = some y) : ∃ b, v = .float .f32 b ∧ b < 4294967296 := by
  cases fuel with
  | zero => simp [DataW.trod] at h
  | succ n =>
    unfold DataW.trod at h
    rw [ht] at h
    cases v <;> simp at h
    rename_i k b
    obtain ⟨⟨rfl, hw⟩, _⟩ := h
    exact ⟨b, rfl, by simpa [Lit.wf] using hw⟩

theorem array5 {α : Type} {cs : Array α} (h : cs.size = 5) : ∃ c0 c1 c2 c3 c4, cs = #[c0, c1, c2, c3, c4] := by
  obtain ⟨l⟩ := cs
  match l, h with
  | [c0, c1, c2, c3, c4], _ => exact ⟨c0, c1, c2, c3, c4, rfl⟩

theorem flAt_congr' {w w' : World} {b off n : Nat} {f : Nat → Nat} (h : FlAt w b off n f) (e : w'.heap[b]? = w.heap[b]?) : FlAt w' b off n f := fun i hi => by
  rw [← h i hi]; exact World.cell?_of_block (w := w) (a := ⟨b, off + i, none⟩) e

/-- What a slice of singles is: empty, or known cell by cell. -/
def SlF (w : World) (s : Value) : Prop :=
  (∃ a cap, s = .slice a 0 cap) ∨ ∃ b off len cap x, s = .slice (some ⟨b, off, none⟩) len cap ∧ 0 < len ∧ len ≤ 9223372036854775807 ∧ FlAt w b off len x ∧ wf32 len x

theorem open_singles {t e : TypeId} {fuel : Nat} {cs : List Value} {y : DataW H × List MemPlace} (ht : Try.prog.underlying t = some (.slice e)) (he : Try.prog.underlying e = some (.float .f32)) (hc : Try.prog.cellsOf e = 1)
    (h : DataW.trod enc Try.prog w base spare held fuel t cs = some y) : ∃ s, cs = [s] ∧ SlF w s := by
  rcases Go.Deep.open_slice1 ht hc h with ⟨rfl, _⟩ | ⟨a, len, cap, m, n, V, D, Pl, rfl, hb, hl, hm, hmm, _, hx⟩
  · exact ⟨_, rfl, .inl ⟨none, 0, rfl⟩⟩
  · refine ⟨_, rfl, ?_⟩
    rcases Nat.eq_zero_or_pos len with z | z
    · subst z; exact .inl ⟨_, _, rfl⟩
    · have hlm : len ≤ m := by rw [hmm]; split <;> omega
      have h0 := (hx 0 (by omega)).1
      obtain ⟨b, off, spot⟩ := a
      have hspot : spot = none := by simpa [Addr.add] using World.cell?_spot h0
      subst hspot
      have hv : ∀ i, i < len → ∃ x, V i = .float .f32 x ∧ x < 4294967296 := fun i hi => trod_f32 he (hx i (by omega)).2
      refine .inr ⟨b, off, len, cap, fun i => match V i with | .float _ x => x | _ => 0, rfl, z, ?_, fun i hi => ?_, fun i hi => ?_⟩
      · exact Nat.le_trans hl (Nat.le_trans hm (by decide))
      · have h1 := (hx i (by omega)).1
        obtain ⟨x, e1, _⟩ := hv i hi
        rw [← Go.WideShapes.add_plain, h1]
        simp only [e1]
      · obtain ⟨x, e1, e2⟩ := hv i hi
        simp only [e1]; exact e2

theorem cellsF : Try.prog.cellsOf 36 = 5 := by kernel_rfl
theorem cellsR : Try.prog.cellsOf 23 = 4 := by kernel_rfl
theorem cellsS : Try.prog.cellsOf 34 = 1 := by kernel_rfl
theorem cells1 : Try.prog.cellsOf 37 = 1 := by kernel_rfl
theorem cellsI : Try.prog.cellsOf 3 = 1 := by kernel_rfl

set_option maxRecDepth 100000 in
theorem open_field {r : Reach} {b0 : Nat} {v : Value} {d : DataW H} {p : List MemPlace} (hv : Value.okWide Try.prog w r b0 36 v) (h : DataW.Trod enc Try.prog w base spare held 36 v d p) :
    ∃ X Y W' H' : Int, ∃ s, v = fldV X Y W' H' s ∧ SlF w s := by
  obtain ⟨cs, rfl, hsz⟩ := okWide_struct Try.underlying36 hv
  obtain ⟨c0, c1, c2, c3, c4, rfl⟩ := array5 (hsz.trans cellsF)
  obtain ⟨fuel, hf⟩ := h
  obtain ⟨y0, y1, n, _, _, h0, h1⟩ := trod_struct2 Try.underlying36 hf
  rw [cellsR] at h0
  rw [cellsS] at h1
  obtain ⟨s, e4, hs⟩ := open_singles Try.underlying34 Try.underlying37 cells1 h1
  obtain ⟨z0, z1, z2, z3, n2, _, _, g0, g1, g2, g3⟩ := trod_struct4 Try.underlying23 h0
  rw [cellsI] at g0 g1 g2 g3
  obtain ⟨x0, e0, _, _⟩ := DataW.trod_int Try.underlying3 g0
  obtain ⟨x1, e1, _, _⟩ := DataW.trod_int Try.underlying3 g1
  obtain ⟨x2, e2, _, _⟩ := DataW.trod_int Try.underlying3 g2
  obtain ⟨x3, e3, _, _⟩ := DataW.trod_int Try.underlying3 g3
  simp [Value.cells] at e0 e1 e2 e3 e4
  subst e0 e1 e2 e3 e4
  exact ⟨x0, x1, x2, x3, _, rfl, hs⟩
end

theorem SlF.stay {w w' : World} {s : Value} (h : SlF w s) (hb : Below w.heap.size w w') : SlF w' s := by
  rcases h with h | ⟨b, off, len, cap, x, rfl, h1, h2, h3, h4⟩
  · exact .inl h
  · exact .inr ⟨b, off, len, cap, x, rfl, h1, h2, flAt_congr' h3 (hb.block _ (World.block_lt_of_cell? w _ (h3 0 h1))), h4⟩

/-- fit, of whatever slice. -/
theorem fit_any {X Y W H : Int} {s : Value} {w : World} (h : SlF w s) : Calls Try.prog 24 #[fldV X Y W H s] w (FitPost w) := by
  rcases h with ⟨a, cap, rfl⟩ | ⟨b, off, len, cap, x, rfl, h1, h2, h3, h4⟩
  · exact fit_none X Y W H a cap w
  · exact fit_some X Y W H b off len cap x w h1 h2 h3 h4

theorem laidOut : laidOutB Try.prog = true := by kernel_rfl
end Go.Proofs.Ytihjemookgnafaa

/- FieldsAreCut, for every two fields, every region and every single: what Fill, Cut, Paste and Same answer is what the references answer, bit by bit. No condition. -/
namespace Go.Proofs.Ytihjemookgnafaa.fieldsAreCut
open Go.ChangeShapes Go.WideShapes Go.ChangeAt Go.RowKit Go.Joins
set_option linter.unusedVariables false

theorem own : ownKnob Try.prog.godebug = none := by kernel_rfl

theorem fieldsAreCut_any (X0 Y0 W0 H0 : Int) (sl : Value) (X1 Y1 W1 H1 : Int) (sl1 : Value) (rx ry rw rh : Int) (h : Nat) (w : World) (hh : h < 4294967296)
    (hfit : ∀ W', Below w.heap.size w W' → Calls Try.prog 24 #[fldV X0 Y0 W0 H0 sl] W' (FitPost W')) (hfit1 : ∀ W', Below w.heap.size w W' → Calls Try.prog 24 #[fldV X1 Y1 W1 H1 sl1] W' (FitPost W')) :
    Calls Try.prog 4 #[fldV X0 Y0 W0 H0 sl, fldV X1 Y1 W1 H1 sl1, reg rx ry rw rh, .float .f32 h] w fun e w' => e = .returned (.bool true) ∧ Below w.heap.size w w' := by
  by_cases hz : checkR rx ry rw rh = 0
  · by_cases hf : fldE 1 (fun _ => h) = 0
    · exact fieldsAreCut_2 X0 Y0 W0 H0 sl X1 Y1 W1 H1 sl1 rx ry rw rh h w hh hz hf hfit hfit1
    · exact fieldsAreCut_1 X0 Y0 W0 H0 sl X1 Y1 W1 H1 sl1 rx ry rw rh h w hh hz hf hfit hfit1
  · exact fieldsAreCut_0 X0 Y0 W0 H0 sl X1 Y1 W1 H1 sl1 rx ry rw rh h w hh hz hfit hfit1

set_option maxRecDepth 100000 in
theorem lifted (os : Os) (started : os.Started) (H : Type) (enc : TypeId × Value → H) :
    ReturnsInHanded {} Try.checked os 4 .any (Rows.fieldsAreCutSpec.pre6 enc Try.prog Try.f4 Rows.fieldsAreCutRow.domain false) (Rows.fieldsAreCutSpec.post enc Try.prog Try.f4 false true false false) := by
  refine returnsInHanded_of_change (C := Try.checked) own started (by kernel_rfl) Try.func4
    (ChangeSpec.witness6 (enc := enc) (C := Try.checked) false ⟨#[], #[fldV 0 0 0 0 (.slice none 0 0), fldV 0 0 0 0 (.slice none 0 0), reg 0 0 0 0, .float .f32 0], []⟩ 8 (by kernel_rfl) (by kernel_rfl) (by kernel_rfl) (by kernel_rfl)) ?_
  intro W base args ds gs before hval0 hW hcnd _
  have hval : ∀ (j : Nat) t v, Try.f4.params[j]? = some t → args[j]? = some v → Value.okWide Try.prog W .any base t v := hval0
  have hW' := hW
  have hplt : ∀ x ∈ before, x.block < W.heap.size := fun x hx => by simpa using hW'.lt x hx
  obtain ⟨p, q, hA0, hV, rfl, hfz, hnd⟩ := hW
  have hA : DataW.TrodAll enc Try.prog W 0 (fun _ => true) true Try.f4.params.toList args.toList ds p := hA0
  rw [Try.params4] at hA hval
  obtain ⟨v0, vs0, d0, ds0, p0, q0, hargs, rfl, rfl, h0, r0⟩ := trodAll_cons hA
  obtain ⟨v1, vs1, d1, ds1, p1, q1, rfl, rfl, rfl, h1, r1⟩ := trodAll_cons r0
  obtain ⟨v2, vs2, d2, ds2, p2, q2, rfl, rfl, rfl, h2, r2⟩ := trodAll_cons r1
  obtain ⟨v3, vs3, d3, ds3, p3, q3, rfl, rfl, rfl, h3, r3⟩ := trodAll_cons r2
  obtain ⟨rfl, rfl, rfl⟩ := trodAll_nil r3
  obtain rfl : args = #[v0, v1, v2, v3] := by cases args; simp_all
  obtain ⟨rfl, rfl⟩ := trodVars_none hV
  obtain ⟨X, Y, W0, H0, s, rfl, hs⟩ := open_field (hval 0 36 v0 rfl rfl) h0
  obtain ⟨X1, Y1, W1, H1, s1, rfl, hs1⟩ := open_field (hval 1 36 v1 rfl rfl) h1
  obtain ⟨a0, a1, a2, a3, y0, y1, y2, y3, m0, rfl, rfl, rfl, g0, g1, g2, g3⟩ := open_agg4 Try.underlying23 (by kernel_rfl) cellsR (hval 2 23 v2 rfl rfl) h2
  obtain ⟨x0, e0, rfl, w0⟩ := DataW.trod_int Try.underlying3 g0
  obtain ⟨x1, e1, rfl, w1⟩ := DataW.trod_int Try.underlying3 g1
  obtain ⟨x2, e2, rfl, w2⟩ := DataW.trod_int Try.underlying3 g2
  obtain ⟨x3, e3, rfl, w3⟩ := DataW.trod_int Try.underlying3 g3
  simp at e0 e1 e2 e3
  subst e0 e1 e2 e3
  obtain ⟨c, rfl, rfl, rfl, wc⟩ := open_float Try.underlying37 (hval 3 37 v3 rfl rfl) h3
  have lc : c < 4294967296 := by simpa [Lit.wf] using wc
  have hlt : ∀ x ∈ p0, x.block < W.heap.size := fun x hx => hplt x (by simp [hx])
  have hlt1 : ∀ x ∈ p1, x.block < W.heap.size := fun x hx => hplt x (by simp [hx])
  clear hA0 hval0 hplt
  simp only [List.append_nil] at hW'
  have regReads : ∀ (W' : World) (sp : Nat → Bool) (x0 x1 x2 x3 : Int), (Lit.int .i64 x0).wf = true → (Lit.int .i64 x1).wf = true → (Lit.int .i64 x2).wf = true → (Lit.int .i64 x3).wf = true →
      DataW.Trod enc Try.prog W' 0 sp true 23 (reg x0 x1 x2 x3) (.agg [.lit (.int .i64 x0), .lit (.int .i64 x1), .lit (.int .i64 x2), .lit (.int .i64 x3)]) [] := fun W' sp x0 x1 x2 x3 w0 w1 w2 w3 =>
    shut_agg4 (y0 := (.lit (.int .i64 x0), [])) (y1 := (.lit (.int .i64 x1), [])) (y2 := (.lit (.int .i64 x2), [])) (y3 := (.lit (.int .i64 x3), [])) Try.underlying23 (by kernel_rfl) cellsR
      ⟨1, by simp [DataW.trod, Try.underlying3, w0]⟩ ⟨1, by simp [DataW.trod, Try.underlying3, w1]⟩ ⟨1, by simp [DataW.trod, Try.underlying3, w2]⟩ ⟨1, by simp [DataW.trod, Try.underlying3, w3]⟩
  refine (fieldsAreCut_any X Y W0 H0 s X1 Y1 W1 H1 s1 x0 x1 x2 x3 c W lc (fun W' hb => fit_any (hs.stay hb)) (fun W' hb => fit_any (hs1.stay hb))).mono fun e W' ⟨he, hb⟩ => ?_
  subst he
  exact ⟨_, rfl, _, _, _, [], _, [], hW', trodAll_cons_mk (shut_bool Try.underlying4 _) trodAll_mk0, trodAll_cons_mk (Below.trod laidOut (by kernel_rfl) (of_decide_eq_true (by kernel_rfl)) h0 hb hlt) (trodAll_cons_mk (Below.trod laidOut (by kernel_rfl) (of_decide_eq_true (by kernel_rfl)) h1 hb hlt1) (trodAll_cons_mk (regReads _ _ _ _ _ _ w0 w1 w2 w3) (trodAll_cons_mk (shut_float Try.underlying37 wc) trodAll_mk0))), rfl, hb.frame _, fun h => by cases h⟩

theorem over : Rows.fieldsAreCutRow.holds Try.pinned (OpenSpec.ofChange Rows.fieldsAreCutSpec) :=
  OpenClaim.holds_of_wide 4 Try.f4 rfl rfl rfl rfl rfl rfl rfl ⟨rfl, rfl, rfl, rfl, rfl⟩ rfl rfl rfl rfl rfl (by kernel_rfl) Try.func4 (by kernel_rfl)
    (of_decide_eq_true (by kernel_rfl)) (by unfold Func.isWrapper; rw [if_neg (of_decide_eq_false (by kernel_rfl))]; exact ⟨rfl, rfl⟩)
    (fun os started H enc _ => lifted os started H enc)

theorem proved : Rows.FieldsAreCutSaid :=
  over
#print axioms proved
end Go.Proofs.Ytihjemookgnafaa.fieldsAreCut
