/- ThermalMatches, for any wear, every field and any two singles: what Moved, CheckWear and Thermal answer is what the references answer, bit by bit. No condition. -/
import Derived.Test.YtkjpjppfmfifeaaThmJC
import Derived.ProofKit
import Derived.OpenShut
import Derived.Lib.SmallJoins
import Derived.Laws.Cover2
import Derived.Deep.Slices

/- Contract: the reference's repeated, whatever cell it is given. -/
namespace Go.Proofs.Ytkjpjppfmfifeaa
open Go.RowKit Fl
set_option linter.unusedVariables false

theorem enters_rRep1 : Enters 125 := by intro args W; simp [callFunc, Try.func125, Try.f125]
set_option maxHeartbeats 1000000 in
theorem rep1_any (X Y : Int) (W H n b cap p : Nat) (v : Nat → Nat) (w : World) (hF : FldAt w p X Y W H b n cap v) (h0 : checkR X Y W H = 0) (hn : n = H * W) :
    Clos2 125 #[.pointer (some ⟨p, 0, none⟩)] X Y W H v w := by
  intro x y i w2 h1 h2 h3 h4 hi hb
  obtain ⟨b1, b2, b3, b4, b5, b6, b7, b8, b9⟩ := checkR_zero h0
  have hin := num_lt (by omega) h1 h2 h4 hi hn
  have hn2 : n ≤ 65536 := by
    have : ((W : Int) * (H : Int)) = (n : Int) := by rw [hn, Nat.mul_comm]; simp
    omega
  have GF := Lib.hid (blkStay hF.fld hb)
  obtain ⟨cF, fF, zF⟩ := blkC GF.out
  have AT := Lib.hid (refAt_any X Y W H n b cap i v x y w2 (by omega) (by omega) (by omega) (by omega) (by omega) (by omega) (by omega) h1 h2 h3 h4 hi hin hn2 (flAt_congr hF.row (hb.block _ hF.lt)))
  clear hF h0 hn b1 b2 b3 b4 b5 b6 b7 b8 b9 h1 h2 h3 h4 hi hb hin hn2
  go_enter Try.func125, Try.ntmps125
  go_wp2_with (go_at_call 64; refine AT.out.mono ?_; rintro e w' ⟨rfl, rfl⟩)
  go_ret
  exact ⟨rfl, (by repeat (first | exact Below.refl _ _ | refine Below.alloc ?_ (by first | omega | (simp; done) | (simp; omega)) _ | refine Below.setCell ?_ (by first | omega | (simp; done) | (simp; omega)) _ | refine Below.drew ?_))⟩

theorem AtF.cell {g : Nat} {caps : Array Value} {F : Nat → Nat → Nat → Nat → Nat → Nat} {w0 w : World} {X Y : Int} {W H n b cap k : Nat} {v : Nat → Nat} (hg : AtF g caps F w0) (hk : 20 ≤ k ∧ k ≤ 100) (h0 : checkR X Y W H = 0) (hn : n = H * W) (hW : 3 ≤ W) (hH : 3 ≤ H) (hc : FlAt w b 0 n v) (hv : Row k n v) (hb0 : Below w0.heap.size w0 w)
    (x y : Int) (j : Nat) (h1 : X + 1 ≤ x) (h2 : x < X + 1 + ((W : Int) - 2)) (h3 : Y + 1 ≤ y) (h4 : y < Y + 1 + ((H : Int) - 2)) (hj : (j : Int) = (y - (Y + 1)) * ((W : Int) - 2) + (x - (X + 1))) :
    Calls Try.prog g (#[fldV X Y W H (.slice (some ⟨b, 0, none⟩) n cap), .int .i64 x, .int .i64 y] ++ caps) w fun e w' => e = .returned (.float .f32 (rimF F v W j)) ∧ Below w.heap.size w w' :=
  hg.run k X Y W H n b cap v x y (rimI W j) w hk h0 hn hc hv h1 (by omega) h3 (by omega) (rim_num hW h1 h2 h3 hj) hb0

set_option maxHeartbeats 8000000 in
set_option maxRecDepth 100000 in
theorem repeated_ok (X Y : Int) (W H n b cap m d : Nat) (v : Nat → Nat) (g : Nat) (caps : Array Value) (F : Nat → Nat → Nat → Nat → Nat → Nat) (w : World) (hg : AtF g caps F w) (hcall : Enters g)
    (hbd : ∀ (k c n ww e s : Nat), 20 ≤ k ∧ k ≤ 100 → Bd k c → Bd k n → Bd k ww → Bd k e → Bd k s → Bd (k + d) (F c n ww e s) ∧ F c n ww e s < 4294967296)
    (h0 : checkR X Y W H = 0) (hn : n = W * H) (hcap : n ≤ cap) (hcp : cap ≤ 9223372036854775807) (hc : FlAt w b 0 n v) (hv : Row 20 n v) (hm : m ≤ 64) (mW : 2 * m < W) (mH : 2 * m < H) (hd : 20 + d * m ≤ 100) :
    Calls Try.prog 92 #[fldV X Y W H (.slice (some ⟨b, 0, none⟩) n cap), .int .i64 m, .func (.func g) #[] caps] w (ScPost w (X + m) (Y + m) ((W - 2 * m : Nat) : Int) ((H - 2 * m : Nat) : Int) ((H - 2 * m) * (W - 2 * m)) (smF F v W m) 0) := by
  obtain ⟨b1, b2, b3, b4, b5, b6, b7, b8, b9⟩ := checkR_zero h0
  have h1 : 1 ≤ n := by rw [hn]; exact Nat.mul_pos (by omega) (by omega)
  have hnn : n = H * W := by rw [hn]; exact Nat.mul_comm _ _
  have hlt : b < w.heap.size := World.block_lt_of_cell? w _ (hc 0 h1)
  have hl : leftB m W H = true := by unfold leftB; simp; omega
  have IN := Lib.hid (fun w => rinnerN_any X Y W H n b cap m w h0 hm)
  rw [hl] at IN
  simp only [if_true] at IN
  have SC := Lib.hid (fun t (h1 : 2 * t < W) (h2 : 2 * t < H) => steps_check h0 t h1 h2)
  have SR := Lib.hid (fun t (ht : t ≤ m) (h1 : 2 * t < W) (h2 : 2 * t < H) => steps_row hbd hnn hv t h1 h2 (by
    have : d * t ≤ d * m := Nat.mul_le_mul_left _ ht
    omega))
  have SK := Lib.hid (fun t (ht : t ≤ m) => show 20 ≤ 20 + d * t ∧ 20 + d * t ≤ 100 by
    have : d * t ≤ d * m := Nat.mul_le_mul_left _ ht
    omega)
  have MK := Lib.hid (fun W' bt ct (hF : FldAt W' w.heap.size (X + m) (Y + m) (W - 2 * m) (H - 2 * m) bt ((H - 2 * m) * (W - 2 * m)) ct (smF F v W m)) =>
    made_any (X + m) (Y + m) (W - 2 * m) (H - 2 * m) ((H - 2 * m) * (W - 2 * m)) 125 #[.pointer (some ⟨w.heap.size, 0, none⟩)] (smF F v W m) W' enters_rRep1
      (rep1_any _ _ _ _ _ bt ct w.heap.size _ W' hF (SC.out m mW mH) rfl) (fun i hi => (SR.out m (Nat.le_refl _) mW mH i hi).2) (by omega) (by omega) (by omega) (by omega) (by omega) (by omega) (by omega) (by omega) rfl)
  have HG := Lib.hid hg
  have HN := Lib.hid hnn
  have HC := Lib.hid (fun W' (hb : Below w.heap.size w W') => flAt_congr hc (hb.block _ hlt))
  have HL := Lib.hid hlt
  have HP := Lib.hid (And.intro hcap hcp)
  have XB := Lib.hid (show -4194304 ≤ X ∧ X ≤ 4194304 - (W : Int) ∧ -4194304 ≤ Y ∧ Y ≤ 4194304 - (H : Int) ∧ W ≤ 512 ∧ H ≤ 512 by omega)
  unfold Enters at hcall
  have hinfo : (Try.prog.info? 30).map (fun i => (i.zero, i.size, i.bytes)) = some (some (.float .f32 0), 1, 4) := by kernel_rfl
  obtain ⟨i0, hi, hz0, hz1, hz2⟩ := info_parts hinfo
  clear h0 hn hnn hcap hcp hc hv b1 b2 b3 b4 b5 b6 b7 b8 b9 h1 hlt hg hd hl hinfo hbd
  go_enter Try.func92, Try.ntmps92
  go_wp2_with (first | (go_at_call 123; refine (IN.out _).mono ?_; rintro e w2 ⟨rfl, hb2⟩; have HF2 := Lib.hid (blkStay (b := w.heap.size) (o := fldO X Y W H (.slice (some ⟨b, 0, none⟩) n cap)) (by ((simp only [heap_alloc_get, heap_size_alloc, if_true]) <;> ((repeat' split) <;> first | rfl | omega))) hb2); have HS2 := Lib.hid (blkStay (b := w.heap.size + 1) (o := fldO 0 0 0 0 (.slice none 0 0)) (by ((simp only [heap_alloc_get, heap_size_alloc, if_true]) <;> ((repeat' split) <;> first | rfl | omega))) hb2); have hB2 : Below w.heap.size w w2 := Below.trans (by repeat (first | exact Below.refl _ _ | refine Below.alloc ?_ (by first | omega | (simp; done) | (simp; omega)) _ | refine Below.setCell ?_ (by first | omega | (simp; done) | (simp; omega)) _ | refine Below.drew ?_)) (Below.mono hb2 (by first | omega | (simp; done) | (simp; omega))); have z2 := hb2.size; clear hb2; obtain ⟨cS, fS, zS⟩ := blkC HS2.out))
  have hA : Below w2.heap.size w2 (w2.alloc (regObj (X + m) (Y + m) ((W : Int) - 2 * m) ((H : Int) - 2 * m))) := (Below.refl _ _).alloc (Nat.le_refl _) _
  have RA := Lib.hid (rep_start (F := F) (v := v) (W := W) (H := H) (n := n) (lo := 0) ⟨blkStay HF2.out hA, HC.out _ (hB2.trans (hA.mono hB2.size)), Nat.lt_of_lt_of_le HL.out (hB2.trans (hA.mono hB2.size)).size, HP.out.1, HP.out.2⟩ (Nat.zero_le _) HN.out (blkStay HS2.out hA) (hB2.trans (hA.mono hB2.size)) (Nat.le_refl _) (by omega) (Nat.zero_le _))
  clear hA HF2 HS2 hB2 cS fS zS z2 IN HC HL HP HN
  generalize w2.alloc (regObj (X + m) (Y + m) ((W : Int) - 2 * m) ((H : Int) - 2 * m)) = w3 at *
  go_loopw [10, 11, 12, 24] (fun s10 s11 s12 i wr => ∃ t : Nat, t ≤ m ∧ i = .int .i64 t ∧ RepAt w w.heap.size 0 X Y W H F v t wr) (fun _ _ _ i _ => m - (intOf i).toNat)
  case atStart => exact ⟨0, Nat.zero_le _, rfl, RA.out⟩
  case round =>
    obtain ⟨t, ht, rfl, hR⟩ := hrel
    have HR := Lib.hid hR
    by_cases htm : t < m
    · obtain ⟨W2, eW2⟩ : ∃ W2, W - 2 * (t + 1) = W2 := ⟨_, rfl⟩
      obtain ⟨H2, eH2⟩ : ∃ H2, H - 2 * (t + 1) = H2 := ⟨_, rfl⟩
      obtain ⟨W1, eW1⟩ : ∃ W1, W - 2 * t = W1 := ⟨_, rfl⟩
      obtain ⟨H1, eH1⟩ : ∃ H1, H - 2 * t = H1 := ⟨_, rfl⟩
      obtain ⟨f, ef⟩ : ∃ f, smF F v W (t + 1) = f := ⟨_, rfl⟩
      have ef1 : rimF F (smF F v W t) W1 = f := by rw [← ef, ← eW1]; rfl
      obtain ⟨bt, ct, hF, _⟩ := hR.fld
      have CC := Lib.hid (fun (x y : Int) (j : Nat) W' h1 h2 h3 h4 hj (hb : Below wr.heap.size wr W') => (HG.out.stay (hR.bel.trans (hb.mono hR.bel.size))).cell (SK.out t ht) (SC.out t (by omega) (by omega)) rfl (by omega) (by omega) (cap := ct) (flAt_congr hF.row (hb.block _ hF.lt)) (SR.out t ht (by omega) (by omega)) (Below.refl _ _) x y j h1 h2 h3 h4 hj)
      have NX := Lib.hid (fun w5 b cap (hb : Below wr.heap.size wr w5) hrow h1 h2 h3 h4 => rep_next (b := b) (cap := cap) hR hb eW2 eH2 ef hrow h1 h2 h3 h4)
      have FW := Lib.hid (fun i hi => (SR.out (t + 1) htm (by omega) (by omega) i hi).2)
      rw [eW2, eH2, ef] at FW
      have iW : (W1 : Int) - 2 = (W2 : Int) := by omega
      have iH : (H1 : Int) - 2 = (H2 : Int) := by omega
      simp only [eW1, eH1, ef1, iW, iH] at CC
      rw [eW1, eH1] at hF
      obtain ⟨xb1, xb2, yb1, yb2, wb, hb⟩ := XB.out
      have xb3 : -4194304 ≤ X + t := by omega
      have xb4 : X + t ≤ 4194400 := by omega
      have yb3 : -4194304 ≤ Y + t := by omega
      have yb4 : Y + t ≤ 4194400 := by omega
      have w21 : 1 ≤ W2 := by omega
      have w22 : W2 ≤ 512 := by omega
      have h21 : 1 ≤ H2 := by omega
      have h22 : H2 ≤ 512 := by omega
      have GR := Lib.hid (fun w' => show Calls Try.prog 124 #[reg (X + t) (Y + t) W1 H1, .int .i64 (-1)] w' fun e w'' => e = .returned (reg (X + t + 1) (Y + t + 1) W2 H2) ∧ Below w'.heap.size w' w'' by
        have h := refGrown_any (X + t) (Y + t) W1 H1 (-1) w' (by omega) (by omega) (by omega) (by omega) (by omega) (by omega) (by omega) (by omega) (by omega) (by omega)
        rw [show X + (t : Int) - (-1) = X + t + 1 by omega, show Y + (t : Int) - (-1) = Y + t + 1 by omega, show (W1 : Int) + 2 * (-1) = W2 by omega, show (H1 : Int) + 2 * (-1) = H2 by omega] at h
        exact h)
      have HF := Lib.hid hF.fld
      obtain ⟨cF, fF, zF⟩ := blkC hF.fld
      have TT := Lib.hid (show ((t + 1 : Nat) : Int) = (t : Int) + 1 by omega)
      have HT := Lib.hid htm
      clear hF hR eW1 eH1 eW2 eH2 ef ef1 iW iH xb1 xb2 yb1 yb2 wb hb SC SR SK MK HG XB mW mH RA
      generalize X + (t : Int) = X1 at *
      generalize Y + (t : Int) = Y1 at *
      go_wp2_with (go_at_call 124; refine (GR.out _).mono ?_; rintro e w4 ⟨rfl, hb4⟩; have B4 := Lib.hid (Below.trans (show Below wr.heap.size wr _ from (by repeat (first | exact Below.refl _ _ | refine Below.alloc ?_ (by first | omega | (simp; done) | (simp; omega)) _ | refine Below.setCell ?_ (by first | omega | (simp; done) | (simp; omega)) _ | refine Below.drew ?_))) (Below.mono hb4 (by first | omega | (simp; done) | (simp; omega)))); clear hb4)
      have z4 := B4.out.size
      have HS := Lib.hid (show RgAt wr (X1 + 1) (Y1 + 1) W2 H2 w4.heap.size (w4.heap.size + 1) f 0 (w4.alloc (fldO (X1 + 1) (Y1 + 1) W2 H2 (.slice none 0 0))) from
        ⟨⟨.slice none 0 0, ⟨by simp [rowL], .inl ⟨rfl, by simp⟩⟩, heap_alloc_new _ _⟩, B4.out.alloc z4 _, by simp⟩)
      clear cF fF zF B4 GR
      generalize w4.alloc (fldO (X1 + 1) (Y1 + 1) W2 H2 (.slice none 0 0)) = w5 at *
      generalize w4.heap.size = gb at *
      obtain ⟨w1, rfl⟩ : ∃ w1, w1 = wr := ⟨_, rfl⟩
      go_loopw [11, 12] (fun y x wr => ∃ j : Nat, j ≤ H2 ∧ y = .int .i64 (Y1 + 1 + j) ∧ RgAt w1 (X1 + 1) (Y1 + 1) W2 H2 gb (gb + 1) f (j * W2) wr) (fun y _ _ => (Y1 + 1 + H2 - intOf y).toNat)
      case atStart => exact ⟨0, by omega, by simp, by rw [Nat.zero_mul]; exact HS.out⟩
      case round =>
        obtain ⟨j, hj, rfl, hx⟩ := hrel
        have HX := Lib.hid hx
        obtain ⟨ov, hown, hout⟩ := hx.ex
        obtain ⟨cV, fV, zV⟩ := blkC hout
        by_cases hlt : j < H2
        · clear hx hown hout
          go_wp2
          clear cV fV zV
          obtain ⟨w6, rfl⟩ : ∃ w6, w6 = wr := ⟨_, rfl⟩
          go_loopw [12] (fun x wr => ∃ i : Nat, i ≤ W2 ∧ x = .int .i64 (X1 + 1 + i) ∧ RgAt w1 (X1 + 1) (Y1 + 1) W2 H2 gb (gb + 1) f (j * W2 + i) wr) (fun x _ => (X1 + 1 + W2 - intOf x).toNat)
          case atStart => exact ⟨0, by omega, by simp, HX.out⟩
          case round =>
            obtain ⟨i, hi1, rfl, hz⟩ := hrel
            have HZ := Lib.hid hz
            obtain ⟨ov2, hown, hout⟩ := hz.ex
            have HO := Lib.hid hown
            have HV := Lib.hid hout
            have HBz := Lib.hid hz.bel
            have HSz := Lib.hid hz.size
            obtain ⟨cV, fV, zV⟩ := blkC hout
            obtain ⟨cF, fF, zF⟩ := blkC (blkStay HF.out hz.bel)
            clear hz hown hout
            by_cases hlt2 : i < W2
            · have CCi := Lib.hid (fun W' hb => CC.out (X1 + 1 + i) (Y1 + 1 + j) (j * W2 + i) W' (by omega) (by omega) (by omega) (by omega) (by rw [show (Y1 + 1 + (j : Int) - (Y1 + 1)) = j by omega, show (X1 + 1 + (i : Int) - (X1 + 1)) = i by omega]; simp) hb)
              have hk : j * W2 + i < 262144 := by
                have : j * W2 ≤ 511 * 512 := Nat.mul_le_mul (by omega) w22
                omega
              have hx : f (j * W2 + i) < 4294967296 := FW.out _ (by
                have : (j + 1) * W2 ≤ H2 * W2 := Nat.mul_le_mul_right _ hlt
                rw [Nat.succ_mul] at this; omega)
              obtain ⟨k, hke⟩ : ∃ k, j * W2 + i = k := ⟨_, rfl⟩
              rw [hke] at CCi hk hx HO
              have KE := Lib.hid (show j * W2 + (i + 1) = k + 1 by omega)
              clear hke HZ
              have hrd : Below w1.heap.size w1 wr.drew := HBz.out.drew
              have HB1 := Lib.hid (show k + 1 ≤ maxLen by unfold maxLen; omega)
              have HB2 := Lib.hid (show (k + 1) * 4 ≤ 140737488355328 by omega)
              go_wp2_with fail
              go_region_law (first
                | (go_simp; (with_reducible refine (CCi.out _ hrd).mono ?_); rintro e w2 ⟨rfl, hb2'⟩; have hb2 : Below wr.heap.size wr w2 := ⟨hb2'.os, hb2'.tape, hb2'.output, hb2'.size, hb2'.block⟩; have own2 := Lib.hid (ownsRow_below HO.out hb2); have out2 := Lib.hid (blkStay HV.out hb2); obtain ⟨cV2, fV2, zV2⟩ := blkC out2.out)
                | (refine step_append_lies _ (by rfl) _ _ _ (by rfl) (gb + 1) 30 i0 _ 1 4 Try.underlying24 hi hz0 hz1 hz2 rfl (by omega) ov2 k (rowL f k) (by rfl) (own2.out.alloc _) ⟨w2.heap.size, 0, none⟩ 1 1 [.float .f32 (f k)] (by rfl) (by rfl) (World.news_of_block (cs := #[.float .f32 (f k)]) (t := 30) (fr := (0, 0)) (heap_alloc_new w2 _)) (by simp [Value.oneCell']) (by omega) HB1.out HB2.out (by simp; omega) (w2.heap.size + 1) (by simp) ?_; intro gg cap w3 hown3 hgrow hat hlt3; have hF := ownsRow_far HO.out (show gb < gb + 1 by omega); have out3 := Lib.hid ((hgrow.block gb (by rw [heap_size_alloc]; omega) hF).trans ((heap_alloc_old _ _ zV2).trans out2.out)); obtain ⟨cV3, fV3, zV3⟩ := blkC out3.out))
              all_goals
                have HM2 := Lib.hid (rg_push HO.out HV.out HBz.out HSz.out hb2 (by omega) z4 hgrow hown3)
                clear hown3 hgrow hat hlt3 hF cV3 fV3 zV3 cV2 fV2 zV2 cV fV zV cF fF zF
                go_wp2
                go_roundw
                case rel => exact ⟨i + 1, by omega, by go_num, by rw [KE.out]; exact HM2.out⟩
                case measure => simp [intOf]; omega
            · have hiW : i = W2 := by omega
              have HM3 : Hid (RgAt w1 (X1 + 1) (Y1 + 1) W2 H2 gb (gb + 1) f ((j + 1) * W2) wr) := by
                have h := HZ.out
                rw [hiW, ← Nat.succ_mul] at h
                exact h
              have hge : ¬ X1 + 1 + (i : Int) < X1 + 1 + W2 := by omega
              clear hiW
              go_wp2
              go_roundw
              case rel => exact ⟨j + 1, by omega, by go_num, HM3.out⟩
              case measure => simp [intOf]; omega
        · have hjH : j = H2 := by omega
          have hpos : 0 < H2 * W2 := Nat.mul_pos h21 w21
          rw [hjH] at hown
          obtain ⟨g', cap', rfl, _⟩ := hown.form hpos
          obtain ⟨hrow, hbase, hgl, hnc, hcm⟩ := rg_cells hown hpos
          have NXT := Lib.hid (NX.out wr g' cap' hx.bel hrow (by omega) hgl hnc hcm)
          obtain ⟨cF, fF, zF⟩ := blkC (blkStay HF.out hx.bel)
          have hge : ¬ Y1 + 1 + (j : Int) < Y1 + 1 + H2 := by omega
          have htm := HT.out
          clear hx hown hout hrow hbase hgl hnc hcm hpos NX HX CC FW hjH
          go_wp2
          go_roundw
          case rel => exact ⟨t + 1, by omega, by go_num, NXT.out⟩
          case measure => simp [intOf]; omega
    · obtain rfl : t = m := by omega
      obtain ⟨bt, ct, hF, _⟩ := hR.fld
      have MKI := Lib.hid (MK.out wr bt ct hF)
      have HS := Lib.hid hR.res
      have zS0 := (blkC hR.res).2.2
      have HB := Lib.hid hR.bel
      obtain ⟨cF, fF, zF⟩ := blkC hF.fld
      clear hF hR SC SR SK MK HG XB RA HR
      generalize smF F v W t = f at *
      generalize X + (t : Int) = X' at *
      generalize Y + (t : Int) = Y' at *
      generalize (H - 2 * t) * (W - 2 * t) = n2 at *
      generalize ((W - 2 * t : Nat) : Int) = W' at *
      generalize ((H - 2 * t : Nat) : Int) = H' at *
      go_wp2_with fail
      refine MKI.out.mono ?_
      intro e w4 hmade
      rcases hmade with ⟨hall, b', cap', rfl, hb', hlt', hrow, hbel⟩ | ⟨hall, rfl, hbel⟩
      · obtain ⟨cS, fS, zS⟩ := blkC (blkStay HS.out hbel)
        have hB := HB.out.trans (hbel.mono HB.out.size)
        go_wp2
        refine bodyPost_ret (v := .tuple #[fldV X' Y' W' H' (.slice (some ⟨b', 0, none⟩) n2 cap'), .int .i64 0]) (by simp [results, Try.results92, go_sem, cS]) rfl ?_
        exact .inr ⟨rfl, .inl ⟨hall, b', cap', rfl, by omega, by rw [set5_size]; exact hlt', flAt_congr hrow (set5_heap w4 _ _ _ _ _ _ _ (by omega)), set5_below hB _ _ _ _ _ _ (by omega)⟩⟩
      · obtain ⟨cS, fS, zS⟩ := blkC (blkStay HS.out hbel)
        have hB := HB.out.trans (hbel.mono HB.out.size)
        go_wp2
        refine bodyPost_ret (v := .tuple #[fldV 0 0 0 0 (.slice none 0 0), .int .i64 3]) (by simp [results, Try.results92, go_sem, cS]) rfl ?_
        exact .inr ⟨rfl, .inr ⟨hall, rfl, set5_below hB _ _ _ _ _ _ (by omega)⟩⟩
end Go.Proofs.Ytkjpjppfmfifeaa

/- Smooth of both sides, for every field that is right and at most 40 wide, and any number of steps. -/
namespace Go.Proofs.Ytkjpjppfmfifeaa
open Go.RowKit Fl
set_option linter.unusedVariables false

/-- The error of a number of steps. -/
def stpE (m : Int) : Int := if withinB m 0 64 = true then 0 else 3
set_option maxHeartbeats 400000 in
theorem checkSteps_any (m : Int) (w : World) : Calls Try.prog 87 #[.int .i64 m] w fun e w' => e = .returned (.int .i64 (stpE m)) ∧ w = w' := by
  unfold stpE
  cases c : withinB m 0 64 <;>
  · have WI := Lib.hid (fun w => within_any m 0 64 w)
    rw [c] at WI
    go_enter Try.func87, Try.ntmps87
    go_wp2_with (go_at_call 99; refine (WI.out _).mono ?_; rintro e w' ⟨rfl, rfl⟩)
    go_ret
    exact ⟨rfl, rfl⟩

/-- A result that goes on from an inner call into the variable of the caller's result. -/
theorem scp_store {w w2 w3 : World} {X Y W H : Int} {n b cap : Nat} {f : Nat → Nat} (hB : Below w.heap.size w w2) (hall : allB n (fun i => hgtB (f i)) = true) (hb : w2.heap.size ≤ b) (hlt : b < w3.heap.size) (hrow : FlAt w3 b 0 n f) (hbel : Below w2.heap.size w2 w3) (u1 u2 u3 u4 u5 : Value) (hS : w.heap.size + 1 < w2.heap.size) :
    ScPost w X Y W H n f 0 (.returned (.tuple #[fldV X Y W H (.slice (some ⟨b, 0, none⟩) n cap), .int .i64 0])) (set5 w3 (w.heap.size + 1) u1 u2 u3 u4 u5) := by
  have hB3 := hB.trans (hbel.mono hB.size)
  exact .inr ⟨rfl, .inl ⟨hall, b, cap, rfl, by omega, by rw [set5_size]; exact hlt, flAt_congr hrow (set5_heap w3 _ _ _ _ _ _ _ (by omega)), set5_below hB3 _ _ _ _ _ _ (by omega)⟩⟩

end Go.Proofs.Ytkjpjppfmfifeaa

/- The closures of Thermal; what is wrong with wear. -/
namespace Go.Proofs.Ytkjpjppfmfifeaa
open Go.RowKit Fl
set_option linter.unusedVariables false

theorem enters_Thermal1 : Enters 90 := by intro args W; simp [callFunc, Try.func90, Try.f90]
theorem enters_rThermal1 : Enters 93 := by intro args W; simp [callFunc, Try.func93, Try.f93]
theorem thm_bd {T R d : Nat} (hd : d = 10) (hT : Bd 20 T) (hR : Bd 0 R) : ∀ (k c n ww e s : Nat), 20 ≤ k ∧ k ≤ 100 → Bd k c → Bd k n → Bd k ww → Bd k e → Bd k s → Bd (k + d) (thmW T R c n ww e s) ∧ thmW T R c n ww e s < 4294967296 := by
  subst hd
  intro k c n ww e s hk h1 h2 h3 h4 h5
  obtain ⟨_, _, _, _, _, _, _, l8, A⟩ := thm_parts hk hT hR h1 h2 h3 h4 h5
  rw [A.w]; exact ⟨A.bd, A.lt⟩

set_option maxHeartbeats 1000000 in
theorem at_thm (T R : Nat) (st : Int) (p : Nat) (w0 : World) (hp : w0.heap[p]? = some (weaO T R st)) (hT : Bd 20 T) (hR : Bd 0 R) : AtK 90 #[.pointer (some ⟨p, 0, none⟩)] (thmW T R) 10 w0 := by
  refine ⟨fun k c n ww e s w hk h1 h2 h3 h4 h5 hb => ?_, thm_bd rfl hT hR⟩
  have CR := Lib.hid (fun w => crumble_any k T R c n ww e s st w hk hT hR h1 h2 h3 h4 h5)
  obtain ⟨cP, fP, zP⟩ := blkC (blkStay hp hb)
  clear hp hb hT hR h1 h2 h3 h4 h5 hk
  generalize thmW T R c n ww e s = res at *
  show Calls Try.prog 90 #[crossV c n ww e s, .pointer (some ⟨p, 0, none⟩)] w _
  go_enter Try.func90, Try.ntmps90
  go_wp2_with (go_at_call 91; refine (CR.out _).mono ?_; rintro e' w4 ⟨rfl, hb4⟩; have HB4 := Lib.hid (Below.trans (show Below w.heap.size w _ from (by repeat (first | exact Below.refl _ _ | refine Below.alloc ?_ (by first | omega | (simp; done) | (simp; omega)) _ | refine Below.setCell ?_ (by first | omega | (simp; done) | (simp; omega)) _ | refine Below.drew ?_))) (Below.mono hb4 (by simp))); clear hb4)
  go_ret
  exact ⟨rfl, HB4.out⟩

set_option maxHeartbeats 4000000 in
set_option maxRecDepth 100000 in
theorem rthm1_any (T R : Nat) (st : Int) (p : Nat) (w0 : World) (hp : w0.heap[p]? = some (weaO T R st)) (hT : Bd 20 T) (hR : Bd 0 R) : AtF 93 #[.pointer (some ⟨p, 0, none⟩)] (thmW T R) w0 := by
  refine ⟨fun k X Y W H nn b cap v x y i w hk h0 hn hc hv h1 h2 h3 h4 hi hb0 => ?_⟩
  have I := in_cell hn h1 h2 h3 h4 hi
  have hT' := hT
  obtain ⟨l1, l2, l3, l4, l5, l6, l7, l8, A⟩ := thm_parts hk hT hR (hv _ I.a0).1 (hv _ I.a1).1 (hv _ I.a4).1 (hv _ I.a3).1 (hv _ I.a2).1
  have hk' : 20 ≤ k ∧ k ≤ 110 := ⟨hk.1, by omega⟩
  rw [A.w]
  have zb : b < w.heap.size := World.block_lt_of_cell? w _ (hc i I.a0)
  have AR := Lib.hid (fun W' (hb : Below w.heap.size w W') => around_any X Y W H nn b cap i v x y W' h0 hn (flAt_congr hc (hb.block _ zb)) h1 h2 h3 h4 hi)
  have P1 := Lib.hid (fun w => rmoved_any k T R (v i) (v (i - W)) st w hk' hT hR (hv _ I.a0).1 (hv _ I.a1).1)
  have P2 := Lib.hid (fun w => rmoved_any k T R (v i) (v (i - 1)) st w hk' hT hR (hv _ I.a0).1 (hv _ I.a4).1)
  have P3 := Lib.hid (fun w => rmoved_any k T R (v i) (v (i + 1)) st w hk' hT hR (hv _ I.a0).1 (hv _ I.a3).1)
  have P4 := Lib.hid (fun w => rmoved_any k T R (v i) (v (i + W)) st w hk' hT hR (hv _ I.a0).1 (hv _ I.a2).1)
  have P5 := Lib.hid (fun w => rmoved_any k T R (v (i - W)) (v i) st w hk' hT hR (hv _ I.a1).1 (hv _ I.a0).1)
  have P6 := Lib.hid (fun w => rmoved_any k T R (v (i - 1)) (v i) st w hk' hT hR (hv _ I.a4).1 (hv _ I.a0).1)
  have P7 := Lib.hid (fun w => rmoved_any k T R (v (i + 1)) (v i) st w hk' hT hR (hv _ I.a3).1 (hv _ I.a0).1)
  have P8 := Lib.hid (fun w => rmoved_any k T R (v (i + W)) (v i) st w hk' hT hR (hv _ I.a2).1 (hv _ I.a0).1)
  have A1 := Lib.hid (fun w => refSub_any _ _ _ l1 A.a1' A.a1 w)
  have A2 := Lib.hid (fun w => refSub_any _ _ _ l2 A.a2' A.a2 w)
  have A3 := Lib.hid (fun w => refSub_any _ _ _ l3 A.a3' A.a3 w)
  have A4 := Lib.hid (fun w => refSub_any _ _ _ l4 A.a4' A.a4 w)
  have A5 := Lib.hid (fun w => refAdd_any _ _ _ l5 A.a5' A.a5 w)
  have A6 := Lib.hid (fun w => refAdd_any _ _ _ l6 A.a6' A.a6 w)
  have A7 := Lib.hid (fun w => refAdd_any _ _ _ l7 A.a7' A.a7 w)
  have A8 := Lib.hid (fun w => refAdd_any _ _ _ l8 A.a8' A.a8 w)
  have HP := Lib.hid (blkStay hp hb0)
  have zP := (blkC HP.out).2.2
  clear A hk hk' hT hT' hR h0 hn hc hv h1 h2 h3 h4 hi I zb hp hb0
  generalize v i = c at *
  generalize v (i - W) = n at *
  generalize v (i + W) = s at *
  generalize v (i + 1) = e at *
  generalize v (i - 1) = ww at *
  generalize movW T R c n = m1 at *
  generalize movW T R c ww = m2 at *
  generalize movW T R c e = m3 at *
  generalize movW T R c s = m4 at *
  generalize movW T R n c = m5 at *
  generalize movW T R ww c = m6 at *
  generalize movW T R e c = m7 at *
  generalize movW T R s c = m8 at *
  show Calls Try.prog 93 #[fldV X Y W H (.slice (some ⟨b, 0, none⟩) nn cap), .int .i64 x, .int .i64 y, .pointer (some ⟨p, 0, none⟩)] w _
  go_enter Try.func93, Try.ntmps93
  go_wp2_with (first | (go_at_call 94; refine (AR.out _ (by repeat (first | exact Below.refl _ _ | refine Below.alloc ?_ (by first | omega | (simp; done) | (simp; omega)) _ | refine Below.setCell ?_ (by first | omega | (simp; done) | (simp; omega)) _ | refine Below.drew ?_))).mono ?_; rintro e' w3 ⟨rfl, hb3⟩; have B3 : Below w.heap.size w w3 := (Below.trans (show Below w.heap.size w _ from (by repeat (first | exact Below.refl _ _ | refine Below.alloc ?_ (by first | omega | (simp; done) | (simp; omega)) _ | refine Below.setCell ?_ (by first | omega | (simp; done) | (simp; omega)) _ | refine Below.drew ?_))) (Below.mono hb3 (by first | omega | (simp; done) | (simp; omega)))); have HP3 := Lib.hid (blkStay HP.out B3); clear hb3))
  have zp3 := (blkC HP3.out).2.2
  go_loopw [14, 37] (fun u i wr => ∃ j : Nat, j ≤ 4 ∧ i = .int .i64 j ∧ u = .float .f32 (stp c l1 l2 l3 l4 j) ∧ wr.heap[p]? = some (weaO T R st) ∧ wr.heap[w3.heap.size]? = some (lsO n ww e s) ∧ Below w3.heap.size w3 wr) (fun _ i _ => 4 - (intOf i).toNat)
  case atStart => exact ⟨0, by omega, rfl, rfl, by rw [heap_alloc_get, if_neg (by omega)]; exact HP3.out, by (first | (rw [heap_alloc_get, if_pos rfl]; done) | ((simp only [heap_alloc_get, heap_size_alloc, if_true]) <;> ((repeat' split) <;> first | rfl | omega))), (by repeat (first | exact Below.refl _ _ | refine Below.alloc ?_ (by first | omega | (simp; done) | (simp; omega)) _ | refine Below.setCell ?_ (by first | omega | (simp; done) | (simp; omega)) _ | refine Below.drew ?_))⟩
  case round =>
    obtain ⟨j, hj, rfl, rfl, hA, hC, hb⟩ := hrel
    have HA := Lib.hid hA
    have HC := Lib.hid hC
    have HD := Lib.hid hb
    obtain ⟨cA, fA, zA⟩ := blkC hA
    obtain ⟨cC, fC, zC⟩ := blkC hC
    clear hA hC hb
    have hj4 : j = 0 ∨ j = 1 ∨ j = 2 ∨ j = 3 ∨ j = 4 := by omega
    rcases hj4 with rfl | rfl | rfl | rfl | rfl
    iterate 4
      · simp only [stp]
        go_wp2_with (first
          | (go_at_call 85; (first | (with_reducible refine Calls.mono (P1.out _) ?_) | (with_reducible refine Calls.mono (P2.out _) ?_) | (with_reducible refine Calls.mono (P3.out _) ?_) | (with_reducible refine Calls.mono (P4.out _) ?_)); rintro e' w4 ⟨rfl, hb4⟩; have HA4 := Lib.hid (blkStay HA.out hb4); have HC4 := Lib.hid (blkStay HC.out hb4); have HD4 := Lib.hid (HD.out.trans (hb4.mono HD.out.size)); clear hb4)
          | (go_at_call 95; (first | (with_reducible refine Calls.mono (A1.out _) ?_) | (with_reducible refine Calls.mono (A2.out _) ?_) | (with_reducible refine Calls.mono (A3.out _) ?_) | (with_reducible refine Calls.mono (A4.out _) ?_)); rintro e' w' ⟨rfl, rfl⟩))
        go_roundw
        case rel => exact ⟨_, by decide, rfl, rfl, HA4.out, HC4.out, HD4.out⟩
        case measure => simp [intOf]
    · simp only [stp, Int.cast_ofNat_Int]
      go_wp2
      clear cA fA zA cC fC zC
      go_loopw [14, 50] (fun u i ws => ∃ j : Nat, j ≤ 4 ∧ i = .int .i64 j ∧ u = .float .f32 (stp l4 l5 l6 l7 l8 j) ∧ ws.heap[p]? = some (weaO T R st) ∧ ws.heap[w3.heap.size]? = some (lsO n ww e s) ∧ Below w3.heap.size w3 ws) (fun _ i _ => 4 - (intOf i).toNat)
      case atStart => exact ⟨0, by omega, rfl, rfl, HA.out, HC.out, HD.out⟩
      case round =>
        obtain ⟨j, hj, rfl, rfl, hA, hC, hb⟩ := hrel
        have HE := Lib.hid hA
        have HF := Lib.hid hC
        have HG := Lib.hid hb
        obtain ⟨cA, fA, zA⟩ := blkC hA
        obtain ⟨cC, fC, zC⟩ := blkC hC
        clear hA hC hb
        have hj4 : j = 0 ∨ j = 1 ∨ j = 2 ∨ j = 3 ∨ j = 4 := by omega
        rcases hj4 with rfl | rfl | rfl | rfl | rfl
        iterate 4
          · simp only [stp]
            go_wp2_with (first
              | (go_at_call 85; (first | (with_reducible refine Calls.mono (P5.out _) ?_) | (with_reducible refine Calls.mono (P6.out _) ?_) | (with_reducible refine Calls.mono (P7.out _) ?_) | (with_reducible refine Calls.mono (P8.out _) ?_)); rintro e' w4 ⟨rfl, hb4⟩; have HA4 := Lib.hid (blkStay HE.out hb4); have HC4 := Lib.hid (blkStay HF.out hb4); have HD4 := Lib.hid (HG.out.trans (hb4.mono HG.out.size)); clear hb4)
              | (go_at_call 96; (first | (with_reducible refine Calls.mono (A5.out _) ?_) | (with_reducible refine Calls.mono (A6.out _) ?_) | (with_reducible refine Calls.mono (A7.out _) ?_) | (with_reducible refine Calls.mono (A8.out _) ?_)); rintro e' w' ⟨rfl, rfl⟩))
            go_roundw
            case rel => exact ⟨_, by decide, rfl, rfl, HA4.out, HC4.out, HD4.out⟩
            case measure => simp [intOf]
        · simp only [stp]
          go_wp2
          go_ret
          exact ⟨rfl, B3.trans (HG.out.mono B3.size)⟩
end Go.Proofs.Ytkjpjppfmfifeaa

/- Contracts: the laws' bits, one: a single, with its error, told by both sides. -/
namespace Go.Proofs.Ytkjpjppfmfifeaa
open Go.RowKit Fl
set_option linter.unusedVariables false

set_option maxHeartbeats 400000 in
theorem bits_self (x : Nat) (w : World) :
    Calls Try.prog 20 #[.float .f32 x, .float .f32 x] w fun e w' => e = .returned (.bool true) ∧ w = w' := by
  have h1 := f32bits
  go_enter Try.func20, Try.ntmps20
  go_wp2
  go_ret
  exact ⟨rfl, rfl⟩

set_option maxHeartbeats 400000 in
theorem one_ok (x : Nat) (w : World) :
    Calls Try.prog 31 #[.float .f32 x, .int .i64 0, .float .f32 x, .int .i64 0] w fun e w' => e = .returned (.bool true) ∧ w = w' := by
  go_enter Try.func31, Try.ntmps31
  go_wp2_with (go_at_call 20; refine (bits_self _ _).mono ?_; rintro e w' ⟨rfl, rfl⟩)
  go_ret
  exact ⟨rfl, rfl⟩

set_option maxHeartbeats 400000 in
theorem one_err (b : Nat) (k : Int) (hk : k = 2 ∨ k = 3 ∨ k = 4 ∨ k = 5) (w : World) :
    Calls Try.prog 31 #[.float .f32 0, .int .i64 k, .float .f32 b, .int .i64 k] w fun e w' => e = .returned (.bool true) ∧ w = w' := by
  rcases hk with rfl | rfl | rfl | rfl
  all_goals go_enter Try.func31, Try.ntmps31
  all_goals go_wp2_with (go_at_call 20; refine (bits_self _ _).mono ?_; rintro e w' ⟨rfl, rfl⟩)
  all_goals go_ret
  all_goals exact ⟨rfl, rfl⟩

set_option maxHeartbeats 400000 in
theorem one_errX (b : Nat) (k : Int) (hk : k ≠ 0) (w : World) :
    Calls Try.prog 31 #[.float .f32 0, .int .i64 k, .float .f32 b, .int .i64 k] w fun e w' => e = .returned (.bool true) ∧ w = w' := by
  have hb : (k != 0) = true := by simp [hk]
  clear hk
  go_enter Try.func31, Try.ntmps31
  go_wp2_with (go_at_call 20; refine (bits_self _ _).mono ?_; rintro e w' ⟨rfl, rfl⟩)
  go_ret
  exact ⟨rfl, rfl⟩

end Go.Proofs.Ytkjpjppfmfifeaa

/- CheckWear, Moved of both sides. -/
namespace Go.Proofs.Ytkjpjppfmfifeaa
open Go.RowKit Fl
set_option linter.unusedVariables false

/-- A share of at most hi, of the reference. -/
theorem share_of {st hi : Nat} (C : WithinCases st 0 hi) (hst : st < 4294967296) (w : World) :
    Calls Try.prog 88 #[.float .f32 st, .float .f32 hi] w fun e w' => e = .returned (.int .i64 (wiE st 0 hi)) ∧ w.alloc (flObj st) = w' := by
  have HT := Lib.hid (fun bb w => refHeight_of st hst bb w)
  rcases C with ⟨hk, he⟩ | ⟨h2, he, c1⟩ | ⟨h2, he, c1, c2⟩ | ⟨h2, he, c1, c2⟩
  · rw [he]
    generalize fldE 1 (fun _ => st) = er at *
    have hzb : (er != 0) = true := by rcases hk with rfl | rfl <;> rfl
    clear he hk
    go_enter Try.func88, Try.ntmps88
    go_wp2_with (first | (go_at_call 17; refine (HT.out _ _ (by ((simp only [heap_alloc_get, if_true]) <;> ((repeat' split) <;> first | rfl | omega)))).mono ?_; rintro e w2 ⟨rfl, rfl⟩))
    go_ret
    exact ⟨rfl, rfl⟩
  all_goals
    rw [he]
    rw [h2] at HT
    clear he h2
    go_enter Try.func88, Try.ntmps88
    go_wp2_with (first | (go_at_call 17; refine (HT.out _ _ (by ((simp only [heap_alloc_get, if_true]) <;> ((repeat' split) <;> first | rfl | omega)))).mono ?_; rintro e w2 ⟨rfl, rfl⟩))
    go_ret
    exact ⟨rfl, rfl⟩

theorem vS_eighth' {j : Nat} (hj : j = 1071) : vS 1040187392 = some ((2 ^ j : Nat) : Int) := vS_eighth hj
theorem talus_cases (T : Nat) : WithinCases T 0 1233125376 := within_cases vS_zero vS_top (by rw [vTop_one]; have := one_pos; generalize one = O at *; omega) (by omega)
theorem rate_cases (R : Nat) : WithinCases R 0 1040187392 := by
  obtain ⟨j, hj⟩ : ∃ j : Nat, j = 1071 := ⟨_, rfl⟩
  have e1 : one = 8 * 2 ^ j := by rw [one_split (a := 3) (j := j) (by omega)]
  have hp := Nat.two_pow_pos j
  exact within_cases vS_zero (vS_eighth hj) (by rw [vTop_one, e1]; generalize 2 ^ j = U at *; omega) (by rw [vTop_one, e1]; generalize 2 ^ j = U at *; omega)

/-- The error of wear. -/
def weaE (T R : Nat) (st : Int) : Int := if wiE T 0 1233125376 ≠ 0 then wiE T 0 1233125376 else if wiE R 0 1040187392 ≠ 0 then wiE R 0 1040187392 else stpE st
theorem wi_ok {x a b : Nat} (h : wiE x a b = 0) : finB x = true ∧ (FloatKind.f32.format.order x a == some .lt) = false ∧ (FloatKind.f32.format.order x b == some .gt) = false := by
  unfold wiE at h
  grind
theorem wea_ok {T R : Nat} {st : Int} (h : weaE T R st = 0) : Bd 20 T ∧ Bd 0 R ∧ stpE st = 0 := by
  unfold weaE at h
  by_cases h1 : wiE T 0 1233125376 = 0
  · rw [if_neg (by simp [h1])] at h
    by_cases h2 : wiE R 0 1040187392 = 0
    · rw [if_neg (by simp [h2])] at h
      obtain ⟨f1, a1, b1⟩ := wi_ok h1
      obtain ⟨f2, a2, b2⟩ := wi_ok h2
      obtain ⟨a, va⟩ := Option.isSome_iff_exists.1 (show (vS T).isSome = true from f1)
      obtain ⟨b, vb⟩ := Option.isSome_iff_exists.1 (show (vS R).isSome = true from f2)
      obtain ⟨j, hj⟩ : ∃ j : Nat, j = 1071 := ⟨_, rfl⟩
      have e1 : one = 8 * 2 ^ j := by rw [one_split (a := 3) (j := j) (by omega)]
      have hp := Nat.two_pow_pos j
      rw [f32f, lss_val va vS_zero] at a1
      rw [f32f, gtr_val va vS_top] at b1
      rw [f32f, lss_val vb vS_zero] at a2
      rw [f32f, gtr_val vb (vS_eighth hj)] at b2
      have e2 := vTop_one
      have e3 : vTop = 8388608 * ((2 ^ j : Nat) : Int) := by rw [e2, e1]; simp; omega
      simp only [decide_eq_false_iff_not, Int.not_lt] at a1 b1 a2 b2
      refine ⟨hgt_bd ?_, bd_unit vb ?_ ?_, h⟩
      · unfold hgtB
        rw [va]
        simp
        omega
      · rw [e1]; omega
      · rw [e1]; generalize 2 ^ j = U at *; omega
    · rw [if_pos h2] at h; exact absurd h h2
  · rw [if_pos h1] at h; exact absurd h h1
theorem wea_vals {T R : Nat} {st : Int} (h : weaE T R st ≠ 0) : weaE T R st = 2 ∨ weaE T R st = 3 := by
  have q : ∀ x a b, wiE x a b = 0 ∨ wiE x a b = 2 ∨ wiE x a b = 3 := fun x a b => by unfold wiE; grind
  have q1 := q T 0 1233125376
  have q2 := q R 0 1040187392
  unfold weaE stpE at *
  grind

set_option maxHeartbeats 1000000 in
theorem checkWear_any (T R : Nat) (st : Int) (w : World) : Calls Try.prog 32 #[weaV T R st] w fun e w' => e = .returned (.int .i64 (weaE T R st)) ∧ Below w.heap.size w w' := by
  have W1 := Lib.hid (fun w => checkWithin_any T 0 1233125376 w)
  have W2 := Lib.hid (fun w => checkWithin_any R 0 1040187392 w)
  have CS := Lib.hid (fun w => checkSteps_any st w)
  unfold weaE
  by_cases h1 : wiE T 0 1233125376 = 0
  · rw [if_neg (by simp [h1])]
    rw [h1] at W1
    by_cases h2 : wiE R 0 1040187392 = 0
    · rw [if_neg (by simp [h2])]
      rw [h2] at W2
      clear h1 h2
      generalize stpE st = er at *
      go_enter Try.func32, Try.ntmps32
      go_wp2_with (first | (go_at_call 86; (with_reducible refine Calls.mono (W1.out _) ?_); rintro e' w' ⟨rfl, rfl⟩) | (go_at_call 86; (with_reducible refine Calls.mono (W2.out _) ?_); rintro e' w' ⟨rfl, rfl⟩) | (go_at_call 87; refine (CS.out _).mono ?_; rintro e w' ⟨rfl, rfl⟩))
      go_ret
      exact ⟨rfl, (by repeat (first | exact Below.refl _ _ | refine Below.alloc ?_ (by first | omega | (simp; done) | (simp; omega)) _ | refine Below.setCell ?_ (by first | omega | (simp; done) | (simp; omega)) _ | refine Below.drew ?_))⟩
    · rw [if_pos h2]
      have cz : (wiE R 0 1040187392 != 0) = true := by simp [h2]
      clear h1 h2
      generalize wiE R 0 1040187392 = er at *
      go_enter Try.func32, Try.ntmps32
      go_wp2_with (first | (go_at_call 86; (with_reducible refine Calls.mono (W1.out _) ?_); rintro e' w' ⟨rfl, rfl⟩) | (go_at_call 86; (with_reducible refine Calls.mono (W2.out _) ?_); rintro e' w' ⟨rfl, rfl⟩))
      go_ret
      exact ⟨rfl, (by repeat (first | exact Below.refl _ _ | refine Below.alloc ?_ (by first | omega | (simp; done) | (simp; omega)) _ | refine Below.setCell ?_ (by first | omega | (simp; done) | (simp; omega)) _ | refine Below.drew ?_))⟩
  · rw [if_pos h1]
    have cz : (wiE T 0 1233125376 != 0) = true := by simp [h1]
    clear h1
    generalize wiE T 0 1233125376 = er at *
    go_enter Try.func32, Try.ntmps32
    go_wp2_with (first | (go_at_call 86; (with_reducible refine Calls.mono (W1.out _) ?_); rintro e' w' ⟨rfl, rfl⟩))
    go_ret
    exact ⟨rfl, (by repeat (first | exact Below.refl _ _ | refine Below.alloc ?_ (by first | omega | (simp; done) | (simp; omega)) _ | refine Below.setCell ?_ (by first | omega | (simp; done) | (simp; omega)) _ | refine Below.drew ?_))⟩

set_option maxHeartbeats 2000000 in
theorem rcheckWear_any (T R : Nat) (st : Int) (hT : T < 4294967296) (hR : R < 4294967296) (w : World) : Calls Try.prog 33 #[weaV T R st] w fun e w' => e = .returned (.int .i64 (weaE T R st)) ∧ Below w.heap.size w w' := by
  have W1 := Lib.hid (fun w => share_of (talus_cases T) hT w)
  have W2 := Lib.hid (fun w => share_of (rate_cases R) hR w)
  unfold weaE
  by_cases h1 : wiE T 0 1233125376 = 0
  · rw [if_neg (by simp [h1])]
    rw [h1] at W1
    by_cases h2 : wiE R 0 1040187392 = 0
    · rw [if_neg (by simp [h2])]
      rw [h2] at W2
      clear h1 h2
      unfold stpE
      by_cases c1 : st < 0
      · rw [if_neg (by rw [Bool.not_eq_true]; exact withinB_no.2 (.inl c1))]
        go_enter Try.func33, Try.ntmps33
        go_wp2_with (first | (go_at_call 88; (with_reducible refine Calls.mono (W1.out _) ?_); rintro e' w' ⟨rfl, rfl⟩) | (go_at_call 88; (with_reducible refine Calls.mono (W2.out _) ?_); rintro e' w' ⟨rfl, rfl⟩))
        all_goals go_ret
        all_goals exact ⟨rfl, (by repeat (first | exact Below.refl _ _ | refine Below.alloc ?_ (by first | omega | (simp; done) | (simp; omega)) _ | refine Below.setCell ?_ (by first | omega | (simp; done) | (simp; omega)) _ | refine Below.drew ?_))⟩
      · by_cases c2 : 64 < st
        · rw [if_neg (by rw [Bool.not_eq_true]; exact withinB_no.2 (.inr c2))]
          go_enter Try.func33, Try.ntmps33
          go_wp2_with (first | (go_at_call 88; (with_reducible refine Calls.mono (W1.out _) ?_); rintro e' w' ⟨rfl, rfl⟩) | (go_at_call 88; (with_reducible refine Calls.mono (W2.out _) ?_); rintro e' w' ⟨rfl, rfl⟩))
          all_goals go_ret
          all_goals exact ⟨rfl, (by repeat (first | exact Below.refl _ _ | refine Below.alloc ?_ (by first | omega | (simp; done) | (simp; omega)) _ | refine Below.setCell ?_ (by first | omega | (simp; done) | (simp; omega)) _ | refine Below.drew ?_))⟩
        · rw [if_pos (withinB_iff.2 ⟨by omega, by omega⟩)]
          go_enter Try.func33, Try.ntmps33
          go_wp2_with (first | (go_at_call 88; (with_reducible refine Calls.mono (W1.out _) ?_); rintro e' w' ⟨rfl, rfl⟩) | (go_at_call 88; (with_reducible refine Calls.mono (W2.out _) ?_); rintro e' w' ⟨rfl, rfl⟩))
          all_goals go_ret
          all_goals exact ⟨rfl, (by repeat (first | exact Below.refl _ _ | refine Below.alloc ?_ (by first | omega | (simp; done) | (simp; omega)) _ | refine Below.setCell ?_ (by first | omega | (simp; done) | (simp; omega)) _ | refine Below.drew ?_))⟩
    · rw [if_pos h2]
      have cz : (wiE R 0 1040187392 != 0) = true := by simp [h2]
      clear h1 h2
      generalize wiE R 0 1040187392 = er at *
      go_enter Try.func33, Try.ntmps33
      go_wp2_with (first | (go_at_call 88; (with_reducible refine Calls.mono (W1.out _) ?_); rintro e' w' ⟨rfl, rfl⟩) | (go_at_call 88; (with_reducible refine Calls.mono (W2.out _) ?_); rintro e' w' ⟨rfl, rfl⟩))
      go_ret
      exact ⟨rfl, (by repeat (first | exact Below.refl _ _ | refine Below.alloc ?_ (by first | omega | (simp; done) | (simp; omega)) _ | refine Below.setCell ?_ (by first | omega | (simp; done) | (simp; omega)) _ | refine Below.drew ?_))⟩
  · rw [if_pos h1]
    have cz : (wiE T 0 1233125376 != 0) = true := by simp [h1]
    clear h1
    generalize wiE T 0 1233125376 = er at *
    go_enter Try.func33, Try.ntmps33
    go_wp2_with (first | (go_at_call 88; (with_reducible refine Calls.mono (W1.out _) ?_); rintro e' w' ⟨rfl, rfl⟩))
    go_ret
    exact ⟨rfl, (by repeat (first | exact Below.refl _ _ | refine Below.alloc ?_ (by first | omega | (simp; done) | (simp; omega)) _ | refine Below.setCell ?_ (by first | omega | (simp; done) | (simp; omega)) _ | refine Below.drew ?_))⟩

/-- Two singles, as a list. -/
def duo (a b : Nat) (i : Nat) : Nat := match i with | 0 => a | _ => b
theorem flAt_duo {w : World} {p a b : Nat} (h : w.heap[p]? = some (.cells #[.float .f32 a, .float .f32 b] 30)) : FlAt w p 0 2 (duo a b) := by
  intro i hi
  rw [Nat.zero_add, (blkC h).1 i]
  have : i = 0 ∨ i = 1 := by omega
  rcases this with rfl | rfl <;> rfl
theorem duo_hgt {a b : Nat} (h : fldE 2 (duo a b) = 0) : hgtB a = true ∧ hgtB b = true := by
  have := allB_iff.1 (fldE_zero.1 h)
  exact ⟨this 0 (by omega), this 1 (by omega)⟩
theorem duo_wf {a b : Nat} (h1 : a < 4294967296) (h2 : b < 4294967296) : wf32 2 (duo a b) := fun i hi => by
  have : i = 0 ∨ i = 1 := by omega
  rcases this with rfl | rfl <;> assumption

/-- The error of Moved. -/
def mveE (T R : Nat) (st : Int) (a b : Nat) : Int := if weaE T R st ≠ 0 then weaE T R st else fldE 2 (duo a b)
def mveV (T R : Nat) (st : Int) (a b : Nat) : Nat := if mveE T R st a b = 0 then movW T R a b else 0

set_option maxHeartbeats 2000000 in
theorem movedX_any (T R : Nat) (st : Int) (a b : Nat) (w : World) : Calls Try.prog 29 #[weaV T R st, .float .f32 a, .float .f32 b] w fun e w' => e = .returned (.tuple #[.float .f32 (mveV T R st a b), .int .i64 (mveE T R st a b)]) ∧ Below w.heap.size w w' := by
  have CW := Lib.hid (fun w => checkWear_any T R st w)
  have CH := Lib.hid (fun p w (h : w.heap[p]? = some (.cells #[.float .f32 a, .float .f32 b] 30)) => CheckHeights_row p 0 2 2 (duo a b) (by omega) w (flAt_duo h))
  by_cases h1 : weaE T R st = 0
  · have Z := wea_ok h1
    rw [h1] at CW
    by_cases h2 : fldE 2 (duo a b) = 0
    · obtain ⟨g1, g2⟩ := duo_hgt h2
      have e : mveE T R st a b = 0 := by unfold mveE; rw [if_neg (by simp [h1]), h2]
      have ev : mveV T R st a b = movW T R a b := by unfold mveV; rw [if_pos e]
      rw [ev, e]
      clear e ev
      rw [h2] at CH
      have MV := Lib.hid (fun w => moved_any 20 T R a b st w (by omega) Z.1 Z.2.1 (hgt_bd g1) (hgt_bd g2))
      clear h1 h2 g1 g2 Z
      generalize movW T R a b = res at *
      go_enter Try.func29, Try.ntmps29
      go_wp2_with (first | (go_at_call 32; refine (CW.out _).mono ?_; rintro e w2 ⟨rfl, hb2⟩; have HK := Lib.hid (blkStay (b := w.heap.size) (o := weaO T R st) (by (first | (rw [heap_alloc_get, if_pos rfl]; done) | ((simp only [heap_alloc_get, heap_size_alloc, if_true]) <;> ((repeat' split) <;> first | rfl | omega)))) hb2); have hB2 : Below w.heap.size w w2 := Below.trans (by repeat (first | exact Below.refl _ _ | refine Below.alloc ?_ (by first | omega | (simp; done) | (simp; omega)) _ | refine Below.setCell ?_ (by first | omega | (simp; done) | (simp; omega)) _ | refine Below.drew ?_)) (Below.mono hb2 (by simp)); clear hb2; obtain ⟨cK, fK, zK⟩ := blkC HK.out) | (go_at_call 65; refine (CH.out _ _ (by (first | (rw [heap_alloc_get, if_pos rfl]; done) | ((simp only [heap_alloc_get, heap_size_alloc, if_true]) <;> ((repeat' split) <;> first | rfl | omega))))).mono ?_; rintro e w' ⟨rfl, rfl⟩) | (go_at_call 84; refine (MV.out _).mono ?_; rintro e w4 ⟨rfl, hb4⟩; have hB4 := Below.trans (hB2.alloc hB2.size _) (Below.mono hb4 (by have := hB2.size; simp; omega)); clear hb4))
      go_ret2
      exact ⟨rfl, hB4⟩
    · have e : mveE T R st a b = fldE 2 (duo a b) := by unfold mveE; rw [if_neg (by simp [h1])]
      have ev : mveV T R st a b = 0 := by unfold mveV; rw [if_neg (by rw [e]; exact h2)]
      rw [ev, e]
      clear e ev
      have cz : (fldE 2 (duo a b) != 0) = true := by simp [h2]
      clear h1 h2 Z
      generalize fldE 2 (duo a b) = er at *
      go_enter Try.func29, Try.ntmps29
      go_wp2_with (first | (go_at_call 32; refine (CW.out _).mono ?_; rintro e w2 ⟨rfl, hb2⟩; have hB2 : Below w.heap.size w w2 := Below.trans (by repeat (first | exact Below.refl _ _ | refine Below.alloc ?_ (by first | omega | (simp; done) | (simp; omega)) _ | refine Below.setCell ?_ (by first | omega | (simp; done) | (simp; omega)) _ | refine Below.drew ?_)) (Below.mono hb2 (by simp)); clear hb2) | (go_at_call 65; refine (CH.out _ _ (by (first | (rw [heap_alloc_get, if_pos rfl]; done) | ((simp only [heap_alloc_get, heap_size_alloc, if_true]) <;> ((repeat' split) <;> first | rfl | omega))))).mono ?_; rintro e w' ⟨rfl, rfl⟩))
      go_ret2
      exact ⟨rfl, hB2.alloc hB2.size _⟩
  · have e : mveE T R st a b = weaE T R st := by unfold mveE; rw [if_pos h1]
    have ev : mveV T R st a b = 0 := by unfold mveV; rw [if_neg (by rw [e]; exact h1)]
    rw [ev, e]
    clear e ev
    have cz : (weaE T R st != 0) = true := by simp [h1]
    clear h1
    generalize weaE T R st = er at *
    go_enter Try.func29, Try.ntmps29
    go_wp2_with (first | (go_at_call 32; refine (CW.out _).mono ?_; rintro e w2 ⟨rfl, hb2⟩; have hB2 : Below w.heap.size w w2 := Below.trans (by repeat (first | exact Below.refl _ _ | refine Below.alloc ?_ (by first | omega | (simp; done) | (simp; omega)) _ | refine Below.setCell ?_ (by first | omega | (simp; done) | (simp; omega)) _ | refine Below.drew ?_)) (Below.mono hb2 (by simp)); clear hb2))
    go_ret2
    exact ⟨rfl, hB2⟩

set_option maxHeartbeats 2000000 in
theorem rmovedX_any (T R : Nat) (st : Int) (a b : Nat) (hT : T < 4294967296) (hR : R < 4294967296) (ha : a < 4294967296) (hb : b < 4294967296) (w : World) : Calls Try.prog 30 #[weaV T R st, .float .f32 a, .float .f32 b] w fun e w' => e = .returned (.tuple #[.float .f32 (mveV T R st a b), .int .i64 (mveE T R st a b)]) ∧ Below w.heap.size w w' := by
  have CW := Lib.hid (fun w => rcheckWear_any T R st hT hR w)
  have CH := Lib.hid (fun p w (h : w.heap[p]? = some (.cells #[.float .f32 a, .float .f32 b] 30)) => refHeight_row p 0 2 2 (duo a b) (by omega) w (flAt_duo h) (duo_wf ha hb))
  by_cases h1 : weaE T R st = 0
  · have Z := wea_ok h1
    rw [h1] at CW
    by_cases h2 : fldE 2 (duo a b) = 0
    · obtain ⟨g1, g2⟩ := duo_hgt h2
      have e : mveE T R st a b = 0 := by unfold mveE; rw [if_neg (by simp [h1]), h2]
      have ev : mveV T R st a b = movW T R a b := by unfold mveV; rw [if_pos e]
      rw [ev, e]
      clear e ev
      rw [h2] at CH
      have MV := Lib.hid (fun w => rmoved_any 20 T R a b st w (by omega) Z.1 Z.2.1 (hgt_bd g1) (hgt_bd g2))
      clear h1 h2 g1 g2 Z hT hR ha hb
      generalize movW T R a b = res at *
      go_enter Try.func30, Try.ntmps30
      go_wp2_with (first | (go_at_call 33; refine (CW.out _).mono ?_; rintro e w2 ⟨rfl, hb2⟩; have HK := Lib.hid (blkStay (b := w.heap.size) (o := weaO T R st) (by (first | (rw [heap_alloc_get, if_pos rfl]; done) | ((simp only [heap_alloc_get, heap_size_alloc, if_true]) <;> ((repeat' split) <;> first | rfl | omega)))) hb2); have hB2 : Below w.heap.size w w2 := Below.trans (by repeat (first | exact Below.refl _ _ | refine Below.alloc ?_ (by first | omega | (simp; done) | (simp; omega)) _ | refine Below.setCell ?_ (by first | omega | (simp; done) | (simp; omega)) _ | refine Below.drew ?_)) (Below.mono hb2 (by simp)); clear hb2; obtain ⟨cK, fK, zK⟩ := blkC HK.out) | (go_at_call 17; refine (CH.out _ _ (by (first | (rw [heap_alloc_get, if_pos rfl]; done) | ((simp only [heap_alloc_get, heap_size_alloc, if_true]) <;> ((repeat' split) <;> first | rfl | omega))))).mono ?_; rintro e w' ⟨rfl, rfl⟩) | (go_at_call 85; refine (MV.out _).mono ?_; rintro e w4 ⟨rfl, hb4⟩; have hB4 := Below.trans (hB2.alloc hB2.size _) (Below.mono hb4 (by have := hB2.size; simp; omega)); clear hb4))
      go_ret2
      exact ⟨rfl, hB4⟩
    · have e : mveE T R st a b = fldE 2 (duo a b) := by unfold mveE; rw [if_neg (by simp [h1])]
      have ev : mveV T R st a b = 0 := by unfold mveV; rw [if_neg (by rw [e]; exact h2)]
      rw [ev, e]
      clear e ev
      have cz : (fldE 2 (duo a b) != 0) = true := by simp [h2]
      clear h1 h2 Z hT hR ha hb
      generalize fldE 2 (duo a b) = er at *
      go_enter Try.func30, Try.ntmps30
      go_wp2_with (first | (go_at_call 33; refine (CW.out _).mono ?_; rintro e w2 ⟨rfl, hb2⟩; have hB2 : Below w.heap.size w w2 := Below.trans (by repeat (first | exact Below.refl _ _ | refine Below.alloc ?_ (by first | omega | (simp; done) | (simp; omega)) _ | refine Below.setCell ?_ (by first | omega | (simp; done) | (simp; omega)) _ | refine Below.drew ?_)) (Below.mono hb2 (by simp)); clear hb2) | (go_at_call 17; refine (CH.out _ _ (by (first | (rw [heap_alloc_get, if_pos rfl]; done) | ((simp only [heap_alloc_get, heap_size_alloc, if_true]) <;> ((repeat' split) <;> first | rfl | omega))))).mono ?_; rintro e w' ⟨rfl, rfl⟩))
      go_ret2
      exact ⟨rfl, hB2.alloc hB2.size _⟩
  · have e : mveE T R st a b = weaE T R st := by unfold mveE; rw [if_pos h1]
    have ev : mveV T R st a b = 0 := by unfold mveV; rw [if_neg (by rw [e]; exact h1)]
    rw [ev, e]
    clear e ev
    have cz : (weaE T R st != 0) = true := by simp [h1]
    clear h1 hT hR ha hb
    generalize weaE T R st = er at *
    go_enter Try.func30, Try.ntmps30
    go_wp2_with (first | (go_at_call 33; refine (CW.out _).mono ?_; rintro e w2 ⟨rfl, hb2⟩; have hB2 : Below w.heap.size w w2 := Below.trans (by repeat (first | exact Below.refl _ _ | refine Below.alloc ?_ (by first | omega | (simp; done) | (simp; omega)) _ | refine Below.setCell ?_ (by first | omega | (simp; done) | (simp; omega)) _ | refine Below.drew ?_)) (Below.mono hb2 (by simp)); clear hb2))
    go_ret2
    exact ⟨rfl, hB2⟩
end Go.Proofs.Ytkjpjppfmfifeaa

/- Thermal of both sides. -/
namespace Go.Proofs.Ytkjpjppfmfifeaa
open Go.RowKit Fl
set_option linter.unusedVariables false

theorem scp_store3 {w w2 w3 : World} {X Y W H : Int} {n b cap r : Nat} {f : Nat → Nat} (hB : Below w.heap.size w w2) (hall : allB n (fun i => hgtB (f i)) = true) (hb : w2.heap.size ≤ b) (hlt : b < w3.heap.size) (hrow : FlAt w3 b 0 n f) (hbel : Below w2.heap.size w2 w3) (u1 u2 u3 u4 u5 : Value) (hr : w.heap.size ≤ r) (hS : r < w2.heap.size) :
    ScPost w X Y W H n f 0 (.returned (.tuple #[fldV X Y W H (.slice (some ⟨b, 0, none⟩) n cap), .int .i64 0])) (set5 w3 r u1 u2 u3 u4 u5) := by
  have hB3 := hB.trans (hbel.mono hB.size)
  exact .inr ⟨rfl, .inl ⟨hall, b, cap, rfl, by omega, by rw [set5_size]; exact hlt, flAt_congr hrow (set5_heap w3 _ _ _ _ _ _ _ (by omega)), set5_below hB3 _ _ _ _ _ _ (by omega)⟩⟩

set_option maxHeartbeats 2000000 in
theorem thermal_bad (X Y : Int) (W H n b cap T R : Nat) (v : Nat → Nat) (m : Int) (w : World) (h0 : checkR X Y W H = 0) (hn : n = W * H) (hc : FlAt w b 0 n v) (hh : allB n (fun i => hgtB (v i)) = true) (hm : weaE T R m ≠ 0) :
    Calls Try.prog 34 #[fldV X Y W H (.slice (some ⟨b, 0, none⟩) n cap), weaV T R m] w fun e w' => e = .returned (.tuple #[fldV 0 0 0 0 (.slice none 0 0), .int .i64 (weaE T R m)]) ∧ Below w.heap.size w w' := by
  have h1 : 1 ≤ n := by
    obtain ⟨b1, b2, b3, b4, b5, _⟩ := checkR_zero h0
    rw [hn]; exact Nat.mul_pos (by omega) (by omega)
  have hlt : b < w.heap.size := World.block_lt_of_cell? w _ (hc 0 h1)
  have CH := Lib.hid (fun W' (hb : Below w.heap.size w W') => check_ok X Y W H n b cap v W' h0 hn (flAt_congr hc (hb.block _ hlt)) hh)
  have CW := Lib.hid (fun w => checkWear_any T R m w)
  have cz : (weaE T R m != 0) = true := by simp [hm]
  clear h0 hn hc hh hm h1
  generalize weaE T R m = er at *
  go_enter Try.func34, Try.ntmps34
  go_wp2_with (first | (go_at_call 71; refine (CH.out _ (by repeat (first | exact Below.refl _ _ | refine Below.alloc ?_ (by first | omega | (simp; done) | (simp; omega)) _ | refine Below.setCell ?_ (by first | omega | (simp; done) | (simp; omega)) _ | refine Below.drew ?_))).mono ?_; rintro e w2 ⟨rfl, hb2⟩; have HF2 := Lib.hid (blkStay (b := w.heap.size) (o := fldO X Y W H (.slice (some ⟨b, 0, none⟩) n cap)) (by (first | (rw [heap_alloc_get, if_pos rfl]; done) | ((simp only [heap_alloc_get, heap_size_alloc, if_true]) <;> ((repeat' split) <;> first | rfl | omega)))) hb2); have HW2 := Lib.hid (blkStay (b := w.heap.size + 1) (o := weaO T R m) (by (first | (rw [heap_alloc_get, if_pos rfl]; done) | ((simp only [heap_alloc_get, heap_size_alloc, if_true]) <;> ((repeat' split) <;> first | rfl | omega)))) hb2); have HS2 := Lib.hid (blkStay (b := w.heap.size + 1 + 1) (o := fldO 0 0 0 0 (.slice none 0 0)) (by (first | (rw [heap_alloc_get, if_pos rfl]; done) | ((simp only [heap_alloc_get, heap_size_alloc, if_true]) <;> ((repeat' split) <;> first | rfl | omega)))) hb2); have hB2 : Below w.heap.size w w2 := Below.trans (by repeat (first | exact Below.refl _ _ | refine Below.alloc ?_ (by first | omega | (simp; done) | (simp; omega)) _ | refine Below.setCell ?_ (by first | omega | (simp; done) | (simp; omega)) _ | refine Below.drew ?_)) (Below.mono hb2 (by first | omega | (simp; done) | (simp; omega))); clear hb2; obtain ⟨cW, fW, zW⟩ := blkC HW2.out) | (go_at_call 32; refine (CW.out _).mono ?_; rintro e w3 ⟨rfl, hb3⟩; clear cW fW zW; have HF3 := Lib.hid (blkStay HF2.out hb3); have HW3 := Lib.hid (blkStay HW2.out hb3); have HS3 := Lib.hid (blkStay HS2.out hb3); have hB3 := hB2.trans (hb3.mono hB2.size); clear hb3; obtain ⟨cF, fF, zF⟩ := blkC HF3.out; obtain ⟨cW, fW, zW⟩ := blkC HW3.out; obtain ⟨cS, fS, zS⟩ := blkC HS3.out))
  refine bodyPost_ret (v := .tuple #[fldV 0 0 0 0 (.slice none 0 0), .int .i64 er]) (by simp [results, Try.results34, go_sem, cS]) rfl ?_
  exact ⟨rfl, set5_below hB3 _ _ _ _ _ _ (by omega)⟩

set_option maxHeartbeats 2000000 in
theorem thermal_no (X Y : Int) (W H n b cap T R m : Nat) (v : Nat → Nat) (w : World) (h0 : checkR X Y W H = 0) (hn : n = W * H) (hc : FlAt w b 0 n v) (hh : allB n (fun i => hgtB (v i)) = true) (he : weaE T R m = 0) (hm : m ≤ 64) (hs : W ≤ 2 * m ∨ H ≤ 2 * m) :
    Calls Try.prog 34 #[fldV X Y W H (.slice (some ⟨b, 0, none⟩) n cap), weaV T R m] w fun e w' => e = .returned (.tuple #[fldV 0 0 0 0 (.slice none 0 0), .int .i64 10]) ∧ Below w.heap.size w w' := by
  have h1 : 1 ≤ n := by
    obtain ⟨b1, b2, b3, b4, b5, _⟩ := checkR_zero h0
    rw [hn]; exact Nat.mul_pos (by omega) (by omega)
  have hlt : b < w.heap.size := World.block_lt_of_cell? w _ (hc 0 h1)
  have CH := Lib.hid (fun W' (hb : Below w.heap.size w W') => check_ok X Y W H n b cap v W' h0 hn (flAt_congr hc (hb.block _ hlt)) hh)
  have CW := Lib.hid (fun w => checkWear_any T R m w)
  rw [he] at CW
  have WN := Lib.hid (fun W' => worn_no X Y W H n b cap m 90 #[.pointer (some ⟨w.heap.size + 1, 0, none⟩)] W' h0 hm hs)
  clear h0 hn hc hh he hm hs h1
  go_enter Try.func34, Try.ntmps34
  go_wp2_with (first | (go_at_call 71; refine (CH.out _ (by repeat (first | exact Below.refl _ _ | refine Below.alloc ?_ (by first | omega | (simp; done) | (simp; omega)) _ | refine Below.setCell ?_ (by first | omega | (simp; done) | (simp; omega)) _ | refine Below.drew ?_))).mono ?_; rintro e w2 ⟨rfl, hb2⟩; have HF2 := Lib.hid (blkStay (b := w.heap.size) (o := fldO X Y W H (.slice (some ⟨b, 0, none⟩) n cap)) (by (first | (rw [heap_alloc_get, if_pos rfl]; done) | ((simp only [heap_alloc_get, heap_size_alloc, if_true]) <;> ((repeat' split) <;> first | rfl | omega)))) hb2); have HW2 := Lib.hid (blkStay (b := w.heap.size + 1) (o := weaO T R m) (by (first | (rw [heap_alloc_get, if_pos rfl]; done) | ((simp only [heap_alloc_get, heap_size_alloc, if_true]) <;> ((repeat' split) <;> first | rfl | omega)))) hb2); have HS2 := Lib.hid (blkStay (b := w.heap.size + 1 + 1) (o := fldO 0 0 0 0 (.slice none 0 0)) (by (first | (rw [heap_alloc_get, if_pos rfl]; done) | ((simp only [heap_alloc_get, heap_size_alloc, if_true]) <;> ((repeat' split) <;> first | rfl | omega)))) hb2); have hB2 : Below w.heap.size w w2 := Below.trans (by repeat (first | exact Below.refl _ _ | refine Below.alloc ?_ (by first | omega | (simp; done) | (simp; omega)) _ | refine Below.setCell ?_ (by first | omega | (simp; done) | (simp; omega)) _ | refine Below.drew ?_)) (Below.mono hb2 (by first | omega | (simp; done) | (simp; omega))); clear hb2; obtain ⟨cW, fW, zW⟩ := blkC HW2.out) | (go_at_call 32; refine (CW.out _).mono ?_; rintro e w3 ⟨rfl, hb3⟩; clear cW fW zW; have HF3 := Lib.hid (blkStay HF2.out hb3); have HW3 := Lib.hid (blkStay HW2.out hb3); have HS3 := Lib.hid (blkStay HS2.out hb3); have hB3 := hB2.trans (hb3.mono hB2.size); clear hb3; obtain ⟨cF, fF, zF⟩ := blkC HF3.out; obtain ⟨cW, fW, zW⟩ := blkC HW3.out; obtain ⟨cS, fS, zS⟩ := blkC HS3.out) | (go_at_call 89; refine (WN.out _).mono ?_; rintro e w4 ⟨rfl, hb4⟩; clear cS fS zS; have hB4 := hB3.trans (hb4.mono hB3.size); obtain ⟨cS, fS, zS⟩ := blkC (blkStay HS3.out hb4)))
  refine bodyPost_ret (v := .tuple #[fldV 0 0 0 0 (.slice none 0 0), .int .i64 10]) (by simp [results, Try.results34, go_sem, cS]) rfl ?_
  exact ⟨rfl, set5_below hB4 _ _ _ _ _ _ (by omega)⟩

set_option maxHeartbeats 4000000 in
theorem thermal_ok (X Y : Int) (W H n b cap T R m : Nat) (v : Nat → Nat) (w : World) (h0 : checkR X Y W H = 0) (hn : n = W * H) (hc : FlAt w b 0 n v) (hh : allB n (fun i => hgtB (v i)) = true) (hcap : n ≤ cap) (hcp : cap ≤ 9223372036854775807) (wv : wf32 n v) (hW : W ≤ 16) (he : weaE T R m = 0) (mW : 2 * m < W) (mH : 2 * m < H) :
    Calls Try.prog 34 #[fldV X Y W H (.slice (some ⟨b, 0, none⟩) n cap), weaV T R m] w (ScPost w (X + m) (Y + m) ((W - 2 * m : Nat) : Int) ((H - 2 * m : Nat) : Int) ((H - 2 * m) * (W - 2 * m)) (smF (thmW T R) v W m) 0) := by
  have h1 : 1 ≤ n := by
    obtain ⟨b1, b2, b3, b4, b5, _⟩ := checkR_zero h0
    rw [hn]; exact Nat.mul_pos (by omega) (by omega)
  have hlt : b < w.heap.size := World.block_lt_of_cell? w _ (hc 0 h1)
  have CH := Lib.hid (fun W' (hb : Below w.heap.size w W') => check_ok X Y W H n b cap v W' h0 hn (flAt_congr hc (hb.block _ hlt)) hh)
  have CW := Lib.hid (fun w => checkWear_any T R m w)
  have Z := wea_ok he
  rw [he] at CW
  have WN := Lib.hid (fun W' (hb : Below w.heap.size w W') (hp : W'.heap[w.heap.size + 1]? = some (weaO T R m)) => worn_ok X Y W H n b cap m 10 v 90 #[.pointer (some ⟨w.heap.size + 1, 0, none⟩)] (thmW T R) W' (at_thm T R m (w.heap.size + 1) W' hp Z.1 Z.2.1) enters_Thermal1 h0 hn hcap hcp (flAt_congr hc (hb.block _ hlt)) (row_of_heights hh wv) (by omega) mW mH (by omega))
  clear h0 hn hc hh h1 hcap hcp wv hW mW mH he Z
  generalize smF (thmW T R) v W m = f at *
  generalize X + (m : Int) = X' at *
  generalize Y + (m : Int) = Y' at *
  generalize (H - 2 * m) * (W - 2 * m) = n2 at *
  generalize ((W - 2 * m : Nat) : Int) = W' at *
  generalize ((H - 2 * m : Nat) : Int) = H' at *
  go_enter Try.func34, Try.ntmps34
  go_wp2_with (first | (go_at_call 71; refine (CH.out _ (by repeat (first | exact Below.refl _ _ | refine Below.alloc ?_ (by first | omega | (simp; done) | (simp; omega)) _ | refine Below.setCell ?_ (by first | omega | (simp; done) | (simp; omega)) _ | refine Below.drew ?_))).mono ?_; rintro e w2 ⟨rfl, hb2⟩; have HF2 := Lib.hid (blkStay (b := w.heap.size) (o := fldO X Y W H (.slice (some ⟨b, 0, none⟩) n cap)) (by (first | (rw [heap_alloc_get, if_pos rfl]; done) | ((simp only [heap_alloc_get, heap_size_alloc, if_true]) <;> ((repeat' split) <;> first | rfl | omega)))) hb2); have HW2 := Lib.hid (blkStay (b := w.heap.size + 1) (o := weaO T R m) (by (first | (rw [heap_alloc_get, if_pos rfl]; done) | ((simp only [heap_alloc_get, heap_size_alloc, if_true]) <;> ((repeat' split) <;> first | rfl | omega)))) hb2); have HS2 := Lib.hid (blkStay (b := w.heap.size + 1 + 1) (o := fldO 0 0 0 0 (.slice none 0 0)) (by (first | (rw [heap_alloc_get, if_pos rfl]; done) | ((simp only [heap_alloc_get, heap_size_alloc, if_true]) <;> ((repeat' split) <;> first | rfl | omega)))) hb2); have hB2 : Below w.heap.size w w2 := Below.trans (by repeat (first | exact Below.refl _ _ | refine Below.alloc ?_ (by first | omega | (simp; done) | (simp; omega)) _ | refine Below.setCell ?_ (by first | omega | (simp; done) | (simp; omega)) _ | refine Below.drew ?_)) (Below.mono hb2 (by first | omega | (simp; done) | (simp; omega))); clear hb2; obtain ⟨cW, fW, zW⟩ := blkC HW2.out) | (go_at_call 32; refine (CW.out _).mono ?_; rintro e w3 ⟨rfl, hb3⟩; clear cW fW zW; have HF3 := Lib.hid (blkStay HF2.out hb3); have HW3 := Lib.hid (blkStay HW2.out hb3); have HS3 := Lib.hid (blkStay HS2.out hb3); have hB3 := hB2.trans (hb3.mono hB2.size); clear hb3; obtain ⟨cF, fF, zF⟩ := blkC HF3.out; obtain ⟨cW, fW, zW⟩ := blkC HW3.out; obtain ⟨cS, fS, zS⟩ := blkC HS3.out))
  refine (WN.out _ hB3 HW3.out).mono ?_
  intro e w4 hp
  have zS3 := (blkC HS3.out).2.2
  clear cF fF zF cW fW zW cS fS zS
  rcases hp with ⟨hne, _⟩ | ⟨_, hmade⟩
  · exact absurd rfl hne
  rcases hmade with ⟨hall, b', cap', rfl, hb', hlt', hrow, hbel⟩ | ⟨hall, rfl, hbel⟩
  · obtain ⟨cS, fS, zS⟩ := blkC (blkStay HS3.out hbel)
    go_wp2
    refine bodyPost_ret (v := .tuple #[fldV X' Y' W' H' (.slice (some ⟨b', 0, none⟩) n2 cap'), .int .i64 0]) (by simp [results, Try.results34, go_sem, cS]) rfl ?_
    exact scp_store3 hB3 hall hb' hlt' hrow hbel _ _ _ _ _ (by omega) zS3
  · obtain ⟨cS, fS, zS⟩ := blkC (blkStay HS3.out hbel)
    go_wp2
    refine bodyPost_ret (v := .tuple #[fldV 0 0 0 0 (.slice none 0 0), .int .i64 3]) (by simp [results, Try.results34, go_sem, cS]) rfl ?_
    exact .inr ⟨rfl, .inr ⟨hall, rfl, set5_below (hB3.trans (hbel.mono hB3.size)) _ _ _ _ _ _ (by omega)⟩⟩

set_option maxHeartbeats 2000000 in
theorem rthermal_bad (X Y : Int) (W H n b cap T R : Nat) (v : Nat → Nat) (m : Int) (w : World) (h0 : checkR X Y W H = 0) (hn : n = W * H) (hc : FlAt w b 0 n v) (hh : allB n (fun i => hgtB (v i)) = true) (lT : T < 4294967296) (lR : R < 4294967296) (hm : weaE T R m ≠ 0) :
    Calls Try.prog 35 #[fldV X Y W H (.slice (some ⟨b, 0, none⟩) n cap), weaV T R m] w fun e w' => e = .returned (.tuple #[fldV 0 0 0 0 (.slice none 0 0), .int .i64 (weaE T R m)]) ∧ Below w.heap.size w w' := by
  have CW := Lib.hid (fun w => rcheckWear_any T R m lT lR w)
  have cz : (weaE T R m != 0) = true := by simp [hm]
  clear h0 hn hc hh hm
  generalize weaE T R m = er at *
  go_enter Try.func35, Try.ntmps35
  go_wp2_with (first | (go_at_call 33; refine (CW.out _).mono ?_; rintro e w3 ⟨rfl, hb3⟩; have HF3 := Lib.hid (blkStay (b := w.heap.size) (o := fldO X Y W H (.slice (some ⟨b, 0, none⟩) n cap)) (by (first | (rw [heap_alloc_get, if_pos rfl]; done) | ((simp only [heap_alloc_get, heap_size_alloc, if_true]) <;> ((repeat' split) <;> first | rfl | omega)))) hb3); have HW3 := Lib.hid (blkStay (b := w.heap.size + 1) (o := weaO T R m) (by (first | (rw [heap_alloc_get, if_pos rfl]; done) | ((simp only [heap_alloc_get, heap_size_alloc, if_true]) <;> ((repeat' split) <;> first | rfl | omega)))) hb3); have HS3 := Lib.hid (blkStay (b := w.heap.size + 1 + 1) (o := fldO 0 0 0 0 (.slice none 0 0)) (by (first | (rw [heap_alloc_get, if_pos rfl]; done) | ((simp only [heap_alloc_get, heap_size_alloc, if_true]) <;> ((repeat' split) <;> first | rfl | omega)))) hb3); have hB3 : Below w.heap.size w w3 := Below.trans (by repeat (first | exact Below.refl _ _ | refine Below.alloc ?_ (by first | omega | (simp; done) | (simp; omega)) _ | refine Below.setCell ?_ (by first | omega | (simp; done) | (simp; omega)) _ | refine Below.drew ?_)) (Below.mono hb3 (by first | omega | (simp; done) | (simp; omega))); clear hb3; obtain ⟨cF, fF, zF⟩ := blkC HF3.out; obtain ⟨cW, fW, zW⟩ := blkC HW3.out; obtain ⟨cS, fS, zS⟩ := blkC HS3.out))
  refine bodyPost_ret (v := .tuple #[fldV 0 0 0 0 (.slice none 0 0), .int .i64 er]) (by simp [results, Try.results35, go_sem, cS]) rfl ?_
  exact ⟨rfl, set5_below hB3 _ _ _ _ _ _ (by omega)⟩

set_option maxHeartbeats 2000000 in
theorem rthermal_no (X Y : Int) (W H n b cap T R m : Nat) (v : Nat → Nat) (w : World) (h0 : checkR X Y W H = 0) (hn : n = W * H) (hc : FlAt w b 0 n v) (hh : allB n (fun i => hgtB (v i)) = true) (lT : T < 4294967296) (lR : R < 4294967296) (he : weaE T R m = 0) (hm : m ≤ 64) (hs : leftB m W H = false) :
    Calls Try.prog 35 #[fldV X Y W H (.slice (some ⟨b, 0, none⟩) n cap), weaV T R m] w fun e w' => e = .returned (.tuple #[fldV 0 0 0 0 (.slice none 0 0), .int .i64 10]) ∧ Below w.heap.size w w' := by
  have CW := Lib.hid (fun w => rcheckWear_any T R m lT lR w)
  rw [he] at CW
  have WN := Lib.hid (fun W' => repeated_no X Y W H n b cap m 93 #[.pointer (some ⟨w.heap.size + 1, 0, none⟩)] W' h0 hm hs)
  clear h0 hn hc hh he hm hs
  go_enter Try.func35, Try.ntmps35
  go_wp2_with (first | (go_at_call 33; refine (CW.out _).mono ?_; rintro e w3 ⟨rfl, hb3⟩; have HF3 := Lib.hid (blkStay (b := w.heap.size) (o := fldO X Y W H (.slice (some ⟨b, 0, none⟩) n cap)) (by (first | (rw [heap_alloc_get, if_pos rfl]; done) | ((simp only [heap_alloc_get, heap_size_alloc, if_true]) <;> ((repeat' split) <;> first | rfl | omega)))) hb3); have HW3 := Lib.hid (blkStay (b := w.heap.size + 1) (o := weaO T R m) (by (first | (rw [heap_alloc_get, if_pos rfl]; done) | ((simp only [heap_alloc_get, heap_size_alloc, if_true]) <;> ((repeat' split) <;> first | rfl | omega)))) hb3); have HS3 := Lib.hid (blkStay (b := w.heap.size + 1 + 1) (o := fldO 0 0 0 0 (.slice none 0 0)) (by (first | (rw [heap_alloc_get, if_pos rfl]; done) | ((simp only [heap_alloc_get, heap_size_alloc, if_true]) <;> ((repeat' split) <;> first | rfl | omega)))) hb3); have hB3 : Below w.heap.size w w3 := Below.trans (by repeat (first | exact Below.refl _ _ | refine Below.alloc ?_ (by first | omega | (simp; done) | (simp; omega)) _ | refine Below.setCell ?_ (by first | omega | (simp; done) | (simp; omega)) _ | refine Below.drew ?_)) (Below.mono hb3 (by first | omega | (simp; done) | (simp; omega))); clear hb3; obtain ⟨cF, fF, zF⟩ := blkC HF3.out; obtain ⟨cW, fW, zW⟩ := blkC HW3.out; obtain ⟨cS, fS, zS⟩ := blkC HS3.out) | (go_at_call 92; refine (WN.out _).mono ?_; rintro e w4 ⟨rfl, hb4⟩; clear cS fS zS; have hB4 := hB3.trans (hb4.mono hB3.size); obtain ⟨cS, fS, zS⟩ := blkC (blkStay HS3.out hb4)))
  refine bodyPost_ret (v := .tuple #[fldV 0 0 0 0 (.slice none 0 0), .int .i64 10]) (by simp [results, Try.results35, go_sem, cS]) rfl ?_
  exact ⟨rfl, set5_below hB4 _ _ _ _ _ _ (by omega)⟩

set_option maxHeartbeats 4000000 in
theorem rthermal_ok (X Y : Int) (W H n b cap T R m : Nat) (v : Nat → Nat) (w : World) (h0 : checkR X Y W H = 0) (hn : n = W * H) (hc : FlAt w b 0 n v) (hh : allB n (fun i => hgtB (v i)) = true) (lT : T < 4294967296) (lR : R < 4294967296) (hcap : n ≤ cap) (hcp : cap ≤ 9223372036854775807) (wv : wf32 n v) (hW : W ≤ 16) (he : weaE T R m = 0) (mW : 2 * m < W) (mH : 2 * m < H) :
    Calls Try.prog 35 #[fldV X Y W H (.slice (some ⟨b, 0, none⟩) n cap), weaV T R m] w (ScPost w (X + m) (Y + m) ((W - 2 * m : Nat) : Int) ((H - 2 * m : Nat) : Int) ((H - 2 * m) * (W - 2 * m)) (smF (thmW T R) v W m) 0) := by
  have h1 : 1 ≤ n := by
    obtain ⟨b1, b2, b3, b4, b5, _⟩ := checkR_zero h0
    rw [hn]; exact Nat.mul_pos (by omega) (by omega)
  have hlt : b < w.heap.size := World.block_lt_of_cell? w _ (hc 0 h1)
  have CW := Lib.hid (fun w => rcheckWear_any T R m lT lR w)
  have Z := wea_ok he
  rw [he] at CW
  have WN := Lib.hid (fun W' (hb : Below w.heap.size w W') (hp : W'.heap[w.heap.size + 1]? = some (weaO T R m)) => repeated_ok X Y W H n b cap m 10 v 93 #[.pointer (some ⟨w.heap.size + 1, 0, none⟩)] (thmW T R) W' (rthm1_any T R m (w.heap.size + 1) W' hp Z.1 Z.2.1) enters_rThermal1 (thm_bd rfl Z.1 Z.2.1) h0 hn hcap hcp (flAt_congr hc (hb.block _ hlt)) (row_of_heights hh wv) (by omega) mW mH (by omega))
  clear h0 hn hc hh h1 hcap hcp wv hW mW mH he Z
  generalize smF (thmW T R) v W m = f at *
  generalize X + (m : Int) = X' at *
  generalize Y + (m : Int) = Y' at *
  generalize (H - 2 * m) * (W - 2 * m) = n2 at *
  generalize ((W - 2 * m : Nat) : Int) = W' at *
  generalize ((H - 2 * m : Nat) : Int) = H' at *
  go_enter Try.func35, Try.ntmps35
  go_wp2_with (first | (go_at_call 33; refine (CW.out _).mono ?_; rintro e w3 ⟨rfl, hb3⟩; have HF3 := Lib.hid (blkStay (b := w.heap.size) (o := fldO X Y W H (.slice (some ⟨b, 0, none⟩) n cap)) (by (first | (rw [heap_alloc_get, if_pos rfl]; done) | ((simp only [heap_alloc_get, heap_size_alloc, if_true]) <;> ((repeat' split) <;> first | rfl | omega)))) hb3); have HW3 := Lib.hid (blkStay (b := w.heap.size + 1) (o := weaO T R m) (by (first | (rw [heap_alloc_get, if_pos rfl]; done) | ((simp only [heap_alloc_get, heap_size_alloc, if_true]) <;> ((repeat' split) <;> first | rfl | omega)))) hb3); have HS3 := Lib.hid (blkStay (b := w.heap.size + 1 + 1) (o := fldO 0 0 0 0 (.slice none 0 0)) (by (first | (rw [heap_alloc_get, if_pos rfl]; done) | ((simp only [heap_alloc_get, heap_size_alloc, if_true]) <;> ((repeat' split) <;> first | rfl | omega)))) hb3); have hB3 : Below w.heap.size w w3 := Below.trans (by repeat (first | exact Below.refl _ _ | refine Below.alloc ?_ (by first | omega | (simp; done) | (simp; omega)) _ | refine Below.setCell ?_ (by first | omega | (simp; done) | (simp; omega)) _ | refine Below.drew ?_)) (Below.mono hb3 (by first | omega | (simp; done) | (simp; omega))); clear hb3; obtain ⟨cF, fF, zF⟩ := blkC HF3.out; obtain ⟨cW, fW, zW⟩ := blkC HW3.out; obtain ⟨cS, fS, zS⟩ := blkC HS3.out))
  refine (WN.out _ hB3 HW3.out).mono ?_
  intro e w4 hp
  have zS3 := (blkC HS3.out).2.2
  clear cF fF zF cW fW zW cS fS zS
  rcases hp with ⟨hne, _⟩ | ⟨_, hmade⟩
  · exact absurd rfl hne
  rcases hmade with ⟨hall, b', cap', rfl, hb', hlt', hrow, hbel⟩ | ⟨hall, rfl, hbel⟩
  · obtain ⟨cS, fS, zS⟩ := blkC (blkStay HS3.out hbel)
    go_wp2
    refine bodyPost_ret (v := .tuple #[fldV X' Y' W' H' (.slice (some ⟨b', 0, none⟩) n2 cap'), .int .i64 0]) (by simp [results, Try.results35, go_sem, cS]) rfl ?_
    exact scp_store3 hB3 hall hb' hlt' hrow hbel _ _ _ _ _ (by omega) zS3
  · obtain ⟨cS, fS, zS⟩ := blkC (blkStay HS3.out hbel)
    go_wp2
    refine bodyPost_ret (v := .tuple #[fldV 0 0 0 0 (.slice none 0 0), .int .i64 3]) (by simp [results, Try.results35, go_sem, cS]) rfl ?_
    exact .inr ⟨rfl, .inr ⟨hall, rfl, set5_below (hB3.trans (hbel.mono hB3.size)) _ _ _ _ _ _ (by omega)⟩⟩

theorem thermal_both (X Y : Int) (W H n b cap T R : Nat) (v : Nat → Nat) (m : Int) (lT : T < 4294967296) (lR : R < 4294967296) (h0 : checkR X Y W H = 0) (hn : n = W * H) (hcap : n ≤ cap) (hcp : cap ≤ 9223372036854775807) (hh : allB n (fun i => hgtB (v i)) = true) (wv : wf32 n v) (hW : W ≤ 16) :
    ∃ (X' Y' W' H' : Int) (n' : Nat) (f : Nat → Nat) (er : Int), 1 ≤ n' ∧ n' ≤ 65536 ∧
      (∀ w, FlAt w b 0 n v → Calls Try.prog 34 #[fldV X Y W H (.slice (some ⟨b, 0, none⟩) n cap), weaV T R m] w (ScPost w X' Y' W' H' n' f er)) ∧
      (∀ w, FlAt w b 0 n v → Calls Try.prog 35 #[fldV X Y W H (.slice (some ⟨b, 0, none⟩) n cap), weaV T R m] w (ScPost w X' Y' W' H' n' f er)) := by
  by_cases e : weaE T R m = 0
  · obtain ⟨_, _, es⟩ := wea_ok e
    have c : withinB m 0 64 = true := by
      unfold stpE at es
      cases c : withinB m 0 64 with
      | true => rfl
      | false => rw [c] at es; simp at es
    obtain ⟨c1, c2⟩ := withinB_iff.1 c
    obtain ⟨k, rfl⟩ : ∃ k : Nat, m = k := ⟨m.toNat, by omega⟩
    by_cases hl : 2 * k < W ∧ 2 * k < H
    · obtain ⟨l1, l2⟩ := hl
      obtain ⟨_, _, _, _, c5, _⟩ := checkR_zero (steps_check h0 k l1 l2)
      have hz : (((H - 2 * k) * (W - 2 * k) : Nat) : Int) ≤ 65536 := by rw [Nat.mul_comm]; simpa only [Int.natCast_mul] using c5
      exact ⟨X + k, Y + k, ((W - 2 * k : Nat) : Int), ((H - 2 * k : Nat) : Int), (H - 2 * k) * (W - 2 * k), smF (thmW T R) v W k, 0, Nat.mul_pos (by omega) (by omega), by omega,
        fun w hc => thermal_ok X Y W H n b cap T R k v w h0 hn hc hh hcap hcp wv hW e l1 l2,
        fun w hc => rthermal_ok X Y W H n b cap T R k v w h0 hn hc hh lT lR hcap hcp wv hW e l1 l2⟩
    · exact ⟨0, 0, 0, 0, 1, fun _ => 0, 10, by omega, by omega,
        fun w hc => (thermal_no X Y W H n b cap T R k v w h0 hn hc hh e (by omega) (by omega)).mono fun e w' h => .inl ⟨by decide, h.1, h.2⟩,
        fun w hc => (rthermal_no X Y W H n b cap T R k v w h0 hn hc hh lT lR e (by omega) (by unfold leftB; simp; omega)).mono fun e w' h => .inl ⟨by decide, h.1, h.2⟩⟩
  · exact ⟨0, 0, 0, 0, 1, fun _ => 0, weaE T R m, by omega, by omega,
      fun w hc => (thermal_bad X Y W H n b cap T R v m w h0 hn hc hh e).mono fun _ w' h => .inl ⟨e, h.1, h.2⟩,
      fun w hc => (rthermal_bad X Y W H n b cap T R v m w h0 hn hc hh lT lR e).mono fun _ w' h => .inl ⟨e, h.1, h.2⟩⟩
end Go.Proofs.Ytkjpjppfmfifeaa

/- Contracts of the regions' functions, continued: the reference's Grow; Common, Inside. -/
namespace Go.Proofs.Ytkjpjppfmfifeaa
open Go.RowKit

set_option maxHeartbeats 1000000 in
theorem landed_any (w : World) : Calls Try.prog 9 #[] w fun e w' => e = .returned (.bool true) ∧ Below w.heap.size w w' := by
  go_enter Try.func9, Try.ntmps9
  go_wp2
  go_ret
  exact ⟨rfl, (by repeat (first | exact Below.refl _ _ | refine Below.alloc ?_ (by first | omega | (simp; done) | (simp; omega)) _ | refine Below.setCell ?_ (by first | omega | (simp; done) | (simp; omega)) _ | refine Below.drew ?_))⟩

def insideB (x y w h x' y' w' h' : Int) : Bool := decide (x' ≤ x) && decide (y' ≤ y) && decide (x + w ≤ x' + w') && decide (y + h ≤ y' + h')
theorem insideB_iff {x y w h x' y' w' h' : Int} : insideB x y w h x' y' w' h' = true ↔ x' ≤ x ∧ y' ≤ y ∧ x + w ≤ x' + w' ∧ y + h ≤ y' + h' := by simp [insideB]; omega

set_option maxHeartbeats 1000000 in
theorem inside_any (x y ww hh x' y' ww' hh' : Int) (w : World) (a1 : -1073741824 ≤ x) (a2 : x ≤ 1073741824) (a3 : -1073741824 ≤ y) (a4 : y ≤ 1073741824) (a5 : 1 ≤ ww) (a6 : ww ≤ 1073741824) (a7 : 1 ≤ hh) (a8 : hh ≤ 1073741824)
    (b1 : -1073741824 ≤ x') (b2 : x' ≤ 1073741824) (b3 : -1073741824 ≤ y') (b4 : y' ≤ 1073741824) (b5 : 1 ≤ ww') (b6 : ww' ≤ 1073741824) (b7 : 1 ≤ hh') (b8 : hh' ≤ 1073741824) :
    Calls Try.prog 72 #[reg x y ww hh, reg x' y' ww' hh'] w fun e w' => e = .returned (.bool (insideB x y ww hh x' y' ww' hh')) ∧ Below w.heap.size w w' := by
  go_enter Try.func72, Try.ntmps72
  go_wp2
  all_goals go_ret
  all_goals refine ⟨ret_bool ?_, (by repeat (first | exact Below.refl _ _ | refine Below.alloc ?_ (by first | omega | (simp; done) | (simp; omega)) _ | refine Below.setCell ?_ (by first | omega | (simp; done) | (simp; omega)) _ | refine Below.drew ?_))⟩
  all_goals simp [insideB, *]
  all_goals omega

end Go.Proofs.Ytkjpjppfmfifeaa

/- ThermalMatches: Moved, CheckWear and Thermal answer as the references do, for any wear, every field that fit makes and any two singles. -/
namespace Go.Proofs.Ytkjpjppfmfifeaa
open Go.RowKit Fl
set_option linter.unusedVariables false

theorem al_belowS (w : World) (o : Obj) : Below w.heap.size w (w.alloc o) := (Below.refl _ _).alloc (Nat.le_refl _) o

set_option maxHeartbeats 8000000 in
theorem thermalMatch_any (T R : Nat) (st : Int) (X0 Y0 W0 H0 : Int) (sl : Value) (x y : Nat) (w : World) (lT : T < 4294967296) (lR : R < 4294967296) (lx : x < 4294967296) (ly : y < 4294967296)
    (hfit : ∀ W', Below w.heap.size w W' → Calls Try.prog 10 #[fldV X0 Y0 W0 H0 sl] W' (FitPost W')) :
    Calls Try.prog 5 #[weaV T R st, fldV X0 Y0 W0 H0 sl, .float .f32 x, .float .f32 y] w fun e w' => e = .returned (.bool true) ∧ Below w.heap.size w w' := by
  have HF := Lib.hid hfit
  have MP := Lib.hid (fun w => movedX_any T R st x y w)
  have MR := Lib.hid (fun w => rmovedX_any T R st x y lT lR lx ly w)
  have CP := Lib.hid (fun w => checkWear_any T R st w)
  have CR := Lib.hid (fun w => rcheckWear_any T R st lT lR w)
  have ON := Lib.hid (fun w => show Calls Try.prog 31 #[.float .f32 (mveV T R st x y), .int .i64 (mveE T R st x y), .float .f32 (mveV T R st x y), .int .i64 (mveE T R st x y)] w (fun e w' => e = .returned (.bool true) ∧ w = w') by
    by_cases h : mveE T R st x y = 0
    · rw [h]; exact one_ok _ w
    · have ev : mveV T R st x y = 0 := by unfold mveV; rw [if_neg h]
      rw [ev]; exact one_errX 0 _ h w)
  have TB := Lib.hid (fun X Y W H n b cap v => thermal_both X Y W H n b cap T R v st lT lR)
  clear hfit lT lR lx ly
  generalize mveV T R st x y = V at *
  generalize mveE T R st x y = E at *
  generalize weaE T R st = EW at *
  go_enter Try.func5, Try.ntmps5
  go_wp2_with (first | (go_at_call 9; refine (landed_any _).mono ?_; rintro e w1 ⟨rfl, hb1⟩; have HW1 := Lib.hid (blkStay (b := w.heap.size) (o := weaO T R st) (by (first | (rw [heap_alloc_get, if_pos rfl]; done) | ((simp only [heap_alloc_get, heap_size_alloc, if_true]) <;> ((repeat' split) <;> first | rfl | omega)))) hb1); have HA1 := Lib.hid (blkStay (b := w.heap.size + 1) (o := fldO X0 Y0 W0 H0 sl) (by (first | (rw [heap_alloc_get, if_pos rfl]; done) | ((simp only [heap_alloc_get, heap_size_alloc, if_true]) <;> ((repeat' split) <;> first | rfl | omega)))) hb1); have hB1 : Below w.heap.size w w1 := Below.trans (by repeat (first | exact Below.refl _ _ | refine Below.alloc ?_ (by first | omega | (simp; done) | (simp; omega)) _ | refine Below.setCell ?_ (by first | omega | (simp; done) | (simp; omega)) _ | refine Below.drew ?_)) (Below.mono hb1 (by first | omega | (simp; done) | (simp; omega))); obtain ⟨cA, fA, zA⟩ := blkC HA1.out; obtain ⟨cW, fW, zW⟩ := blkC HW1.out; clear hb1))
  refine (HF.out w1 hB1).mono ?_
  rintro e w2 ⟨X, Y, W', H', b, n, rfl, x1, x2, y1, y2, u1, u2, h1, h2, hn, hn1, hn2, hlo, hrow, hb2⟩
  obtain ⟨W, rfl⟩ : ∃ W : Nat, W' = W := ⟨W'.toNat, by omega⟩
  obtain ⟨H, rfl⟩ : ∃ H : Nat, H' = H := ⟨H'.toNat, by omega⟩
  obtain ⟨v, fv, wv, hv, bv⟩ := fit_fn hrow
  have h0 := fit_check x1 x2 y1 y2 u1 u2 h1 h2 hn hn2
  have hnn : n = W * H := by
    have : (n : Int) = ((W * H : Nat) : Int) := by rw [hn]; simp
    omega
  have HA2 := Lib.hid (blkStay HA1.out hb2)
  have HW2 := Lib.hid (blkStay HW1.out hb2)
  have hB2 : Below w.heap.size w w2 := hB1.trans (hb2.mono hB1.size)
  have hbp : b ≠ w.heap.size + 1 := by omega
  clear cA fA zA cW fW zW
  obtain ⟨cA, fA, zA⟩ := blkC HA2.out
  obtain ⟨cW, fW, zW⟩ := blkC HW2.out
  obtain ⟨X', Y', W', H', n', f, er, m1, m2, R1, R2⟩ := TB.out X Y W H n b n v h0 hnn (Nat.le_refl _) (by omega) hv wv (by omega)
  have S1 := Lib.hid R1
  have S2 := Lib.hid R2
  clear R1 R2 TB
  clear x1 x2 y1 y2 u1 u2 h1 h2 hn h0 hnn hrow hv wv
  have HA3 := Lib.hid (set5_self (.int .i64 X) (.int .i64 Y) (.int .i64 W) (.int .i64 H) (.slice (some ⟨b, 0, none⟩) n n) HA2.out)
  have HW3 := Lib.hid ((set5_heap w2 (w.heap.size + 1) w.heap.size (.int .i64 X) (.int .i64 Y) (.int .i64 W) (.int .i64 H) (.slice (some ⟨b, 0, none⟩) n n) (by omega)).trans HW2.out)
  have F3 := Lib.hid (flAt_congr fv (set5_heap w2 (w.heap.size + 1) b (.int .i64 X) (.int .i64 Y) (.int .i64 W) (.int .i64 H) (.slice (some ⟨b, 0, none⟩) n n) hbp))
  have hB3 := set5_below hB2 (w.heap.size + 1) (.int .i64 X) (.int .i64 Y) (.int .i64 W) (.int .i64 H) (.slice (some ⟨b, 0, none⟩) n n) (by omega)
  have hx := set5_size w2 (w.heap.size + 1) (.int .i64 X) (.int .i64 Y) (.int .i64 W) (.int .i64 H) (.slice (some ⟨b, 0, none⟩) n n)
  clear hb2
  go_wp2_with fail
  refine (MP.out _).mono ?_
  rintro e w3 ⟨rfl, hb3⟩
  have HA4 := Lib.hid (blkStay HA3.out hb3)
  have HW4 := Lib.hid (blkStay HW3.out hb3)
  have F4 := Lib.hid (flAt_congr F3.out (hb3.block b (by rw [hx]; exact bv)))
  have hB4 := hB3.trans (hb3.mono hB3.size)
  have bv4 : b < w3.heap.size := by have := hb3.size; rw [hx] at this; omega
  clear hb3 HA3 HW3 F3 hB3 hx cA fA zA cW fW zW HA2 HW2 hB2 hlo fv bv
  obtain ⟨cA, fA, zA⟩ := blkC HA4.out
  obtain ⟨cW, fW, zW⟩ := blkC HW4.out
  go_wp2_with fail
  refine (MR.out _).mono ?_
  rintro e w4 ⟨rfl, hb4⟩
  have HA5 := Lib.hid (blkStay HA4.out hb4)
  have HW5 := Lib.hid (blkStay HW4.out hb4)
  have F5 := Lib.hid (flAt_congr F4.out (hb4.block b bv4))
  have hB5 := Lib.hid (hB4.trans (hb4.mono hB4.size))
  have bv5 : b < w4.heap.size := by have := hb4.size; omega
  clear hb4 HA4 HW4 F4 hB4 bv4 cA fA zA cW fW zW
  obtain ⟨cA, fA, zA⟩ := blkC HA5.out
  obtain ⟨cW, fW, zW⟩ := blkC HW5.out
  go_wp2_with fail
  go_region_held3 (fun w' => (∀ o, w'.cell? ⟨w.heap.size, o, none⟩ = #[.float .f32 T, .float .f32 R, .int .i64 st][o]?) ∧ Below w4.heap.size w4 w') (first | exact ⟨(blkC (blkStay HW5.out hb9)).1, hb9⟩ | exact ⟨(blkC (blkStay HW5.out (by repeat (first | exact Below.refl _ _ | refine Below.alloc ?_ (by first | omega | (simp; done) | (simp; omega)) _ | refine Below.setCell ?_ (by first | omega | (simp; done) | (simp; omega)) _ | refine Below.drew ?_)))).1, (by repeat (first | exact Below.refl _ _ | refine Below.alloc ?_ (by first | omega | (simp; done) | (simp; omega)) _ | refine Below.setCell ?_ (by first | omega | (simp; done) | (simp; omega)) _ | refine Below.drew ?_))⟩) (first
    | (go_at_call 31; (with_reducible refine Calls.mono (ON.out _) ?_); rintro e w' ⟨rfl, rfl⟩)
    | ((first | go_at_call 32 | go_at_call 33); (first | (with_reducible refine Calls.mono (CP.out _) ?_) | (with_reducible refine Calls.mono (CR.out _) ?_)); rintro e w' ⟨rfl, hb8⟩; have hb9 : Below w4.heap.size w4 w' := Below.trans (by first | exact hb9 | exact hb9.drew | exact (by repeat (first | exact Below.refl _ _ | refine Below.alloc ?_ (by first | omega | (simp; done) | (simp; omega)) _ | refine Below.setCell ?_ (by first | omega | (simp; done) | (simp; omega)) _ | refine Below.drew ?_))) (Below.mono hb8 (by first | exact hb9.size | exact Nat.le_refl _ | (simp; done) | (simp; omega))); clear hb8))
  rename_i hHeld
  have hb5 := hHeld.2
  have HA6 := Lib.hid (blkStay HA5.out hb5)
  have HW6 := Lib.hid (blkStay HW5.out hb5)
  have F6 := Lib.hid (flAt_congr F5.out (hb5.block b bv5))
  have hB6 := hB5.out.trans (hb5.mono hB5.out.size)
  have bv6 : b < w'.heap.size := by have := hb5.size; omega
  clear hb5 hHeld hb9 HA5 HW5 F5 hB5 bv5 cA fA zA cW fW zW
  obtain ⟨cA, fA, zA⟩ := blkC HA6.out
  obtain ⟨cW, fW, zW⟩ := blkC HW6.out
  go_wp2_with fail
  refine (S1.out _ F6.out).mono ?_
  intro e w4 hp
  obtain ⟨x1, y1, u1, h1, p1, l1, q1, k1, rfl, r1, hb4⟩ := made_res hp
  have F4 := Lib.hid (flAt_congr F6.out (hb4.block b bv6))
  have HA4 := Lib.hid (blkStay HA6.out hb4)
  have HW4 := Lib.hid (blkStay HW6.out hb4)
  have hB4 := hB6.trans (hb4.mono hB6.size)
  have bv4 : b < w4.heap.size := by have := hb4.size; omega
  clear hp
  clear hb4 HA6 HW6 F6 hB6 cA fA zA cW fW zW
  obtain ⟨cA, fA, zA⟩ := blkC HA4.out
  obtain ⟨cW, fW, zW⟩ := blkC HW4.out
  -- the reference's Select
  have hb5 := al_belowS w4 (fldO x1 y1 u1 h1 (.slice p1 l1 q1))
  have F5 := Lib.hid (flAt_congr F4.out (heap_alloc_old w4 (fldO x1 y1 u1 h1 (.slice p1 l1 q1)) bv4))
  have HA5 := Lib.hid ((heap_alloc_old w4 (fldO x1 y1 u1 h1 (.slice p1 l1 q1)) zA).trans HA4.out)
  clear cW fW
  have HW5 := Lib.hid ((heap_alloc_old w4 (fldO x1 y1 u1 h1 (.slice p1 l1 q1)) zW).trans HW4.out)
  obtain ⟨cW, fW, zW⟩ := blkC HW5.out
  have HQ5 := Lib.hid (heap_alloc_new w4 (fldO x1 y1 u1 h1 (.slice p1 l1 q1)))
  have R5 := Lib.hid (r1.stay hb5)
  go_wp2_with fail
  refine (S2.out _ F5.out).mono ?_
  intro e w6 hp
  obtain ⟨x2, y2, u2, h2, p2, l2, q2, k2, rfl, r2, hb6⟩ := made_res hp
  have hb46 := hb5.trans (hb6.mono hb5.size)
  have F6 := Lib.hid (flAt_congr F5.out (hb6.block b (by have := hb5.size; omega)))
  have HA6 := Lib.hid (blkStay HA5.out hb6)
  have HQ6 := Lib.hid (blkStay HQ5.out hb6)
  have R6 := Lib.hid (R5.out.stay hb6)
  have hB6 := hB4.trans (hb46.mono hB4.size)
  have bv6 : b < w6.heap.size := by have := hb46.size; omega
  clear r1 R5 HQ5 HA5 F5 hb5 hb46 hp F4 HA4 hb6 cA fA cW fW zW HW5 HW4
  obtain ⟨cA, fA, zA6⟩ := blkC HA6.out
  obtain ⟨cQ, fQ, zQ6⟩ := blkC HQ6.out
  -- same
  have hb7 := al_belowS w6 (fldO x2 y2 u2 h2 (.slice p2 l2 q2))
  have F7 := Lib.hid (flAt_congr F6.out (heap_alloc_old w6 (fldO x2 y2 u2 h2 (.slice p2 l2 q2)) bv6))
  have HA7 := Lib.hid ((heap_alloc_old w6 (fldO x2 y2 u2 h2 (.slice p2 l2 q2)) zA6).trans HA6.out)
  have HQ7 := Lib.hid ((heap_alloc_old w6 (fldO x2 y2 u2 h2 (.slice p2 l2 q2)) zQ6).trans HQ6.out)
  have HR7 := Lib.hid (heap_alloc_new w6 (fldO x2 y2 u2 h2 (.slice p2 l2 q2)))
  have R7 := Lib.hid (R6.out.stay hb7)
  have T7 := Lib.hid (r2.stay hb7)
  go_wp2_with fail
  refine (same_res m1 (by omega) R7.out T7.out).mono ?_
  rintro e w8 ⟨rfl, hb8⟩
  have hb68 := hb7.trans (hb8.mono hb7.size)
  have hB8 := hB6.trans (hb68.mono hB6.size)
  clear R6 r2 R7 T7 HR7 HQ7 HA7 F7 hb7 hb8 hb68 HQ6 HA6 F6 cA fA cQ fQ
  go_wp2
  go_ret
  exact ⟨rfl, hB8⟩
end Go.Proofs.Ytkjpjppfmfifeaa

/- A field that came in, opened: four integers, and a slice of singles that is empty or known cell by cell. -/
namespace Go.Proofs.Ytkjpjppfmfifeaa
open Go.ChangeShapes Go.WideShapes Go.ChangeAt Go.RowKit Go.Joins Fl

section
variable {H : Type} {enc : TypeId × Value → H} {w : World} {base : Nat} {spare : Nat → Bool} {held : Bool}

theorem trod_f32 {P : Program} {t : TypeId} {fuel : Nat} {v : Value} {y : DataW H × List MemPlace} (ht : P.underlying t = some (.float .f32)) (h : DataW.trod enc P w base spare held fuel t [v] = some y) : ∃ b, v = .float .f32 b ∧ b < 4294967296 := by
  cases fuel with
  | zero => simp [DataW.trod] at h
  | succ n =>
    unfold DataW.trod at h
    rw [ht] at h
    cases v <;> simp at h
    rename_i k b
    obtain ⟨⟨rfl, hw⟩, _⟩ := h
    exact ⟨b, rfl, by simpa [Lit.wf] using hw⟩

theorem array5 {α : Type} {cs : Array α} (h : cs.size = 5) : ∃ c0 c1 c2 c3 c4, cs = #[c0, c1, c2, c3, c4] := by
  obtain ⟨l⟩ := cs
  match l, h with
  | [c0, c1, c2, c3, c4], _ => exact ⟨c0, c1, c2, c3, c4, rfl⟩

theorem flAt_congr' {w w' : World} {b off n : Nat} {f : Nat → Nat} (h : FlAt w b off n f) (e : w'.heap[b]? = w.heap[b]?) : FlAt w' b off n f := fun i hi => by
  rw [← h i hi]; exact World.cell?_of_block (w := w) (a := ⟨b, off + i, none⟩) e

/-- What a slice of singles is: empty, or known cell by cell. -/
def SlF (w : World) (s : Value) : Prop :=
  (∃ a cap, s = .slice a 0 cap) ∨ ∃ b off len cap x, s = .slice (some ⟨b, off, none⟩) len cap ∧ 0 < len ∧ len ≤ 9223372036854775807 ∧ FlAt w b off len x ∧ wf32 len x

theorem open_singles {t e : TypeId} {fuel : Nat} {cs : List Value} {y : DataW H × List MemPlace} (ht : Try.prog.underlying t = some (.slice e)) (he : Try.prog.underlying e = some (.float .f32)) (hc : Try.prog.cellsOf e = 1)
    (h : DataW.trod enc Try.prog w base spare held fuel t cs = some y) : ∃ s, cs = [s] ∧ SlF w s := by
  rcases Go.Deep.open_slice1 ht hc h with ⟨rfl, _⟩ | ⟨a, len, cap, m, n, V, D, Pl, rfl, hb, hl, hm, hmm, _, hx⟩
  · exact ⟨_, rfl, .inl ⟨none, 0, rfl⟩⟩
  · refine ⟨_, rfl, ?_⟩
    rcases Nat.eq_zero_or_pos len with z | z
    · subst z; exact .inl ⟨_, _, rfl⟩
    · have hlm : len ≤ m := by rw [hmm]; split <;> omega
      have h0 := (hx 0 (by omega)).1
      obtain ⟨b, off, spot⟩ := a
      have hspot : spot = none := by simpa [Addr.add] using World.cell?_spot h0
      subst hspot
      have hv : ∀ i, i < len → ∃ x, V i = .float .f32 x ∧ x < 4294967296 := fun i hi => trod_f32 he (hx i (by omega)).2
      refine .inr ⟨b, off, len, cap, fun i => match V i with | .float _ x => x | _ => 0, rfl, z, ?_, fun i hi => ?_, fun i hi => ?_⟩
      · exact Nat.le_trans hl (Nat.le_trans hm (by decide))
      · have h1 := (hx i (by omega)).1
        obtain ⟨x, e1, _⟩ := hv i hi
        rw [← Go.WideShapes.add_plain, h1]
        simp only [e1]
      · obtain ⟨x, e1, e2⟩ := hv i hi
        simp only [e1]; exact e2

theorem cellsF : Try.prog.cellsOf 26 = 5 := by kernel_rfl
theorem cellsR : Try.prog.cellsOf 23 = 4 := by kernel_rfl
theorem cellsS : Try.prog.cellsOf 24 = 1 := by kernel_rfl
theorem cells1 : Try.prog.cellsOf 30 = 1 := by kernel_rfl
theorem cellsI : Try.prog.cellsOf 3 = 1 := by kernel_rfl

set_option maxRecDepth 100000 in
theorem open_field {r : Reach} {b0 : Nat} {v : Value} {d : DataW H} {p : List MemPlace} (hv : Value.okWide Try.prog w r b0 26 v) (h : DataW.Trod enc Try.prog w base spare held 26 v d p) :
    ∃ X Y W' H' : Int, ∃ s, v = fldV X Y W' H' s ∧ SlF w s := by
  obtain ⟨cs, rfl, hsz⟩ := okWide_struct Try.underlying26 hv
  obtain ⟨c0, c1, c2, c3, c4, rfl⟩ := array5 (hsz.trans cellsF)
  obtain ⟨fuel, hf⟩ := h
  obtain ⟨y0, y1, n, _, _, h0, h1⟩ := trod_struct2 Try.underlying26 hf
  rw [cellsR] at h0
  rw [cellsS] at h1
  obtain ⟨s, e4, hs⟩ := open_singles Try.underlying24 Try.underlying30 cells1 h1
  obtain ⟨z0, z1, z2, z3, n2, _, _, g0, g1, g2, g3⟩ := trod_struct4 Try.underlying23 h0
  rw [cellsI] at g0 g1 g2 g3
  obtain ⟨x0, e0, _, _⟩ := DataW.trod_int Try.underlying3 g0
  obtain ⟨x1, e1, _, _⟩ := DataW.trod_int Try.underlying3 g1
  obtain ⟨x2, e2, _, _⟩ := DataW.trod_int Try.underlying3 g2
  obtain ⟨x3, e3, _, _⟩ := DataW.trod_int Try.underlying3 g3
  simp [Value.cells] at e0 e1 e2 e3 e4
  subst e0 e1 e2 e3 e4
  exact ⟨x0, x1, x2, x3, _, rfl, hs⟩
end

theorem SlF.stay {w w' : World} {s : Value} (h : SlF w s) (hb : Below w.heap.size w w') : SlF w' s := by
  rcases h with h | ⟨b, off, len, cap, x, rfl, h1, h2, h3, h4⟩
  · exact .inl h
  · exact .inr ⟨b, off, len, cap, x, rfl, h1, h2, flAt_congr' h3 (hb.block _ (World.block_lt_of_cell? w _ (h3 0 h1))), h4⟩

/-- fit, of whatever slice. -/
theorem fit_any {X Y W H : Int} {s : Value} {w : World} (h : SlF w s) : Calls Try.prog 10 #[fldV X Y W H s] w (FitPost w) := by
  rcases h with ⟨a, cap, rfl⟩ | ⟨b, off, len, cap, x, rfl, h1, h2, h3, h4⟩
  · exact fit_none X Y W H a cap w
  · exact fit_some X Y W H b off len cap x w h1 h2 h3 h4

theorem laidOut : laidOutB Try.prog = true := by kernel_rfl
end Go.Proofs.Ytkjpjppfmfifeaa

/- Wear that came in, opened. -/
namespace Go.Proofs.Ytkjpjppfmfifeaa
open Go.ChangeShapes Go.WideShapes Go.ChangeAt Go.RowKit Go.Joins Fl

section
variable {H : Type} {enc : TypeId × Value → H} {w : World} {base : Nat} {spare : Nat → Bool} {held : Bool}

theorem cellsW : Try.prog.cellsOf 52 = 3 := by kernel_rfl
theorem trod_fieldW {P : Program} {t : TypeId} {fs : Array Go.Field} {fuel : Nat} {cs : List Value} {x : DataW H × List MemPlace} (ht : P.underlying t = some (.struct fs)) (h : DataW.trod enc P w base spare held fuel t cs = some x) :
    ∃ n, ∀ (i : Nat) (ty : TypeId) (off : Nat), (fs[i]?).map (fun (f : Go.Field) => (f.type, f.offset)) = some (ty, off) → ∃ y, DataW.trod enc P w base spare held n ty ((cs.drop off).take (P.cellsOf ty)) = some y := by
  obtain ⟨xs, n, _, rfl, _, hlen, hf⟩ := DataW.trod_struct ht h
  refine ⟨n, fun i ty off e => ?_⟩
  cases hfi : fs[i]? with
  | none => rw [hfi] at e; cases e
  | some f =>
    rw [hfi] at e
    simp only [Option.map_some, Option.some.injEq, Prod.mk.injEq] at e
    obtain ⟨rfl, rfl⟩ := e
    have hi : i < fs.size := by rw [Array.getElem?_eq_some_iff] at hfi; exact hfi.1
    have hx : i < xs.length := by omega
    exact ⟨xs[i], by rw [hf i f hfi, List.getElem?_eq_getElem hx]⟩

set_option maxRecDepth 100000 in
theorem open_wear {r : Reach} {b0 : Nat} {v : Value} {d : DataW H} {p : List MemPlace} (hv : Value.okWide Try.prog w r b0 52 v) (h : DataW.Trod enc Try.prog w base spare held 52 v d p) :
    ∃ T R : Nat, ∃ st : Int, v = weaV T R st ∧ T < 4294967296 ∧ R < 4294967296 := by
  obtain ⟨cs, rfl, hsz⟩ := okWide_struct Try.underlying52 hv
  have h3 : cs.size = 3 := hsz.trans cellsW
  obtain ⟨c0, c1, c2, rfl⟩ : ∃ c0 c1 c2, cs = #[c0, c1, c2] := by
    obtain ⟨l⟩ := cs
    match l, h3 with
    | [c0, c1, c2], _ => exact ⟨c0, c1, c2, rfl⟩
  obtain ⟨fuel, hf⟩ := h
  obtain ⟨n, G⟩ := trod_fieldW Try.underlying52 hf
  obtain ⟨y0, g0⟩ := G 0 30 0 rfl
  obtain ⟨y1, g1⟩ := G 1 30 1 rfl
  obtain ⟨y2, g2⟩ := G 2 3 2 rfl
  rw [cells1] at g0 g1
  rw [cellsI] at g2
  have e0 : (List.drop 0 (Value.agg #[c0, c1, c2]).cells.toList).take 1 = [c0] := by simp [Value.cells]
  have e1 : (List.drop 1 (Value.agg #[c0, c1, c2]).cells.toList).take 1 = [c1] := by simp [Value.cells]
  rw [e0] at g0
  rw [e1] at g1
  obtain ⟨T, rfl, lT⟩ := trod_f32 Try.underlying30 g0
  obtain ⟨R, rfl, lR⟩ := trod_f32 Try.underlying30 g1
  obtain ⟨st, e2, _, _⟩ := DataW.trod_int Try.underlying3 g2
  simp [Value.cells] at e2
  subst e2
  exact ⟨T, R, st, rfl, lT, lR⟩
end
end Go.Proofs.Ytkjpjppfmfifeaa

/- ThermalMatches, for any wear, every field and any two singles: what Moved, CheckWear and Thermal answer is what the references answer, bit by bit. No condition. -/
namespace Go.Proofs.Ytkjpjppfmfifeaa.thermalMatches
open Go.ChangeShapes Go.WideShapes Go.ChangeAt Go.RowKit Go.Joins
set_option linter.unusedVariables false

theorem own : ownKnob Try.prog.godebug = none := by kernel_rfl

set_option maxRecDepth 100000 in
theorem lifted (os : Os) (started : os.Started) (H : Type) (enc : TypeId × Value → H) :
    ReturnsInHanded {} Try.checked os 5 .any (Rows.thermalMatchesSpec.pre6 enc Try.prog Try.f5 Rows.thermalMatchesRow.domain false) (Rows.thermalMatchesSpec.post enc Try.prog Try.f5 false true false false) := by
  refine returnsInHanded_of_change (C := Try.checked) own started (by kernel_rfl) Try.func5
    (ChangeSpec.witness6 (enc := enc) (C := Try.checked) false ⟨#[], #[weaV 0 0 0, fldV 0 0 0 0 (.slice none 0 0), .float .f32 0, .float .f32 0], []⟩ 8 (by kernel_rfl) (by kernel_rfl) (by kernel_rfl) (by kernel_rfl)) ?_
  intro W base args ds gs before hval0 hW hcnd _
  have hval : ∀ (j : Nat) t v, Try.f5.params[j]? = some t → args[j]? = some v → Value.okWide Try.prog W .any base t v := hval0
  have hW' := hW
  have hplt : ∀ x ∈ before, x.block < W.heap.size := fun x hx => by simpa using hW'.lt x hx
  obtain ⟨p, q, hA0, hV, rfl, hfz, hnd⟩ := hW
  have hA : DataW.TrodAll enc Try.prog W 0 (fun _ => true) true Try.f5.params.toList args.toList ds p := hA0
  rw [Try.params5] at hA hval
  obtain ⟨v0, vs0, d0, ds0, p0, q0, hargs, rfl, rfl, h0, r0⟩ := trodAll_cons hA
  obtain ⟨v1, vs1, d1, ds1, p1, q1, rfl, rfl, rfl, h1, r1⟩ := trodAll_cons r0
  obtain ⟨v2, vs2, d2, ds2, p2, q2, rfl, rfl, rfl, h2, r2⟩ := trodAll_cons r1
  obtain ⟨v3, vs3, d3, ds3, p3, q3, rfl, rfl, rfl, h3, r3⟩ := trodAll_cons r2
  obtain ⟨rfl, rfl, rfl⟩ := trodAll_nil r3
  obtain rfl : args = #[v0, v1, v2, v3] := by cases args; simp_all
  obtain ⟨rfl, rfl⟩ := trodVars_none hV
  obtain ⟨T, R, st, rfl, lT, lR⟩ := open_wear (hval 0 52 v0 rfl rfl) h0
  obtain ⟨X, Y, W0, H0, s, rfl, hs⟩ := open_field (hval 1 26 v1 rfl rfl) h1
  obtain ⟨x, rfl, rfl, rfl, wx⟩ := open_float Try.underlying30 (hval 2 30 v2 rfl rfl) h2
  obtain ⟨y, rfl, rfl, rfl, wy⟩ := open_float Try.underlying30 (hval 3 30 v3 rfl rfl) h3
  have lx : x < 4294967296 := by simpa [Lit.wf] using wx
  have ly : y < 4294967296 := by simpa [Lit.wf] using wy
  have hlt : ∀ x ∈ p0, x.block < W.heap.size := fun x hx => hplt x (by simp [hx])
  have hlt1 : ∀ x ∈ p1, x.block < W.heap.size := fun x hx => hplt x (by simp [hx])
  clear hA0 hval0 hplt
  simp only [List.append_nil] at hW'
  refine (thermalMatch_any T R st X Y W0 H0 s x y W lT lR lx ly (fun W' hb => fit_any (hs.stay hb))).mono fun e W' ⟨he, hb⟩ => ?_
  subst he
  exact ⟨_, rfl, _, _, _, [], _, [], hW', trodAll_cons_mk (shut_bool Try.underlying4 _) trodAll_mk0, trodAll_cons_mk (Below.trod laidOut (by kernel_rfl) (of_decide_eq_true (by kernel_rfl)) h0 hb hlt) (trodAll_cons_mk (Below.trod laidOut (by kernel_rfl) (of_decide_eq_true (by kernel_rfl)) h1 hb hlt1) (trodAll_cons_mk (shut_float Try.underlying30 wx) (trodAll_cons_mk (shut_float Try.underlying30 wy) trodAll_mk0))), rfl, hb.frame _, fun h => by cases h⟩

theorem over : Rows.thermalMatchesRow.holds Try.pinned (OpenSpec.ofChange Rows.thermalMatchesSpec) :=
  OpenClaim.holds_of_wide 5 Try.f5 rfl rfl rfl rfl rfl rfl rfl ⟨rfl, rfl, rfl, rfl, rfl⟩ rfl rfl rfl rfl rfl (by kernel_rfl) Try.func5 (by kernel_rfl)
    (of_decide_eq_true (by kernel_rfl)) (by unfold Func.isWrapper; rw [if_neg (of_decide_eq_false (by kernel_rfl))]; exact ⟨rfl, rfl⟩)
    (fun os started H enc _ => lifted os started H enc)

theorem proved : Rows.ThermalMatchesSaid :=
  over
#print axioms proved
end Go.Proofs.Ytkjpjppfmfifeaa.thermalMatches
