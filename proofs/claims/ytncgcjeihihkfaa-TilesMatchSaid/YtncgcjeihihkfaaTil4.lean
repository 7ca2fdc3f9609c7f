/- Tiles of the reference. -/
import Derived.Test.YtncgcjeihihkfaaTil3
namespace Go.Proofs.Ytncgcjeihihkfaa
open Go.RowKit Fl
set_option linter.unusedVariables false

set_option maxRecDepth 100000 in
set_option maxHeartbeats 4000000 in
theorem refTiles_ok (X Y W H s : Int) (w : World) (h0 : checkR X Y W H = 0) (hs : sidB s = true) (hm : tlN X W s * tlN Y H s ≤ 1024) :
    Calls Try.prog 13 #[reg X Y W H, .int .i64 s] w (TlsPost w (tlN Y H s * tlN X W s) (tlR X Y W H s (tlN X W s))) := by
  obtain ⟨b1, b2, b3, b4, _, b6, b7, b8, b9⟩ := checkR_zero h0
  obtain ⟨s1, s2⟩ := sid_iff.1 hs
  obtain ⟨c1, c2, c3⟩ := tlN_parts (X := X) s1 b1 b2
  obtain ⟨d1, d2, d3⟩ := tlN_parts (X := Y) s1 b3 b4
  obtain ⟨p1, p2, _, _⟩ := sq_bd s1 s2 b6 (show X ≤ 4194304 by omega) (Int.le_refl (X / s)) (by omega)
  obtain ⟨q1, q2, _, _⟩ := sq_bd s1 s2 b8 (show Y ≤ 4194304 by omega) (Int.le_refl (Y / s)) (by omega)
  have CR := Lib.hid (fun w => refCheckRegion_any X Y W H w)
  rw [h0] at CR
  have D0 := Lib.hid (fun w => quotient1_any X s w s1 (by omega) (by omega) (by omega))
  have D1 := Lib.hid (fun w => quotient1_any Y s w s1 (by omega) (by omega) (by omega))
  have D2 := Lib.hid (fun w => quotient1_any (X + W - 1) s w s1 (by omega) (by omega) (by omega))
  have D3 := Lib.hid (fun w => quotient1_any (Y + H - 1) s w s1 (by omega) (by omega) (by omega))
  have CM := Lib.hid (fun (i j : Nat) (hi : i < tlN X W s) (hj : j < tlN Y H s) w => com_ref h0 hs i j hi hj w)
  have SQ := Lib.hid (fun (i j : Nat) (hi : i < tlN X W s) (hj : j < tlN Y H s) => sq_wrap h0 hs i j hi hj)
  have TR := Lib.hid (fun (i j : Nat) (hi : i < tlN X W s) => show tlR X Y W H s (tlN X W s) (j * tlN X W s + i) = ⟨tlX X (X / s + i) s, tlX Y (Y / s + j) s, tlW X W (X / s + i) s, tlW Y H (Y / s + j) s⟩ from by
    unfold tlR
    rw [(flat_parts hi).1, (flat_parts hi).2])
  have hpr : ((X + W - 1) / s - X / s + 1) * ((Y + H - 1) / s - Y / s + 1) = (tlN X W s * tlN Y H s : Nat) := by rw [← c1, ← d1]; simp
  have MU := Lib.hid (show wrap64 (((X + W - 1) / s - X / s + 1) * ((Y + H - 1) / s - Y / s + 1)) = (tlN X W s * tlN Y H s : Nat) from by rw [hpr]; exact IntWalk.wrap64_in _ ⟨by omega, by omega⟩)
  have hinfo : (Try.prog.info? 23).map (fun i => (i.zero, i.size, i.bytes)) = some (some (.agg #[.int .i64 0, .int .i64 0, .int .i64 0, .int .i64 0]), 4, 32) := by kernel_rfl
  obtain ⟨ti, hi, hz0, hz1, hz2⟩ := info_parts hinfo
  have HI := Lib.hid hi
  have z1 : X / s ≤ (X + W - 1) / s := by omega
  have z2 : Y / s ≤ (Y + H - 1) / s := by omega
  have z3 : (X + W - 1) / s ≤ X / s + 511 := by omega
  have z4 : (Y + H - 1) / s ≤ Y / s + 511 := by omega
  have TM := Lib.hid (show tlN X W s * tlN Y H s ≤ 1024 from hm)
  have TC := Lib.hid c1
  have TD := Lib.hid d1
  clear hpr hinfo hi hm h0 hs c1 d1
  generalize tlR X Y W H s (tlN X W s) = T at *
  generalize tlN X W s = c at *
  generalize tlN Y H s = d at *
  generalize X % s = f0 at *
  generalize Y % s = f1 at *
  generalize (X + W - 1) % s = f2 at *
  generalize (Y + H - 1) % s = f3 at *
  generalize hx0 : X / s = x0 at *
  generalize hy0 : Y / s = y0 at *
  generalize hx1 : (X + W - 1) / s = x1 at *
  generalize hy1 : (Y + H - 1) / s = y1 at *
  have hmu := MU.out
  generalize hcd : c * d = m at *
  have CD := Lib.hid hcd
  clear hcd
  obtain ⟨m', hm'⟩ : ∃ m' : Int, (m : Int) = m' := ⟨_, rfl⟩
  rw [hm'] at hmu
  have hm2 : m' ≤ 1024 := by have := TM.out; omega
  clear hx0 hy0 hx1 hy1 MU hm'
  go_enter Try.func13, Try.ntmps13
  go_wp2_with (first | (go_at_call 57; refine (CR.out _).mono ?_; rintro e w' ⟨rfl, rfl⟩) | (go_at_call 58; (first | (with_reducible refine Calls.mono (D0.out _) ?_) | (with_reducible refine Calls.mono (D1.out _) ?_) | (with_reducible refine Calls.mono (D2.out _) ?_) | (with_reducible refine Calls.mono (D3.out _) ?_)); rintro e w' ⟨rfl, rfl⟩))
  have HB0 := Lib.hid (show Below w.heap.size w ((w.alloc (regObj X Y W H)).alloc (regObj X Y W H)) from (by repeat (first | exact Below.refl _ _ | refine Below.alloc ?_ (by first | omega | (simp; done) | (simp; omega)) _ | refine Below.setCell ?_ (by first | omega | (simp; done) | (simp; omega)) _ | refine Below.drew ?_)))
  have ST := Lib.hid (show TlAt w X Y W H (w.heap.size + 1) T (0 * c) (.slice none 0 0) ((w.alloc (regObj X Y W H)).alloc (regObj X Y W H)) from ⟨⟨by simp [rgsL], .inl ⟨rfl, by simp⟩⟩, by (first | (rw [heap_alloc_get, if_pos rfl]; done) | ((simp only [heap_alloc_get, heap_size_alloc, if_true]) <;> ((repeat' split) <;> first | rfl | omega))), HB0.out, by simp⟩)
  clear CR D0 D1 D2 D3 hmu HB0
  generalize (w.alloc (regObj X Y W H)).alloc (regObj X Y W H) = w4 at *
  go_loopw [15, 16] (fun l y wr => ∃ (j : Nat) (ov : Value), j ≤ d ∧ y = .int .i64 (y0 + j) ∧ ov = l ∧ TlAt w X Y W H (w.heap.size + 1) T (j * c) ov wr) (fun _ y _ => (y1 + 1 - intOf y).toNat)
  case atStart => exact ⟨0, _, by omega, by simp, rfl, ST.out⟩
  case round =>
    obtain ⟨j, ov, hj, rfl, rfl, hm⟩ := hrel
    have HM := Lib.hid hm
    clear hm
    by_cases hlt : j < d
    · have hle : y0 + (j : Int) ≤ y1 := by have := TD.out; omega
      go_wp2
      obtain ⟨w2, rfl⟩ : ∃ w2, w2 = wr := ⟨_, rfl⟩
      go_loopw [15, 17] (fun l x wr => InAt w X Y W H T c x0 j l x wr) (fun _ x _ => (x1 + 1 - intOf x).toNat)
      case atStart => exact ⟨0, _, by omega, by simp, rfl, HM.out⟩
      case round =>
        obtain ⟨i, ov, hi1, rfl, rfl, hmi⟩ := hrel
        have HMi := Lib.hid hmi
        have HRg := Lib.hid hmi.reg
        obtain ⟨cB, fB, zB⟩ := blkC hmi.reg
        clear hmi
        by_cases hlt2 : i < c
        · have hle2 : x0 + (i : Int) ≤ x1 := by have := TC.out; omega
          obtain ⟨e1', e2'⟩ := SQ.out i j hlt2 hlt
          have CMI := Lib.hid (CM.out i j hlt2 hlt)
          have TRI := Lib.hid (TR.out i j hlt2)
          generalize tlX X (x0 + (i : Int)) s = t1 at *
          generalize tlX Y (y0 + (j : Int)) s = t2 at *
          generalize tlW X W (x0 + (i : Int)) s = t3 at *
          generalize tlW Y H (y0 + (j : Int)) s = t4 at *
          obtain ⟨p, hp⟩ : ∃ p, (x0 + (i : Int)) * s = p := ⟨_, rfl⟩
          obtain ⟨q, hq⟩ : ∃ q, (y0 + (j : Int)) * s = q := ⟨_, rfl⟩
          rw [hp, hq] at CMI
          have e1 := e1'.trans hp
          have e2 := e2'.trans hq
          clear hp hq e1' e2'
          have z0 := HMi.out.size
          have KB : j * c + i < 1024 := by
            have := Nat.mul_le_mul_right c (show j + 1 ≤ d by omega)
            rw [Nat.succ_mul, Nat.mul_comm d c, CD.out] at this
            have := TM.out
            omega
          have KE := Lib.hid (show j * c + (i + 1) = j * c + i + 1 by omega)
          have hi := HI.out
          generalize j * c + i = k at *
          go_upto_region 20 with (go_at_call 59; refine (CMI.out _).mono ?_; rintro e w5 ⟨rfl, hb5⟩; have HB6 := Lib.hid (hb5.alloc hb5.size (regObj t1 t2 t3 t4)); have HP := Lib.hid (heap_alloc_new w5 (regObj t1 t2 t3 t4)); clear hb5 cB fB zB e1 e2)
          have HW : Hid (w5.alloc (regObj t1 t2 t3 t4) = w5.alloc (regObj t1 t2 t3 t4)) := Lib.hid rfl
          generalize w5.alloc (regObj t1 t2 t3 t4) = wc at *
          generalize w5.heap.size = p5 at *
          clear HW
          have OW5 := Lib.hid (ownsRow_below HMi.out.own HB6.out)
          have z5 := HB6.out.size
          obtain ⟨cB, fB, zB⟩ := blkC HP.out
          go_wp2_with (at_builtin; go_loud (refine wpList_append_lies _ rfl _ _ _ rfl (w.heap.size + 1) 23 ti _ 4 32 Try.underlying29 hi hz0 hz1 hz2 rfl (by omega) ov k (rgsL T k) (by rfl) (OW5.out.alloc _) ⟨wc.heap.size, 0, none⟩ 1 1 [.int .i64 t1, .int .i64 t2, .int .i64 t3, .int .i64 t4] (by rfl) (by rfl) (World.news_of_block (cs := #[.int .i64 t1, .int .i64 t2, .int .i64 t3, .int .i64 t4]) (t := 23) (fr := (0, 0)) (heap_alloc_new wc _)) (by simp [Value.oneCell']) (by omega) (by unfold maxLen; omega) (by omega) (by simp; omega) (wc.heap.size + 1) (by simp) ?_; intro g' cap' w6 hown6 hgrow hat hlt6; have HN6 := Lib.hid (TlAt.push HMi.out HB6.out (by omega) hgrow (by rw [TRI.out]; exact hown6)); clear hown6 hgrow hat hlt6))
          go_roundw
          case rel => exact ⟨i + 1, _, by omega, by go_num, rfl, by rw [KE.out]; exact HN6.out⟩
          case measure => simp [intOf]; omega
        · have hiW : i = c := by omega
          have hge : ¬ x0 + (i : Int) ≤ x1 := by have := TC.out; omega
          have HM3 : Hid (TlAt w X Y W H (w.heap.size + 1) T ((j + 1) * c) ov wr) := by
            have h := HMi.out
            rw [hiW, ← Nat.succ_mul] at h
            exact h
          clear hiW
          go_wp2
          go_roundw
          case rel => exact ⟨j + 1, _, by omega, by go_num, rfl, HM3.out⟩
          case measure => simp [intOf]; omega
    · have hjH : j = d := by omega
      have hge : ¬ y0 + (j : Int) ≤ y1 := by have := TD.out; omega
      have hm := HM.out
      rw [hjH] at hm
      have hn1 : 0 < d * c := Nat.mul_pos d2 c2
      obtain ⟨gb, cap, rfl, _⟩ := hm.own.form hn1
      obtain ⟨hrow, hlo⟩ := hm.cells
      have HB := Lib.hid hm.bel
      have HR := Lib.hid hrow
      have HL := Lib.hid hlo
      clear hm hrow hlo hjH
      go_wp2
      go_ret2
      exact ⟨gb, cap, rfl, by have := HL.out; omega, HR.out, HB.out⟩
end Go.Proofs.Ytncgcjeihihkfaa
