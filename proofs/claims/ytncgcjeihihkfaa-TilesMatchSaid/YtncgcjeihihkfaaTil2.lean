/- Tiles of the program. -/
import Derived.Test.YtncgcjeihihkfaaTil
namespace Go.Proofs.Ytncgcjeihihkfaa
open Go.RowKit Fl
set_option linter.unusedVariables false

/-- The tile number k of a region: c of them in a row. -/
def tlR (X Y W H s : Int) (c k : Nat) : Rgn := ⟨tlX X (X / s + (k % c : Nat)) s, tlX Y (Y / s + (k / c : Nat)) s, tlW X W (X / s + (k % c : Nat)) s, tlW Y H (Y / s + (k / c : Nat)) s⟩
/-- How many columns or rows of tiles there are. -/
def tlN (X W s : Int) : Nat := ((X + W - 1) / s - X / s + 1).toNat
theorem tlN_parts {X W s : Int} (hs : 1 ≤ s) (hW : 1 ≤ W) (hW2 : W ≤ 512) : (tlN X W s : Int) = (X + W - 1) / s - X / s + 1 ∧ 1 ≤ tlN X W s ∧ tlN X W s ≤ 512 := by
  have a := Int.ediv_le_ediv (show 0 < s by omega) (show X ≤ X + W - 1 by omega)
  have b : (X + W - 1) / s ≤ X / s + 511 := by
    have c1 := Int.lt_ediv_add_one_mul_self X (show 0 < s by omega)
    have h : (X + W - 1) / s < X / s + 512 := by
      apply Int.ediv_lt_of_lt_mul (by omega)
      have : (X / s + 512) * s = (X / s + 1) * s + 511 * s := by rw [← Int.add_mul]; congr 1; omega
      rw [this]
      omega
    omega
  unfold tlN
  omega
/-- What Tiles answers. -/
def tilsE (X Y W H s : Int) : Int :=
  if checkR X Y W H ≠ 0 then checkR X Y W H else if sidB s = false then 3 else if 1024 < tlN X W s * tlN Y H s then 4 else 0
/-- Common of a region and of a tile in it. -/
theorem com_tile {X Y W H s : Int} (hs : 1 ≤ s) (hW : 1 ≤ W) (hH : 1 ≤ H) {i j : Int} (i0 : X / s ≤ i) (i1 : i ≤ (X + W - 1) / s) (j0 : Y / s ≤ j) (j1 : j ≤ (Y + H - 1) / s) :
    comB X Y W H (i * s) (j * s) s s = true ∧ comR X Y W H (i * s) (j * s) s s = reg (tlX X i s) (tlX Y j s) (tlW X W i s) (tlW Y H j s) := by
  obtain ⟨_, _, a, _, _⟩ := tl_parts (X := X) (W := W) hs hW i0 i1
  obtain ⟨_, _, b, _, _⟩ := tl_parts (X := Y) (W := H) hs hH j0 j1
  have h : comB X Y W H (i * s) (j * s) s s = true := comB_iff.2 ⟨a, b⟩
  refine ⟨h, ?_⟩
  unfold comR
  rw [if_pos h]
  rfl
theorem maxI_comm (a b : Int) : maxI a b = maxI b a := by unfold maxI; split <;> split <;> omega
theorem minI_comm (a b : Int) : minI a b = minI b a := by unfold minI; split <;> split <;> omega
theorem com_tile' {X Y W H s : Int} (hs : 1 ≤ s) (hW : 1 ≤ W) (hH : 1 ≤ H) {i j : Int} (i0 : X / s ≤ i) (i1 : i ≤ (X + W - 1) / s) (j0 : Y / s ≤ j) (j1 : j ≤ (Y + H - 1) / s) :
    comB (i * s) (j * s) s s X Y W H = true ∧ comR (i * s) (j * s) s s X Y W H = reg (tlX X i s) (tlX Y j s) (tlW X W i s) (tlW Y H j s) := by
  obtain ⟨a, b⟩ := com_tile (X := X) (Y := Y) (W := W) (H := H) hs hW hH i0 i1 j0 j1
  have e : comB (i * s) (j * s) s s X Y W H = comB X Y W H (i * s) (j * s) s s := by
    unfold comB
    rw [maxI_comm X, maxI_comm Y, minI_comm (X + W), minI_comm (Y + H)]
  refine ⟨by rw [e]; exact a, ?_⟩
  rw [← b]
  unfold comR
  rw [e, a, maxI_comm X, maxI_comm Y, minI_comm (X + W), minI_comm (Y + H)]

theorem com_cell {X Y W H s : Int} (h0 : checkR X Y W H = 0) (hs : sidB s = true) (i j : Nat) (hi : i < tlN X W s) (hj : j < tlN Y H s) (w : World) :
    Calls Try.prog 56 #[reg X Y W H, reg ((X / s + i) * s) ((Y / s + j) * s) s s] w fun e w' => e = .returned (.tuple #[reg (tlX X (X / s + i) s) (tlX Y (Y / s + j) s) (tlW X W (X / s + i) s) (tlW Y H (Y / s + j) s), .bool true]) ∧ Below w.heap.size w w' := by
  obtain ⟨b1, b2, b3, b4, _, b6, b7, b8, b9⟩ := checkR_zero h0
  obtain ⟨s1, s2⟩ := sid_iff.1 hs
  obtain ⟨c1, c2, c3⟩ := tlN_parts (X := X) s1 b1 b2
  obtain ⟨d1, d2, d3⟩ := tlN_parts (X := Y) s1 b3 b4
  obtain ⟨_, _, e1, e2⟩ := sq_bd s1 s2 b6 (show X ≤ 4194304 by omega) (show X / s ≤ X / s + i by omega) (by omega)
  obtain ⟨_, _, e3, e4⟩ := sq_bd s1 s2 b8 (show Y ≤ 4194304 by omega) (show Y / s ≤ Y / s + j by omega) (by omega)
  have h := common_any X Y W H ((X / s + i) * s) ((Y / s + j) * s) s s w (by omega) (by omega) (by omega) (by omega) (by omega) (by omega) (by omega) (by omega) (by omega) (by omega) (by omega) (by omega) (by omega) (by omega) (by omega) (by omega)
  obtain ⟨x1, x2⟩ := com_tile (X := X) (Y := Y) (W := W) (H := H) s1 b1 b3 (i := X / s + i) (j := Y / s + j) (by omega) (by omega) (by omega) (by omega)
  rw [x1, x2] at h
  exact h
theorem sq_cell {X Y W H s : Int} (h0 : checkR X Y W H = 0) (hs : sidB s = true) (i j : Nat) (hi : i < tlN X W s) (hj : j < tlN Y H s) (w : World) :
    Calls Try.prog 55 #[.int .i64 s, .int .i64 (X / s + i), .int .i64 (Y / s + j)] w fun e w' => e = .returned (reg ((X / s + i) * s) ((Y / s + j) * s) s s) ∧ Below w.heap.size w w' := by
  obtain ⟨b1, b2, b3, b4, _, b6, b7, b8, b9⟩ := checkR_zero h0
  obtain ⟨s1, s2⟩ := sid_iff.1 hs
  obtain ⟨c1, c2, c3⟩ := tlN_parts (X := X) s1 b1 b2
  obtain ⟨d1, d2, d3⟩ := tlN_parts (X := Y) s1 b3 b4
  obtain ⟨_, _, e1, e2⟩ := sq_bd s1 s2 b6 (show X ≤ 4194304 by omega) (show X / s ≤ X / s + i by omega) (by omega)
  obtain ⟨_, _, e3, e4⟩ := sq_bd s1 s2 b8 (show Y ≤ 4194304 by omega) (show Y / s ≤ Y / s + j by omega) (by omega)
  exact square_any s _ _ _ _ rfl rfl e1 e2 e3 e4 w

/-- The tiles are there. -/
def TlsPost (w : World) (n : Nat) (T : Nat → Rgn) (e : Ending) (w' : World) : Prop :=
  ∃ g cap, e = .returned (.tuple #[.slice (some ⟨g, 0, none⟩) n cap, .int .i64 0]) ∧ w.heap.size ≤ g ∧ TlRow w' g n T ∧ Below w.heap.size w w'

/-- One tile's block behind the region that cuts it. -/
def OneT (wr : World) (r : Rgn) (v : Value) (wx : World) : Prop := ∃ p, v = .pointer (some ⟨p, 0, none⟩) ∧ wx.heap[p]? = some (.cells r.cells 23 (0, 0)) ∧ Below wr.heap.size wr wx

theorem oneT_new {wr w6 : World} {t1 t2 t3 t4 : Int} (hb : Below wr.heap.size wr w6) : OneT wr ⟨t1, t2, t3, t4⟩ (.pointer (some ⟨w6.heap.size, 0, none⟩)) (w6.alloc (regObj t1 t2 t3 t4)) :=
  ⟨_, rfl, heap_alloc_new _ _, hb.alloc hb.size _⟩
theorem oneT_old {wr w6 : World} {p : Nat} {t1 t2 t3 t4 : Int} (hb : Below wr.heap.size wr w6) (hp : w6.heap[p]? = some (regObj 0 0 0 0)) (hlo : wr.heap.size ≤ p) :
    OneT wr ⟨t1, t2, t3, t4⟩ (.pointer (some ⟨p, 0, none⟩)) ((((w6.setCell ⟨p, 0, none⟩ (.int .i64 t1)).setCell ⟨p, 1, none⟩ (.int .i64 t2)).setCell ⟨p, 2, none⟩ (.int .i64 t3)).setCell ⟨p, 3, none⟩ (.int .i64 t4)) := by
  have h1 := heap_setCell_same w6 p 0 _ _ (.int .i64 t1) hp
  have h2 := heap_setCell_same _ p 1 _ _ (.int .i64 t2) h1
  have h3 := heap_setCell_same _ p 2 _ _ (.int .i64 t3) h2
  exact ⟨p, rfl, heap_setCell_same _ p 3 _ _ (.int .i64 t4) h3, (((hb.setCell (p := ⟨p, 0, none⟩) hlo _).setCell (p := ⟨p, 1, none⟩) hlo _).setCell (p := ⟨p, 2, none⟩) hlo _).setCell (p := ⟨p, 3, none⟩) hlo _⟩

/-- What holds at the head of the inner loop. -/
def InAt (w : World) (X Y W H : Int) (T : Nat → Rgn) (c : Nat) (x0 : Int) (j : Nat) (l x : Value) (wr : World) : Prop :=
  ∃ (i : Nat) (ov : Value), i ≤ c ∧ x = .int .i64 (x0 + i) ∧ ov = l ∧ TlAt w X Y W H (w.heap.size + 1) T (j * c + i) ov wr

set_option maxRecDepth 100000 in
set_option maxHeartbeats 4000000 in
theorem tiles_ok (X Y W H s : Int) (w : World) (h0 : checkR X Y W H = 0) (hs : sidB s = true) (hm : tlN X W s * tlN Y H s ≤ 1024) :
    Calls Try.prog 12 #[reg X Y W H, .int .i64 s] w (TlsPost w (tlN Y H s * tlN X W s) (tlR X Y W H s (tlN X W s))) := by
  obtain ⟨b1, b2, b3, b4, _, b6, b7, b8, b9⟩ := checkR_zero h0
  obtain ⟨s1, s2⟩ := sid_iff.1 hs
  obtain ⟨c1, c2, c3⟩ := tlN_parts (X := X) s1 b1 b2
  obtain ⟨d1, d2, d3⟩ := tlN_parts (X := Y) s1 b3 b4
  obtain ⟨p1, p2, _, _⟩ := sq_bd s1 s2 b6 (show X ≤ 4194304 by omega) (Int.le_refl (X / s)) (by omega)
  obtain ⟨q1, q2, _, _⟩ := sq_bd s1 s2 b8 (show Y ≤ 4194304 by omega) (Int.le_refl (Y / s)) (by omega)
  have CR := Lib.hid (fun w => checkRegion_any X Y W H w)
  rw [h0] at CR
  have CS := Lib.hid (checkSide_ok s hs)
  have D0 := Lib.hid (fun w => divide_any X s w s1 (by omega) (by omega) (by omega))
  have D1 := Lib.hid (fun w => divide_any Y s w s1 (by omega) (by omega) (by omega))
  have D2 := Lib.hid (fun w => divide_any (X + W - 1) s w s1 (by omega) (by omega) (by omega))
  have D3 := Lib.hid (fun w => divide_any (Y + H - 1) s w s1 (by omega) (by omega) (by omega))
  have SQ := Lib.hid (fun (i j : Nat) (hi : i < tlN X W s) (hj : j < tlN Y H s) w => sq_cell h0 hs i j hi hj w)
  have CM := Lib.hid (fun (i j : Nat) (hi : i < tlN X W s) (hj : j < tlN Y H s) w => com_cell h0 hs i j hi hj w)
  have TR := Lib.hid (fun (i j : Nat) (hi : i < tlN X W s) => show tlR X Y W H s (tlN X W s) (j * tlN X W s + i) = ⟨tlX X (X / s + i) s, tlX Y (Y / s + j) s, tlW X W (X / s + i) s, tlW Y H (Y / s + j) s⟩ from by
    unfold tlR
    rw [(flat_parts hi).1, (flat_parts hi).2])
  have hpr : ((X + W - 1) / s - X / s + 1) * ((Y + H - 1) / s - Y / s + 1) = (tlN X W s * tlN Y H s : Nat) := by rw [← c1, ← d1]; simp
  have MU := Lib.hid (show wrap64 (((X + W - 1) / s - X / s + 1) * ((Y + H - 1) / s - Y / s + 1)) = (tlN X W s * tlN Y H s : Nat) from by rw [hpr]; exact IntWalk.wrap64_in _ ⟨by omega, by omega⟩)
  have hinfo : (Try.prog.info? 23).map (fun i => (i.zero, i.size, i.bytes)) = some (some (.agg #[.int .i64 0, .int .i64 0, .int .i64 0, .int .i64 0]), 4, 32) := by kernel_rfl
  obtain ⟨ti, hi, hz0, hz1, hz2⟩ := info_parts hinfo
  have HI := Lib.hid hi
  have z1 : X / s ≤ (X + W - 1) / s := by omega
  have z2 : Y / s ≤ (Y + H - 1) / s := by omega
  have z3 : (X + W - 1) / s ≤ X / s + 511 := by omega
  have z4 : (Y + H - 1) / s ≤ Y / s + 511 := by omega
  have TM := Lib.hid (show tlN X W s * tlN Y H s ≤ 1024 from hm)
  have TC := Lib.hid c1
  have TD := Lib.hid d1
  clear hpr hinfo hi hm h0 hs c1 d1
  generalize tlR X Y W H s (tlN X W s) = T at *
  generalize tlN X W s = c at *
  generalize tlN Y H s = d at *
  generalize shW (X % s) s = f0 at *
  generalize shW (Y % s) s = f1 at *
  generalize shW ((X + W - 1) % s) s = f2 at *
  generalize shW ((Y + H - 1) % s) s = f3 at *
  generalize hx0 : X / s = x0 at *
  generalize hy0 : Y / s = y0 at *
  generalize hx1 : (X + W - 1) / s = x1 at *
  generalize hy1 : (Y + H - 1) / s = y1 at *
  have hmu := MU.out
  generalize hcd : c * d = m at *
  have CD := Lib.hid hcd
  clear hcd
  obtain ⟨m', hm'⟩ : ∃ m' : Int, (m : Int) = m' := ⟨_, rfl⟩
  rw [hm'] at hmu
  have hm2 : m' ≤ 1024 := by have := TM.out; omega
  clear hx0 hy0 hx1 hy1 MU hm'
  go_enter Try.func12, Try.ntmps12
  go_wp2_with (first | (go_at_call 51; refine (CR.out _).mono ?_; rintro e w' ⟨rfl, rfl⟩) | (go_at_call 52; refine (CS.out _).mono ?_; rintro e w' ⟨rfl, rfl⟩) | (go_at_call 54; (first | (with_reducible refine Calls.mono (D0.out _) ?_; rintro e w1 ⟨rfl, hb1⟩; have HA1 := Lib.hid (blkStay (b := w.heap.size) (o := regObj X Y W H) (by (first | (rw [heap_alloc_get, if_pos rfl]; done) | ((simp only [heap_alloc_get, heap_size_alloc, if_true]) <;> ((repeat' split) <;> first | rfl | omega)))) hb1); have hB1 : Below w.heap.size w w1 := Below.trans (by repeat (first | exact Below.refl _ _ | refine Below.alloc ?_ (by first | omega | (simp; done) | (simp; omega)) _ | refine Below.setCell ?_ (by first | omega | (simp; done) | (simp; omega)) _ | refine Below.drew ?_)) (Below.mono hb1 (by first | omega | (simp; done) | (simp; omega))); obtain ⟨cA, fA, zA⟩ := blkC HA1.out; clear hb1) | (with_reducible refine Calls.mono (D1.out _) ?_; rintro e w2 ⟨rfl, hb2⟩; have HA2 := Lib.hid (blkStay HA1.out hb2); have hB2 := hB1.trans (hb2.mono hB1.size); clear cA fA zA; obtain ⟨cA, fA, zA⟩ := blkC HA2.out; clear hb2) | (with_reducible refine Calls.mono (D2.out _) ?_; rintro e w3 ⟨rfl, hb3⟩; have HA3 := Lib.hid (blkStay HA2.out hb3); have hB3 := hB2.trans (hb3.mono hB2.size); clear cA fA zA; obtain ⟨cA, fA, zA⟩ := blkC HA3.out; clear hb3) | (with_reducible refine Calls.mono (D3.out _) ?_; rintro e w4 ⟨rfl, hb4⟩; have HA4 := Lib.hid (blkStay HA3.out hb4); have hB4 := hB3.trans (hb4.mono hB3.size); clear cA fA zA; obtain ⟨cA, fA, zA⟩ := blkC HA4.out; clear hb4))))
  have ST := Lib.hid (show TlAt w X Y W H (w.heap.size + 1) T (0 * c) (.slice none 0 0) w4 from ⟨⟨by simp [rgsL], .inl ⟨rfl, by simp⟩⟩, HA4.out, hB4, zA⟩)
  clear cA fA zA HA1 HA2 HA3 HA4 hB1 hB2 hB3 hB4 CR CS D0 D1 D2 D3 hmu
  go_loopw [16, 17] (fun l y wr => ∃ (j : Nat) (ov : Value), j ≤ d ∧ y = .int .i64 (y0 + j) ∧ ov = l ∧ TlAt w X Y W H (w.heap.size + 1) T (j * c) ov wr) (fun _ y _ => (y1 + 1 - intOf y).toNat)
  case atStart => exact ⟨0, _, by omega, by simp, rfl, ST.out⟩
  case round =>
    obtain ⟨j, ov, hj, rfl, rfl, hm⟩ := hrel
    have HM := Lib.hid hm
    clear hm
    by_cases hlt : j < d
    · have hle : y0 + (j : Int) ≤ y1 := by have := TD.out; omega
      go_wp2
      obtain ⟨w2, rfl⟩ : ∃ w2, w2 = wr := ⟨_, rfl⟩
      go_loopw [16, 18] (fun l x wr => InAt w X Y W H T c x0 j l x wr) (fun _ x _ => (x1 + 1 - intOf x).toNat)
      case atStart => exact ⟨0, _, by omega, by simp, rfl, HM.out⟩
      case round =>
        obtain ⟨i, ov, hi1, rfl, rfl, hmi⟩ := hrel
        have HMi := Lib.hid hmi
        have HRg := Lib.hid hmi.reg
        obtain ⟨cB, fB, zB⟩ := blkC hmi.reg
        clear hmi
        by_cases hlt2 : i < c
        · have hle2 : x0 + (i : Int) ≤ x1 := by have := TC.out; omega
          have SQI := Lib.hid (SQ.out i j hlt2 hlt)
          have CMI := Lib.hid (CM.out i j hlt2 hlt)
          have TRI := Lib.hid (TR.out i j hlt2)
          generalize tlX X (x0 + (i : Int)) s = t1 at *
          generalize tlX Y (y0 + (j : Int)) s = t2 at *
          generalize tlW X W (x0 + (i : Int)) s = t3 at *
          generalize tlW Y H (y0 + (j : Int)) s = t4 at *
          generalize (x0 + (i : Int)) * s = p at *
          generalize (y0 + (j : Int)) * s = q at *
          have HN := Lib.hid (heap_alloc_new wr (regObj 0 0 0 0))
          have HA3 := Lib.hid (show Below wr.heap.size wr (wr.alloc (regObj 0 0 0 0)) from (Below.refl _ _).alloc (Nat.le_refl _) _)
          go_upto_region 20 with fail
          go_cut [19, 20] from 84 to 101 (fun s19 s20 wx => OneT wr ⟨t1, t2, t3, t4⟩ s19 wx)
          case first =>
            go_region_law (first
              | (go_simp; (with_reducible refine Calls.mono (SQI.out _) ?_); rintro e w5 ⟨rfl, hb5⟩; have hb5' : Below wr.heap.size wr w5 := ⟨hb5.os, hb5.tape, hb5.output, hb5.size, hb5.block⟩; have HB5 := Lib.hid hb5'; have RG5 := Lib.hid (blkStay HRg.out hb5'); have z5 := hb5'.size; clear cB fB zB; obtain ⟨cB, fB, zB⟩ := blkC RG5.out; clear hb5 hb5')
              | (go_simp; (with_reducible refine Calls.mono (SQI.out _) ?_); rintro e w5 ⟨rfl, hb5⟩; have hb5' : Below (wr.alloc (regObj 0 0 0 0)).heap.size (wr.alloc (regObj 0 0 0 0)) w5 := ⟨hb5.os, hb5.tape, hb5.output, hb5.size, hb5.block⟩; have HB5 := Lib.hid (HA3.out.trans (hb5'.mono HA3.out.size)); have RG5 := Lib.hid (blkStay HRg.out HB5.out); have ZZ5 := Lib.hid (blkStay HN.out hb5'); have z5 := HB5.out.size; clear cB fB zB; obtain ⟨cB, fB, zB⟩ := blkC RG5.out; clear hb5 hb5')
              | (go_simp; (with_reducible refine Calls.mono (CMI.out _) ?_); rintro e w6 ⟨rfl, hb6⟩; have hb6' : Below w5.heap.size w5 w6 := ⟨hb6.os, hb6.tape, hb6.output, hb6.size, hb6.block⟩; have HB6 := Lib.hid (HB5.out.trans (hb6'.mono HB5.out.size)); have HX6 := Lib.hid hb6'; have z6 := hb6'.size; clear cB fB zB hb6 hb6'; first | (have ZZ6 := Lib.hid (blkStay ZZ5.out HX6.out); obtain ⟨cZ, fZ, zZ⟩ := blkC ZZ6.out) | skip)
              | (go_simp; (with_reducible refine Calls.mono (CMI.out _) ?_); rintro e w6 ⟨rfl, hb6⟩; have hb6' : Below (w5.alloc (regObj 0 0 0 0)).heap.size (w5.alloc (regObj 0 0 0 0)) w6 := ⟨hb6.os, hb6.tape, hb6.output, hb6.size, hb6.block⟩; have HX5 := Lib.hid (show Below w5.heap.size w5 (w5.alloc (regObj 0 0 0 0)) from (Below.refl _ _).alloc (Nat.le_refl _) _); have HB6 := Lib.hid (HB5.out.trans ((HX5.out.trans (hb6'.mono HX5.out.size)).mono HB5.out.size)); have ZZ7 := Lib.hid (blkStay (heap_alloc_new w5 (regObj 0 0 0 0)) hb6'); have z6 := HB6.out.size; clear cB fB zB hb6 hb6'; obtain ⟨cZ, fZ, zZ⟩ := blkC ZZ7.out))
            all_goals
              go_wp2_with fail
              go_meet
              case rel => first
                | ((with_reducible refine oneT_new ?_); exact HB6.out)
                | ((with_reducible refine oneT_old ?_ ?_ ?_); exact HB6.out; (first | exact ZZ7.out | exact ZZ6.out); (first | exact z5 | exact Nat.le_refl _))
          case rest =>
            obtain ⟨p5, rfl, HP0, HB0⟩ := hcut
            have HP := Lib.hid HP0
            have HB5 := Lib.hid HB0
            have OW5 := Lib.hid (ownsRow_below HMi.out.own HB0)
            have z0 := HMi.out.size
            have z5 := HB0.size
            have KB : j * c + i < 1024 := by
              have := Nat.mul_le_mul_right c (show j + 1 ≤ d by omega)
              rw [Nat.succ_mul, Nat.mul_comm d c, CD.out] at this
              have := TM.out
              omega
            have KE := Lib.hid (show j * c + (i + 1) = j * c + i + 1 by omega)
            clear cB fB zB HN HA3 SQI CMI
            obtain ⟨cB, fB, zB⟩ := blkC HP0
            clear HP0 HB0
            have hi := HI.out
            generalize j * c + i = k at *
            go_wp2_with (at_builtin; go_loud (refine wpList_append_lies _ rfl _ _ _ rfl (w.heap.size + 1) 23 ti _ 4 32 Try.underlying29 hi hz0 hz1 hz2 rfl (by omega) ov k (rgsL T k) (by rfl) (OW5.out.alloc _) ⟨wc.heap.size, 0, none⟩ 1 1 [.int .i64 t1, .int .i64 t2, .int .i64 t3, .int .i64 t4] (by rfl) (by rfl) (World.news_of_block (cs := #[.int .i64 t1, .int .i64 t2, .int .i64 t3, .int .i64 t4]) (t := 23) (fr := (0, 0)) (heap_alloc_new wc _)) (by simp [Value.oneCell']) (by omega) (by unfold maxLen; omega) (by omega) (by simp; omega) (wc.heap.size + 1) (by simp) ?_; intro g' cap' w6 hown6 hgrow hat hlt6; have HN6 := Lib.hid (TlAt.push HMi.out HB5.out (by omega) hgrow (by rw [TRI.out]; exact hown6)); clear hown6 hgrow hat hlt6))
            go_roundw
            case rel => exact ⟨i + 1, _, by omega, by go_num, rfl, by rw [KE.out]; exact HN6.out⟩
            case measure => simp [intOf]; omega
        · have hiW : i = c := by omega
          have hge : ¬ x0 + (i : Int) ≤ x1 := by have := TC.out; omega
          have HM3 : Hid (TlAt w X Y W H (w.heap.size + 1) T ((j + 1) * c) ov wr) := by
            have h := HMi.out
            rw [hiW, ← Nat.succ_mul] at h
            exact h
          clear hiW
          go_wp2
          go_roundw
          case rel => exact ⟨j + 1, _, by omega, by go_num, rfl, HM3.out⟩
          case measure => simp [intOf]; omega
    · have hjH : j = d := by omega
      have hge : ¬ y0 + (j : Int) ≤ y1 := by have := TD.out; omega
      have hm := HM.out
      rw [hjH] at hm
      have hn1 : 0 < d * c := Nat.mul_pos d2 c2
      obtain ⟨gb, cap, rfl, _⟩ := hm.own.form hn1
      obtain ⟨hrow, hlo⟩ := hm.cells
      have HB := Lib.hid hm.bel
      have HR := Lib.hid hrow
      have HL := Lib.hid hlo
      clear hm hrow hlo hjH
      go_wp2
      go_ret2
      exact ⟨gb, cap, rfl, by have := HL.out; omega, HR.out, HB.out⟩
end Go.Proofs.Ytncgcjeihihkfaa
