/- FieldsCheck, for every field and every two integers, the tables of the library being what the program's text and the pinned rows lay: the tied card. No condition. -/
import Derived.Test.YtbingcjkphandaaDoorFckJB
import Derived.Deep.RegionHeld3
import Derived.Test.YtbingcjkphandaaDoorTie
import Derived.Test.YtbingcjkphandaaDoorCards
import Derived.ProofKit
import Derived.OpenShut
import Derived.ChangeMaps5
import Derived.Lib.SmallJoins
import Derived.LaidMore
import Derived.LaidLaws
import Derived.LaidHandle
import Derived.Stop.Joined
import Derived.Lay
import Derived.LaidOnce
import Derived.SevenTiedAt

/- Contracts: At of a right field, of both sides; a field is the same as itself. -/
namespace Go.Proofs.YtbingcjkphandaaDoor
open Go.RowKit Fl
set_option linter.unusedVariables false

set_option maxHeartbeats 4000000 in
theorem at_good (X Y : Int) (W H n b off cap i : Nat) (v : Nat → Nat) (x y : Int) (w : World) (CK : ∀ W', Below w.heap.size w W' → Calls Tryd.prog 8 #[fldV X Y W H (.slice (some ⟨b, off, none⟩) n cap)] W' fun e w' => e = .returned (.int .i64 0) ∧ Below W'.heap.size W' w')
    (h0 : checkR X Y W H = 0) (hh : hasC X Y W H x y = true) (hi : (i : Int) = (y - Y) * W + (x - X)) (hin : i < n) (hn2 : n ≤ 65536) (hc : FlAt w b off n v) :
    Calls Tryd.prog 9 #[fldV X Y W H (.slice (some ⟨b, off, none⟩) n cap), .int .i64 x, .int .i64 y] w (AtPost w (v i) 0) := by
  have C := Lib.hid CK
  obtain ⟨b1, b2, b3, b4, b5, b6, b7, b8, b9⟩ := checkR_zero h0
  have HA := Lib.hid (fun w => fHasC_any X Y W H x y w (by omega) (by omega) (by omega) (by omega) (by omega) (by omega) (by omega) (by omega))
  rw [hh] at HA
  have hb := of_decide_eq_true (show decide (X ≤ x ∧ Y ≤ y ∧ x ≤ X + W - 1 ∧ y ≤ Y + H - 1) = true from hh)
  have IX := Lib.hid (fun w => index_any X Y W H i x y w (by omega) (by omega) (by omega) (by omega) (by omega) (by omega) (by omega) (by omega) (by omega) (by omega) (by omega) hi (by omega))
  have HC := Lib.hid (hc i hin)
  have HI := Lib.hid hin
  have zb := World.block_lt_of_cell? w _ (hc i hin)
  have ni : (i : Int) < (n : Int) := by omega
  clear CK h0 b1 b2 b3 b4 b5 b6 b7 b8 b9 hh hb hi hc hin
  go_enter Tryd.func9, Tryd.ntmps9
  go_wp2_with (first | (go_at_call 8; go_loud (refine (C.out _ (by repeat (first | exact Below.refl _ _ | refine Below.alloc ?_ (by first | omega | (simp; done) | (simp; omega)) _ | refine Below.setCell ?_ (by first | omega | (simp; done) | (simp; omega)) _ | refine Below.drew ?_))).mono ?_; rintro e w2 ⟨rfl, hb2⟩; have HF := Lib.hid (blkStay (b := w.heap.size) (o := fldO X Y W H (.slice (some ⟨b, off, none⟩) n cap)) (by (first | (rw [heap_alloc_get, if_pos rfl]; done) | ((simp only [heap_alloc_get, heap_size_alloc, if_true]) <;> ((repeat' split) <;> first | rfl | omega)))) hb2); have HB := Lib.hid (show Below w.heap.size w w2 from Below.trans (by repeat (first | exact Below.refl _ _ | refine Below.alloc ?_ (by first | omega | (simp; done) | (simp; omega)) _ | refine Below.setCell ?_ (by first | omega | (simp; done) | (simp; omega)) _ | refine Below.drew ?_)) (Below.mono hb2 (by simp))); clear hb2; obtain ⟨cF, fF, zF⟩ := blkC HF.out)) | (go_at_call 41; (with_reducible refine (HA.out _).mono ?_); rintro e w3 ⟨rfl, hb3⟩; have HB3 := Lib.hid (HB.out.trans (hb3.mono HB.out.size)); have GF := Lib.hid (blkStay HF.out hb3); clear hb3 cF fF zF; obtain ⟨cF, fF, zF⟩ := blkC GF.out))
  have HC3 := Lib.hid ((Below.cell (p := ⟨b, off + i, none⟩) HB3.out zb).trans HC.out)
  have zb3 := Nat.lt_of_lt_of_le zb HB3.out.size
  have cV := HC3.out
  go_region_held3 (fun w' => (∀ o, w'.cell? ⟨w.heap.size, o, none⟩ = #[.int .i64 X, .int .i64 Y, .int .i64 W, .int .i64 H, .slice (some ⟨b, off, none⟩) n cap][o]?) ∧ w'.cell? ⟨b, off + i, none⟩ = some (.float .f32 (v i)) ∧ Below w3.heap.size w3 w') (first | exact ⟨(blkC (blkStay GF.out (by repeat (first | exact Below.refl _ _ | refine Below.alloc ?_ (by first | omega | (simp; done) | (simp; omega)) _ | refine Below.setCell ?_ (by first | omega | (simp; done) | (simp; omega)) _ | refine Below.drew ?_)))).1, (Below.cell (p := ⟨b, off + i, none⟩) (w := w3) (B := w3.heap.size) (by repeat (first | exact Below.refl _ _ | refine Below.alloc ?_ (by first | omega | (simp; done) | (simp; omega)) _ | refine Below.setCell ?_ (by first | omega | (simp; done) | (simp; omega)) _ | refine Below.drew ?_)) zb3).trans HC3.out, (by repeat (first | exact Below.refl _ _ | refine Below.alloc ?_ (by first | omega | (simp; done) | (simp; omega)) _ | refine Below.setCell ?_ (by first | omega | (simp; done) | (simp; omega)) _ | refine Below.drew ?_))⟩) (first | (go_at_call 42; (with_reducible refine Calls.mono (IX.out _) ?_); rintro e w' ⟨rfl, rfl⟩))
  all_goals
    go_wp2
    go_ret2
    exact ⟨rfl, HB3.out.trans (Below.mono (B := w3.heap.size) (by repeat (first | exact Below.refl _ _ | refine Below.alloc ?_ (by first | omega | (simp; done) | (simp; omega)) _ | refine Below.setCell ?_ (by first | omega | (simp; done) | (simp; omega)) _ | refine Below.drew ?_)) HB3.out.size)⟩

set_option maxHeartbeats 1000000 in
theorem rAt_off (X Y : Int) (W H n b off cap i : Nat) (v : Nat → Nat) (x y : Int) (w : World) (hX1 : -16777216 ≤ X) (hX2 : X ≤ 16777216) (hY1 : -16777216 ≤ Y) (hY2 : Y ≤ 16777216) (hW1 : 1 ≤ W) (hW2 : W ≤ 512) (hH2 : H ≤ 512)
    (h1 : X ≤ x) (h2 : x < X + W) (h3 : Y ≤ y) (h4 : y < Y + H) (hi : (i : Int) = (y - Y) * W + (x - X)) (hn : i < n) (hn2 : n ≤ 65536) (hc : FlAt w b off n v) :
    Calls Tryd.prog 16 #[fldV X Y W H (.slice (some ⟨b, off, none⟩) n cap), .int .i64 x, .int .i64 y] w fun e w' => e = .returned (.float .f32 (v i)) ∧ Below w.heap.size w w' := by
  have hq : 0 ≤ (y - Y) * W := Int.mul_nonneg (by omega) (by omega)
  have e1 : wrap64 (y - Y) = y - Y := IntWalk.wrap64_in _ ⟨by omega, by omega⟩
  have e2 : wrap64 ((y - Y) * W) = (y - Y) * W := IntWalk.wrap64_in _ ⟨by omega, by omega⟩
  have e3 : wrap64 ((y - Y) * W + x) = (y - Y) * W + x := IntWalk.wrap64_in _ ⟨by omega, by omega⟩
  have e4 : wrap64 ((y - Y) * W + x - X) = (i : Int) := by rw [IntWalk.wrap64_in _ ⟨by omega, by omega⟩]; omega
  have hcell := hc i hn
  have hlt : b < w.heap.size := World.block_lt_of_cell? w _ hcell
  clear hi hq hc
  go_enter Tryd.func16, Tryd.ntmps16
  go_wp2
  go_ret
  exact ⟨rfl, (by repeat (first | exact Below.refl _ _ | refine Below.alloc ?_ (by first | omega | (simp; done) | (simp; omega)) _ | refine Below.setCell ?_ (by first | omega | (simp; done) | (simp; omega)) _ | refine Below.drew ?_))⟩

set_option maxHeartbeats 2000000 in
theorem fsame_self (X Y W H : Int) (n b off cap : Nat) (v : Nat → Nat) (w : World) (hl : n ≤ 65536) (h1 : 1 ≤ n) (hc : FlAt w b off n v) :
    Calls Tryd.prog 17 #[fldV X Y W H (.slice (some ⟨b, off, none⟩) n cap), fldV X Y W H (.slice (some ⟨b, off, none⟩) n cap)] w fun e w' => e = .returned (.bool true) ∧ Below w.heap.size w w' := by
  have hf := f32bits
  have HC := Lib.hid hc
  have HL := Lib.hid h1
  clear hc h1
  go_enter Tryd.func17, Tryd.ntmps17
  go_wp2
  have hB0 : Below w.heap.size w ((w.alloc (fldO X Y W H (.slice (some ⟨b, off, none⟩) n cap))).alloc (fldO X Y W H (.slice (some ⟨b, off, none⟩) n cap))) := (by repeat (first | exact Below.refl _ _ | refine Below.alloc ?_ (by first | omega | (simp; done) | (simp; omega)) _ | refine Below.setCell ?_ (by first | omega | (simp; done) | (simp; omega)) _ | refine Below.drew ?_))
  have HG0 := Lib.hid (show ((w.alloc (fldO X Y W H (.slice (some ⟨b, off, none⟩) n cap))).alloc (fldO X Y W H (.slice (some ⟨b, off, none⟩) n cap))).heap[w.heap.size + 1]? = some (fldO X Y W H (.slice (some ⟨b, off, none⟩) n cap)) by (first | (rw [heap_alloc_get, if_pos rfl]; done) | ((simp only [heap_alloc_get, heap_size_alloc, if_true]) <;> ((repeat' split) <;> first | rfl | omega))))
  generalize (w.alloc (fldO X Y W H (.slice (some ⟨b, off, none⟩) n cap))).alloc (fldO X Y W H (.slice (some ⟨b, off, none⟩) n cap)) = w0 at *
  have HB0 := Lib.hid hB0
  clear hB0
  go_loopw [24] (fun i wr => ∃ k : Nat, k ≤ n ∧ i = .int .i64 k ∧ Below w0.heap.size w0 wr) (fun i _ => n - (intOf i).toNat)
  case atStart => exact ⟨0, Nat.zero_le _, rfl, Below.refl _ _⟩
  case round =>
    obtain ⟨k, hk, rfl, hb⟩ := hrel
    obtain ⟨cG, fG, zG⟩ := blkC (blkStay HG0.out hb)
    have HBr := Lib.hid (HB0.out.trans (hb.mono HB0.out.size))
    by_cases hlt : k < n
    · have hcell := flAt_on HC.out HBr.out k hlt
      have z1 : b < wr.heap.size := World.block_lt_of_cell? wr _ hcell
      have hi2 : (k : Int) < (n : Int) := by omega
      have hb' := Lib.hid hb
      clear hb
      go_wp2
      go_quiet (fail)
      go_wp2
      go_roundw
      case rel => exact ⟨k + 1, by omega, by go_num, hb'.out.trans ((below_drewN _ _).mono hb'.out.size)⟩
      case measure => simp [intOf]; omega
    · go_wp2
      go_ret
      exact ⟨rfl, HBr.out⟩
end Go.Proofs.YtbingcjkphandaaDoor

/- FieldsCheck, walked. -/
namespace Go.Proofs.YtbingcjkphandaaDoor
open Go.RowKit Fl
set_option linter.unusedVariables false

theorem zero_self : (FloatKind.f32.format.order 0 0 == some .eq) = true := by decide
set_option maxHeartbeats 4000000 in
set_option maxRecDepth 100000 in
theorem fckLaw_bad (w : World) (X Y W H : Int) (s : Value) (x y : Int) (er : Int) (h1 : er ≠ 0) (CK : FckAt w (fldV X Y W H s) er) :
    Calls Tryd.prog 3 #[fldV X Y W H s, .int .i64 x, .int .i64 y] w fun e w' => e = .returned (.bool true) ∧ Below w.heap.size w w' := by
  have CP := Lib.hid CK.1
  have CR := Lib.hid CK.2
  have HB0 := Lib.hid (show Below w.heap.size w (w.alloc (fldO X Y W H s)) from (by repeat (first | exact Below.refl _ _ | refine Below.alloc ?_ (by first | omega | (simp; done) | (simp; omega)) _ | refine Below.setCell ?_ (by first | omega | (simp; done) | (simp; omega)) _ | refine Below.drew ?_)))
  have HF0 := Lib.hid (show (w.alloc (fldO X Y W H s)).heap[w.heap.size]? = some (fldO X Y W H s) by (first | (rw [heap_alloc_get, if_pos rfl]; done) | ((simp only [heap_alloc_get, heap_size_alloc, if_true]) <;> ((repeat' split) <;> first | rfl | omega))))
  have LA := Lib.hid landed_any
  have ZE := zero_self
  have RS := fun (w : World) (a : Addr) (m : Mode) k b => run_store_float (P := Tryd.prog) (w := w) (a := a) (m := m) k b
  clear CK
  have BA := Lib.hid (fun W' (hB : Below w.heap.size w W') => at_bad #[] (fldO 0 0 0 0 s) x y er h1 X Y W H s W' (fun W2 hb2 => CP.out W2 (hB.trans (hb2.mono hB.size))))
  have BC := Lib.hid (fun W' (hB : Below w.heap.size w W') => scale_bad 1065353216 0 er h1 X Y W H s W' (fun W2 hb2 => CP.out W2 (hB.trans (hb2.mono hB.size))))
  have BS := Lib.hid (fun W' (hB : Below w.heap.size w W') => sum_bad 1 er h1 X Y W H s W' (fun W2 hb2 => CP.out W2 (hB.trans (hb2.mono hB.size))))
  have BP := Lib.hid (fun W' (hB : Below w.heap.size w W') => print_bad er h1 X Y W H s W' (fun W2 hb2 => CP.out W2 (hB.trans (hb2.mono hB.size))))
  have BR := Lib.hid (fun W' (hB : Below w.heap.size w W') => range_bad er h1 X Y W H s W' (fun W2 hb2 => CP.out W2 (hB.trans (hb2.mono hB.size))))
  have h2 : (er != 0) = true := by simpa using h1
  clear h1
  go_enter Tryd.func3, Tryd.ntmps3
  go_upto_region 1 with fail
  generalize w.alloc (fldO X Y W H s) = w0 at *
  obtain ⟨cF, fF, zF⟩ := blkC HF0.out
  go_wp2_with (first
    | (go_at_call 6; go_loud ((refine (LA.out _).mono ?_); rintro e w1 ⟨rfl, hb⟩; have HB1 := Lib.hid (HB0.out.trans (hb.mono HB0.out.size)); have HF1 := Lib.hid (blkStay HF0.out hb); clear hb cF fF zF; obtain ⟨cF, fF, zF⟩ := blkC HF1.out))
    | (go_at_call 7; go_loud ((refine (CR.out _ HB1.out).mono ?_); rintro e w2 ⟨rfl, hb⟩; have HB2 := Lib.hid (HB1.out.trans (hb.mono HB1.out.size)); have HF2 := Lib.hid (blkStay HF1.out hb); clear hb cF fF zF; obtain ⟨cF, fF, zF⟩ := blkC HF2.out))
    | (go_at_call 8; go_loud ((refine (CP.out _ HB2.out).mono ?_); rintro e w3 ⟨rfl, hb⟩; have HB3 := Lib.hid (HB2.out.trans (hb.mono HB2.out.size)); have HF3 := Lib.hid (blkStay HF2.out hb); clear hb cF fF zF; obtain ⟨cF, fF, zF⟩ := blkC HF3.out))
    | (go_at_call 9; go_loud ((refine (BA.out _ HB3.out).mono ?_); rintro e w4 ⟨rfl, hb⟩; have HB4 := Lib.hid (HB3.out.trans (hb.mono HB3.out.size)); have HF4 := Lib.hid (blkStay HF3.out hb); clear hb cF fF zF; obtain ⟨cF, fF, zF⟩ := blkC HF4.out))
    | (go_at_call 10; go_loud ((refine (BC.out _ HB4.out).mono ?_); rintro e w5 ⟨rfl, hb⟩; have HB5 := Lib.hid (HB4.out.trans (hb.mono HB4.out.size)); have HF5 := Lib.hid (blkStay HF4.out hb); clear hb cF fF zF; obtain ⟨cF, fF, zF⟩ := blkC HF5.out))
    | (go_at_call 11; go_loud ((refine (BS.out _ (HB5.out.alloc HB5.out.size _)).mono ?_); rintro e w6 ⟨rfl, hb⟩; have HB6 := Lib.hid ((HB5.out.alloc HB5.out.size _).trans (hb.mono (by have := HB5.out.size; rw [heap_size_alloc]; omega))); have HF6 := Lib.hid (blkStay ((heap_alloc_old _ _ (blkC HF5.out).2.2).trans HF5.out) hb); clear hb cF fF zF; obtain ⟨cF, fF, zF⟩ := blkC HF6.out))
    | (go_at_call 12; go_loud ((refine (BP.out _ HB6.out).mono ?_); rintro e w7 ⟨rfl, hb⟩; have HB7 := Lib.hid (HB6.out.trans (hb.mono HB6.out.size)); have HF7 := Lib.hid (blkStay HF6.out hb); clear hb cF fF zF; obtain ⟨cF, fF, zF⟩ := blkC HF7.out))
    | (go_at_call 13; go_loud ((refine (BR.out _ HB7.out).mono ?_); rintro e w8 ⟨rfl, hb⟩; have HB8 := Lib.hid (HB7.out.trans (hb.mono HB7.out.size)); have HF8 := Lib.hid (blkStay HF7.out hb); clear hb cF fF zF; obtain ⟨cF, fF, zF⟩ := blkC HF8.out)))
  go_ret
  exact ⟨rfl, HB8.out⟩
set_option maxHeartbeats 4000000 in
set_option maxRecDepth 100000 in
theorem fckLaw_place (w : World) (X Y W H : Int) (s : Value) (x y : Int) (er : Int) (he : er = 0) (h0 : checkR X Y W H = 0) (hh : hasC X Y W H x y = false) (CK : FckAt w (fldV X Y W H s) er) :
    Calls Tryd.prog 3 #[fldV X Y W H s, .int .i64 x, .int .i64 y] w fun e w' => e = .returned (.bool true) ∧ Below w.heap.size w w' := by
  have CP := Lib.hid CK.1
  have CR := Lib.hid CK.2
  have HB0 := Lib.hid (show Below w.heap.size w (w.alloc (fldO X Y W H s)) from (by repeat (first | exact Below.refl _ _ | refine Below.alloc ?_ (by first | omega | (simp; done) | (simp; omega)) _ | refine Below.setCell ?_ (by first | omega | (simp; done) | (simp; omega)) _ | refine Below.drew ?_)))
  have HF0 := Lib.hid (show (w.alloc (fldO X Y W H s)).heap[w.heap.size]? = some (fldO X Y W H s) by (first | (rw [heap_alloc_get, if_pos rfl]; done) | ((simp only [heap_alloc_get, heap_size_alloc, if_true]) <;> ((repeat' split) <;> first | rfl | omega))))
  have LA := Lib.hid landed_any
  have ZE := zero_self
  have RS := fun (w : World) (a : Addr) (m : Mode) k b => run_store_float (P := Tryd.prog) (w := w) (a := a) (m := m) k b
  clear CK
  subst he
  have BA := Lib.hid (fun W' (hB : Below w.heap.size w W') => at_place X Y W H s x y W' (fun W2 hb2 => CP.out W2 (hB.trans (hb2.mono hB.size))) h0 hh)
  obtain ⟨b1, b2, b3, b4, b5, b6, b7, b8, b9⟩ := checkR_zero h0
  have BI := Lib.hid (fun w => rInsideC_any x y X Y W H w (by omega) (by omega) (by omega) (by omega) (by omega) (by omega) (by omega) (by omega))
  rw [hh] at BI
  clear h0 hh b1 b2 b3 b4 b5 b6 b7 b8 b9
  go_enter Tryd.func3, Tryd.ntmps3
  go_upto_region 1 with fail
  generalize w.alloc (fldO X Y W H s) = w0 at *
  obtain ⟨cF, fF, zF⟩ := blkC HF0.out
  go_wp2_with (first
    | (go_at_call 6; go_loud ((refine (LA.out _).mono ?_); rintro e w1 ⟨rfl, hb⟩; have HB1 := Lib.hid (HB0.out.trans (hb.mono HB0.out.size)); have HF1 := Lib.hid (blkStay HF0.out hb); clear hb cF fF zF; obtain ⟨cF, fF, zF⟩ := blkC HF1.out))
    | (go_at_call 7; go_loud ((refine (CR.out _ HB1.out).mono ?_); rintro e w2 ⟨rfl, hb⟩; have HB2 := Lib.hid (HB1.out.trans (hb.mono HB1.out.size)); have HF2 := Lib.hid (blkStay HF1.out hb); clear hb cF fF zF; obtain ⟨cF, fF, zF⟩ := blkC HF2.out))
    | (go_at_call 8; go_loud ((refine (CP.out _ HB2.out).mono ?_); rintro e w3 ⟨rfl, hb⟩; have HB3 := Lib.hid (HB2.out.trans (hb.mono HB2.out.size)); have HF3 := Lib.hid (blkStay HF2.out hb); clear hb cF fF zF; obtain ⟨cF, fF, zF⟩ := blkC HF3.out))
    | (go_at_call 9; go_loud ((refine (BA.out _ HB3.out).mono ?_); rintro e w4 ⟨rfl, hb⟩; have HB4 := Lib.hid (HB3.out.trans (hb.mono HB3.out.size)); have HF4 := Lib.hid (blkStay HF3.out hb); clear hb cF fF zF; obtain ⟨cF, fF, zF⟩ := blkC HF4.out))
    | (go_at_call 14; go_loud ((refine (BI.out _).mono ?_); rintro e w5 ⟨rfl, hb⟩; have HB5 := Lib.hid (HB4.out.trans (hb.mono HB4.out.size)); have HF5 := Lib.hid (blkStay HF4.out hb); clear hb cF fF zF; obtain ⟨cF, fF, zF⟩ := blkC HF5.out)))
  go_ret
  exact ⟨rfl, HB5.out⟩
set_option maxHeartbeats 4000000 in
set_option maxRecDepth 100000 in
theorem fckLaw_good (w : World) (X Y W H : Int) (s : Value) (x y : Int) (er : Int) (he : er = 0) (h0 : checkR X Y W H = 0) (hh : hasC X Y W H x y = true) (vi : Nat) (hA : ∀ W', Below w.heap.size w W' → Calls Tryd.prog 9 #[fldV X Y W H s, .int .i64 x, .int .i64 y] W' (AtPost W' vi 0)) (hR : ∀ W', Below w.heap.size w W' → Calls Tryd.prog 16 #[fldV X Y W H s, .int .i64 x, .int .i64 y] W' fun e w2 => e = .returned (.float .f32 vi) ∧ Below W'.heap.size W' w2) (hS : ∀ W', Below w.heap.size w W' → Calls Tryd.prog 17 #[fldV X Y W H s, fldV X Y W H s] W' fun e w2 => e = .returned (.bool true) ∧ Below W'.heap.size W' w2) (CK : FckAt w (fldV X Y W H s) er) :
    Calls Tryd.prog 3 #[fldV X Y W H s, .int .i64 x, .int .i64 y] w fun e w' => e = .returned (.bool true) ∧ Below w.heap.size w w' := by
  have CP := Lib.hid CK.1
  have CR := Lib.hid CK.2
  have HB0 := Lib.hid (show Below w.heap.size w (w.alloc (fldO X Y W H s)) from (by repeat (first | exact Below.refl _ _ | refine Below.alloc ?_ (by first | omega | (simp; done) | (simp; omega)) _ | refine Below.setCell ?_ (by first | omega | (simp; done) | (simp; omega)) _ | refine Below.drew ?_)))
  have HF0 := Lib.hid (show (w.alloc (fldO X Y W H s)).heap[w.heap.size]? = some (fldO X Y W H s) by (first | (rw [heap_alloc_get, if_pos rfl]; done) | ((simp only [heap_alloc_get, heap_size_alloc, if_true]) <;> ((repeat' split) <;> first | rfl | omega))))
  have LA := Lib.hid landed_any
  have ZE := zero_self
  have RS := fun (w : World) (a : Addr) (m : Mode) k b => run_store_float (P := Tryd.prog) (w := w) (a := a) (m := m) k b
  clear CK
  subst he
  have BA := Lib.hid hA
  have BR := Lib.hid hR
  have BS := Lib.hid hS
  have BO := Lib.hid (fun w => one_ok vi w)
  obtain ⟨b1, b2, b3, b4, b5, b6, b7, b8, b9⟩ := checkR_zero h0
  have BI := Lib.hid (fun w => rInsideC_any x y X Y W H w (by omega) (by omega) (by omega) (by omega) (by omega) (by omega) (by omega) (by omega))
  rw [hh] at BI
  clear h0 hh b1 b2 b3 b4 b5 b6 b7 b8 b9 hA hR hS
  go_enter Tryd.func3, Tryd.ntmps3
  go_upto_region 1 with fail
  generalize w.alloc (fldO X Y W H s) = w0 at *
  obtain ⟨cF, fF, zF⟩ := blkC HF0.out
  go_wp2_with (first
    | (go_at_call 6; go_loud ((refine (LA.out _).mono ?_); rintro e w1 ⟨rfl, hb⟩; have HB1 := Lib.hid (HB0.out.trans (hb.mono HB0.out.size)); have HF1 := Lib.hid (blkStay HF0.out hb); clear hb cF fF zF; obtain ⟨cF, fF, zF⟩ := blkC HF1.out))
    | (go_at_call 7; go_loud ((refine (CR.out _ HB1.out).mono ?_); rintro e w2 ⟨rfl, hb⟩; have HB2 := Lib.hid (HB1.out.trans (hb.mono HB1.out.size)); have HF2 := Lib.hid (blkStay HF1.out hb); clear hb cF fF zF; obtain ⟨cF, fF, zF⟩ := blkC HF2.out))
    | (go_at_call 8; go_loud ((refine (CP.out _ HB2.out).mono ?_); rintro e w3 ⟨rfl, hb⟩; have HB3 := Lib.hid (HB2.out.trans (hb.mono HB2.out.size)); have HF3 := Lib.hid (blkStay HF2.out hb); clear hb cF fF zF; obtain ⟨cF, fF, zF⟩ := blkC HF3.out))
    | (go_at_call 9; go_loud ((refine (BA.out _ HB3.out).mono ?_); rintro e w4 ⟨rfl, hb⟩; have HB4 := Lib.hid (HB3.out.trans (hb.mono HB3.out.size)); have HF4 := Lib.hid (blkStay HF3.out hb); clear hb cF fF zF; obtain ⟨cF, fF, zF⟩ := blkC HF4.out))
    | (go_at_call 14; go_loud ((refine (BI.out _).mono ?_); rintro e w5 ⟨rfl, hb⟩; have HB5 := Lib.hid (HB4.out.trans (hb.mono HB4.out.size)); have HF5 := Lib.hid (blkStay HF4.out hb); clear hb cF fF zF; obtain ⟨cF, fF, zF⟩ := blkC HF5.out))
    | (go_at_call 16; go_loud ((refine (BR.out _ HB5.out).mono ?_); rintro e w6 ⟨rfl, hb⟩; have HB6 := Lib.hid (HB5.out.trans (hb.mono HB5.out.size)); have HF6 := Lib.hid (blkStay HF5.out hb); clear hb cF fF zF; obtain ⟨cF, fF, zF⟩ := blkC HF6.out))
    | (go_at_call 15; go_loud ((refine (BO.out _).mono ?_); rintro e w' ⟨rfl, rfl⟩))
    | (go_at_call 17; go_loud ((refine (BS.out _ HB6.out).mono ?_); rintro e w7 ⟨rfl, hb⟩; have HB7 := Lib.hid (HB6.out.trans (hb.mono HB6.out.size)); have HF7 := Lib.hid (blkStay HF6.out hb); clear hb cF fF zF; obtain ⟨cF, fF, zF⟩ := blkC HF7.out)))
  go_ret
  exact ⟨rfl, HB7.out⟩

theorem fckLaw_any (w : World) (X Y W H : Int) (s : Value) (x y : Int) (hs : SlF w s) :
    Calls Tryd.prog 3 #[fldV X Y W H s, .int .i64 x, .int .i64 y] w fun e w' => e = .returned (.bool true) ∧ Below w.heap.size w w' := by
  rcases hs with ⟨a, cap, rfl⟩ | ⟨b, off, n, cap, v, rfl, n1, n2, hc, hw⟩
  · by_cases h : fldChk X Y W H 0 0 = 0
    · exfalso
      unfold fldChk at h
      by_cases h0 : checkR X Y W H = 0
      · obtain ⟨b1, b2, b3, b4, b5, _⟩ := checkR_zero h0
        rw [if_neg (by simp [h0])] at h
        have : 0 < W * H := Int.mul_pos (by omega) (by omega)
        rw [if_pos (by omega)] at h
        omega
      · rw [if_pos h0] at h; exact h0 h
    · exact fckLaw_bad w X Y W H _ x y _ h (fck_nil X Y W H a cap w)
  · have FK := fck_row X Y W H b off n cap v w n1 n2 hc hw
    by_cases h : fldChk X Y W H n (fldE n v) = 0
    · have h0 : checkR X Y W H = 0 := by
        by_cases c : checkR X Y W H = 0
        · exact c
        · unfold fldChk at h; rw [if_pos c] at h; exact absurd h c
      obtain ⟨b1, b2, b3, b4, b5, b6, b7, b8, b9⟩ := checkR_zero h0
      have hn : (n : Int) = W * H := by
        by_cases c : (n : Int) = W * H
        · exact c
        · unfold fldChk at h; rw [if_neg (by simp [h0]), if_pos c] at h; omega
      obtain ⟨W', rfl⟩ := Int.eq_ofNat_of_zero_le (show 0 ≤ W by omega)
      obtain ⟨H', rfl⟩ := Int.eq_ofNat_of_zero_le (show 0 ≤ H by omega)
      have hn' : n = W' * H' := by have := hn; rw [← Int.natCast_mul] at this; omega
      rw [h] at FK
      cases hh : hasC X Y W' H' x y with
      | false => exact fckLaw_place w X Y W' H' _ x y 0 rfl h0 hh FK
      | true =>
        obtain ⟨i, hi, ei⟩ := hasC_num hh hn'
        have hb := of_decide_eq_true (show decide (X ≤ x ∧ Y ≤ y ∧ x ≤ X + W' - 1 ∧ y ≤ Y + H' - 1) = true from hh)
        refine fckLaw_good w X Y W' H' _ x y 0 rfl h0 hh (v i) (fun W2 hB => ?_) (fun W2 hB => ?_) (fun W2 hB => ?_) FK
        · exact at_good X Y W' H' n b off cap i v x y W2 (fun W3 hb3 => FK.1 W3 (hB.trans (hb3.mono hB.size))) h0 hh ei hi (by omega) (flAt_on hc hB)
        · exact rAt_off X Y W' H' n b off cap i v x y W2 (by omega) (by omega) (by omega) (by omega) (by omega) (by omega) (by omega) (by omega) (by omega) (by omega) (by omega) ei hi (by omega) (flAt_on hc hB)
        · exact fsame_self X Y W' H' n b off cap v W2 (by omega) n1 (flAt_on hc hB)
    · exact fckLaw_bad w X Y W H _ x y _ h FK
end Go.Proofs.YtbingcjkphandaaDoor

/- FieldsCheck, for every field and every two integers, the tables of the library being what the program's text and the pinned rows lay: the tied card. No condition. -/
namespace Go.Proofs.YtbingcjkphandaaDoor.fieldsCheck
open Go.ChangeShapes Go.WideShapes Go.ChangeAt Go.RowKit Go.Joins Go.ChangeMaps Go.Lib
set_option linter.unusedVariables false

theorem own : ownKnob Tryd.prog.godebug = none := by kernel_rfl

abbrev laidX : List (String × DataW Unit) := [("math/bits.deBruijn32tab", Rows.laid_math_bits_deBruijn32tab), ("math/bits.deBruijn64tab", Rows.laid_math_bits_deBruijn64tab), ("internal/strconv.optimize", Rows.laid_internal_strconv_optimize), ("internal/strconv.uint64pow10", Rows.laid_internal_strconv_uint64pow10), ("internal/strconv.leftcheats", Rows.laid_internal_strconv_leftcheats), ("internal/strconv.pow10Tab", Rows.laid_internal_strconv_pow10Tab)]

set_option maxRecDepth 100000 in
theorem lifted (os : Os) (started : os.Started) (H : Type) (enc : TypeId × Value → H) :
    ReturnsInHanded {} Tryd.checked os 3 .any (fun w args => (Rows.fieldsCheckSpec.pre enc Tryd.prog Tryd.f3 [] false w args ∧ laidMetH Tryd.prog laidX w) ∧ sizedMet enc Tryd.prog Tryd.f3 (OpenSpec.ofChange Rows.fieldsCheckSpec) false w args)
      (Rows.fieldsCheckSpec.post enc Tryd.prog Tryd.f3 false true false false) := by
  refine returnsInHanded_of_change_and (C := Tryd.checked) (X := fun w _ => laidMetH Tryd.prog laidX w) (fun _ _ _ hh h => h.of_heap hh) own started (by kernel_rfl) Tryd.func3
    (ChangeSpec.witness_shaped (enc := enc) (C := Tryd.checked) (os := os) (X := fun w _ => laidMetH Tryd.prog laidX w) false (World.laidAll Tryd.prog os laidX) #[fldV 0 0 0 0 (.slice none 0 0), .int .i64 0, .int .i64 0] 8 (World.laidAll_os _ _ _)
      (World.shaped_of_ZipB (by kernel_rfl) (by kernel_rfl)) (by kernel_rfl) (by kernel_rfl) (by kernel_rfl)
      (by rw [MakeChecks.laidMetH_plain _ _ _ (by kernel_rfl)]; exact laidMet_laidAll _ (by kernel_rfl) (by kernel_rfl))) ?_
  intro W base args ds gs before hval0 hW _ _ _ _
  have hval : ∀ (j : Nat) t v, Tryd.f3.params[j]? = some t → args[j]? = some v → Value.okWide Tryd.prog W .any base t v := hval0
  have hW' := hW
  have hplt : ∀ x ∈ before, x.block < W.heap.size := fun x hx => by simpa using hW'.lt x hx
  obtain ⟨p, q, hA0, hV, rfl, hfz, hnd⟩ := hW
  have hA : DataW.TrodAll enc Tryd.prog W 0 (fun _ => true) true Tryd.f3.params.toList args.toList ds p := hA0
  rw [Tryd.params3] at hA hval
  obtain ⟨v0, vs0, d0, ds0, p0, q0, hargs, rfl, rfl, h0, r0⟩ := trodAll_cons hA
  obtain ⟨v1, vs1, d1, ds1, p1, q1, rfl, rfl, rfl, h1, r1⟩ := trodAll_cons r0
  obtain ⟨v2, vs2, d2, ds2, p2, q2, rfl, rfl, rfl, h2, r2⟩ := trodAll_cons r1
  obtain ⟨rfl, rfl, rfl⟩ := trodAll_nil r2
  obtain rfl : args = #[v0, v1, v2] := by cases args; simp_all
  obtain ⟨rfl, rfl⟩ := trodVars_none hV
  obtain ⟨X, Y, W0, H0, s, rfl, hs⟩ := open_field (hval 0 26 v0 rfl rfl) h0
  obtain ⟨x, rfl, rfl, rfl, wx⟩ := open_int Tryd.underlying3 (hval 1 3 v1 rfl rfl) h1
  obtain ⟨y, rfl, rfl, rfl, wy⟩ := open_int Tryd.underlying3 (hval 2 3 v2 rfl rfl) h2
  have hlt : ∀ x ∈ p0, x.block < W.heap.size := fun x hx => hplt x (by simp [hx])
  clear hA0 hval0 hplt
  simp only [List.append_nil] at hW'
  refine (fckLaw_any W X Y W0 H0 s x y hs).mono fun e W' ⟨he, hb⟩ => ?_
  subst he
  exact ⟨_, rfl, _, _, _, [], _, [], hW', trodAll_cons_mk (shut_bool Tryd.underlying4 _) trodAll_mk0, trodAll_cons_mk (Below.trod laidOut (by kernel_rfl) (of_decide_eq_true (by kernel_rfl)) h0 hb hlt) (trodAll_cons_mk (shut_int Tryd.underlying3 wx) (trodAll_cons_mk (shut_int Tryd.underlying3 wy) trodAll_mk0)), rfl, hb.frame _, fun h => by cases h⟩

theorem over : Rows.FieldsCheckSaid :=
  OpenClaim.holds_of_wide 3 Tryd.f3 rfl rfl rfl rfl rfl rfl rfl ⟨rfl, rfl, rfl, rfl, rfl⟩ rfl rfl rfl rfl rfl (by kernel_rfl) Tryd.func3 (by kernel_rfl)
    (of_decide_eq_true (by kernel_rfl)) (by unfold Func.isWrapper; rw [if_neg (of_decide_eq_false (by kernel_rfl))]; exact ⟨rfl, rfl⟩)
    (fun os started H enc _ => lifted os started H enc)

theorem proved : Rows.FieldsCheckCardSaid :=
  Claim7.holds_tied_plain_at .later [] [.data, .data, .data, .data, .pinned, .pinned] true (true, "e1fbc376d26da95b459071ff732cc88214e5e7310195cdc6f9be02bcb0406f64") false
    over (fun _ h => by cases h) (by kernel_rfl) (fun _ h => by cases h) fieldsCheck_row_tie rfl ⟨rfl, rfl⟩ (by kernel_rfl) rfl
    (fun f fn hf hfn => by
      obtain rfl : f = 3 := Option.some.inj ((show Tryd.prog.funcNamed "tarnfell/tarnlaw1.FieldsCheck" = some 3 by kernel_rfl).symm.trans hf) |>.symm
      obtain rfl : fn = Tryd.f3 := (Option.some.inj (Tryd.func3.symm.trans hfn)).symm
      exact ⟨by kernel_rfl, fun j t ht => by
        rw [Tryd.params3] at ht
        have hm : t ∈ [26, 3, 3] := by simpa using Array.mem_of_getElem? ht
        have hall : ([26, 3, 3].all fun u => !Tryd.prog.wantsStandIn u) = true := by kernel_rfl
        exact (show Tryd.prog.wantsStandIn t = false by simpa using List.all_eq_true.1 hall t hm)⟩)
    (by kernel_rfl)
#print axioms proved
end Go.Proofs.YtbingcjkphandaaDoor.fieldsCheck
