/- ShowersArePlaces, walked. -/
import Derived.Test.YtnbpapbpiknnnabDoorShw2
import Derived.Test.YtnbpapbpiknnnabDoorFlw
import Derived.Test.YtnbpapbpiknnnabDoorHeap
namespace Go.Proofs.YtnbpapbpiknnnabDoor
open Go.RowKit Fl Go.Shelf
set_option linter.unusedVariables false

set_option maxHeartbeats 1000000 in
theorem equalI_any (b b' cap cap' n : Nat) (c : Nat → Nat) (hl : n ≤ 65536) (w : World) (hc : ∀ i, i < n → w.cell? ⟨b, i, none⟩ = some (.int .i64 ((c i : Nat) : Int))) (hc' : ∀ i, i < n → w.cell? ⟨b', i, none⟩ = some (.int .i64 ((c i : Nat) : Int))) :
    Calls Tryd.prog 28 #[.slice (some ⟨b, 0, none⟩) n cap, .slice (some ⟨b', 0, none⟩) n cap'] w fun e w' => e = .returned (.bool true) ∧ Below w.heap.size w w' := by
  have HC := Lib.hid hc
  have HC' := Lib.hid hc'
  clear hc hc'
  go_enter Tryd.func28, Tryd.ntmps28
  go_wp2
  go_loopw [13] (fun i wr => ∃ k : Nat, k ≤ n ∧ i = .int .i64 k ∧ (∀ p : Addr, p.block < w.heap.size → wr.cell? p = w.cell? p) ∧ Below w.heap.size w wr) (fun i _ => n - (intOf i).toNat)
  case atStart => exact ⟨0, Nat.zero_le _, rfl, fun _ _ => rfl, Below.refl _ _⟩
  case round =>
    obtain ⟨k, hk, rfl, hs, hb⟩ := hrel
    have HB := Lib.hid hb
    have HS := Lib.hid hs
    by_cases hlt : k < n
    · have z1 := World.block_lt_of_cell? w _ (HC.out k hlt)
      have z2 := World.block_lt_of_cell? w _ (HC'.out k hlt)
      have d1 := (hs ⟨b, k, none⟩ z1).trans (HC.out k hlt)
      have d2 := (hs ⟨b', k, none⟩ z2).trans (HC'.out k hlt)
      have k1 : (k : Int) < (n : Int) := by omega
      clear hs hb
      go_wp2
      go_region
      all_goals go_wp2
      all_goals go_roundw
      case rel => exact ⟨k + 1, by omega, by go_num, fun p hp => HS.out p hp, HB.out.drew⟩
      case measure => simp [intOf]; omega
    · clear hs hb
      go_wp2
      go_ret
      exact ⟨rfl, HB.out⟩

set_option maxHeartbeats 400000 in
set_option maxRecDepth 100000 in
theorem showersLaw_no (X Y W H seed most er : Int) (w : World) (hD : DirsAt w) (he : shwE X Y W H most = er) (hz : er ≠ 0) :
    Calls Tryd.prog 11 #[reg X Y W H, .int .u32 seed, .int .i64 most] w fun e w' => e = .returned (.bool true) ∧ Below w.heap.size w w' := by
  have SH := Lib.hid (fun w => shower_no seed most X Y W H er w he hz)
  have RE := Lib.hid (fun w => qRegionError_any X Y W H w)
  have WI := Lib.hid (fun w => mWithin_any most 0 1048576 w)
  have WH := Lib.hid (fun w => when_any (!withinB most 0 1048576) 3 w)
  have FI := Lib.hid (fun p w (h : w.heap[p]? = some (.cells #[.int .i64 (checkR X Y W H), .int .i64 (whenE (!withinB most 0 1048576) 3)] 28)) => first2_any _ _ p w h)
  rw [show firstE (checkR X Y W H) (whenE (!withinB most 0 1048576) 3) = er from he] at FI
  have FL := Lib.hid (fun W' (hB : Below w.heap.size w W') => flows_any W' (hD.stay hB))
  have h1 : (er != 0) = true := by simpa using hz
  clear he hz hD
  generalize checkR X Y W H = r1 at *
  generalize whenE (!withinB most 0 1048576) 3 = r2 at *
  generalize withinB most 0 1048576 = wb at *
  go_enter Tryd.func11, Tryd.ntmps11
  go_wp2_with (first | (go_at_call 61; refine (SH.out _).mono ?_; rintro e w2 ⟨rfl, hb2⟩; have HF2 := Lib.hid (blkStay (b := w.heap.size) (o := regObj X Y W H) (by ((simp only [heap_alloc_get, heap_size_alloc, if_true]) <;> ((repeat' split) <;> first | rfl | omega))) hb2); have HB2 : Below w.heap.size w w2 := Below.trans (by repeat (first | exact Below.refl _ _ | refine Below.alloc ?_ (by first | omega | (simp; done) | (simp; omega)) _ | refine Below.setCell ?_ (by first | omega | (simp; done) | (simp; omega)) _ | refine Below.drew ?_)) (Below.mono hb2 (by first | omega | (simp; done) | (simp; omega))); obtain ⟨cF, fF, zF⟩ := blkC HF2.out; clear hb2) | (go_at_call 62; refine (RE.out _).mono ?_; rintro e w' ⟨rfl, rfl⟩) | (go_at_call 46; refine (WI.out _).mono ?_; rintro e w' ⟨rfl, rfl⟩) | (go_at_call 19; refine (WH.out _).mono ?_; rintro e w' ⟨rfl, rfl⟩) | (go_at_call 16; refine (FI.out (w2.heap.size + 1) _ (by ((simp only [heap_alloc_get, heap_size_alloc, if_true]) <;> ((repeat' split) <;> first | rfl | omega)))).mono ?_; rintro e w' ⟨rfl, rfl⟩) | (go_at_call 20; refine (FL.out _ HB3).mono ?_; rintro e w4 ⟨rfl, hb4⟩; have HB4 := HB3.trans (hb4.mono HB3.size); clear hb4) | (go_at_call 20; refine (FL.out _ (by repeat (first | exact Below.refl _ _ | refine Below.alloc ?_ (by first | omega | (simp; done) | (simp; omega)) _ | refine Below.setCell ?_ (by first | omega | (simp; done) | (simp; omega)) _ | refine Below.drew ?_ | refine Below.trans ?_ (Below.mono HB2 (by first | omega | (simp; done) | (simp; omega)))))).mono ?_; rintro e w3 ⟨rfl, hb3⟩; have HB3 : Below w.heap.size w w3 := Below.trans (by repeat (first | exact Below.refl _ _ | refine Below.alloc ?_ (by first | omega | (simp; done) | (simp; omega)) _ | refine Below.setCell ?_ (by first | omega | (simp; done) | (simp; omega)) _ | refine Below.drew ?_ | refine Below.trans ?_ (Below.mono HB2 (by first | omega | (simp; done) | (simp; omega))))) (Below.mono hb3 (by have := HB2.size; simp; omega)); clear hb3))
  go_ret
  exact ⟨rfl, HB4⟩

/-- At the head of the law's loop, when k cells have been made. -/
def LawAt (w0 : World) (X Y W H : Int) (rb base n : Nat) (f : Nat → Nat) (k : Nat) (ov : Value) (wr : World) : Prop :=
  IntsAt wr rb n f ∧ wr.ownsRow base 3 1 ov k (cellsL f k) ∧ wr.heap[w0.heap.size]? = some (regObj X Y W H) ∧ Below w0.heap.size w0 wr

theorem LawAt.push {w0 w5 w6 : World} {X Y W H : Int} {rb base n k g' cap' : Nat} {f : Nat → Nat} {ov : Value} {o : Obj} (h1 : IntsAt w5 rb n f) (h2 : w5.ownsRow base 3 1 ov k (cellsL f k)) (h3 : w5.heap[w0.heap.size]? = some (regObj X Y W H)) (h4 : Below w0.heap.size w0 w5) (hrb : rb < base) (hw : w0.heap.size < base) (h5 : base ≤ w5.heap.size)
    (hgrow : (w5.alloc o).grownBy w6 ov.ownBlock) (hown : w6.ownsRow base 3 1 (.slice (some ⟨g', 0, none⟩) (k + 1) cap') (k + 1) (cellsL f k ++ [.int .i64 ((f k : Nat) : Int)])) :
    LawAt w0 X Y W H rb base n f (k + 1) (.slice (some ⟨g', 0, none⟩) (k + 1) cap') w6 ∧ base ≤ w6.heap.size := by
  have e4 : ∀ j, j < base → w6.heap[j]? = w5.heap[j]? := fun j hj => (hgrow.block j (by show j < (w5.alloc o).heap.size; rw [heap_size_alloc]; omega) (ownsRow_far h2 hj)).trans (heap_alloc_old _ _ (by omega))
  have B4 : Below w0.heap.size w0 (w5.alloc o) := h4.alloc h4.size o
  have z6 := hgrow.size
  rw [heap_size_alloc] at z6
  exact ⟨⟨h1.congr (e4 _ hrb), by rw [show cellsL f (k + 1) = cellsL f k ++ [.int .i64 ((f k : Nat) : Int)] by simp [cellsL, List.range_succ]]; exact hown, (e4 _ hw).trans h3, ⟨hgrow.os.trans B4.os, hgrow.tape.trans B4.tape, hgrow.output.trans B4.output, Nat.le_trans B4.size hgrow.size, fun j hj => (e4 j (by omega)).trans (h4.block j hj)⟩⟩, by omega⟩
theorem shw_val2 {seed most X Y : Int} {W k : Nat} (h : 0 ≤ most) (h' : most ≤ 1048576) : (wrap64 (hashI seed (X + (k : Int) % (W : Int)) (Y + (k : Int) / (W : Int)) 2)).tmod (most + 1) = ((shwN seed most X Y W k : Nat) : Int) := by
  rw [← shw_val h h']
  have q := hashI_in seed (X + (k : Int) % (W : Int)) (Y + (k : Int) / (W : Int)) 2
  generalize hashI seed (X + (k : Int) % (W : Int)) (Y + (k : Int) / (W : Int)) 2 = z at *
  have e : wrap64 z = z := IntWalk.wrap64_in _ ⟨by omega, by omega⟩
  rw [e, Int.tmod_eq_emod_of_nonneg q.1]
  have a := Int.emod_nonneg z (show most + 1 ≠ 0 by omega)
  have b := Int.emod_lt_of_pos z (show 0 < most + 1 by omega)
  exact (IntWalk.wrap64_in _ ⟨by omega, by omega⟩).symm

set_option maxHeartbeats 1000000 in
set_option maxRecDepth 100000 in
theorem showersLaw_ok (seed most X Y : Int) (W H n : Nat) (w : World) (hD : DirsAt w) (h0 : checkR X Y W H = 0) (hn : n = W * H) (m0 : 0 ≤ most) (m1 : most ≤ 1048576) :
    Calls Tryd.prog 11 #[reg X Y W H, .int .u32 seed, .int .i64 most] w fun e w' => e = .returned (.bool true) ∧ Below w.heap.size w w' := by
  obtain ⟨b1, b2, b3, b4, b5, b6, b7, b8, b9⟩ := checkR_zero h0
  have hn2 : n ≤ 65536 := by
    have : ((W : Int) * (H : Int)) = (n : Int) := by rw [hn]; simp
    omega
  have en : (W : Int) * (H : Int) = (n : Int) := by rw [hn]; simp
  have en' : wrap64 ((W : Int) * (H : Int)) = (n : Int) := by rw [en]; exact IntWalk.wrap64_in _ ⟨by omega, by omega⟩
  have SH := Lib.hid (fun w => shower_ok seed most X Y W H n w h0 hn m0 m1)
  have RE := Lib.hid (fun w => qRegionError_any X Y W H w)
  have WI := Lib.hid (fun w => mWithin_any most 0 1048576 w)
  rw [h0] at RE
  rw [withinB_iff.2 ⟨m0, m1⟩] at WI
  have WH := Lib.hid (fun w => when_any false 3 w)
  have FI := Lib.hid (fun p w (h : w.heap[p]? = some (.cells #[.int .i64 0, .int .i64 0] 28)) => first2_any 0 0 p w h)
  rw [show firstE 0 0 = 0 from rfl] at FI
  have FL := Lib.hid (fun W' (hB : Below w.heap.size w W') => flows_any W' (hD.stay hB))
  have PL := Lib.hid (fun k (hk : k < n) w => qPlace_any X Y W H k w (by omega) (by omega) (by omega) (by omega) (by omega) (by omega) (by omega))
  have HA := Lib.hid (fun k w => mixed_any seed (X + ((k % W : Nat) : Int)) (Y + ((k / W : Nat) : Int)) 2 w)
  have EQ := Lib.hid (fun b b' cap cap' w hc hc' => equalI_any b b' cap cap' n (shwN seed most X Y W) hn2 w hc hc')
  have q0 : ¬ (most + 1 = 0) := by omega
  have q1 : IntKind.i64.wrap (most + 1) = most + 1 := IntWalk.i64_in _ (by omega)
  have HN1 := Lib.hid (show 1 ≤ n by rw [hn]; exact Nat.mul_pos (by omega) (by omega))
  have SV := Lib.hid (fun k => shw_val2 (seed := seed) (X := X) (Y := Y) (W := W) (k := k) m0 m1)
  have hinfo : (Tryd.prog.info? 3).map (fun i => (i.zero, i.size, i.bytes)) = some (some (.int .i64 0), 1, 8) := by kernel_rfl
  obtain ⟨i0, hi, hz0, hz1, hz2⟩ := info_parts hinfo
  clear h0 b1 b2 b3 b4 b5 b6 b7 b8 b9 hn hD hinfo
  go_enter Tryd.func11, Tryd.ntmps11
  go_wp2_with (first | (go_at_call 61; refine (SH.out _).mono ?_; rintro e w2 ⟨rb, rfl, hi2, hr2, hb2⟩; have HI2 := Lib.hid hi2; have HF2 := Lib.hid (blkStay (b := w.heap.size) (o := regObj X Y W H) (by ((simp only [heap_alloc_get, heap_size_alloc, if_true]) <;> ((repeat' split) <;> first | rfl | omega))) hb2); have HB2 : Below w.heap.size w w2 := Below.trans (by repeat (first | exact Below.refl _ _ | refine Below.alloc ?_ (by first | omega | (simp; done) | (simp; omega)) _ | refine Below.setCell ?_ (by first | omega | (simp; done) | (simp; omega)) _ | refine Below.drew ?_)) (Below.mono hb2 (by first | omega | (simp; done) | (simp; omega))); have HR2 := Lib.hid hr2; obtain ⟨cF, fF, zF⟩ := blkC HF2.out; clear hb2 hi2 hr2) | (go_at_call 62; refine (RE.out _).mono ?_; rintro e w' ⟨rfl, rfl⟩) | (go_at_call 46; refine (WI.out _).mono ?_; rintro e w' ⟨rfl, rfl⟩) | (go_at_call 19; refine (WH.out _).mono ?_; rintro e w' ⟨rfl, rfl⟩) | (go_at_call 16; refine (FI.out (w2.heap.size + 1) _ (by ((simp only [heap_alloc_get, heap_size_alloc, if_true]) <;> ((repeat' split) <;> first | rfl | omega)))).mono ?_; rintro e w' ⟨rfl, rfl⟩) | (go_at_call 20; refine (FL.out _ (by repeat (first | exact Below.refl _ _ | refine Below.alloc ?_ (by first | omega | (simp; done) | (simp; omega)) _ | refine Below.setCell ?_ (by first | omega | (simp; done) | (simp; omega)) _ | refine Below.drew ?_ | refine Below.trans ?_ (Below.mono HB2 (by first | omega | (simp; done) | (simp; omega)))))).mono ?_; rintro e w3 ⟨rfl, hb3⟩; have h23 : Below w2.heap.size w2 w3 := Below.trans (by repeat (first | exact Below.refl _ _ | refine Below.alloc ?_ (by first | omega | (simp; done) | (simp; omega)) _ | refine Below.setCell ?_ (by first | omega | (simp; done) | (simp; omega)) _ | refine Below.drew ?_)) (Below.mono hb3 (by first | omega | (simp; done) | (simp; omega))); have HB3 : Below w.heap.size w w3 := HB2.trans (h23.mono HB2.size); have HI3 := Lib.hid (HI2.out.congr (h23.block _ HI2.out.lt)); have HF3 := Lib.hid (blkStay HF2.out h23); clear hb3 h23 cF fF zF; obtain ⟨cF, fF, zF⟩ := blkC HF3.out))
  have ST := Lib.hid (show LawAt w X Y W H rb w3.heap.size n (shwN seed most X Y W) 0 (.slice none 0 0) w3 from ⟨HI3.out, World.ownsRow_nil _ _ _ _, HF3.out, HB3⟩)
  have RB := Lib.hid HI3.out.lt
  have WB := Lib.hid (blkC HF3.out).2.2
  clear cF fF zF HI3 HF3 HB3 HI2 HF2 HB2 HR2
  obtain ⟨base, hbase⟩ : ∃ base, base = w3.heap.size := ⟨_, rfl⟩
  have BS := Lib.hid (show base ≤ w3.heap.size by omega)
  rw [← hbase] at ST RB WB
  clear hbase
  go_loopw [10, 51] (fun s10 s51 wr => ∃ (k : Nat) (ov : Value), k ≤ n ∧ s51 = .int .i64 k ∧ ov = s10 ∧ LawAt w X Y W H rb base n (shwN seed most X Y W) k ov wr ∧ base ≤ wr.heap.size) (fun _ s51 _ => n - (intOf s51).toNat)
  case atStart => exact ⟨0, _, Nat.zero_le _, rfl, rfl, ST.out, BS.out⟩
  case round =>
    obtain ⟨k, ov, hk, rfl, rfl, ⟨h1, h2, h3, h4⟩, h5⟩ := hrel
    by_cases hlt : k < n
    · obtain ⟨cF, fF, zF⟩ := blkC h3
      have PK := Lib.hid (PL.out k hlt)
      have k1 : (k : Int) < (n : Int) := by omega
      have H1 := Lib.hid h1
      have H2 := Lib.hid h2
      have H3 := Lib.hid h3
      have H4 := Lib.hid h4
      have H5 := Lib.hid h5
      clear h1 h2 h3 h4 h5
      go_wp2_with (first | (go_at_call 38; refine (PK.out _).mono ?_; rintro e w4 ⟨rfl, hb4⟩; have HB4 := Lib.hid hb4; clear hb4 cF fF zF) | (go_at_call 63; refine (HA.out k _).mono ?_; rintro e w5 ⟨rfl, hb5⟩; have HB5 := Lib.hid (HB4.out.trans (hb5.mono HB4.out.size)); clear hb5; have OW5 := Lib.hid (ownsRow_below H2.out HB5.out)) | (at_builtin; go_loud (rw [SV.out k]; refine wpList_append_lies _ rfl _ _ _ rfl base 3 i0 _ 1 8 Tryd.underlying40 hi hz0 hz1 hz2 rfl (by omega) ov k (cellsL (shwN seed most X Y W) k) (by rfl) (OW5.out.alloc _) ⟨w5.heap.size, 0, none⟩ 1 1 [.int .i64 ((shwN seed most X Y W k : Nat) : Int)] (by rfl) (by rfl) (World.news_of_block (cs := #[.int .i64 ((shwN seed most X Y W k : Nat) : Int)]) (t := 3) (fr := (0, 0)) (heap_alloc_new w5 _)) (by simp [Value.oneCell']) (by omega) (by unfold maxLen; omega) (by omega) (by have := HB5.out.size; have := H5.out; simp; omega) (w5.heap.size + 1) (by simp) ?_; intro g' cap' w6 hown6 hgrow hat hlt6; have HN6 := Lib.hid (LawAt.push (H1.out.congr (HB5.out.block _ H1.out.lt)) OW5.out (blkStay H3.out HB5.out) (H4.out.trans (HB5.out.mono H4.out.size)) RB.out WB.out (Nat.le_trans H5.out HB5.out.size) hgrow hown6); clear hown6 hgrow hat hlt6)))
      go_roundw
      case rel => exact ⟨k + 1, _, by omega, by go_num, rfl, HN6.out⟩
      case measure => simp [intOf]; omega
    · have hkn : k = n := by omega
      subst hkn
      obtain ⟨g, gcap, rfl, _, _⟩ := h2.form HN1.out
      have HI := Lib.hid h1
      have HO := Lib.hid h2
      have H4 := Lib.hid h4
      clear h1 h2 h3 h4 h5
      go_wp2_with (go_at_call 28; refine (EQ.out _ _ _ _ _ (fun i hi => (HI.out.cell hi).1) (fun i hi => by rw [HO.out.cellAt i (by omega), cellsL_get hi])).mono ?_; rintro e w7 ⟨rfl, hb7⟩; have B7 := Lib.hid (H4.out.trans (hb7.mono H4.out.size)); clear hb7)
      go_ret
      exact ⟨rfl, B7.out⟩

theorem showersLaw_any (X Y W H seed most : Int) (w : World) (hD : DirsAt w) :
    Calls Tryd.prog 11 #[reg X Y W H, .int .u32 seed, .int .i64 most] w fun e w' => e = .returned (.bool true) ∧ Below w.heap.size w w' := by
  by_cases h : shwE X Y W H most = 0
  · have h0 : checkR X Y W H = 0 := by
      unfold shwE firstE at h
      by_cases q : checkR X Y W H = 0
      · exact q
      · rw [if_neg q] at h; exact h
    have hw : withinB most 0 1048576 = true := by
      unfold shwE firstE whenE at h
      rw [if_pos h0] at h
      cases q : withinB most 0 1048576 with
      | true => rfl
      | false => rw [q] at h; cases h
    obtain ⟨m0, m1⟩ := withinB_iff.1 hw
    obtain ⟨b1, b2, b3, _⟩ := checkR_zero h0
    obtain ⟨W', rfl⟩ : ∃ W' : Nat, W = W' := ⟨W.toNat, by omega⟩
    obtain ⟨H', rfl⟩ : ∃ H' : Nat, H = H' := ⟨H.toNat, by omega⟩
    exact showersLaw_ok seed most X Y W' H' _ w hD h0 rfl m0 m1
  · exact showersLaw_no X Y W H seed most _ w hD rfl h
end Go.Proofs.YtnbpapbpiknnnabDoor
