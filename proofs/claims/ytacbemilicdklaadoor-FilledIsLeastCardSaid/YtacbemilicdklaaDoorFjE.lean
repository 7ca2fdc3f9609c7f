/- FilledIsLeast, for every field and every slope, the list of directions being what the program's text lays: the tied card. No condition. -/
import Derived.Test.YtacbemilicdklaaDoorFjD
import Derived.ProofKit
import Derived.OpenShut
import Derived.Lib.SmallJoins
import Derived.Laws.Cover2
import Derived.Deep.Slices
import Derived.Test.YtacbemilicdklaaDoorTie
import Derived.Test.YtacbemilicdklaaDoorCards
import Derived.LaidMore
import Derived.LaidLaws
import Derived.LaidHandle
import Derived.Stop.Joined
import Derived.SevenTiedAt

/- FilledIsLeast, walked: where the field and the slope are right. -/
namespace Go.Proofs.YtacbemilicdklaaDoor
open Go.RowKit Fl Go.Shelf
set_option linter.unusedVariables false

theorem hgtB_of {x : Nat} {a : Int} (h : vS x = some a) : hgtB x = (decide (-vTop ≤ a) && decide (a ≤ vTop)) := by unfold hgtB; rw [h]
/-- Values that agree are heights alike. -/
theorem bel_fld {n : Nat} {s c : Nat → Nat} (h : ∀ k, k < n → OkW 65536 (c k) ∧ vI (c k) = vI (s k)) (hs : ∀ k, k < n → OkW 65536 (s k)) : fldE n c = if allB n (fun i => hgtB (s i)) = true then 0 else 3 := by
  have e : allB n (fun i => hgtB (c i)) = allB n (fun i => hgtB (s i)) := by
    rw [Bool.eq_iff_iff, allB_iff, allB_iff]
    constructor
    · intro q i hi; have := q i hi; rw [hgtB_of (hs i hi).val]; rw [hgtB_of (h i hi).1.val, (h i hi).2] at this; exact this
    · intro q i hi; have := q i hi; rw [hgtB_of (h i hi).1.val, (h i hi).2]; rw [hgtB_of (hs i hi).val] at this; exact this
  have f : allB n (fun i => finB (c i)) = true := allB_iff.2 fun i hi => by unfold finB; rw [(h i hi).1.val]; rfl
  unfold fldE hgtE
  rw [if_pos f, e]
theorem bel_eq {n : Nat} {s c : Nat → Nat} (h : ∀ k, k < n → OkW 65536 (c k) ∧ vI (c k) = vI (s k)) (hs : ∀ k, k < n → OkW 65536 (s k)) : ∀ i, i < n → ∃ x, vS (s i) = some x ∧ vS (c i) = some x :=
  fun i hi => ⟨vI (s i), (hs i hi).val, by rw [← (h i hi).2]; exact (h i hi).1.val⟩

theorem wi_slope {sl : Nat} (h : wiE sl 0 1149239296 = 0) : SlW sl ∧ (FloatKind.f32.format.order sl 0 == some .lt) = false ∧ (FloatKind.f32.format.order sl 1149239296 == some .gt) = false ∧ hgtB sl = true := by
  have v1 : vS 1149239296 = some (1024 * (one : Int)) := by
    have h : Ieee.single.read 1149239296 = .number false 8388608 (-13) := by decide
    obtain ⟨J, hJ⟩ : ∃ J : Nat, J = 1074 := ⟨_, rfl⟩
    rw [vS_lit (t := 1024) (k := 13) (j := J) h (by decide) (by rw [hJ]; decide), one_pow hJ]; simp
  unfold wiE at h
  cases hf : finB sl with
  | false => rw [if_pos hf] at h; cases h
  | true =>
    rw [if_neg (by rw [hf]; simp)] at h
    split at h
    · cases h
    · rename_i q
      obtain ⟨a, ha⟩ := Option.isSome_iff_exists.1 (show (vS sl).isSome = true from hf)
      have l := lss_val ha vS_zero
      have g := gtr_val ha v1
      rw [← f32f] at l g
      have l' : (FloatKind.f32.format.order sl 0 == some .lt) = false := by
        cases c : (FloatKind.f32.format.order sl 0 == some .lt) with
        | false => rfl
        | true => exact absurd (.inl c) q
      have g' : (FloatKind.f32.format.order sl 1149239296 == some .gt) = false := by
        cases c : (FloatKind.f32.format.order sl 1149239296 == some .gt) with
        | false => rfl
        | true => exact absurd (.inr c) q
      have l2 : 0 ≤ a := by rw [l'] at l; have := of_decide_eq_false l.symm; omega
      have g2 : a ≤ 1024 * (one : Int) := by rw [g'] at g; have := of_decide_eq_false g.symm; omega
      have on := Int.natCast_nonneg one
      exact ⟨⟨a, ha, l2, g2⟩, l', g', by rw [hgtB_of ha, top_one]; simp; omega⟩

set_option maxHeartbeats 4000000 in
set_option maxRecDepth 100000 in
theorem filLaw_ok (X Y : Int) (W H n b off cap : Nat) (v : Nat → Nat) (sl : Nat) (w : World) (h0 : checkR X Y W H = 0) (hn : n = W * H) (hc : FlAt w b off n v) (hh : allB n (fun i => hgtB (v i)) = true) (hw : wiE sl 0 1149239296 = 0) (hD : DirsAt w) :
    Calls Tryd.prog 3 #[fldV X Y W H (.slice (some ⟨b, off, none⟩) n cap), .float .f32 sl] w fun e w' => e = .returned (.bool true) ∧ Below w.heap.size w w' := by
  obtain ⟨b1, b2, b3, b4, b5, _⟩ := checkR_zero h0
  have en : ((W : Int) * (H : Int)) = (n : Int) := by rw [hn]; simp
  have hn2 : n ≤ 65536 := by omega
  have hn1 : 1 ≤ n := by rw [hn]; exact Nat.mul_pos (by omega) (by omega)
  have zb : b < w.heap.size := World.block_lt_of_cell? w _ (hc 0 hn1)
  obtain ⟨hs, hp, hq, hg⟩ := wi_slope hw
  have FD := Lib.hid (fun W' (hB : Below w.heap.size w W') => filled_any X Y W H n b off cap v sl W' h0 hn (flAt_congr hc (hB.block _ zb)) hh hs hw (hD.stay hB))
  have ck : fldChk X Y W H n 0 = 0 := by unfold fldChk; rw [if_neg (by rw [h0]; simp), if_neg (by rw [en]; simp)]
  have FE := Lib.hid (fun W' (hB : Below w.heap.size w W') => qFieldError_any X Y W H (some ⟨b, off, none⟩) n cap 0 W' (by have q := ((slE_row (cap := cap) (by omega) (by omega) hc).stay hB).2; rw [fldE_zero.2 hh] at q; exact q))
  rw [ck] at FE
  have NE := Lib.hid (fun p w (h : w.heap[p]? = some (.cells #[.float .f32 sl] 27)) => qNumberError_row p 0 1 1 (fun _ => sl) (by omega) w (flAt_h1 h))
  rw [fldE_one_ok hg] at NE
  have WH := Lib.hid (fun c w => when_any c 3 w)
  have FI := Lib.hid (fun pp w (h : w.heap[pp]? = some (.cells #[.int .i64 0, .int .i64 0, .int .i64 (whenE false 3)] 28)) => show Calls Tryd.prog 16 #[.slice (some ⟨pp, 0, none⟩) 3 3] w fun e w' => e = .returned (.int .i64 0) ∧ w = w' from first3_any 0 0 0 pp w h)
  have FL := Lib.hid (fun W' (hB : Below w.heap.size w W') => flows_any W' (hD.stay hB))
  have EM := Lib.hid (fun w => empty_no w)
  have SM := Lib.hid (fun w => small_any X Y W H (some ⟨b, off, none⟩) n cap w)
  have FO := Lib.hid (fun s (S : Spills (gndOf W H v sl) s) W' (hB : Below w.heap.size w W') => filledOf_any X Y W H n b off cap v sl s W' h0 hn (flAt_congr hc (hB.block _ zb)) hh hs S)
  have NV := Lib.hid (fun sb c w hc => qNumberError_row sb 0 n n c (by omega) w hc)
  have EQ := Lib.hid (fun b' sb cap' s c w hc hd he => equalF_any b' sb 0 0 cap' n n s c hn2 w hc hd he)
  have GN := Lib.hid (show (gndOf W H v sl).n = n from hn.symm)
  clear h0 hn hc hh hw hD b1 b2 b3 b4 b5 en hn2 zb hs hg ck
  have HN1 := Lib.hid hn1
  clear hn1
  by_cases h200 : n ≤ 200
  · rw [decide_eq_true h200] at SM
    clear h200
    go_enter Tryd.func3, Tryd.ntmps3
    go_wp2_with fail
    refine (FD.out _ (by repeat (first | exact Below.refl _ _ | refine Below.alloc ?_ (by first | omega | (simp; done) | (simp; omega)) _ | refine Below.setCell ?_ (by first | omega | (simp; done) | (simp; omega)) _ | refine Below.drew ?_))).mono ?_
    rintro e w2 ⟨s, S, ⟨hall, b', cap', rfl, hb', hlt', hrow, hb2⟩ | ⟨hall, rfl, hb2⟩⟩
    · have HF2 := Lib.hid (blkStay (b := w.heap.size) (o := fldO X Y W H (.slice (some ⟨b, off, none⟩) n cap)) (by (first | (rw [heap_alloc_get, if_pos rfl]; done) | ((simp only [heap_alloc_get, heap_size_alloc, if_true]) <;> ((repeat' split) <;> first | rfl | omega)))) hb2)
      have HB2 : Below w.heap.size w w2 := Below.trans (by repeat (first | exact Below.refl _ _ | refine Below.alloc ?_ (by first | omega | (simp; done) | (simp; omega)) _ | refine Below.setCell ?_ (by first | omega | (simp; done) | (simp; omega)) _ | refine Below.drew ?_)) (Below.mono hb2 (by first | omega | (simp; done) | (simp; omega)))
      obtain ⟨cF, fF, zF⟩ := blkC HF2.out
      have SP := Lib.hid S
      have AL := Lib.hid hall
      have RW := Lib.hid hrow
      have ZB := Lib.hid hlt'
      clear S hall hrow hlt' hb' hb2
      go_wp2_with (first | (go_at_call 17; refine (FE.out _ (HB2.alloc HB2.size _)).mono ?_; rintro e w3 ⟨rfl, hb3⟩; have h23 : Below w2.heap.size w2 w3 := Below.trans (by repeat (first | exact Below.refl _ _ | refine Below.alloc ?_ (by first | omega | (simp; done) | (simp; omega)) _ | refine Below.setCell ?_ (by first | omega | (simp; done) | (simp; omega)) _ | refine Below.drew ?_)) (Below.mono hb3 (by simp)); have HF3 := Lib.hid (blkStay HF2.out h23); have HG3 := Lib.hid (blkStay (b := w2.heap.size) (o := fldO X Y W H (.slice (some ⟨b', 0, none⟩) n cap')) (by (first | (rw [heap_alloc_get, if_pos rfl]; done) | ((simp only [heap_alloc_get, heap_size_alloc, if_true]) <;> ((repeat' split) <;> first | rfl | omega)))) hb3); have RW3 := Lib.hid (flAt_congr RW.out (h23.block _ ZB.out)); have ZB3 := Lib.hid (Nat.lt_of_lt_of_le ZB.out h23.size); have HB3 := HB2.trans (h23.mono HB2.size); clear hb3 h23 cF fF zF; obtain ⟨cF, fF, zF⟩ := blkC HF3.out; obtain ⟨cG, fG, zG⟩ := blkC HG3.out) | (go_at_call 18; (with_reducible refine (NE.out _ _ ?hg).mono ?_); (case hg => (first | (rw [heap_alloc_get, if_pos rfl]; done) | ((simp only [heap_alloc_get, heap_size_alloc, if_true]) <;> ((repeat' split) <;> first | rfl | omega)))); rintro e w' ⟨rfl, rfl⟩) | (go_at_call 19; refine (WH.out _ _).mono ?_; rintro e w' ⟨rfl, rfl⟩) | (go_at_call 16; refine (FI.out _ _ (by (first | (rw [heap_alloc_get, if_pos rfl]; done) | ((simp only [heap_alloc_get, heap_size_alloc, if_true]) <;> ((repeat' split) <;> first | rfl | omega))))).mono ?_; rintro e w' ⟨rfl, rfl⟩) | (go_at_call 20; refine (FL.out _ ((HB3.alloc HB3.size _).alloc (by have := HB3.size; simp; omega) _)).mono ?_; rintro e w5 ⟨rfl, hb5⟩; have h35 : Below w3.heap.size w3 w5 := Below.trans (by repeat (first | exact Below.refl _ _ | refine Below.alloc ?_ (by first | omega | (simp; done) | (simp; omega)) _ | refine Below.setCell ?_ (by first | omega | (simp; done) | (simp; omega)) _ | refine Below.drew ?_)) (Below.mono hb5 (by simp; omega)); clear cF fF zF cG fG zG; have HF5 := Lib.hid (blkStay HF3.out h35); have HG5 := Lib.hid (blkStay HG3.out h35); have RW5 := Lib.hid (flAt_congr RW3.out (h35.block _ ZB3.out)); have ZB5 := Lib.hid (Nat.lt_of_lt_of_le ZB3.out h35.size); obtain ⟨cF, fF, zF⟩ := blkC HF5.out; obtain ⟨cG, fG, zG⟩ := blkC HG5.out; have HB5 := HB3.trans (h35.mono HB3.size); clear hb5 h35) | (go_at_call 22; refine (SM.out _).mono ?_; rintro e w6 ⟨rfl, hb6⟩; clear cF fF zF cG fG zG; have HF6 := Lib.hid (blkStay HF5.out hb6); have HG6 := Lib.hid (blkStay HG5.out hb6); have RW6 := Lib.hid (flAt_congr RW5.out (hb6.block _ ZB5.out)); have ZB6 := Lib.hid (Nat.lt_of_lt_of_le ZB5.out hb6.size); obtain ⟨cF, fF, zF⟩ := blkC HF6.out; obtain ⟨cG, fG, zG⟩ := blkC HG6.out; have HB6 := HB5.trans (hb6.mono HB5.size); clear hb6) | (go_at_call 23; refine (FO.out s SP.out _ HB6).mono ?_; rintro e w7 ⟨sb, c, rfl, z1, z2, c7, v7, hb7⟩; clear cF fF zF cG fG zG; have HF7 := Lib.hid (blkStay HF6.out hb7); have HG7 := Lib.hid (blkStay HG6.out hb7); have RW7 := Lib.hid (flAt_congr RW6.out (hb7.block _ ZB6.out)); obtain ⟨cF, fF, zF⟩ := blkC HF7.out; obtain ⟨cG, fG, zG⟩ := blkC HG7.out; have HB7 := HB6.trans (hb7.mono HB6.size); have C7 := Lib.hid c7; have NC := Lib.hid (NV.out sb c w7 c7); rw [bel_fld v7 (fun k hk => SP.out.fin k (by rw [GN.out]; exact hk)), if_pos AL.out] at NC; have QC := Lib.hid (bel_eq v7 (fun k hk => SP.out.fin k (by rw [GN.out]; exact hk))); clear hb7 z1 z2 c7 v7) | (go_at_call 18; refine NC.out.mono ?_; rintro e w' ⟨rfl, rfl⟩) | (go_at_call 24; refine (EQ.out _ _ _ s c _ RW7.out C7.out QC.out).mono ?_; rintro e w8 ⟨rfl, hb8⟩; have HB8 := HB7.trans (hb8.mono HB7.size); clear hb8))
      go_ret
      exact ⟨rfl, HB8⟩
    · have HF2 := Lib.hid (blkStay (b := w.heap.size) (o := fldO X Y W H (.slice (some ⟨b, off, none⟩) n cap)) (by (first | (rw [heap_alloc_get, if_pos rfl]; done) | ((simp only [heap_alloc_get, heap_size_alloc, if_true]) <;> ((repeat' split) <;> first | rfl | omega)))) hb2)
      have HB2 : Below w.heap.size w w2 := Below.trans (by repeat (first | exact Below.refl _ _ | refine Below.alloc ?_ (by first | omega | (simp; done) | (simp; omega)) _ | refine Below.setCell ?_ (by first | omega | (simp; done) | (simp; omega)) _ | refine Below.drew ?_)) (Below.mono hb2 (by first | omega | (simp; done) | (simp; omega)))
      obtain ⟨cF, fF, zF⟩ := blkC HF2.out
      have SP := Lib.hid S
      have AL := Lib.hid hall
      clear S hall hb2
      go_wp2_with (first | (go_at_call 17; refine (FE.out _ (HB2.alloc HB2.size _)).mono ?_; rintro e w3 ⟨rfl, hb3⟩; have h23 : Below w2.heap.size w2 w3 := Below.trans (by repeat (first | exact Below.refl _ _ | refine Below.alloc ?_ (by first | omega | (simp; done) | (simp; omega)) _ | refine Below.setCell ?_ (by first | omega | (simp; done) | (simp; omega)) _ | refine Below.drew ?_)) (Below.mono hb3 (by simp)); have HF3 := Lib.hid (blkStay HF2.out h23); have HG3 := Lib.hid (blkStay (b := w2.heap.size) (o := fldO 0 0 0 0 (.slice none 0 0)) (by (first | (rw [heap_alloc_get, if_pos rfl]; done) | ((simp only [heap_alloc_get, heap_size_alloc, if_true]) <;> ((repeat' split) <;> first | rfl | omega)))) hb3); have HB3 := HB2.trans (h23.mono HB2.size); clear hb3 h23 cF fF zF; obtain ⟨cF, fF, zF⟩ := blkC HF3.out; obtain ⟨cG, fG, zG⟩ := blkC HG3.out) | (go_at_call 18; (with_reducible refine (NE.out _ _ ?hg).mono ?_); (case hg => (first | (rw [heap_alloc_get, if_pos rfl]; done) | ((simp only [heap_alloc_get, heap_size_alloc, if_true]) <;> ((repeat' split) <;> first | rfl | omega)))); rintro e w' ⟨rfl, rfl⟩) | (go_at_call 19; refine (WH.out _ _).mono ?_; rintro e w' ⟨rfl, rfl⟩) | (go_at_call 16; refine (FI.out _ _ (by (first | (rw [heap_alloc_get, if_pos rfl]; done) | ((simp only [heap_alloc_get, heap_size_alloc, if_true]) <;> ((repeat' split) <;> first | rfl | omega))))).mono ?_; rintro e w' ⟨rfl, rfl⟩) | (go_at_call 20; refine (FL.out _ ((HB3.alloc HB3.size _).alloc (by have := HB3.size; simp; omega) _)).mono ?_; rintro e w5 ⟨rfl, hb5⟩; have h35 : Below w3.heap.size w3 w5 := Below.trans (by repeat (first | exact Below.refl _ _ | refine Below.alloc ?_ (by first | omega | (simp; done) | (simp; omega)) _ | refine Below.setCell ?_ (by first | omega | (simp; done) | (simp; omega)) _ | refine Below.drew ?_)) (Below.mono hb5 (by simp; omega)); clear cF fF zF cG fG zG; have HF5 := Lib.hid (blkStay HF3.out h35); have HG5 := Lib.hid (blkStay HG3.out h35); obtain ⟨cF, fF, zF⟩ := blkC HF5.out; obtain ⟨cG, fG, zG⟩ := blkC HG5.out; have HB5 := HB3.trans (h35.mono HB3.size); clear hb5 h35) | (go_at_call 22; refine (SM.out _).mono ?_; rintro e w6 ⟨rfl, hb6⟩; clear cF fF zF cG fG zG; have HF6 := Lib.hid (blkStay HF5.out hb6); have HG6 := Lib.hid (blkStay HG5.out hb6); obtain ⟨cF, fF, zF⟩ := blkC HF6.out; obtain ⟨cG, fG, zG⟩ := blkC HG6.out; have HB6 := HB5.trans (hb6.mono HB5.size); clear hb6) | (go_at_call 23; refine (FO.out s SP.out _ HB6).mono ?_; rintro e w7 ⟨sb, c, rfl, z1, z2, c7, v7, hb7⟩; clear cF fF zF cG fG zG; have HG7 := Lib.hid (blkStay HG6.out hb7); obtain ⟨cG, fG, zG⟩ := blkC HG7.out; have HB7 := HB6.trans (hb7.mono HB6.size); have NC := Lib.hid (NV.out sb c w7 c7); rw [bel_fld v7 (fun k hk => SP.out.fin k (by rw [GN.out]; exact hk)), AL.out, if_neg (by simp)] at NC; clear hb7 z1 z2 c7 v7) | (go_at_call 18; refine NC.out.mono ?_; rintro e w' ⟨rfl, rfl⟩) | (go_at_call 21; refine (EM.out _).mono ?_; rintro e w8 ⟨rfl, hb8⟩; have HB8 := HB7.trans (hb8.mono HB7.size); clear hb8))
      go_ret
      exact ⟨rfl, HB8⟩
  · rw [decide_eq_false h200] at SM
    clear h200
    go_enter Tryd.func3, Tryd.ntmps3
    go_wp2_with fail
    refine (FD.out _ (by repeat (first | exact Below.refl _ _ | refine Below.alloc ?_ (by first | omega | (simp; done) | (simp; omega)) _ | refine Below.setCell ?_ (by first | omega | (simp; done) | (simp; omega)) _ | refine Below.drew ?_))).mono ?_
    have key : ∀ e w2, FilledPost ((w.alloc (fldO X Y W H (.slice (some ⟨b, off, none⟩) n cap)))) X Y W H n v sl e w2 → ∃ (x y u hh : Int) (sa : Option Addr) (sl' sc : Nat) (k : Int), e = .returned (.tuple #[fldV x y u hh (.slice sa sl' sc), .int .i64 k]) ∧ Below (w.alloc (fldO X Y W H (.slice (some ⟨b, off, none⟩) n cap))).heap.size (w.alloc (fldO X Y W H (.slice (some ⟨b, off, none⟩) n cap))) w2 := by
      rintro e w2 ⟨s, S, ⟨hall, b', cap', rfl, hb', hlt', hrow, hb2⟩ | ⟨hall, rfl, hb2⟩⟩
      · exact ⟨_, _, _, _, _, _, _, _, rfl, hb2⟩
      · exact ⟨_, _, _, _, _, _, _, _, rfl, hb2⟩
    intro e w2 hpost
    obtain ⟨x, y, u, hh, sa, sl', sc, k, rfl, hb2⟩ := key e w2 hpost
    have HF2 := Lib.hid (blkStay (b := w.heap.size) (o := fldO X Y W H (.slice (some ⟨b, off, none⟩) n cap)) (by (first | (rw [heap_alloc_get, if_pos rfl]; done) | ((simp only [heap_alloc_get, heap_size_alloc, if_true]) <;> ((repeat' split) <;> first | rfl | omega)))) hb2)
    have HB2 : Below w.heap.size w w2 := Below.trans (by repeat (first | exact Below.refl _ _ | refine Below.alloc ?_ (by first | omega | (simp; done) | (simp; omega)) _ | refine Below.setCell ?_ (by first | omega | (simp; done) | (simp; omega)) _ | refine Below.drew ?_)) (Below.mono hb2 (by first | omega | (simp; done) | (simp; omega)))
    obtain ⟨cF, fF, zF⟩ := blkC HF2.out
    clear key hpost hb2
    go_wp2_with (first | (go_at_call 17; refine (FE.out _ (HB2.alloc HB2.size _)).mono ?_; rintro e w3 ⟨rfl, hb3⟩; have h23 : Below w2.heap.size w2 w3 := Below.trans (by repeat (first | exact Below.refl _ _ | refine Below.alloc ?_ (by first | omega | (simp; done) | (simp; omega)) _ | refine Below.setCell ?_ (by first | omega | (simp; done) | (simp; omega)) _ | refine Below.drew ?_)) (Below.mono hb3 (by simp)); have HF3 := Lib.hid (blkStay HF2.out h23); have HB3 := HB2.trans (h23.mono HB2.size); clear hb3 h23 cF fF zF; obtain ⟨cF, fF, zF⟩ := blkC HF3.out) | (go_at_call 18; (with_reducible refine (NE.out _ _ ?hg).mono ?_); (case hg => (first | (rw [heap_alloc_get, if_pos rfl]; done) | ((simp only [heap_alloc_get, heap_size_alloc, if_true]) <;> ((repeat' split) <;> first | rfl | omega)))); rintro e w' ⟨rfl, rfl⟩) | (go_at_call 19; refine (WH.out _ _).mono ?_; rintro e w' ⟨rfl, rfl⟩) | (go_at_call 16; refine (FI.out _ _ (by (first | (rw [heap_alloc_get, if_pos rfl]; done) | ((simp only [heap_alloc_get, heap_size_alloc, if_true]) <;> ((repeat' split) <;> first | rfl | omega))))).mono ?_; rintro e w' ⟨rfl, rfl⟩) | (go_at_call 20; refine (FL.out _ ((HB3.alloc HB3.size _).alloc (by have := HB3.size; simp; omega) _)).mono ?_; rintro e w5 ⟨rfl, hb5⟩; have h35 : Below w3.heap.size w3 w5 := Below.trans (by repeat (first | exact Below.refl _ _ | refine Below.alloc ?_ (by first | omega | (simp; done) | (simp; omega)) _ | refine Below.setCell ?_ (by first | omega | (simp; done) | (simp; omega)) _ | refine Below.drew ?_)) (Below.mono hb5 (by simp; omega)); clear cF fF zF; have HF5 := Lib.hid (blkStay HF3.out h35); obtain ⟨cF, fF, zF⟩ := blkC HF5.out; have HB5 := HB3.trans (h35.mono HB3.size); clear hb5 h35) | (go_at_call 22; refine (SM.out _).mono ?_; rintro e w6 ⟨rfl, hb6⟩; have HB6 := HB5.trans (hb6.mono HB5.size); clear hb6))
    go_ret
    exact ⟨rfl, HB6⟩

/-- FilledIsLeast, whatever comes in. -/
theorem filLaw_any {X Y W H : Int} {sv : Value} (sl : Nat) {w : World} (h : (∃ a cap, sv = .slice a 0 cap) ∨ ∃ b off len cap x, sv = .slice (some ⟨b, off, none⟩) len cap ∧ 0 < len ∧ len ≤ 9223372036854775807 ∧ FlAt w b off len x) (hD : DirsAt w) :
    Calls Tryd.prog 3 #[fldV X Y W H sv, .float .f32 sl] w fun e w' => e = .returned (.bool true) ∧ Below w.heap.size w w' := by
  rcases h with ⟨a, cap, rfl⟩ | ⟨b, off, len, cap, x, rfl, h1, h2, h3⟩
  · refine filLaw_no X Y W H a 0 cap 0 sl _ _ _ w (slE_nil w a cap) rfl ?_ rfl rfl hD
    unfold firstE fldChk
    by_cases q : checkR X Y W H ≠ 0
    · rw [if_pos q, if_neg q]; exact q
    · have q' : checkR X Y W H = 0 := by simpa using q
      obtain ⟨b1, b2, b3, b4, b5, _⟩ := checkR_zero q'
      have p := (mul_side b1 b2 b3 b4).1
      rw [if_neg q, if_pos (show ((0 : Nat) : Int) ≠ W * H by omega), if_neg (by decide)]
      decide
  · by_cases q : firstE (fldChk X Y W H len (fldE len x)) (wiE sl 0 1149239296) = 0
    · obtain ⟨q1, q2⟩ := firstE_zero q
      unfold fldChk at q1
      by_cases r1 : checkR X Y W H ≠ 0
      · rw [if_pos r1] at q1; exact absurd q1 r1
      · rw [if_neg r1] at q1
        by_cases r2 : (len : Int) ≠ W * H
        · rw [if_pos r2] at q1; cases q1
        · rw [if_neg r2] at q1
          have r1' : checkR X Y W H = 0 := by simpa using r1
          have r2' : (len : Int) = W * H := by simpa using r2
          obtain ⟨b1, b2, b3, b4, b5, _⟩ := checkR_zero r1'
          obtain ⟨W', rfl⟩ : ∃ W' : Nat, W = W' := ⟨W.toNat, by omega⟩
          obtain ⟨H', rfl⟩ : ∃ H' : Nat, H = H' := ⟨H.toNat, by omega⟩
          exact filLaw_ok X Y W' H' len b off cap x sl w r1' (by have : ((W' * H' : Nat) : Int) = W' * H' := by simp
                                                                 omega) h3 (fldE_zero.1 q1) q2 hD
    · exact filLaw_no X Y W H _ len cap (fldE len x) sl _ _ _ w (slE_row h1 h2 h3) rfl q rfl rfl hD
end Go.Proofs.YtacbemilicdklaaDoor

/- A field that came in, opened: four integers, and a slice of singles that is empty or known cell by cell. -/
namespace Go.Proofs.YtacbemilicdklaaDoor
open Go.ChangeShapes Go.WideShapes Go.ChangeAt Go.RowKit Go.Joins Fl

section
variable {H : Type} {enc : TypeId × Value → H} {w : World} {base : Nat} {spare : Nat → Bool} {held : Bool}

theorem trod_f32 {P : Program} {t : TypeId} {fuel : Nat} {v : Value} {y : DataW H × List MemPlace} (ht : P.underlying t = some (.float .f32)) (h : DataW.trod enc P w base spare held fuel t [v] = some y) : ∃ b, v = .float .f32 b ∧ b < 4294967296 := by
  cases fuel with
  | zero => simp [DataW.trod] at h
  | succ n =>
    unfold DataW.trod at h
    rw [ht] at h
    cases v <;> simp at h
    rename_i k b
    obtain ⟨⟨rfl, hw⟩, _⟩ := h
    exact ⟨b, rfl, by simpa [Lit.wf] using hw⟩

theorem array5 {α : Type} {cs : Array α} (h : cs.size = 5) : ∃ c0 c1 c2 c3 c4, cs = #[c0, c1, c2, c3, c4] := by
  obtain ⟨l⟩ := cs
  match l, h with
  | [c0, c1, c2, c3, c4], _ => exact ⟨c0, c1, c2, c3, c4, rfl⟩

theorem flAt_congr' {w w' : World} {b off n : Nat} {f : Nat → Nat} (h : FlAt w b off n f) (e : w'.heap[b]? = w.heap[b]?) : FlAt w' b off n f := fun i hi => by
  rw [← h i hi]; exact World.cell?_of_block (w := w) (a := ⟨b, off + i, none⟩) e

/-- What a slice of singles is: empty, or known cell by cell. -/
def SlF (w : World) (s : Value) : Prop :=
  (∃ a cap, s = .slice a 0 cap) ∨ ∃ b off len cap x, s = .slice (some ⟨b, off, none⟩) len cap ∧ 0 < len ∧ len ≤ 9223372036854775807 ∧ FlAt w b off len x ∧ wf32 len x

theorem open_singles {t e : TypeId} {fuel : Nat} {cs : List Value} {y : DataW H × List MemPlace} (ht : Tryd.prog.underlying t = some (.slice e)) (he : Tryd.prog.underlying e = some (.float .f32)) (hc : Tryd.prog.cellsOf e = 1)
    (h : DataW.trod enc Tryd.prog w base spare held fuel t cs = some y) : ∃ s, cs = [s] ∧ SlF w s := by
  rcases Go.Deep.open_slice1 ht hc h with ⟨rfl, _⟩ | ⟨a, len, cap, m, n, V, D, Pl, rfl, hb, hl, hm, hmm, _, hx⟩
  · exact ⟨_, rfl, .inl ⟨none, 0, rfl⟩⟩
  · refine ⟨_, rfl, ?_⟩
    rcases Nat.eq_zero_or_pos len with z | z
    · subst z; exact .inl ⟨_, _, rfl⟩
    · have hlm : len ≤ m := by rw [hmm]; split <;> omega
      have h0 := (hx 0 (by omega)).1
      obtain ⟨b, off, spot⟩ := a
      have hspot : spot = none := by simpa [Addr.add] using World.cell?_spot h0
      subst hspot
      have hv : ∀ i, i < len → ∃ x, V i = .float .f32 x ∧ x < 4294967296 := fun i hi => trod_f32 he (hx i (by omega)).2
      refine .inr ⟨b, off, len, cap, fun i => match V i with | .float _ x => x | _ => 0, rfl, z, ?_, fun i hi => ?_, fun i hi => ?_⟩
      · exact Nat.le_trans hl (Nat.le_trans hm (by decide))
      · have h1 := (hx i (by omega)).1
        obtain ⟨x, e1, _⟩ := hv i hi
        rw [← Go.WideShapes.add_plain, h1]
        simp only [e1]
      · obtain ⟨x, e1, e2⟩ := hv i hi
        simp only [e1]; exact e2

theorem cellsF : Tryd.prog.cellsOf 26 = 5 := by kernel_rfl
theorem cellsR : Tryd.prog.cellsOf 23 = 4 := by kernel_rfl
theorem cellsS : Tryd.prog.cellsOf 24 = 1 := by kernel_rfl
theorem cells1 : Tryd.prog.cellsOf 27 = 1 := by kernel_rfl
theorem cellsI : Tryd.prog.cellsOf 3 = 1 := by kernel_rfl

set_option maxRecDepth 100000 in
theorem open_field {r : Reach} {b0 : Nat} {v : Value} {d : DataW H} {p : List MemPlace} (hv : Value.okWide Tryd.prog w r b0 26 v) (h : DataW.Trod enc Tryd.prog w base spare held 26 v d p) :
    ∃ X Y W' H' : Int, ∃ s, v = fldV X Y W' H' s ∧ SlF w s := by
  obtain ⟨cs, rfl, hsz⟩ := okWide_struct Tryd.underlying26 hv
  obtain ⟨c0, c1, c2, c3, c4, rfl⟩ := array5 (hsz.trans cellsF)
  obtain ⟨fuel, hf⟩ := h
  obtain ⟨y0, y1, n, _, _, h0, h1⟩ := trod_struct2 Tryd.underlying26 hf
  rw [cellsR] at h0
  rw [cellsS] at h1
  obtain ⟨s, e4, hs⟩ := open_singles Tryd.underlying24 Tryd.underlying27 cells1 h1
  obtain ⟨z0, z1, z2, z3, n2, _, _, g0, g1, g2, g3⟩ := trod_struct4 Tryd.underlying23 h0
  rw [cellsI] at g0 g1 g2 g3
  obtain ⟨x0, e0, _, _⟩ := DataW.trod_int Tryd.underlying3 g0
  obtain ⟨x1, e1, _, _⟩ := DataW.trod_int Tryd.underlying3 g1
  obtain ⟨x2, e2, _, _⟩ := DataW.trod_int Tryd.underlying3 g2
  obtain ⟨x3, e3, _, _⟩ := DataW.trod_int Tryd.underlying3 g3
  simp [Value.cells] at e0 e1 e2 e3 e4
  subst e0 e1 e2 e3 e4
  exact ⟨x0, x1, x2, x3, _, rfl, hs⟩
end

theorem SlF.stay {w w' : World} {s : Value} (h : SlF w s) (hb : Below w.heap.size w w') : SlF w' s := by
  rcases h with h | ⟨b, off, len, cap, x, rfl, h1, h2, h3, h4⟩
  · exact .inl h
  · exact .inr ⟨b, off, len, cap, x, rfl, h1, h2, flAt_congr' h3 (hb.block _ (World.block_lt_of_cell? w _ (h3 0 h1))), h4⟩

theorem laidOut : laidOutB Tryd.prog = true := by kernel_rfl
end Go.Proofs.YtacbemilicdklaaDoor

/- What the program's text lays of water's list of directions: for the tied cards. -/
namespace Go.Proofs.YtacbemilicdklaaDoor.door
open Go.ChangeShapes Go.WideShapes Go.ChangeAt Go.RowKit Go.Joins
set_option linter.unusedVariables false

theorem own : ownKnob Tryd.prog.godebug = none := by kernel_rfl
theorem gDirs : Tryd.prog.globalNamed "tarnfell/water.directions" = some 1 := by kernel_rfl
theorem tDirs : (Tryd.prog.globals[1]?).map (·.type) = some 164 := by kernel_rfl
theorem cellsP : Tryd.prog.cellsOf 48 = 2 := by kernel_rfl
theorem cellsI : Tryd.prog.cellsOf 3 = 1 := by kernel_rfl
theorem cellsD : Tryd.prog.cellsOf 164 = 16 := by kernel_rfl

/-- A listed variable's condition. -/
abbrev laidX : List (String × DataW Unit) := [("tarnfell/water.directions", Rows.laid_tarnfell_water_directions)]
theorem door_met (os : Os) (args : Array Value) : laidMetH Tryd.prog laidX ((World.doorLaid Tryd.prog 400 os).forCall (fun _ _ => 0) ⟨#[], args, []⟩).memory :=
  laidMetH_of_parts3 (fuel := 8) (laidMet_of_run' 8 (by kernel_rfl) (by kernel_rfl)) (by kernel_rfl) (by kernel_rfl)

/-- A place's two cells. -/
theorem point_cells {H : Type} {enc : TypeId × Value → H} {w : World} {base : Nat} {sp : Nat → Bool} {held : Bool} {fuel : Nat} {cs : List Value} {a b : Int} {x : DataW H × List MemPlace} (h : DataW.trod enc Tryd.prog w base sp held fuel 48 cs = some x) (hx : x.1 = .agg [.lit (.int .i64 a), .lit (.int .i64 b)]) : cs = [.int .i64 a, .int .i64 b] := by
  obtain ⟨y0, y1, n, rfl, hl, e0, e1⟩ := trod_struct2 Tryd.underlying48 h
  rw [cellsP] at hl
  rw [cellsI] at e0 e1
  obtain ⟨x0, f0, g0, _⟩ := DataW.trod_int Tryd.underlying3 e0
  obtain ⟨x1, f1, g1, _⟩ := DataW.trod_int Tryd.underlying3 e1
  rw [g0, g1] at hx
  simp only [DataW.agg.injEq, List.cons.injEq, DataW.lit.injEq, Lit.int.injEq, true_and, and_true] at hx
  obtain ⟨rfl, rfl⟩ := hx
  match cs, hl with
  | [c0, c1], _ =>
    simp at f0 f1
    subst f0 f1
    rfl

theorem dirs_of_laid {W : World} (h : laidMetH Tryd.prog laidX W) : DirsAt W := by
  rw [MakeChecks.laidMetH_plain _ _ _ (by kernel_rfl)] at h
  obtain ⟨ps, ⟨g0, t0, cs0, f0, p0, q0, hg0, ht0, hv0, hd0, _⟩, _, _⟩ := h
  obtain rfl := Option.some.inj (gDirs.symm.trans hg0)
  obtain rfl := Option.some.inj (tDirs.symm.trans ht0)
  obtain ⟨xs, m1, rfl, hx1, hlen, hn, hel⟩ := DataW.trod_array Tryd.underlying164 hd0
  simp only [Prod.mk.injEq] at hx1
  have hx2 := hx1.1
  have hc := fun o => World.var?_cell hg0 hv0 o
  intro d hd
  rw [cellsP] at hel
  have e := DataW.agg.inj (show DataW.agg _ = DataW.agg _ from hx2)
  have hm : (xs.map (·.1))[d]? = some (.agg [.lit (.int .i64 (dxI d)), .lit (.int .i64 (dyI d))]) := by
    rw [← e]
    have : d = 0 ∨ d = 1 ∨ d = 2 ∨ d = 3 ∨ d = 4 ∨ d = 5 ∨ d = 6 ∨ d = 7 := by omega
    rcases this with rfl | rfl | rfl | rfl | rfl | rfl | rfl | rfl <;> rfl
  rw [List.getElem?_map] at hm
  cases hq : xs[d]? with
  | none => rw [hq] at hm; cases hm
  | some x =>
    rw [hq] at hm
    have q := point_cells ((hel d hd).trans hq) (Option.some.inj hm)
    have a := congrArg (fun l => l[0]?) q
    have b := congrArg (fun l => l[1]?) q
    simp only [List.getElem?_take, List.getElem?_drop] at a b
    refine ⟨(hc _).trans ?_, (hc _).trans ?_⟩
    · rw [← Array.getElem?_toList]; simpa using a
    · rw [← Array.getElem?_toList]; simpa using b

end Go.Proofs.YtacbemilicdklaaDoor.door

/- FilledIsLeast, for every field and every slope, the list of directions being what the program's text lays: the tied card. No condition. -/
namespace Go.Proofs.YtacbemilicdklaaDoor.filledIsLeast
open Go.ChangeShapes Go.WideShapes Go.ChangeAt Go.RowKit Go.Joins door
set_option linter.unusedVariables false

set_option maxRecDepth 100000 in
theorem lifted (os : Os) (started : os.Started) (H : Type) (enc : TypeId × Value → H) :
    ReturnsInHanded {} Tryd.checked os 3 .any (fun w args => (Rows.filledIsLeastSpec.pre enc Tryd.prog Tryd.f3 [] false w args ∧ laidMetH Tryd.prog laidX w) ∧ sizedMet enc Tryd.prog Tryd.f3 (OpenSpec.ofChange Rows.filledIsLeastSpec) false w args)
      (Rows.filledIsLeastSpec.post enc Tryd.prog Tryd.f3 false true false false) := by
  refine returnsInHanded_of_change_and (C := Tryd.checked) (X := fun w _ => laidMetH Tryd.prog laidX w) (fun _ _ _ hh h => h.of_heap hh) own started (by kernel_rfl) Tryd.func3
    (ChangeSpec.witness_shaped (enc := enc) (C := Tryd.checked) (os := os) (X := fun w _ => laidMetH Tryd.prog laidX w) false (World.doorLaid Tryd.prog 400 os) #[fldV 0 0 0 0 (.slice none 0 0), .float .f32 0] 8 rfl (World.shaped_of_RefB (by kernel_rfl) (by kernel_rfl)) (by kernel_rfl) (by kernel_rfl) (by kernel_rfl) (door_met os _)) ?_
  intro W base args ds gs before hval0 hW _ _ hL _
  have hval : ∀ (j : Nat) t v, Tryd.f3.params[j]? = some t → args[j]? = some v → Value.okWide Tryd.prog W .any base t v := hval0
  have hW' := hW
  have hplt : ∀ x ∈ before, x.block < W.heap.size := fun x hx => by simpa using hW'.lt x hx
  obtain ⟨p, q, hA0, hV, rfl, hfz, hnd⟩ := hW
  have hA : DataW.TrodAll enc Tryd.prog W 0 (fun _ => true) true Tryd.f3.params.toList args.toList ds p := hA0
  rw [Tryd.params3] at hA hval
  obtain ⟨v0, vs0, d0, ds0, p0, q0, hargs, rfl, rfl, h0, r0⟩ := trodAll_cons hA
  obtain ⟨v1, vs1, d1, ds1, p1, q1, rfl, rfl, rfl, h1, r1⟩ := trodAll_cons r0
  obtain ⟨rfl, rfl, rfl⟩ := trodAll_nil r1
  obtain rfl : args = #[v0, v1] := by cases args; simp_all
  obtain ⟨rfl, rfl⟩ := trodVars_none hV
  obtain ⟨X, Y, W0, H0, s, rfl, hs⟩ := open_field (hval 0 26 v0 rfl rfl) h0
  obtain ⟨m, rfl, rfl, rfl, wm⟩ := open_float Tryd.underlying27 (hval 1 27 v1 rfl rfl) h1
  have hlt : ∀ x ∈ p0, x.block < W.heap.size := fun x hx => hplt x (by simp [hx])
  clear hA0 hval0 hplt
  simp only [List.append_nil] at hW'
  refine (filLaw_any m (hs.imp id fun ⟨b, off, len, cap, x, e, h1, h2, h3, _⟩ => ⟨b, off, len, cap, x, e, h1, h2, h3⟩) (dirs_of_laid hL)).mono fun e W' ⟨he, hb⟩ => ?_
  subst he
  exact ⟨_, rfl, _, _, _, [], _, [], hW', trodAll_cons_mk (shut_bool Tryd.underlying4 _) trodAll_mk0, trodAll_cons_mk (Below.trod laidOut (by kernel_rfl) (of_decide_eq_true (by kernel_rfl)) h0 hb hlt) (trodAll_cons_mk (shut_float Tryd.underlying27 wm) trodAll_mk0), rfl, hb.frame _, fun h => by cases h⟩

theorem over : Rows.FilledIsLeastSaid :=
  OpenClaim.holds_of_wide 3 Tryd.f3 rfl rfl rfl rfl rfl rfl rfl ⟨rfl, rfl, rfl, rfl, rfl⟩ rfl rfl rfl rfl rfl (by kernel_rfl) Tryd.func3 (by kernel_rfl)
    (of_decide_eq_true (by kernel_rfl)) (by unfold Func.isWrapper; rw [if_neg (of_decide_eq_false (by kernel_rfl))]; exact ⟨rfl, rfl⟩)
    (fun os started H enc _ => lifted os started H enc)

theorem proved : Rows.FilledIsLeastCardSaid :=
  Claim7.holds_tied_plain_at .later [] [.data] true (true, "6fdcf3f2f78e6d341d136240db9de05bdb82b17003d6628a22dbf52f7b54976f") true
    over (fun _ h => by cases h) (by kernel_rfl) (fun _ h => by cases h) filledIsLeast_row_tie rfl ⟨rfl, rfl⟩ (by kernel_rfl) rfl
    (fun f fn hf hfn => by
      obtain rfl : f = 3 := Option.some.inj ((show Tryd.prog.funcNamed "tarnfell/tarnlaw2.FilledIsLeast" = some 3 by kernel_rfl).symm.trans hf) |>.symm
      obtain rfl : fn = Tryd.f3 := (Option.some.inj (Tryd.func3.symm.trans hfn)).symm
      exact ⟨by kernel_rfl, fun j t ht => by
        rw [Tryd.params3] at ht
        have hm : t ∈ [26, 27] := by simpa using Array.mem_of_getElem? ht
        have hall : ([26, 27].all fun u => !Tryd.prog.wantsStandIn u) = true := by kernel_rfl
        exact (show Tryd.prog.wantsStandIn t = false by simpa using List.all_eq_true.1 hall t hm)⟩)
    (by kernel_rfl)
#print axioms proved
end Go.Proofs.YtacbemilicdklaaDoor.filledIsLeast
