/- DepthMatches, for every carving, every amount and every drop, the list of directions being what the program's text lays: the tied card. No condition. -/
import Derived.Test.YtacbemilicdklaaDoorDjC
import Derived.ProofKit
import Derived.OpenShut
import Derived.Lib.SmallJoins
import Derived.Laws.Cover2
import Derived.Deep.Slices
import Derived.Test.YtacbemilicdklaaDoorTie
import Derived.Test.YtacbemilicdklaaDoorCards
import Derived.LaidMore
import Derived.LaidLaws
import Derived.LaidHandle
import Derived.Stop.Joined
import Derived.SevenTiedAt

/- Contracts: water's byCell, whatever function it is given; Filled over a right field and slope. -/
namespace Go.Proofs.YtacbemilicdklaaDoor
open Go.RowKit Fl Go.Shelf
set_option linter.unusedVariables false

theorem enters_wbyCell1 : Enters 125 := by intro args W; simp [callFunc, Tryd.func125, Tryd.f125]
theorem enters_Filled1 : Enters 70 := by intro args W; simp [callFunc, Tryd.func70, Tryd.f70]
theorem Clos1.stay {g : Nat} {caps : Array Value} {n : Nat} {f : Nat → Nat} {w w' : World} (h : Clos1 g caps n f w) (hb : Below w.heap.size w w') : Clos1 g caps n f w' :=
  fun i W' h1 hb' => h i W' h1 (hb.trans (hb'.mono hb.size))

/-- A function of a cell's number in a box. -/
abbrev fn1Obj (g : Nat) (caps : Array Value) : Obj := .cells #[.func (.func g) #[] caps] 104

set_option maxHeartbeats 4000000 in
set_option maxRecDepth 100000 in
theorem wbyCell1_any (X Y : Int) (W H n : Nat) (f : Nat → Nat) (g : Nat) (caps : Array Value) (p q : Nat) (w : World) (hcall : Enters g) (hcl : Clos1 g caps n f w)
    (hp : w.heap[p]? = some (regObj X Y W H)) (hq : w.heap[q]? = some (fn1Obj g caps)) (hn : n ≤ 65536)
    (hX1 : -16777216 ≤ X) (hX2 : X ≤ 16777216) (hY1 : -16777216 ≤ Y) (hY2 : Y ≤ 16777216) (hW1 : 1 ≤ W) (hW2 : W ≤ 512) (hH2 : H ≤ 512) (hnn : n = H * W) :
    Clos2 125 #[.pointer (some ⟨q, 0, none⟩), .pointer (some ⟨p, 0, none⟩)] X Y W H f w := by
  intro x y i w2 h1 h2 h3 h4 h5 hb
  have hi : i < n := num_lt hW1 h1 h2 h4 h5 hnn
  have CC := Lib.hid (fun W' (hB : Below w2.heap.size w2 W') => hcl i W' hi (hb.trans (hB.mono hb.size)))
  have IX := Lib.hid (fun w => index_any X Y W H i x y w hX1 hX2 hY1 hY2 hW1 hW2 hH2 h1 h2 h3 h4 h5 (by omega))
  have P := blkStay hp hb
  have Q := blkStay hq hb
  have HP := Lib.hid P
  have HQ := Lib.hid Q
  obtain ⟨cP, fP, zP⟩ := blkC P
  obtain ⟨cQ, fQ, zQ⟩ := blkC Q
  unfold Enters at hcall
  clear hp hq P Q hb h1 h2 h3 h4 h5 hX1 hX2 hY1 hY2 hW1 hW2 hH2 hnn hcl hi hn
  go_enter Tryd.func125, Tryd.ntmps125
  go_wp2
  go_region_held3 (fun w' => (∀ o, w'.cell? ⟨p, o, none⟩ = #[.int .i64 X, .int .i64 Y, .int .i64 W, .int .i64 H][o]?) ∧ (∀ o, w'.cell? ⟨q, o, none⟩ = #[.func (.func g) #[] caps][o]?) ∧ Below w2.heap.size w2 w') (first | exact ⟨(blkC (blkStay HP.out hb9)).1, (blkC (blkStay HQ.out hb9)).1, hb9⟩ | exact ⟨(blkC (blkStay HP.out (by repeat (first | exact Below.refl _ _ | refine Below.alloc ?_ (by first | omega | (simp; done) | (simp; omega)) _ | refine Below.setCell ?_ (by first | omega | (simp; done) | (simp; omega)) _ | refine Below.drew ?_)))).1, (blkC (blkStay HQ.out (by repeat (first | exact Below.refl _ _ | refine Below.alloc ?_ (by first | omega | (simp; done) | (simp; omega)) _ | refine Below.setCell ?_ (by first | omega | (simp; done) | (simp; omega)) _ | refine Below.drew ?_)))).1, (by repeat (first | exact Below.refl _ _ | refine Below.alloc ?_ (by first | omega | (simp; done) | (simp; omega)) _ | refine Below.setCell ?_ (by first | omega | (simp; done) | (simp; omega)) _ | refine Below.drew ?_))⟩) (first | (go_at_call 78; (with_reducible refine Calls.mono (IX.out _) ?_); rintro e w' ⟨rfl, rfl⟩) | (go_simp; (with_reducible refine Calls.mono (CC.out _ ?_) ?_); exact (by repeat (first | exact Below.refl _ _ | refine Below.alloc ?_ (by first | omega | (simp; done) | (simp; omega)) _ | refine Below.setCell ?_ (by first | omega | (simp; done) | (simp; omega)) _ | refine Below.drew ?_)); rintro e w' ⟨rfl, hb8⟩; have hb9 : Below w2.heap.size w2 w' := Below.trans (by repeat (first | exact Below.refl _ _ | refine Below.alloc ?_ (by first | omega | (simp; done) | (simp; omega)) _ | refine Below.setCell ?_ (by first | omega | (simp; done) | (simp; omega)) _ | refine Below.drew ?_)) (Below.mono hb8 (by first | exact Nat.le_refl _ | (simp; done) | (simp; omega))); clear hb8))
  rename_i hHeld
  go_wp2
  go_ret
  exact ⟨rfl, hHeld.2.2⟩

set_option maxHeartbeats 2000000 in
theorem wbyCell_any (X Y : Int) (W H n : Nat) (f : Nat → Nat) (g : Nat) (caps : Array Value) (w : World) (hcall : Enters g) (hcl : Clos1 g caps n f w) (h0 : checkR X Y W H = 0) (hnn : n = H * W) :
    Calls Tryd.prog 69 #[reg X Y W H, .func (.func g) #[] caps] w (MadePost w X Y W H n f) := by
  obtain ⟨b1, b2, b3, b4, b5, b6, b7, b8, b9⟩ := checkR_zero h0
  have hn2 : n ≤ 65536 := by
    have : ((W : Int) * (H : Int)) = (n : Int) := by rw [hnn, Nat.mul_comm]; simp
    omega
  have hB : Below w.heap.size w (((w.alloc (regObj X Y W H)).alloc (fn1Obj g caps)).alloc (fldO 0 0 0 0 (.slice none 0 0))) := (by repeat (first | exact Below.refl _ _ | refine Below.alloc ?_ (by first | omega | (simp; done) | (simp; omega)) _ | refine Below.setCell ?_ (by first | omega | (simp; done) | (simp; omega)) _ | refine Below.drew ?_))
  have MK := Lib.hid (make_ok X Y W H n 125 #[.pointer (some ⟨w.heap.size + 1, 0, none⟩), .pointer (some ⟨w.heap.size, 0, none⟩)] f (((w.alloc (regObj X Y W H)).alloc (fn1Obj g caps)).alloc (fldO 0 0 0 0 (.slice none 0 0))) enters_wbyCell1
    (wbyCell1_any X Y W H n f g caps w.heap.size (w.heap.size + 1) _ hcall (hcl.stay hB) (by ((simp only [heap_alloc_get, heap_size_alloc, if_true]) <;> ((repeat' split) <;> first | rfl | omega))) (by ((simp only [heap_alloc_get, heap_size_alloc, if_true]) <;> ((repeat' split) <;> first | rfl | omega))) hn2 (by omega) (by omega) (by omega) (by omega) (by omega) (by omega) (by omega) hnn) h0 hnn)
  clear hcl hcall h0 b1 b2 b3 b4 b5 b6 b7 b8 b9 hnn hn2 hB
  go_enter Tryd.func69, Tryd.ntmps69
  go_wp2_with fail
  refine MK.out.mono ?_
  intro e w4 hmade
  rcases hmade with ⟨hall, b', cap', rfl, hb', hlt', hrow, hbel⟩ | ⟨hall, rfl, hbel⟩
  · have hS := Lib.hid (blkStay (b := w.heap.size + 1 + 1) (o := fldO 0 0 0 0 (.slice none 0 0)) (by ((simp only [heap_alloc_get, heap_size_alloc, if_true]) <;> ((repeat' split) <;> first | rfl | omega))) hbel)
    have hB : Below w.heap.size w w4 := Below.trans (by repeat (first | exact Below.refl _ _ | refine Below.alloc ?_ (by first | omega | (simp; done) | (simp; omega)) _ | refine Below.setCell ?_ (by first | omega | (simp; done) | (simp; omega)) _ | refine Below.drew ?_)) (Below.mono hbel (by simp; omega))
    obtain ⟨cS, fS, zS⟩ := blkC hS.out
    have HB := Lib.hid hb'
    clear hb'
    go_wp2
    refine bodyPost_ret (v := .tuple #[fldV X Y W H (.slice (some ⟨b', 0, none⟩) n cap'), .int .i64 0]) (by simp [results, Tryd.results69, go_sem, cS]) rfl ?_
    have hb' := HB.out
    simp only [heap_size_alloc] at hb'
    exact .inl ⟨hall, b', cap', rfl, by omega, by rw [set5_size]; exact hlt', flAt_congr hrow (set5_heap w4 _ _ _ _ _ _ _ (by omega)), set5_below hB _ _ _ _ _ _ (by omega)⟩
  · have hS := Lib.hid (blkStay (b := w.heap.size + 1 + 1) (o := fldO 0 0 0 0 (.slice none 0 0)) (by ((simp only [heap_alloc_get, heap_size_alloc, if_true]) <;> ((repeat' split) <;> first | rfl | omega))) hbel)
    have hB : Below w.heap.size w w4 := Below.trans (by repeat (first | exact Below.refl _ _ | refine Below.alloc ?_ (by first | omega | (simp; done) | (simp; omega)) _ | refine Below.setCell ?_ (by first | omega | (simp; done) | (simp; omega)) _ | refine Below.drew ?_)) (Below.mono hbel (by simp; omega))
    obtain ⟨cS, fS, zS⟩ := blkC hS.out
    go_wp2
    refine bodyPost_ret (v := .tuple #[fldV 0 0 0 0 (.slice none 0 0), .int .i64 3]) (by simp [results, Tryd.results69, go_sem, cS]) rfl ?_
    exact .inr ⟨hall, rfl, set5_below hB _ _ _ _ _ _ (by omega)⟩

/-- A list of singles in a box. -/
abbrev rowO (b n cap : Nat) : Obj := .cells #[.slice (some ⟨b, 0, none⟩) n cap] 24

set_option maxHeartbeats 2000000 in
theorem filled1_any (n b cap : Nat) (s : Nat → Nat) (p : Nat) (w : World) (hp : w.heap[p]? = some (rowO b n cap)) (hc : FlAt w b 0 n s) (hn : n ≤ 65536) :
    Clos1 70 #[.pointer (some ⟨p, 0, none⟩)] n s w := by
  intro i w2 hi hb
  have hcell : w2.cell? ⟨b, i, none⟩ = some (.float .f32 (s i)) := by
    have := flAt_congr hc (hb.block b (World.block_lt_of_cell? w _ (hc i hi))) i hi
    rwa [Nat.zero_add] at this
  obtain ⟨cP, fP, zP⟩ := blkC (blkStay hp hb)
  have hi2 : (i : Int) < (n : Int) := by omega
  have hi3 : (0 : Int) ≤ (i : Int) := by omega
  clear hp hb hc hi hn
  go_enter Tryd.func70, Tryd.ntmps70
  go_wp2
  go_ret
  exact ⟨rfl, (by repeat (first | exact Below.refl _ _ | refine Below.alloc ?_ (by first | omega | (simp; done) | (simp; omega)) _ | refine Below.setCell ?_ (by first | omega | (simp; done) | (simp; omega)) _ | refine Below.drew ?_))⟩

/-- What Filled answers over a right field and slope. -/
def FilledPost (w : World) (X Y : Int) (W H n : Nat) (v : Nat → Nat) (sl : Nat) (e : Ending) (w' : World) : Prop := ∃ s, Spills (gndOf W H v sl) s ∧ MadePost w X Y W H n s e w'

set_option maxHeartbeats 2000000 in
theorem filled_any (X Y : Int) (W H n b cap : Nat) (v : Nat → Nat) (sl : Nat) (w : World) (h0 : checkR X Y W H = 0) (hn : n = W * H) (hcap : n ≤ cap) (hcp : cap ≤ 9223372036854775807) (hc : FlAt w b 0 n v) (hh : allB n (fun i => hgtB (v i)) = true) (hs : SlW sl) (hw : wiE sl 0 1149239296 = 0) (hD : DirsAt w) :
    Calls Tryd.prog 15 #[fldV X Y W H (.slice (some ⟨b, 0, none⟩) n cap), .float .f32 sl] w (FilledPost w X Y W H n v sl) := by
  obtain ⟨b1, b2, b3, b4, b5, b6, b7, b8, b9⟩ := checkR_zero h0
  have hn2 : n ≤ 65536 := by
    have : ((W : Int) * (H : Int)) = (n : Int) := by rw [hn]; simp
    omega
  have hnn : n = H * W := by rw [hn]; exact Nat.mul_comm _ _
  have n1 : 1 ≤ n := by rw [hn]; exact Nat.mul_pos (by omega) (by omega)
  have hlt : b < w.heap.size := World.block_lt_of_cell? w _ (hc 0 n1)
  have CK := Lib.hid (fun W' (hB : Below w.heap.size w W') => check_ok X Y W H n b cap v W' h0 hn (flAt_congr hc (hB.block b hlt)) hh)
  have CW := Lib.hid (fun w => checkWithin_any sl 0 1149239296 w)
  rw [hw] at CW
  have LS := Lib.hid (fun W' (hB : Below w.heap.size w W') => leastSpills_any X Y W H n b cap v sl W' h0 hn hcap hcp (flAt_congr hc (hB.block b hlt)) hh hs (hD.stay hB))
  have BY := Lib.hid (fun W' p sb scap s (kp : W'.heap[p]? = some (rowO sb n scap)) (ks : FlAt W' sb 0 n s) => wbyCell_any X Y W H n s 70 #[.pointer (some ⟨p, 0, none⟩)] W' enters_Filled1 (filled1_any n sb scap s p W' kp ks hn2) h0 hnn)
  clear h0 hn hc hh hs hw hD b1 b2 b3 b4 b5 b6 b7 b8 b9 hn2 hnn n1 hlt hcap hcp
  go_enter Tryd.func15, Tryd.ntmps15
  go_wp2_with (first | (go_at_call 66; refine (CK.out _ (by repeat (first | exact Below.refl _ _ | refine Below.alloc ?_ (by first | omega | (simp; done) | (simp; omega)) _ | refine Below.setCell ?_ (by first | omega | (simp; done) | (simp; omega)) _ | refine Below.drew ?_))).mono ?_; rintro e w2 ⟨rfl, hb2⟩; have HF2 := Lib.hid (blkStay (b := w.heap.size) (o := fldO X Y W H (.slice (some ⟨b, 0, none⟩) n cap)) (by ((simp only [heap_alloc_get, heap_size_alloc, if_true]) <;> ((repeat' split) <;> first | rfl | omega))) hb2); have HL2 := Lib.hid (blkStay (b := w.heap.size + 1) (o := fldO 0 0 0 0 (.slice none 0 0)) (by ((simp only [heap_alloc_get, heap_size_alloc, if_true]) <;> ((repeat' split) <;> first | rfl | omega))) hb2); have hB2 : Below w.heap.size w w2 := Below.trans (by repeat (first | exact Below.refl _ _ | refine Below.alloc ?_ (by first | omega | (simp; done) | (simp; omega)) _ | refine Below.setCell ?_ (by first | omega | (simp; done) | (simp; omega)) _ | refine Below.drew ?_)) (Below.mono hb2 (by first | omega | (simp; done) | (simp; omega))); obtain ⟨cF, fF, zF⟩ := blkC HF2.out; clear hb2) | (go_at_call 67; refine (CW.out _).mono ?_; rintro e w' ⟨rfl, rfl⟩) | (go_at_call 68; refine (LS.out _ hB2).mono ?_; rintro e w3 ⟨s, sb, scap, rfl, s1, s2, s3, s4, s5, hb3⟩; clear cF fF zF; have HF3 := Lib.hid (blkStay HF2.out hb3); have HL3 := Lib.hid (blkStay HL2.out hb3); have hB3 := Lib.hid (hB2.trans (hb3.mono hB2.size)); obtain ⟨cF, fF, zF⟩ := blkC HF3.out; have S2 := Lib.hid s2; have S4 := Lib.hid s4; have S5 := Lib.hid s5; clear s1 s2 s3 s4 s5 hb3 hB2 HF2 HL2))
  refine (BY.out _ _ sb scap s (heap_alloc_new _ _) (flAt_congr S4.out (heap_alloc_old _ _ S2.out))).mono ?_
  intro e w4 hmade
  have hA : Below w3.heap.size w3 (w3.alloc (rowO sb n scap)) := (by repeat (first | exact Below.refl _ _ | refine Below.alloc ?_ (by first | omega | (simp; done) | (simp; omega)) _ | refine Below.setCell ?_ (by first | omega | (simp; done) | (simp; omega)) _ | refine Below.drew ?_))
  clear cF fF zF
  rcases hmade with ⟨hall, b', cap', rfl, hb', hlt', hrow, hbel⟩ | ⟨hall, rfl, hbel⟩
  · have h34 := hA.trans (hbel.mono hA.size)
    obtain ⟨cS, fS, zS⟩ := blkC (blkStay HL3.out h34)
    have zS3 := (blkC HL3.out).2.2
    have B4 := Lib.hid (hB3.out.trans (h34.mono hB3.out.size))
    have HB := Lib.hid (Nat.le_trans hA.size hb')
    clear hb' hA hbel h34
    go_wp2
    refine bodyPost_ret (v := .tuple #[fldV X Y W H (.slice (some ⟨b', 0, none⟩) n cap'), .int .i64 0]) (by simp [results, Tryd.results15, go_sem, cS]) rfl ?_
    have hb' := HB.out
    have z3 := hB3.out.size
    exact ⟨s, S5.out, .inl ⟨hall, b', cap', rfl, by omega, by rw [set5_size]; exact hlt', flAt_congr hrow (set5_heap w4 _ _ _ _ _ _ _ (by omega)), set5_below B4.out _ _ _ _ _ _ (by omega)⟩⟩
  · have h34 := hA.trans (hbel.mono hA.size)
    obtain ⟨cS, fS, zS⟩ := blkC (blkStay HL3.out h34)
    have zS3 := (blkC HL3.out).2.2
    have B4 := Lib.hid (hB3.out.trans (h34.mono hB3.out.size))
    clear hA hbel h34
    go_wp2
    refine bodyPost_ret (v := .tuple #[fldV 0 0 0 0 (.slice none 0 0), .int .i64 3]) (by simp [results, Tryd.results15, go_sem, cS]) rfl ?_
    exact ⟨s, S5.out, .inr ⟨hall, rfl, set5_below B4.out _ _ _ _ _ _ (by omega)⟩⟩
end Go.Proofs.YtacbemilicdklaaDoor

/- Contract: flows, which each law of chapters 4, 5, 6, 9 and 10 asks first. -/
namespace Go.Proofs.YtacbemilicdklaaDoor
open Go.RowKit Fl Go.Shelf
set_option linter.unusedVariables false

/-- The heights of flows' field: a pit within a wall. -/
def flowV (i : Nat) : Nat := if i = 4 then 0 else 1084227584
theorem flow_step : stepW 0 1084227584 0 = 1084227584 := by kernel_rfl
theorem flow_hgt : hgtB 1084227584 = true := by kernel_rfl
theorem flow_hgt0 : hgtB 0 = true := by kernel_rfl
theorem flow_wiE : wiE 0 0 1149239296 = 0 := by
  have e : decide (wiE 0 0 1149239296 = 0) = true := by kernel_rfl
  exact of_decide_eq_true e
theorem flow_slope : SlW 0 := ⟨0, vS_zero, Int.le_refl _, Int.mul_nonneg (by decide) (Int.natCast_nonneg _)⟩
theorem flow_checkR : checkR 0 0 3 3 = 0 := by decide
theorem flow_all : allB 9 (fun i => hgtB (flowV i)) = true := allB_iff.2 fun i hi => by
  unfold flowV
  by_cases h : i = 4
  · rw [if_pos h]; exact flow_hgt0
  · rw [if_neg h]; exact flow_hgt
theorem flow_spill {s : Nat → Nat} (S : Spills (gndOf 3 3 flowV 0) s) : s 4 = 1084227584 ∧ allB 9 (fun i => hgtB (s i)) = true := by
  have b : ∀ k, k < 9 → k ≠ 4 → s k = 1084227584 := fun k hk h4 => by
    have e : bdB 3 3 k = true := bdB_iff.2 (by omega)
    have q : s k = flowV k := S.bor k hk e
    rw [q]; unfold flowV; rw [if_neg h4]
  have c : s 4 = 1084227584 := by
    obtain ⟨rk, hr⟩ := S.par
    obtain ⟨p, hp, _, hlt, e⟩ := hr 4 (by show 4 < 3 * 3; omega) (by show bdB 3 3 4 = false; decide)
    have ne : p ≠ 4 := by rintro rfl; omega
    have q : s 4 = stepW 0 (s p) 0 := e
    rw [q, b p hp ne]; exact flow_step
  refine ⟨c, allB_iff.2 fun i hi => ?_⟩
  have : s i = 1084227584 := by
    by_cases h : i = 4
    · subst h; exact c
    · exact b i hi h
  rw [this]; exact flow_hgt

theorem flow_row (w : World) : FlAt (w.alloc (.cells #[.float .f32 1084227584, .float .f32 1084227584, .float .f32 1084227584, .float .f32 1084227584, .float .f32 0, .float .f32 1084227584, .float .f32 1084227584, .float .f32 1084227584, .float .f32 1084227584] 27)) w.heap.size 0 9 flowV := by
  intro i hi
  rw [Nat.zero_add, (blkC (heap_alloc_new w _)).1 i]
  have : i = 0 ∨ i = 1 ∨ i = 2 ∨ i = 3 ∨ i = 4 ∨ i = 5 ∨ i = 6 ∨ i = 7 ∨ i = 8 := by omega
  rcases this with rfl | rfl | rfl | rfl | rfl | rfl | rfl | rfl | rfl <;> rfl

theorem flowFilled_any (w : World) (b : Nat) (hc : FlAt w b 0 9 flowV) (hD : DirsAt w) :
    Calls Tryd.prog 15 #[fldV 0 0 3 3 (.slice (some ⟨b, 0, none⟩) 9 9), .float .f32 0] w (fun e w' => ∃ b' cap', e = .returned (.tuple #[fldV 0 0 3 3 (.slice (some ⟨b', 0, none⟩) 9 cap'), .int .i64 0]) ∧ w'.cell? ⟨b', 4, none⟩ = some (.float .f32 1084227584) ∧ Below w.heap.size w w') := by
  have F := filled_any 0 0 3 3 9 b 9 flowV 0 w flow_checkR rfl (by omega) (by omega) hc flow_all flow_slope flow_wiE hD
  refine Calls.mono F ?_
  rintro e w' ⟨s, S, h⟩
  obtain ⟨s4, sh⟩ := flow_spill S
  rcases h with ⟨_, b', cap', rfl, h1, h2, h3, h4⟩ | ⟨hno, _⟩
  · have q := h3 4 (by omega)
    rw [s4] at q
    exact ⟨b', cap', rfl, q, h4⟩
  · rw [sh] at hno; cases hno

set_option maxRecDepth 100000 in
set_option maxHeartbeats 4000000 in
theorem flows_any (w : World) (hD : DirsAt w) : Calls Tryd.prog 20 #[] w fun e w' => e = .returned (.bool true) ∧ Below w.heap.size w w' := by
  have FA := Lib.hid (fun W' b (hc : FlAt W' b 0 9 flowV) (hB : Below w.heap.size w W') => flowFilled_any W' b hc (hD.stay hB))
  clear hD
  go_enter Tryd.func20, Tryd.ntmps20
  go_wp2_with (first | (go_at_call 15; refine (FA.out _ _ (flow_row _) (by repeat (first | exact Below.refl _ _ | refine Below.alloc ?_ (by first | omega | (simp; done) | (simp; omega)) _ | refine Below.setCell ?_ (by first | omega | (simp; done) | (simp; omega)) _ | refine Below.drew ?_))).mono ?_; rintro e w2 ⟨b', cap', rfl, q, hb⟩; have hB2 : Below w.heap.size w w2 := Below.trans (by repeat (first | exact Below.refl _ _ | refine Below.alloc ?_ (by first | omega | (simp; done) | (simp; omega)) _ | refine Below.setCell ?_ (by first | omega | (simp; done) | (simp; omega)) _ | refine Below.drew ?_)) (Below.mono hb (by first | omega | (simp; done) | (simp; omega))); have z2 := World.block_lt_of_cell? w2 _ q; clear hb))
  go_ret
  exact ⟨rfl, hB2.alloc hB2.size _⟩
end Go.Proofs.YtacbemilicdklaaDoor

/- Contracts: Depth; the first of three errors; the law. -/
namespace Go.Proofs.YtacbemilicdklaaDoor
open Go.RowKit Fl Go.Shelf
set_option linter.unusedVariables false

theorem flAt_h1 {w : World} {p a : Nat} (h : w.heap[p]? = some (.cells #[.float .f32 a] 27)) : FlAt w p 0 1 (fun _ => a) := by
  intro i hi
  have : i = 0 := by omega
  subst this
  exact (blkC h).1 0
theorem bd_up {k l x : Nat} (h : Bd k x) (hl : k ≤ l) : Bd l x := by
  obtain ⟨s, m, p, e, b⟩ := h
  exact ⟨s, m, p, e, Nat.le_trans b (Nat.pow_le_pow_right (by omega) (by omega))⟩

/-- The error of Depth. -/
def depE (rate least most : Nat) (steps amount : Int) (drop : Nat) : Int :=
  firstE (firstE (carE rate least most steps) (fldE 1 (fun _ => drop))) (whenE (!withinB amount 0 1099511627776) 3)

theorem firstE_zero {a b : Int} (h : firstE a b = 0) : a = 0 ∧ b = 0 := by
  unfold firstE at h
  by_cases q : a = 0
  · rw [if_pos q] at h; exact ⟨q, h⟩
  · rw [if_neg q] at h; exact absurd h q
theorem whenE_zero {c : Bool} {k : Int} (hk : k ≠ 0) (h : whenE c k = 0) : c = false := by
  unfold whenE at h
  cases c with
  | false => rfl
  | true => rw [if_pos rfl] at h; exact absurd h hk
theorem carE_zero {rate least most : Nat} {steps : Int} (h : carE rate least most steps = 0) : hgtB rate = true ∧ hgtB least = true ∧ hgtB most = true ∧ 0 ≤ steps ∧ steps ≤ 50 := by
  unfold carE at h
  by_cases q : fldE 3 (three rate least most) = 0
  · rw [if_pos q] at h
    obtain ⟨a, b, c⟩ := three_hgt q
    unfold carE2 at h
    split at h
    · cases h
    · split at h
      · cases h
      · split at h
        · rename_i w; exact ⟨a, b, c, (withinB_iff.1 w).1, (withinB_iff.1 w).2⟩
        · cases h
  · rw [if_neg q] at h; exact absurd h q
theorem one_hgt {a : Nat} (h : fldE 1 (fun _ => a) = 0) : hgtB a = true := allB_iff.1 (fldE_zero.1 h) 0 (by omega)

set_option maxHeartbeats 1000000 in
theorem depth_no (rate least most : Nat) (steps amount : Int) (drop : Nat) (er : Int) (w : World) (he : depE rate least most steps amount drop = er) (hz : er ≠ 0) :
    Calls Tryd.prog 43 #[carV rate least most steps, .int .i64 amount, .float .f32 drop] w fun e w' => e = .returned (.tuple #[.float .f32 0, .int .i64 er]) ∧ Below w.heap.size w w' := by
  have CC := Lib.hid (fun w => checkCarving_any rate least most steps w)
  have CH := Lib.hid (fun p w (h : w.heap[p]? = some (.cells #[.float .f32 drop] 27)) => CheckHeights_row p 0 1 1 (fun _ => drop) (by omega) w (flAt_h1 h))
  have WI := Lib.hid (fun w => within_any amount 0 1099511627776 w)
  unfold depE at he
  generalize carE rate least most steps = r1 at *
  generalize fldE 1 (fun _ => drop) = r2 at *
  generalize withinB amount 0 1099511627776 = wb at *
  unfold firstE at he
  by_cases h1 : r1 = 0
  · subst h1
    by_cases h2 : r2 = 0
    · subst h2
      rw [if_pos (by rfl)] at he
      cases wb with
      | true => exact absurd he.symm hz
      | false =>
        have he' : (3 : Int) = er := he
        subst he'
        clear hz he
        go_enter Tryd.func43, Tryd.ntmps43
        go_wp2_with (first | (go_at_call 45; refine (CC.out _).mono ?_; rintro e w2 ⟨rfl, hb2⟩; obtain ⟨cF, fF, zF⟩ := blkC (blkStay (b := w.heap.size) (o := carO rate least most steps) (by (first | (rw [heap_alloc_get, if_pos rfl]; done) | ((simp only [heap_alloc_get, heap_size_alloc, if_true]) <;> ((repeat' split) <;> first | rfl | omega)))) hb2); have hB2 : Below w.heap.size w w2 := Below.trans (by repeat (first | exact Below.refl _ _ | refine Below.alloc ?_ (by first | omega | (simp; done) | (simp; omega)) _ | refine Below.setCell ?_ (by first | omega | (simp; done) | (simp; omega)) _ | refine Below.drew ?_)) (Below.mono hb2 (by first | omega | (simp; done) | (simp; omega))); clear hb2) | (go_at_call 93; refine (CH.out _ _ (by (first | (rw [heap_alloc_get, if_pos rfl]; done) | ((simp only [heap_alloc_get, heap_size_alloc, if_true]) <;> ((repeat' split) <;> first | rfl | omega))))).mono ?_; rintro e w' ⟨rfl, rfl⟩) | (go_at_call 94; refine (WI.out _).mono ?_; rintro e w' ⟨rfl, rfl⟩))
        go_ret2
        exact ⟨rfl, hB2.alloc hB2.size _⟩
    · rw [if_pos rfl, if_neg h2] at he
      subst he
      have h3 : (r2 != 0) = true := by simpa using h2
      clear h2 hz WI
      go_enter Tryd.func43, Tryd.ntmps43
      go_wp2_with (first | (go_at_call 45; refine (CC.out _).mono ?_; rintro e w2 ⟨rfl, hb2⟩; obtain ⟨cF, fF, zF⟩ := blkC (blkStay (b := w.heap.size) (o := carO rate least most steps) (by (first | (rw [heap_alloc_get, if_pos rfl]; done) | ((simp only [heap_alloc_get, heap_size_alloc, if_true]) <;> ((repeat' split) <;> first | rfl | omega)))) hb2); have hB2 : Below w.heap.size w w2 := Below.trans (by repeat (first | exact Below.refl _ _ | refine Below.alloc ?_ (by first | omega | (simp; done) | (simp; omega)) _ | refine Below.setCell ?_ (by first | omega | (simp; done) | (simp; omega)) _ | refine Below.drew ?_)) (Below.mono hb2 (by first | omega | (simp; done) | (simp; omega))); clear hb2) | (go_at_call 93; refine (CH.out _ _ (by (first | (rw [heap_alloc_get, if_pos rfl]; done) | ((simp only [heap_alloc_get, heap_size_alloc, if_true]) <;> ((repeat' split) <;> first | rfl | omega))))).mono ?_; rintro e w' ⟨rfl, rfl⟩))
      go_ret2
      exact ⟨rfl, hB2.alloc hB2.size _⟩
  · rw [if_neg h1, if_neg h1] at he
    subst he
    have h3 : (r1 != 0) = true := by simpa using h1
    clear h1 hz WI CH
    go_enter Tryd.func43, Tryd.ntmps43
    go_wp2_with (go_at_call 45; refine (CC.out _).mono ?_; rintro e w2 ⟨rfl, hb2⟩; obtain ⟨cF, fF, zF⟩ := blkC (blkStay (b := w.heap.size) (o := carO rate least most steps) (by (first | (rw [heap_alloc_get, if_pos rfl]; done) | ((simp only [heap_alloc_get, heap_size_alloc, if_true]) <;> ((repeat' split) <;> first | rfl | omega)))) hb2); have hB2 : Below w.heap.size w w2 := Below.trans (by repeat (first | exact Below.refl _ _ | refine Below.alloc ?_ (by first | omega | (simp; done) | (simp; omega)) _ | refine Below.setCell ?_ (by first | omega | (simp; done) | (simp; omega)) _ | refine Below.drew ?_)) (Below.mono hb2 (by first | omega | (simp; done) | (simp; omega))); clear hb2)
    go_ret2
    exact ⟨rfl, hB2⟩

set_option maxHeartbeats 1000000 in
theorem depth_ok (rate least most : Nat) (steps amount : Int) (drop : Nat) (w : World) (he : depE rate least most steps amount drop = 0) :
    Calls Tryd.prog 43 #[carV rate least most steps, .int .i64 amount, .float .f32 drop] w fun e w' => e = .returned (.tuple #[.float .f32 (depW rate least most amount drop), .int .i64 0]) ∧ Below w.heap.size w w' := by
  have CC := Lib.hid (fun w => checkCarving_any rate least most steps w)
  have CH := Lib.hid (fun p w (h : w.heap[p]? = some (.cells #[.float .f32 drop] 27)) => CheckHeights_row p 0 1 1 (fun _ => drop) (by omega) w (flAt_h1 h))
  have WI := Lib.hid (fun w => within_any amount 0 1099511627776 w)
  obtain ⟨h12, h3⟩ := firstE_zero he
  obtain ⟨h1, h2⟩ := firstE_zero h12
  have h3' := whenE_zero (by omega) h3
  rw [Bool.not_eq_false'] at h3'
  obtain ⟨a0, a1⟩ := withinB_iff.1 h3'
  have hr := hgt_bd (carE_zero h1).1
  have hd := one_hgt h2
  obtain ⟨d, vd, _⟩ := hgt_val hd
  have DE := Lib.hid (fun w => deep_any rate least most steps amount drop d w hr (bd_up (hgt_bd hd) (by omega)) vd a0 a1)
  rw [h1] at CC
  rw [h2] at CH
  rw [h3'] at WI
  clear h1 h2 h3 h3' h12 he a0 a1 hr hd vd
  go_enter Tryd.func43, Tryd.ntmps43
  go_wp2_with (first | (go_at_call 45; refine (CC.out _).mono ?_; rintro e w2 ⟨rfl, hb2⟩; obtain ⟨cF, fF, zF⟩ := blkC (blkStay (b := w.heap.size) (o := carO rate least most steps) (by (first | (rw [heap_alloc_get, if_pos rfl]; done) | ((simp only [heap_alloc_get, heap_size_alloc, if_true]) <;> ((repeat' split) <;> first | rfl | omega)))) hb2); have hB2 : Below w.heap.size w w2 := Below.trans (by repeat (first | exact Below.refl _ _ | refine Below.alloc ?_ (by first | omega | (simp; done) | (simp; omega)) _ | refine Below.setCell ?_ (by first | omega | (simp; done) | (simp; omega)) _ | refine Below.drew ?_)) (Below.mono hb2 (by first | omega | (simp; done) | (simp; omega))); clear hb2) | (go_at_call 93; refine (CH.out _ _ (by (first | (rw [heap_alloc_get, if_pos rfl]; done) | ((simp only [heap_alloc_get, heap_size_alloc, if_true]) <;> ((repeat' split) <;> first | rfl | omega))))).mono ?_; rintro e w' ⟨rfl, rfl⟩) | (go_at_call 94; refine (WI.out _).mono ?_; rintro e w' ⟨rfl, rfl⟩) | (go_at_call 95; refine (DE.out _).mono ?_; rintro e w3 ⟨rfl, hb3⟩; have hB3 : Below w.heap.size w w3 := (hB2.alloc hB2.size _).trans (hb3.mono (by have := hB2.size; simp; omega)); clear hb3))
  go_ret2
  exact ⟨rfl, hB3⟩

inductive First3At (a b c : Int) : Value → Prop where
  | z : First3At a b c (.int .i64 0)
  | a (h : a = 0) : First3At a b c (.int .i64 1)
  | b (h : a = 0) (h' : b = 0) : First3At a b c (.int .i64 2)
  | c (h : a = 0) (h' : b = 0) (h'' : c = 0) : First3At a b c (.int .i64 3)
set_option maxHeartbeats 1000000 in
theorem first3_any (a b c : Int) (p : Nat) (w : World) (h : w.heap[p]? = some (.cells #[.int .i64 a, .int .i64 b, .int .i64 c] 28)) :
    Calls Tryd.prog 16 #[.slice (some ⟨p, 0, none⟩) 3 3] w fun e w' => e = .returned (.int .i64 (firstE (firstE a b) c)) ∧ w = w' := by
  unfold firstE
  obtain ⟨cc, f, z⟩ := blkC h
  clear h
  go_enter Tryd.func16, Tryd.ntmps16
  go_wp2
  go_loop [7] (fun i => First3At a b c i) (fun i => 3 - (intOf i).toNat)
  case atStart => exact .z
  case round =>
    rcases hrel with _ | ha | ⟨ha, hb⟩ | ⟨ha, hb, hc⟩
    · by_cases h0 : a = 0
      · subst h0
        go_wp2
        go_round
        case rel => exact .a rfl
        case measure => simp [intOf]
      · go_wp2
        go_ret
        exact ⟨by first | (simp; done) | simp [h0], rfl⟩
    · subst ha
      by_cases h0 : b = 0
      · subst h0
        go_wp2
        go_round
        case rel => exact .b rfl rfl
        case measure => simp [intOf]
      · go_wp2
        go_ret
        exact ⟨by first | (simp; done) | simp [h0], rfl⟩
    · subst ha hb
      by_cases h0 : c = 0
      · subst h0
        go_wp2
        go_round
        case rel => exact .c rfl rfl rfl
        case measure => simp [intOf]
      · go_wp2
        go_ret
        exact ⟨by first | (simp; done) | simp [h0], rfl⟩
    · subst ha hb hc
      go_wp2
      go_ret
      exact ⟨rfl, rfl⟩
end Go.Proofs.YtacbemilicdklaaDoor

/- DepthMatches, walked. -/
namespace Go.Proofs.YtacbemilicdklaaDoor
open Go.RowKit Fl Go.Shelf
set_option linter.unusedVariables false

theorem zero_eq : (FloatKind.f32.format.order 0 0 == some .eq) = true := by decide

set_option maxHeartbeats 1000000 in
set_option maxRecDepth 100000 in
theorem depthLaw_any (rate least most : Nat) (steps amount : Int) (drop : Nat) (w : World) (hD : DirsAt w) :
    Calls Tryd.prog 6 #[carV rate least most steps, .int .i64 amount, .float .f32 drop] w fun e w' => e = .returned (.bool true) ∧ Below w.heap.size w w' := by
  have CC := Lib.hid (fun w => checkCarving_any rate least most steps w)
  have CE := Lib.hid (fun w => carvingError_any rate least most steps w)
  have NE := Lib.hid (fun p w (h : w.heap[p]? = some (.cells #[.float .f32 drop] 27)) => qNumberError_row p 0 1 1 (fun _ => drop) (by omega) w (flAt_h1 h))
  have WI := Lib.hid (fun w => mWithin_any amount 0 1099511627776 w)
  have WH := Lib.hid (fun w => when_any (!withinB amount 0 1099511627776) 3 w)
  have FI := Lib.hid (fun p w (h : w.heap[p]? = some (.cells #[.int .i64 (carE rate least most steps), .int .i64 (fldE 1 (fun _ => drop)), .int .i64 (whenE (!withinB amount 0 1099511627776) 3)] 28)) => first3_any _ _ _ p w h)
  have FL := Lib.hid (fun W' (hB : Below w.heap.size w W') => flows_any W' (hD.stay hB))
  by_cases hz : depE rate least most steps amount drop = 0
  · have DP := Lib.hid (fun w => depth_ok rate least most steps amount drop w hz)
    obtain ⟨h12, h3⟩ := firstE_zero hz
    obtain ⟨h1, h2⟩ := firstE_zero h12
    have h3' := whenE_zero (by omega) h3
    rw [Bool.not_eq_false'] at h3'
    obtain ⟨a0, a1⟩ := withinB_iff.1 h3'
    have hr := hgt_bd (carE_zero h1).1
    have hd := one_hgt h2
    obtain ⟨d, vd, _⟩ := hgt_val hd
    have DO := Lib.hid (fun w => depthOf_any rate least most steps amount drop d w hr (bd_up (hgt_bd hd) (by omega)) vd a0 a1)
    have fb := f32bits
    rw [h1] at CC CE FI
    rw [h2] at NE FI
    rw [h3'] at WI WH FI
    rw [show firstE (firstE 0 0) (whenE (!true) 3) = 0 from rfl] at FI
    clear h1 h2 h3 h3' h12 hz a0 a1 hr hd vd hD
    go_enter Tryd.func6, Tryd.ntmps6
    go_wp2_with (first | (go_at_call 43; refine (DP.out _).mono ?_; rintro e w2 ⟨rfl, hb2⟩; have HF2 := Lib.hid (blkStay (b := w.heap.size) (o := carO rate least most steps) (by (first | (rw [heap_alloc_get, if_pos rfl]; done) | ((simp only [heap_alloc_get, heap_size_alloc, if_true]) <;> ((repeat' split) <;> first | rfl | omega)))) hb2); obtain ⟨cF, fF, zF⟩ := blkC HF2.out; have HB2 : Below w.heap.size w w2 := Below.trans (by repeat (first | exact Below.refl _ _ | refine Below.alloc ?_ (by first | omega | (simp; done) | (simp; omega)) _ | refine Below.setCell ?_ (by first | omega | (simp; done) | (simp; omega)) _ | refine Below.drew ?_)) (Below.mono hb2 (by first | omega | (simp; done) | (simp; omega))); clear hb2) | (go_at_call 44; refine (CE.out _).mono ?_; rintro e w3 ⟨rfl, hb3⟩; clear cF fF zF; have HF3 := Lib.hid (blkStay HF2.out hb3); obtain ⟨cF, fF, zF⟩ := blkC HF3.out; have HB3 : Below w.heap.size w w3 := HB2.trans (hb3.mono HB2.size); clear hb3) | (go_at_call 20; refine (FL.out _ HB3).mono ?_; rintro e w4 ⟨rfl, hb4⟩; clear cF fF zF; have HF4 := Lib.hid (blkStay HF3.out hb4); obtain ⟨cF, fF, zF⟩ := blkC HF4.out; have HB4 := HB3.trans (hb4.mono HB3.size); clear hb4) | (go_at_call 45; refine (CC.out _).mono ?_; rintro e w5 ⟨rfl, hb5⟩; clear cF fF zF; have HF5 := Lib.hid (blkStay HF4.out hb5); obtain ⟨cF, fF, zF⟩ := blkC HF5.out; have HB5 : Below w.heap.size w w5 := HB4.trans (hb5.mono HB4.size); clear hb5) | (go_at_call 18; refine (NE.out _ _ (by (first | (rw [heap_alloc_get, if_pos rfl]; done) | ((simp only [heap_alloc_get, heap_size_alloc, if_true]) <;> ((repeat' split) <;> first | rfl | omega))))).mono ?_; rintro e w' ⟨rfl, rfl⟩) | (go_at_call 46; refine (WI.out _).mono ?_; rintro e w' ⟨rfl, rfl⟩) | (go_at_call 19; refine (WH.out _).mono ?_; rintro e w' ⟨rfl, rfl⟩) | (go_at_call 16; refine (FI.out _ _ (by (first | (rw [heap_alloc_get, if_pos rfl]; done) | ((simp only [heap_alloc_get, heap_size_alloc, if_true]) <;> ((repeat' split) <;> first | rfl | omega))))).mono ?_; rintro e w' ⟨rfl, rfl⟩) | (go_at_call 47; refine (DO.out _).mono ?_; rintro e w6 ⟨rfl, hb6⟩; have HB6 : Below w.heap.size w w6 := Below.trans (by first | exact (HB5.alloc HB5.size _).alloc (by have := HB5.size; simp; omega) _) (Below.mono hb6 (by have := HB5.size; simp; omega)); clear hb6))
    go_ret
    exact ⟨rfl, HB6⟩
  · have DP := Lib.hid (fun w => depth_no rate least most steps amount drop _ w rfl hz)
    have h1 : (depE rate least most steps amount drop != 0) = true := by simpa using hz
    rw [show firstE (firstE (carE rate least most steps) (fldE 1 (fun _ => drop))) (whenE (!withinB amount 0 1099511627776) 3) = depE rate least most steps amount drop from rfl] at FI
    have ze := zero_eq
    clear hz hD
    generalize depE rate least most steps amount drop = er at *
    generalize carE rate least most steps = r1 at *
    generalize fldE 1 (fun _ => drop) = r2 at *
    generalize whenE (!withinB amount 0 1099511627776) 3 = r3 at *
    generalize withinB amount 0 1099511627776 = wb at *
    go_enter Tryd.func6, Tryd.ntmps6
    go_wp2_with (first | (go_at_call 43; refine (DP.out _).mono ?_; rintro e w2 ⟨rfl, hb2⟩; have HF2 := Lib.hid (blkStay (b := w.heap.size) (o := carO rate least most steps) (by (first | (rw [heap_alloc_get, if_pos rfl]; done) | ((simp only [heap_alloc_get, heap_size_alloc, if_true]) <;> ((repeat' split) <;> first | rfl | omega)))) hb2); obtain ⟨cF, fF, zF⟩ := blkC HF2.out; have HB2 : Below w.heap.size w w2 := Below.trans (by repeat (first | exact Below.refl _ _ | refine Below.alloc ?_ (by first | omega | (simp; done) | (simp; omega)) _ | refine Below.setCell ?_ (by first | omega | (simp; done) | (simp; omega)) _ | refine Below.drew ?_)) (Below.mono hb2 (by first | omega | (simp; done) | (simp; omega))); clear hb2) | (go_at_call 44; refine (CE.out _).mono ?_; rintro e w3 ⟨rfl, hb3⟩; clear cF fF zF; have HF3 := Lib.hid (blkStay HF2.out hb3); obtain ⟨cF, fF, zF⟩ := blkC HF3.out; have HB3 : Below w.heap.size w w3 := HB2.trans (hb3.mono HB2.size); clear hb3) | (go_at_call 20; refine (FL.out _ HB3).mono ?_; rintro e w4 ⟨rfl, hb4⟩; clear cF fF zF; have HF4 := Lib.hid (blkStay HF3.out hb4); obtain ⟨cF, fF, zF⟩ := blkC HF4.out; have HB4 := HB3.trans (hb4.mono HB3.size); clear hb4) | (go_at_call 45; refine (CC.out _).mono ?_; rintro e w5 ⟨rfl, hb5⟩; clear cF fF zF; have HF5 := Lib.hid (blkStay HF4.out hb5); obtain ⟨cF, fF, zF⟩ := blkC HF5.out; have HB5 : Below w.heap.size w w5 := HB4.trans (hb5.mono HB4.size); clear hb5) | (go_at_call 18; refine (NE.out _ _ (by (first | (rw [heap_alloc_get, if_pos rfl]; done) | ((simp only [heap_alloc_get, heap_size_alloc, if_true]) <;> ((repeat' split) <;> first | rfl | omega))))).mono ?_; rintro e w' ⟨rfl, rfl⟩) | (go_at_call 46; refine (WI.out _).mono ?_; rintro e w' ⟨rfl, rfl⟩) | (go_at_call 19; refine (WH.out _).mono ?_; rintro e w' ⟨rfl, rfl⟩) | (go_at_call 16; refine (FI.out _ _ (by (first | (rw [heap_alloc_get, if_pos rfl]; done) | ((simp only [heap_alloc_get, heap_size_alloc, if_true]) <;> ((repeat' split) <;> first | rfl | omega))))).mono ?_; rintro e w' ⟨rfl, rfl⟩))
    go_ret
    exact ⟨rfl, (HB5.alloc HB5.size _).alloc (by have := HB5.size; simp; omega) _⟩
end Go.Proofs.YtacbemilicdklaaDoor

/- A field that came in, opened: four integers, and a slice of singles that is empty or known cell by cell. -/
namespace Go.Proofs.YtacbemilicdklaaDoor
open Go.ChangeShapes Go.WideShapes Go.ChangeAt Go.RowKit Go.Joins Fl

section
variable {H : Type} {enc : TypeId × Value → H} {w : World} {base : Nat} {spare : Nat → Bool} {held : Bool}

theorem trod_f32 {P : Program} {t : TypeId} {fuel : Nat} {v : Value} {y : DataW H × List MemPlace} (ht : P.underlying t = some (.float .f32)) (h : DataW.trod enc P w base spare held fuel t [v] = some y) : ∃ b, v = .float .f32 b ∧ b < 4294967296 := by
  cases fuel with
  | zero => simp [DataW.trod] at h
  | succ n =>
    unfold DataW.trod at h
    rw [ht] at h
    cases v <;> simp at h
    rename_i k b
    obtain ⟨⟨rfl, hw⟩, _⟩ := h
    exact ⟨b, rfl, by simpa [Lit.wf] using hw⟩

theorem array5 {α : Type} {cs : Array α} (h : cs.size = 5) : ∃ c0 c1 c2 c3 c4, cs = #[c0, c1, c2, c3, c4] := by
  obtain ⟨l⟩ := cs
  match l, h with
  | [c0, c1, c2, c3, c4], _ => exact ⟨c0, c1, c2, c3, c4, rfl⟩

theorem flAt_congr' {w w' : World} {b off n : Nat} {f : Nat → Nat} (h : FlAt w b off n f) (e : w'.heap[b]? = w.heap[b]?) : FlAt w' b off n f := fun i hi => by
  rw [← h i hi]; exact World.cell?_of_block (w := w) (a := ⟨b, off + i, none⟩) e

/-- What a slice of singles is: empty, or known cell by cell. -/
def SlF (w : World) (s : Value) : Prop :=
  (∃ a cap, s = .slice a 0 cap) ∨ ∃ b off len cap x, s = .slice (some ⟨b, off, none⟩) len cap ∧ 0 < len ∧ len ≤ 9223372036854775807 ∧ FlAt w b off len x ∧ wf32 len x

theorem open_singles {t e : TypeId} {fuel : Nat} {cs : List Value} {y : DataW H × List MemPlace} (ht : Tryd.prog.underlying t = some (.slice e)) (he : Tryd.prog.underlying e = some (.float .f32)) (hc : Tryd.prog.cellsOf e = 1)
    (h : DataW.trod enc Tryd.prog w base spare held fuel t cs = some y) : ∃ s, cs = [s] ∧ SlF w s := by
  rcases Go.Deep.open_slice1 ht hc h with ⟨rfl, _⟩ | ⟨a, len, cap, m, n, V, D, Pl, rfl, hb, hl, hm, hmm, _, hx⟩
  · exact ⟨_, rfl, .inl ⟨none, 0, rfl⟩⟩
  · refine ⟨_, rfl, ?_⟩
    rcases Nat.eq_zero_or_pos len with z | z
    · subst z; exact .inl ⟨_, _, rfl⟩
    · have hlm : len ≤ m := by rw [hmm]; split <;> omega
      have h0 := (hx 0 (by omega)).1
      obtain ⟨b, off, spot⟩ := a
      have hspot : spot = none := by simpa [Addr.add] using World.cell?_spot h0
      subst hspot
      have hv : ∀ i, i < len → ∃ x, V i = .float .f32 x ∧ x < 4294967296 := fun i hi => trod_f32 he (hx i (by omega)).2
      refine .inr ⟨b, off, len, cap, fun i => match V i with | .float _ x => x | _ => 0, rfl, z, ?_, fun i hi => ?_, fun i hi => ?_⟩
      · exact Nat.le_trans hl (Nat.le_trans hm (by decide))
      · have h1 := (hx i (by omega)).1
        obtain ⟨x, e1, _⟩ := hv i hi
        rw [← Go.WideShapes.add_plain, h1]
        simp only [e1]
      · obtain ⟨x, e1, e2⟩ := hv i hi
        simp only [e1]; exact e2

theorem cellsF : Tryd.prog.cellsOf 26 = 5 := by kernel_rfl
theorem cellsR : Tryd.prog.cellsOf 23 = 4 := by kernel_rfl
theorem cellsS : Tryd.prog.cellsOf 24 = 1 := by kernel_rfl
theorem cells1 : Tryd.prog.cellsOf 27 = 1 := by kernel_rfl
theorem cellsI : Tryd.prog.cellsOf 3 = 1 := by kernel_rfl

set_option maxRecDepth 100000 in
theorem open_field {r : Reach} {b0 : Nat} {v : Value} {d : DataW H} {p : List MemPlace} (hv : Value.okWide Tryd.prog w r b0 26 v) (h : DataW.Trod enc Tryd.prog w base spare held 26 v d p) :
    ∃ X Y W' H' : Int, ∃ s, v = fldV X Y W' H' s ∧ SlF w s := by
  obtain ⟨cs, rfl, hsz⟩ := okWide_struct Tryd.underlying26 hv
  obtain ⟨c0, c1, c2, c3, c4, rfl⟩ := array5 (hsz.trans cellsF)
  obtain ⟨fuel, hf⟩ := h
  obtain ⟨y0, y1, n, _, _, h0, h1⟩ := trod_struct2 Tryd.underlying26 hf
  rw [cellsR] at h0
  rw [cellsS] at h1
  obtain ⟨s, e4, hs⟩ := open_singles Tryd.underlying24 Tryd.underlying27 cells1 h1
  obtain ⟨z0, z1, z2, z3, n2, _, _, g0, g1, g2, g3⟩ := trod_struct4 Tryd.underlying23 h0
  rw [cellsI] at g0 g1 g2 g3
  obtain ⟨x0, e0, _, _⟩ := DataW.trod_int Tryd.underlying3 g0
  obtain ⟨x1, e1, _, _⟩ := DataW.trod_int Tryd.underlying3 g1
  obtain ⟨x2, e2, _, _⟩ := DataW.trod_int Tryd.underlying3 g2
  obtain ⟨x3, e3, _, _⟩ := DataW.trod_int Tryd.underlying3 g3
  simp [Value.cells] at e0 e1 e2 e3 e4
  subst e0 e1 e2 e3 e4
  exact ⟨x0, x1, x2, x3, _, rfl, hs⟩
end

theorem SlF.stay {w w' : World} {s : Value} (h : SlF w s) (hb : Below w.heap.size w w') : SlF w' s := by
  rcases h with h | ⟨b, off, len, cap, x, rfl, h1, h2, h3, h4⟩
  · exact .inl h
  · exact .inr ⟨b, off, len, cap, x, rfl, h1, h2, flAt_congr' h3 (hb.block _ (World.block_lt_of_cell? w _ (h3 0 h1))), h4⟩

theorem laidOut : laidOutB Tryd.prog = true := by kernel_rfl
end Go.Proofs.YtacbemilicdklaaDoor

/- What the program's text lays of water's list of directions: for the tied cards. -/
namespace Go.Proofs.YtacbemilicdklaaDoor.door
open Go.ChangeShapes Go.WideShapes Go.ChangeAt Go.RowKit Go.Joins
set_option linter.unusedVariables false

theorem own : ownKnob Tryd.prog.godebug = none := by kernel_rfl
theorem gDirs : Tryd.prog.globalNamed "tarnfell/water.directions" = some 1 := by kernel_rfl
theorem tDirs : (Tryd.prog.globals[1]?).map (·.type) = some 164 := by kernel_rfl
theorem cellsP : Tryd.prog.cellsOf 48 = 2 := by kernel_rfl
theorem cellsI : Tryd.prog.cellsOf 3 = 1 := by kernel_rfl
theorem cellsD : Tryd.prog.cellsOf 164 = 16 := by kernel_rfl

/-- A listed variable's condition. -/
abbrev laidX : List (String × DataW Unit) := [("tarnfell/water.directions", Rows.laid_tarnfell_water_directions)]
theorem door_met (os : Os) (args : Array Value) : laidMetH Tryd.prog laidX ((World.doorLaid Tryd.prog 400 os).forCall (fun _ _ => 0) ⟨#[], args, []⟩).memory :=
  laidMetH_of_parts3 (fuel := 8) (laidMet_of_run' 8 (by kernel_rfl) (by kernel_rfl)) (by kernel_rfl) (by kernel_rfl)

/-- A place's two cells. -/
theorem point_cells {H : Type} {enc : TypeId × Value → H} {w : World} {base : Nat} {sp : Nat → Bool} {held : Bool} {fuel : Nat} {cs : List Value} {a b : Int} {x : DataW H × List MemPlace} (h : DataW.trod enc Tryd.prog w base sp held fuel 48 cs = some x) (hx : x.1 = .agg [.lit (.int .i64 a), .lit (.int .i64 b)]) : cs = [.int .i64 a, .int .i64 b] := by
  obtain ⟨y0, y1, n, rfl, hl, e0, e1⟩ := trod_struct2 Tryd.underlying48 h
  rw [cellsP] at hl
  rw [cellsI] at e0 e1
  obtain ⟨x0, f0, g0, _⟩ := DataW.trod_int Tryd.underlying3 e0
  obtain ⟨x1, f1, g1, _⟩ := DataW.trod_int Tryd.underlying3 e1
  rw [g0, g1] at hx
  simp only [DataW.agg.injEq, List.cons.injEq, DataW.lit.injEq, Lit.int.injEq, true_and, and_true] at hx
  obtain ⟨rfl, rfl⟩ := hx
  match cs, hl with
  | [c0, c1], _ =>
    simp at f0 f1
    subst f0 f1
    rfl

theorem dirs_of_laid {W : World} (h : laidMetH Tryd.prog laidX W) : DirsAt W := by
  rw [MakeChecks.laidMetH_plain _ _ _ (by kernel_rfl)] at h
  obtain ⟨ps, ⟨g0, t0, cs0, f0, p0, q0, hg0, ht0, hv0, hd0, _⟩, _, _⟩ := h
  obtain rfl := Option.some.inj (gDirs.symm.trans hg0)
  obtain rfl := Option.some.inj (tDirs.symm.trans ht0)
  obtain ⟨xs, m1, rfl, hx1, hlen, hn, hel⟩ := DataW.trod_array Tryd.underlying164 hd0
  simp only [Prod.mk.injEq] at hx1
  have hx2 := hx1.1
  have hc := fun o => World.var?_cell hg0 hv0 o
  intro d hd
  rw [cellsP] at hel
  have e := DataW.agg.inj (show DataW.agg _ = DataW.agg _ from hx2)
  have hm : (xs.map (·.1))[d]? = some (.agg [.lit (.int .i64 (dxI d)), .lit (.int .i64 (dyI d))]) := by
    rw [← e]
    have : d = 0 ∨ d = 1 ∨ d = 2 ∨ d = 3 ∨ d = 4 ∨ d = 5 ∨ d = 6 ∨ d = 7 := by omega
    rcases this with rfl | rfl | rfl | rfl | rfl | rfl | rfl | rfl <;> rfl
  rw [List.getElem?_map] at hm
  cases hq : xs[d]? with
  | none => rw [hq] at hm; cases hm
  | some x =>
    rw [hq] at hm
    have q := point_cells ((hel d hd).trans hq) (Option.some.inj hm)
    have a := congrArg (fun l => l[0]?) q
    have b := congrArg (fun l => l[1]?) q
    simp only [List.getElem?_take, List.getElem?_drop] at a b
    refine ⟨(hc _).trans ?_, (hc _).trans ?_⟩
    · rw [← Array.getElem?_toList]; simpa using a
    · rw [← Array.getElem?_toList]; simpa using b

end Go.Proofs.YtacbemilicdklaaDoor.door

/- DepthMatches, for every carving, every amount and every drop, the list of directions being what the program's text lays: the tied card. No condition. -/
namespace Go.Proofs.YtacbemilicdklaaDoor.depthMatches
open Go.ChangeShapes Go.WideShapes Go.ChangeAt Go.RowKit Go.Joins door
set_option linter.unusedVariables false

section
variable {H : Type} {enc : TypeId × Value → H} {w : World} {base : Nat} {spare : Nat → Bool} {held : Bool}
theorem cellsC : Tryd.prog.cellsOf 68 = 4 := by kernel_rfl
theorem cells1 : Tryd.prog.cellsOf 27 = 1 := by kernel_rfl
set_option maxRecDepth 100000 in
theorem open_carving {r : Reach} {b0 : Nat} {v : Value} {d : DataW H} {p : List MemPlace} (hv : Value.okWide Tryd.prog w r b0 68 v) (h : DataW.Trod enc Tryd.prog w base spare held 68 v d p) :
    ∃ a b c : Nat, ∃ s : Int, v = carV a b c s := by
  obtain ⟨cs, rfl, hsz⟩ := okWide_struct Tryd.underlying68 hv
  obtain ⟨c0, c1, c2, c3, rfl⟩ := array4 (hsz.trans cellsC)
  obtain ⟨fuel, hf⟩ := h
  obtain ⟨y0, y1, y2, y3, n, _, _, g0, g1, g2, g3⟩ := trod_struct4 Tryd.underlying68 hf
  rw [cells1] at g0 g1 g2
  rw [cellsI] at g3
  obtain ⟨x3, e3, _, _⟩ := DataW.trod_int Tryd.underlying3 g3
  simp [Value.cells] at e3
  subst e3
  obtain ⟨a, rfl, _⟩ := trod_f32 Tryd.underlying27 (show DataW.trod enc Tryd.prog w base spare held n 27 [c0] = some y0 from g0)
  obtain ⟨b, rfl, _⟩ := trod_f32 Tryd.underlying27 (show DataW.trod enc Tryd.prog w base spare held n 27 [c1] = some y1 from g1)
  obtain ⟨c, rfl, _⟩ := trod_f32 Tryd.underlying27 (show DataW.trod enc Tryd.prog w base spare held n 27 [c2] = some y2 from g2)
  exact ⟨a, b, c, x3, rfl⟩
end

set_option maxRecDepth 100000 in
theorem lifted (os : Os) (started : os.Started) (H : Type) (enc : TypeId × Value → H) :
    ReturnsInHanded {} Tryd.checked os 6 .any (fun w args => (Rows.depthMatchesSpec.pre enc Tryd.prog Tryd.f6 [] false w args ∧ laidMetH Tryd.prog laidX w) ∧ sizedMet enc Tryd.prog Tryd.f6 (OpenSpec.ofChange Rows.depthMatchesSpec) false w args)
      (Rows.depthMatchesSpec.post enc Tryd.prog Tryd.f6 false true false false) := by
  refine returnsInHanded_of_change_and (C := Tryd.checked) (X := fun w _ => laidMetH Tryd.prog laidX w) (fun _ _ _ hh h => h.of_heap hh) own started (by kernel_rfl) Tryd.func6
    (ChangeSpec.witness_shaped (enc := enc) (C := Tryd.checked) (os := os) (X := fun w _ => laidMetH Tryd.prog laidX w) false (World.doorLaid Tryd.prog 400 os) #[carV 0 0 0 0, .int .i64 0, .float .f32 0] 8 rfl (World.shaped_of_RefB (by kernel_rfl) (by kernel_rfl)) (by kernel_rfl) (by kernel_rfl) (by kernel_rfl) (door_met os _)) ?_
  intro W base args ds gs before hval0 hW _ _ hL _
  have hval : ∀ (j : Nat) t v, Tryd.f6.params[j]? = some t → args[j]? = some v → Value.okWide Tryd.prog W .any base t v := hval0
  have hW' := hW
  have hplt : ∀ x ∈ before, x.block < W.heap.size := fun x hx => by simpa using hW'.lt x hx
  obtain ⟨p, q, hA0, hV, rfl, hfz, hnd⟩ := hW
  have hA : DataW.TrodAll enc Tryd.prog W 0 (fun _ => true) true Tryd.f6.params.toList args.toList ds p := hA0
  rw [Tryd.params6] at hA hval
  obtain ⟨v0, vs0, d0, ds0, p0, q0, hargs, rfl, rfl, h0, r0⟩ := trodAll_cons hA
  obtain ⟨v1, vs1, d1, ds1, p1, q1, rfl, rfl, rfl, h1, r1⟩ := trodAll_cons r0
  obtain ⟨v2, vs2, d2, ds2, p2, q2, rfl, rfl, rfl, h2, r2⟩ := trodAll_cons r1
  obtain ⟨rfl, rfl, rfl⟩ := trodAll_nil r2
  obtain rfl : args = #[v0, v1, v2] := by cases args; simp_all
  obtain ⟨rfl, rfl⟩ := trodVars_none hV
  obtain ⟨a, b, c, s, rfl⟩ := open_carving (hval 0 68 v0 rfl rfl) h0
  obtain ⟨n, rfl, rfl, rfl, wn⟩ := open_int Tryd.underlying3 (hval 1 3 v1 rfl rfl) h1
  obtain ⟨m, rfl, rfl, rfl, wm⟩ := open_float Tryd.underlying27 (hval 2 27 v2 rfl rfl) h2
  have hlt : ∀ x ∈ p0, x.block < W.heap.size := fun x hx => hplt x (by simp [hx])
  clear hA0 hval0 hplt
  simp only [List.append_nil] at hW'
  refine (depthLaw_any a b c s n m W (dirs_of_laid hL)).mono fun e W' ⟨he, hb⟩ => ?_
  subst he
  exact ⟨_, rfl, _, _, _, [], _, [], hW', trodAll_cons_mk (shut_bool Tryd.underlying4 _) trodAll_mk0, trodAll_cons_mk (Below.trod laidOut (by kernel_rfl) (of_decide_eq_true (by kernel_rfl)) h0 hb hlt) (trodAll_cons_mk (shut_int Tryd.underlying3 wn) (trodAll_cons_mk (shut_float Tryd.underlying27 wm) trodAll_mk0)), rfl, hb.frame _, fun h => by cases h⟩

theorem over : Rows.DepthMatchesSaid :=
  OpenClaim.holds_of_wide 6 Tryd.f6 rfl rfl rfl rfl rfl rfl rfl ⟨rfl, rfl, rfl, rfl, rfl⟩ rfl rfl rfl rfl rfl (by kernel_rfl) Tryd.func6 (by kernel_rfl)
    (of_decide_eq_true (by kernel_rfl)) (by unfold Func.isWrapper; rw [if_neg (of_decide_eq_false (by kernel_rfl))]; exact ⟨rfl, rfl⟩)
    (fun os started H enc _ => lifted os started H enc)

theorem proved : Rows.DepthMatchesCardSaid :=
  Claim7.holds_tied_plain_at .later [] [.data] true (true, "6fdcf3f2f78e6d341d136240db9de05bdb82b17003d6628a22dbf52f7b54976f") true
    over (fun _ h => by cases h) (by kernel_rfl) (fun _ h => by cases h) depthMatches_row_tie rfl ⟨rfl, rfl⟩ (by kernel_rfl) rfl
    (fun f fn hf hfn => by
      obtain rfl : f = 6 := Option.some.inj ((show Tryd.prog.funcNamed "tarnfell/tarnlaw2.DepthMatches" = some 6 by kernel_rfl).symm.trans hf) |>.symm
      obtain rfl : fn = Tryd.f6 := (Option.some.inj (Tryd.func6.symm.trans hfn)).symm
      exact ⟨by kernel_rfl, fun j t ht => by
        rw [Tryd.params6] at ht
        have hm : t ∈ [68, 3, 27] := by simpa using Array.mem_of_getElem? ht
        have hall : ([68, 3, 27].all fun u => !Tryd.prog.wantsStandIn u) = true := by kernel_rfl
        exact (show Tryd.prog.wantsStandIn t = false by simpa using List.all_eq_true.1 hall t hm)⟩)
    (by kernel_rfl)
#print axioms proved
end Go.Proofs.YtacbemilicdklaaDoor.depthMatches
