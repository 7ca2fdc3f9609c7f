/- Contracts: water's byCell, whatever function it is given; Filled over a right field and slope. -/
import Derived.Test.YtnbpapbpiknnnabDoorFil3
import Derived.Test.YtnbpapbpiknnnabDoorGen
import Derived.Test.YtnbpapbpiknnnabDoorPlace
import Derived.Test.YtnbpapbpiknnnabDoorEas
namespace Go.Proofs.YtnbpapbpiknnnabDoor
open Go.RowKit Fl Go.Shelf
set_option linter.unusedVariables false

theorem enters_wbyCell1 : Enters 125 := by intro args W; simp [callFunc, Tryd.func125, Tryd.f125]
theorem enters_Filled1 : Enters 70 := by intro args W; simp [callFunc, Tryd.func70, Tryd.f70]
theorem Clos1.stay {g : Nat} {caps : Array Value} {n : Nat} {f : Nat → Nat} {w w' : World} (h : Clos1 g caps n f w) (hb : Below w.heap.size w w') : Clos1 g caps n f w' :=
  fun i W' h1 hb' => h i W' h1 (hb.trans (hb'.mono hb.size))

/-- A function of a cell's number in a box. -/
abbrev fn1Obj (g : Nat) (caps : Array Value) : Obj := .cells #[.func (.func g) #[] caps] 104

set_option maxHeartbeats 4000000 in
set_option maxRecDepth 100000 in
theorem wbyCell1_any (X Y : Int) (W H n : Nat) (f : Nat → Nat) (g : Nat) (caps : Array Value) (p q : Nat) (w : World) (hcall : Enters g) (hcl : Clos1 g caps n f w)
    (hp : w.heap[p]? = some (regObj X Y W H)) (hq : w.heap[q]? = some (fn1Obj g caps)) (hn : n ≤ 65536)
    (hX1 : -16777216 ≤ X) (hX2 : X ≤ 16777216) (hY1 : -16777216 ≤ Y) (hY2 : Y ≤ 16777216) (hW1 : 1 ≤ W) (hW2 : W ≤ 512) (hH2 : H ≤ 512) (hnn : n = H * W) :
    Clos2 125 #[.pointer (some ⟨q, 0, none⟩), .pointer (some ⟨p, 0, none⟩)] X Y W H f w := by
  intro x y i w2 h1 h2 h3 h4 h5 hb
  have hi : i < n := num_lt hW1 h1 h2 h4 h5 hnn
  have CC := Lib.hid (fun W' (hB : Below w2.heap.size w2 W') => hcl i W' hi (hb.trans (hB.mono hb.size)))
  have IX := Lib.hid (fun w => index_any X Y W H i x y w hX1 hX2 hY1 hY2 hW1 hW2 hH2 h1 h2 h3 h4 h5 (by omega))
  have P := blkStay hp hb
  have Q := blkStay hq hb
  have HP := Lib.hid P
  have HQ := Lib.hid Q
  obtain ⟨cP, fP, zP⟩ := blkC P
  obtain ⟨cQ, fQ, zQ⟩ := blkC Q
  unfold Enters at hcall
  clear hp hq P Q hb h1 h2 h3 h4 h5 hX1 hX2 hY1 hY2 hW1 hW2 hH2 hnn hcl hi hn
  go_enter Tryd.func125, Tryd.ntmps125
  go_wp2
  go_region_held3 (fun w' => (∀ o, w'.cell? ⟨p, o, none⟩ = #[.int .i64 X, .int .i64 Y, .int .i64 W, .int .i64 H][o]?) ∧ (∀ o, w'.cell? ⟨q, o, none⟩ = #[.func (.func g) #[] caps][o]?) ∧ Below w2.heap.size w2 w') (first | exact ⟨(blkC (blkStay HP.out hb9)).1, (blkC (blkStay HQ.out hb9)).1, hb9⟩ | exact ⟨(blkC (blkStay HP.out (by repeat (first | exact Below.refl _ _ | refine Below.alloc ?_ (by first | omega | (simp; done) | (simp; omega)) _ | refine Below.setCell ?_ (by first | omega | (simp; done) | (simp; omega)) _ | refine Below.drew ?_)))).1, (blkC (blkStay HQ.out (by repeat (first | exact Below.refl _ _ | refine Below.alloc ?_ (by first | omega | (simp; done) | (simp; omega)) _ | refine Below.setCell ?_ (by first | omega | (simp; done) | (simp; omega)) _ | refine Below.drew ?_)))).1, (by repeat (first | exact Below.refl _ _ | refine Below.alloc ?_ (by first | omega | (simp; done) | (simp; omega)) _ | refine Below.setCell ?_ (by first | omega | (simp; done) | (simp; omega)) _ | refine Below.drew ?_))⟩) (first | (go_at_call 78; (with_reducible refine Calls.mono (IX.out _) ?_); rintro e w' ⟨rfl, rfl⟩) | (go_simp; (with_reducible refine Calls.mono (CC.out _ ?_) ?_); exact (by repeat (first | exact Below.refl _ _ | refine Below.alloc ?_ (by first | omega | (simp; done) | (simp; omega)) _ | refine Below.setCell ?_ (by first | omega | (simp; done) | (simp; omega)) _ | refine Below.drew ?_)); rintro e w' ⟨rfl, hb8⟩; have hb9 : Below w2.heap.size w2 w' := Below.trans (by repeat (first | exact Below.refl _ _ | refine Below.alloc ?_ (by first | omega | (simp; done) | (simp; omega)) _ | refine Below.setCell ?_ (by first | omega | (simp; done) | (simp; omega)) _ | refine Below.drew ?_)) (Below.mono hb8 (by first | exact Nat.le_refl _ | (simp; done) | (simp; omega))); clear hb8))
  rename_i hHeld
  go_wp2
  go_ret
  exact ⟨rfl, hHeld.2.2⟩

set_option maxHeartbeats 2000000 in
theorem wbyCell_any (X Y : Int) (W H n : Nat) (f : Nat → Nat) (g : Nat) (caps : Array Value) (w : World) (hcall : Enters g) (hcl : Clos1 g caps n f w) (h0 : checkR X Y W H = 0) (hnn : n = H * W) :
    Calls Tryd.prog 69 #[reg X Y W H, .func (.func g) #[] caps] w (MadePost w X Y W H n f) := by
  obtain ⟨b1, b2, b3, b4, b5, b6, b7, b8, b9⟩ := checkR_zero h0
  have hn2 : n ≤ 65536 := by
    have : ((W : Int) * (H : Int)) = (n : Int) := by rw [hnn, Nat.mul_comm]; simp
    omega
  have hB : Below w.heap.size w (((w.alloc (regObj X Y W H)).alloc (fn1Obj g caps)).alloc (fldO 0 0 0 0 (.slice none 0 0))) := (by repeat (first | exact Below.refl _ _ | refine Below.alloc ?_ (by first | omega | (simp; done) | (simp; omega)) _ | refine Below.setCell ?_ (by first | omega | (simp; done) | (simp; omega)) _ | refine Below.drew ?_))
  have MK := Lib.hid (make_ok X Y W H n 125 #[.pointer (some ⟨w.heap.size + 1, 0, none⟩), .pointer (some ⟨w.heap.size, 0, none⟩)] f (((w.alloc (regObj X Y W H)).alloc (fn1Obj g caps)).alloc (fldO 0 0 0 0 (.slice none 0 0))) enters_wbyCell1
    (wbyCell1_any X Y W H n f g caps w.heap.size (w.heap.size + 1) _ hcall (hcl.stay hB) (by ((simp only [heap_alloc_get, heap_size_alloc, if_true]) <;> ((repeat' split) <;> first | rfl | omega))) (by ((simp only [heap_alloc_get, heap_size_alloc, if_true]) <;> ((repeat' split) <;> first | rfl | omega))) hn2 (by omega) (by omega) (by omega) (by omega) (by omega) (by omega) (by omega) hnn) h0 hnn)
  clear hcl hcall h0 b1 b2 b3 b4 b5 b6 b7 b8 b9 hnn hn2 hB
  go_enter Tryd.func69, Tryd.ntmps69
  go_wp2_with fail
  refine MK.out.mono ?_
  intro e w4 hmade
  rcases hmade with ⟨hall, b', cap', rfl, hb', hlt', hrow, hbel⟩ | ⟨hall, rfl, hbel⟩
  · have hS := Lib.hid (blkStay (b := w.heap.size + 1 + 1) (o := fldO 0 0 0 0 (.slice none 0 0)) (by ((simp only [heap_alloc_get, heap_size_alloc, if_true]) <;> ((repeat' split) <;> first | rfl | omega))) hbel)
    have hB : Below w.heap.size w w4 := Below.trans (by repeat (first | exact Below.refl _ _ | refine Below.alloc ?_ (by first | omega | (simp; done) | (simp; omega)) _ | refine Below.setCell ?_ (by first | omega | (simp; done) | (simp; omega)) _ | refine Below.drew ?_)) (Below.mono hbel (by simp; omega))
    obtain ⟨cS, fS, zS⟩ := blkC hS.out
    have HB := Lib.hid hb'
    clear hb'
    go_wp2
    refine bodyPost_ret (v := .tuple #[fldV X Y W H (.slice (some ⟨b', 0, none⟩) n cap'), .int .i64 0]) (by simp [results, Tryd.results69, go_sem, cS]) rfl ?_
    have hb' := HB.out
    simp only [heap_size_alloc] at hb'
    exact .inl ⟨hall, b', cap', rfl, by omega, by rw [set5_size]; exact hlt', flAt_congr hrow (set5_heap w4 _ _ _ _ _ _ _ (by omega)), set5_below hB _ _ _ _ _ _ (by omega)⟩
  · have hS := Lib.hid (blkStay (b := w.heap.size + 1 + 1) (o := fldO 0 0 0 0 (.slice none 0 0)) (by ((simp only [heap_alloc_get, heap_size_alloc, if_true]) <;> ((repeat' split) <;> first | rfl | omega))) hbel)
    have hB : Below w.heap.size w w4 := Below.trans (by repeat (first | exact Below.refl _ _ | refine Below.alloc ?_ (by first | omega | (simp; done) | (simp; omega)) _ | refine Below.setCell ?_ (by first | omega | (simp; done) | (simp; omega)) _ | refine Below.drew ?_)) (Below.mono hbel (by simp; omega))
    obtain ⟨cS, fS, zS⟩ := blkC hS.out
    go_wp2
    refine bodyPost_ret (v := .tuple #[fldV 0 0 0 0 (.slice none 0 0), .int .i64 3]) (by simp [results, Tryd.results69, go_sem, cS]) rfl ?_
    exact .inr ⟨hall, rfl, set5_below hB _ _ _ _ _ _ (by omega)⟩

/-- A list of singles in a box. -/
abbrev rowO (b n cap : Nat) : Obj := .cells #[.slice (some ⟨b, 0, none⟩) n cap] 24

set_option maxHeartbeats 2000000 in
theorem filled1_any (n b cap : Nat) (s : Nat → Nat) (p : Nat) (w : World) (hp : w.heap[p]? = some (rowO b n cap)) (hc : FlAt w b 0 n s) (hn : n ≤ 65536) :
    Clos1 70 #[.pointer (some ⟨p, 0, none⟩)] n s w := by
  intro i w2 hi hb
  have hcell : w2.cell? ⟨b, i, none⟩ = some (.float .f32 (s i)) := by
    have := flAt_congr hc (hb.block b (World.block_lt_of_cell? w _ (hc i hi))) i hi
    rwa [Nat.zero_add] at this
  obtain ⟨cP, fP, zP⟩ := blkC (blkStay hp hb)
  have hi2 : (i : Int) < (n : Int) := by omega
  have hi3 : (0 : Int) ≤ (i : Int) := by omega
  clear hp hb hc hi hn
  go_enter Tryd.func70, Tryd.ntmps70
  go_wp2
  go_ret
  exact ⟨rfl, (by repeat (first | exact Below.refl _ _ | refine Below.alloc ?_ (by first | omega | (simp; done) | (simp; omega)) _ | refine Below.setCell ?_ (by first | omega | (simp; done) | (simp; omega)) _ | refine Below.drew ?_))⟩

/-- What Filled answers over a right field and slope. -/
def FilledPost (w : World) (X Y : Int) (W H n : Nat) (v : Nat → Nat) (sl : Nat) (e : Ending) (w' : World) : Prop := ∃ s, Spills (gndOf W H v sl) s ∧ MadePost w X Y W H n s e w'

set_option maxHeartbeats 2000000 in
theorem filled_any (X Y : Int) (W H n b cap : Nat) (v : Nat → Nat) (sl : Nat) (w : World) (h0 : checkR X Y W H = 0) (hn : n = W * H) (hcap : n ≤ cap) (hcp : cap ≤ 9223372036854775807) (hc : FlAt w b 0 n v) (hh : allB n (fun i => hgtB (v i)) = true) (hs : SlW sl) (hw : wiE sl 0 1149239296 = 0) (hD : DirsAt w) :
    Calls Tryd.prog 15 #[fldV X Y W H (.slice (some ⟨b, 0, none⟩) n cap), .float .f32 sl] w (FilledPost w X Y W H n v sl) := by
  obtain ⟨b1, b2, b3, b4, b5, b6, b7, b8, b9⟩ := checkR_zero h0
  have hn2 : n ≤ 65536 := by
    have : ((W : Int) * (H : Int)) = (n : Int) := by rw [hn]; simp
    omega
  have hnn : n = H * W := by rw [hn]; exact Nat.mul_comm _ _
  have n1 : 1 ≤ n := by rw [hn]; exact Nat.mul_pos (by omega) (by omega)
  have hlt : b < w.heap.size := World.block_lt_of_cell? w _ (hc 0 n1)
  have CK := Lib.hid (fun W' (hB : Below w.heap.size w W') => check_ok X Y W H n b cap v W' h0 hn (flAt_congr hc (hB.block b hlt)) hh)
  have CW := Lib.hid (fun w => checkWithin_any sl 0 1149239296 w)
  rw [hw] at CW
  have LS := Lib.hid (fun W' (hB : Below w.heap.size w W') => leastSpills_any X Y W H n b cap v sl W' h0 hn hcap hcp (flAt_congr hc (hB.block b hlt)) hh hs (hD.stay hB))
  have BY := Lib.hid (fun W' p sb scap s (kp : W'.heap[p]? = some (rowO sb n scap)) (ks : FlAt W' sb 0 n s) => wbyCell_any X Y W H n s 70 #[.pointer (some ⟨p, 0, none⟩)] W' enters_Filled1 (filled1_any n sb scap s p W' kp ks hn2) h0 hnn)
  clear h0 hn hc hh hs hw hD b1 b2 b3 b4 b5 b6 b7 b8 b9 hn2 hnn n1 hlt hcap hcp
  go_enter Tryd.func15, Tryd.ntmps15
  go_wp2_with (first | (go_at_call 66; refine (CK.out _ (by repeat (first | exact Below.refl _ _ | refine Below.alloc ?_ (by first | omega | (simp; done) | (simp; omega)) _ | refine Below.setCell ?_ (by first | omega | (simp; done) | (simp; omega)) _ | refine Below.drew ?_))).mono ?_; rintro e w2 ⟨rfl, hb2⟩; have HF2 := Lib.hid (blkStay (b := w.heap.size) (o := fldO X Y W H (.slice (some ⟨b, 0, none⟩) n cap)) (by ((simp only [heap_alloc_get, heap_size_alloc, if_true]) <;> ((repeat' split) <;> first | rfl | omega))) hb2); have HL2 := Lib.hid (blkStay (b := w.heap.size + 1) (o := fldO 0 0 0 0 (.slice none 0 0)) (by ((simp only [heap_alloc_get, heap_size_alloc, if_true]) <;> ((repeat' split) <;> first | rfl | omega))) hb2); have hB2 : Below w.heap.size w w2 := Below.trans (by repeat (first | exact Below.refl _ _ | refine Below.alloc ?_ (by first | omega | (simp; done) | (simp; omega)) _ | refine Below.setCell ?_ (by first | omega | (simp; done) | (simp; omega)) _ | refine Below.drew ?_)) (Below.mono hb2 (by first | omega | (simp; done) | (simp; omega))); obtain ⟨cF, fF, zF⟩ := blkC HF2.out; clear hb2) | (go_at_call 67; refine (CW.out _).mono ?_; rintro e w' ⟨rfl, rfl⟩) | (go_at_call 68; refine (LS.out _ hB2).mono ?_; rintro e w3 ⟨s, sb, scap, rfl, s1, s2, s3, s4, s5, hb3⟩; clear cF fF zF; have HF3 := Lib.hid (blkStay HF2.out hb3); have HL3 := Lib.hid (blkStay HL2.out hb3); have hB3 := Lib.hid (hB2.trans (hb3.mono hB2.size)); obtain ⟨cF, fF, zF⟩ := blkC HF3.out; have S2 := Lib.hid s2; have S4 := Lib.hid s4; have S5 := Lib.hid s5; clear s1 s2 s3 s4 s5 hb3 hB2 HF2 HL2))
  refine (BY.out _ _ sb scap s (heap_alloc_new _ _) (flAt_congr S4.out (heap_alloc_old _ _ S2.out))).mono ?_
  intro e w4 hmade
  have hA : Below w3.heap.size w3 (w3.alloc (rowO sb n scap)) := (by repeat (first | exact Below.refl _ _ | refine Below.alloc ?_ (by first | omega | (simp; done) | (simp; omega)) _ | refine Below.setCell ?_ (by first | omega | (simp; done) | (simp; omega)) _ | refine Below.drew ?_))
  clear cF fF zF
  rcases hmade with ⟨hall, b', cap', rfl, hb', hlt', hrow, hbel⟩ | ⟨hall, rfl, hbel⟩
  · have h34 := hA.trans (hbel.mono hA.size)
    obtain ⟨cS, fS, zS⟩ := blkC (blkStay HL3.out h34)
    have zS3 := (blkC HL3.out).2.2
    have B4 := Lib.hid (hB3.out.trans (h34.mono hB3.out.size))
    have HB := Lib.hid (Nat.le_trans hA.size hb')
    clear hb' hA hbel h34
    go_wp2
    refine bodyPost_ret (v := .tuple #[fldV X Y W H (.slice (some ⟨b', 0, none⟩) n cap'), .int .i64 0]) (by simp [results, Tryd.results15, go_sem, cS]) rfl ?_
    have hb' := HB.out
    have z3 := hB3.out.size
    exact ⟨s, S5.out, .inl ⟨hall, b', cap', rfl, by omega, by rw [set5_size]; exact hlt', flAt_congr hrow (set5_heap w4 _ _ _ _ _ _ _ (by omega)), set5_below B4.out _ _ _ _ _ _ (by omega)⟩⟩
  · have h34 := hA.trans (hbel.mono hA.size)
    obtain ⟨cS, fS, zS⟩ := blkC (blkStay HL3.out h34)
    have zS3 := (blkC HL3.out).2.2
    have B4 := Lib.hid (hB3.out.trans (h34.mono hB3.out.size))
    clear hA hbel h34
    go_wp2
    refine bodyPost_ret (v := .tuple #[fldV 0 0 0 0 (.slice none 0 0), .int .i64 3]) (by simp [results, Tryd.results15, go_sem, cS]) rfl ?_
    exact ⟨s, S5.out, .inr ⟨hall, rfl, set5_below B4.out _ _ _ _ _ _ (by omega)⟩⟩
end Go.Proofs.YtnbpapbpiknnnabDoor
