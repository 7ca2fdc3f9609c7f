/- Terrace of the reference, of a right field. -/
import Derived.Test.YtjjhhnoeiglnhabSel5
namespace Go.Proofs.Ytjjhhnoeiglnhab
open Go.RowKit Fl
set_option linter.unusedVariables false

theorem al_below (w : World) (o : Obj) : Below w.heap.size w (w.alloc o) := (Below.refl _ _).alloc (Nat.le_refl _) o
theorem ter_lt {v st sh : Nat} (hv : hgtB v = true) (hs : StepOk st) (hsh : ShOk sh) : terW v st sh < 4294967296 := by
  obtain ⟨q, d, c, u, x, y, j, r, T⟩ := ter_parts hv hs hsh
  rw [T.w]; exact T.lt

set_option maxHeartbeats 1000000 in
theorem terraceError_any (st sh : Nat) (hl : st < 4294967296) (hh : sh < 4294967296) (w : World) :
    Calls Try.prog 117 #[.float .f32 st, .float .f32 sh] w fun e w' => e = .returned (.int .i64 (terE st sh)) ∧ Below w.heap.size w w' := by
  have HT := Lib.hid (fun bb W' (hb : W'.heap[bb]? = some (.cells #[.float .f32 st, .float .f32 sh] 37)) => refHeight_row bb 0 2 2 (two st sh) (by omega) W' (flAt_two hb) (two_wf hl hh))
  unfold terE
  by_cases hz : fldE 2 (two st sh) = 0
  · rw [if_pos hz]
    rw [hz] at HT
    clear hz hl hh
    cases c1 : (FloatKind.f32.format.order st 981467136 == some .lt) with
    | true =>
      rw [if_pos (by unfold terB; rw [c1]; rfl)]
      go_enter Try.func117, Try.ntmps117
      go_wp2_with (first | (go_at_call 72; refine (HT.out _ _ (heap_alloc_new _ _)).mono ?_; rintro e w2 ⟨rfl, rfl⟩))
      go_ret
      exact ⟨rfl, (by repeat (first | exact Below.refl _ _ | refine Below.alloc ?_ (by first | omega | (simp; done) | (simp; omega)) _ | refine Below.setCell ?_ (by first | omega | (simp; done) | (simp; omega)) _ | refine Below.drew ?_))⟩
    | false =>
      cases c2 : (FloatKind.f32.format.order st 1149239296 == some .gt) with
      | true =>
        rw [if_pos (by unfold terB; rw [c1, c2]; rfl)]
        go_enter Try.func117, Try.ntmps117
        go_wp2_with (first | (go_at_call 72; refine (HT.out _ _ (heap_alloc_new _ _)).mono ?_; rintro e w2 ⟨rfl, rfl⟩))
        go_ret
        exact ⟨rfl, (by repeat (first | exact Below.refl _ _ | refine Below.alloc ?_ (by first | omega | (simp; done) | (simp; omega)) _ | refine Below.setCell ?_ (by first | omega | (simp; done) | (simp; omega)) _ | refine Below.drew ?_))⟩
      | false =>
        cases c3 : (FloatKind.f32.format.order sh 0 == some .lt) with
        | true =>
          rw [if_pos (by unfold terB; rw [c1, c2, c3]; rfl)]
          go_enter Try.func117, Try.ntmps117
          go_wp2_with (first | (go_at_call 72; refine (HT.out _ _ (heap_alloc_new _ _)).mono ?_; rintro e w2 ⟨rfl, rfl⟩))
          go_ret
          exact ⟨rfl, (by repeat (first | exact Below.refl _ _ | refine Below.alloc ?_ (by first | omega | (simp; done) | (simp; omega)) _ | refine Below.setCell ?_ (by first | omega | (simp; done) | (simp; omega)) _ | refine Below.drew ?_))⟩
        | false =>
          cases c4 : (FloatKind.f32.format.order sh 1065353216 == some .gt || FloatKind.f32.format.order sh 1065353216 == some .eq) with
          | true =>
            rw [if_pos (by unfold terB; rw [c1, c2, c3, c4]; rfl)]
            go_enter Try.func117, Try.ntmps117
            go_wp2_with (first | (go_at_call 72; refine (HT.out _ _ (heap_alloc_new _ _)).mono ?_; rintro e w2 ⟨rfl, rfl⟩))
            go_ret
            exact ⟨rfl, (by repeat (first | exact Below.refl _ _ | refine Below.alloc ?_ (by first | omega | (simp; done) | (simp; omega)) _ | refine Below.setCell ?_ (by first | omega | (simp; done) | (simp; omega)) _ | refine Below.drew ?_))⟩
          | false =>
            rw [if_neg (by unfold terB; rw [c1, c2, c3, c4]; simp)]
            go_enter Try.func117, Try.ntmps117
            go_wp2_with (first | (go_at_call 72; refine (HT.out _ _ (heap_alloc_new _ _)).mono ?_; rintro e w2 ⟨rfl, rfl⟩))
            go_ret
            exact ⟨rfl, (by repeat (first | exact Below.refl _ _ | refine Below.alloc ?_ (by first | omega | (simp; done) | (simp; omega)) _ | refine Below.setCell ?_ (by first | omega | (simp; done) | (simp; omega)) _ | refine Below.drew ?_))⟩
  · rw [if_neg hz]
    have hzb : (fldE 2 (two st sh) != 0) = true := by simp [hz]
    generalize fldE 2 (two st sh) = er at *
    clear hz hl hh
    go_enter Try.func117, Try.ntmps117
    go_wp2_with (first | (go_at_call 72; refine (HT.out _ _ (heap_alloc_new _ _)).mono ?_; rintro e w2 ⟨rfl, rfl⟩))
    go_ret
    exact ⟨rfl, (by repeat (first | exact Below.refl _ _ | refine Below.alloc ?_ (by first | omega | (simp; done) | (simp; omega)) _ | refine Below.setCell ?_ (by first | omega | (simp; done) | (simp; omega)) _ | refine Below.drew ?_))⟩

set_option maxHeartbeats 4000000 in
set_option maxRecDepth 100000 in
theorem rter1_any (X Y : Int) (W H n b cap : Nat) (v : Nat → Nat) (p st sh : Nat) (w : World) (kF : w.heap[p]? = some (fldO X Y W H (.slice (some ⟨b, 0, none⟩) n cap))) (k1 : w.heap[p + 1]? = some (flObj st)) (k2 : w.heap[p + 1 + 1]? = some (flObj sh)) (hc : FlAt w b 0 n v)
    (hh : allB n (fun i => hgtB (v i)) = true) (g1 : StepOk st) (g2 : ShOk sh) (h0 : checkR X Y W H = 0) (hnn : n = H * W) :
    Clos2 118 #[.pointer (some ⟨p, 0, none⟩), .pointer (some ⟨p + 1, 0, none⟩), .pointer (some ⟨p + 1 + 1, 0, none⟩)] X Y W H (fun i => terW (v i) st sh) w := by
  intro x y i w2 h1 h2 h3 h4 h5 hb
  obtain ⟨b1, b2, b3, b4, b5, b6, b7, b8, b9⟩ := checkR_zero h0
  have hn : n ≤ 65536 := by
    have : ((W : Int) * (H : Int)) = (n : Int) := by rw [hnn, Nat.mul_comm]; simp
    omega
  have hi' : i < n := num_lt (by omega) h1 h2 h4 h5 hnn
  have hrow := flAt_congr hc (hb.block b (World.block_lt_of_cell? w _ (hc i hi')))
  have z1 := World.block_lt_of_cell? w2 _ (hrow i hi')
  have AT := Lib.hid (fun W' (hb : Below w2.heap.size w2 W') => refAt_any X Y W H n b cap i v x y W' (by omega) (by omega) (by omega) (by omega) (by omega) (by omega) (by omega) h1 h2 h3 h4 h5 hi' hn (flAt_congr hrow (hb.block _ z1)))
  have SL := Lib.hid (fun w => terraced_any (v i) st sh w (allB_iff.1 hh i hi') g1 g2)
  have GF := Lib.hid (blkStay kF hb)
  have G1 := Lib.hid (blkStay k1 hb)
  have G2 := Lib.hid (blkStay k2 hb)
  obtain ⟨cF, fF, zF⟩ := blkC GF.out
  obtain ⟨c1, f1, z2⟩ := blkC G1.out
  obtain ⟨c2, f2, z3⟩ := blkC G2.out
  show Calls _ _ _ _ fun e w' => e = .returned (.float .f32 (terW (v i) st sh)) ∧ _
  generalize terW (v i) st sh = r at *
  clear hb h1 h2 h3 h4 h5 b1 b2 b3 b4 b5 b6 b7 b8 b9 hnn hh h0 hi' hn hrow kF k1 k2 hc
  go_enter Try.func118, Try.ntmps118
  go_wp2
  go_region_held3 (fun w' => (∀ o, w'.cell? ⟨p, o, none⟩ = #[.int .i64 X, .int .i64 Y, .int .i64 W, .int .i64 H, .slice (some ⟨b, 0, none⟩) n cap][o]?) ∧ (∀ o, w'.cell? ⟨p + 1, o, none⟩ = #[.float .f32 st][o]?) ∧ (∀ o, w'.cell? ⟨p + 1 + 1, o, none⟩ = #[.float .f32 sh][o]?) ∧ Below w2.heap.size w2 w') (first | exact ⟨(blkC (blkStay GF.out (by repeat (first | exact Below.refl _ _ | refine Below.alloc ?_ (by first | omega | (simp; done) | (simp; omega)) _ | refine Below.setCell ?_ (by first | omega | (simp; done) | (simp; omega)) _ | refine Below.drew ?_)))).1, (blkC (blkStay G1.out (by repeat (first | exact Below.refl _ _ | refine Below.alloc ?_ (by first | omega | (simp; done) | (simp; omega)) _ | refine Below.setCell ?_ (by first | omega | (simp; done) | (simp; omega)) _ | refine Below.drew ?_)))).1, (blkC (blkStay G2.out (by repeat (first | exact Below.refl _ _ | refine Below.alloc ?_ (by first | omega | (simp; done) | (simp; omega)) _ | refine Below.setCell ?_ (by first | omega | (simp; done) | (simp; omega)) _ | refine Below.drew ?_)))).1, (by repeat (first | exact Below.refl _ _ | refine Below.alloc ?_ (by first | omega | (simp; done) | (simp; omega)) _ | refine Below.setCell ?_ (by first | omega | (simp; done) | (simp; omega)) _ | refine Below.drew ?_))⟩) (first | (go_at_call 67; (with_reducible refine Calls.mono (AT.out _ ?_) ?_); exact (by repeat (first | exact Below.refl _ _ | refine Below.alloc ?_ (by first | omega | (simp; done) | (simp; omega)) _ | refine Below.setCell ?_ (by first | omega | (simp; done) | (simp; omega)) _ | refine Below.drew ?_)); rintro e w' ⟨rfl, rfl⟩) | (go_at_call 119; refine (SL.out _).mono ?_; rintro e w' ⟨rfl, rfl⟩))
  rename_i wh hHeld
  go_wp2
  go_ret
  exact ⟨rfl, hHeld.2.2.2⟩

set_option maxHeartbeats 2000000 in
theorem rterrace_any (X Y : Int) (W H n b cap : Nat) (v : Nat → Nat) (st sh : Nat) (w : World) (h0 : checkR X Y W H = 0) (hn : n = W * H) (hc : FlAt w b 0 n v) (hh : allB n (fun i => hgtB (v i)) = true) (hl' : st < 4294967296) (hh' : sh < 4294967296) :
    Calls Try.prog 32 #[fldV X Y W H (.slice (some ⟨b, 0, none⟩) n cap), .float .f32 st, .float .f32 sh] w (ScPost w X Y W H n (fun i => terW (v i) st sh) (terE st sh)) := by
  obtain ⟨b1, b2, b3, b4, b5, b6, b7, b8, b9⟩ := checkR_zero h0
  have hnn : n = H * W := by rw [hn]; exact Nat.mul_comm _ _
  have h1 : 1 ≤ n := by rw [hn]; exact Nat.mul_pos (by omega) (by omega)
  have hlt : b < w.heap.size := World.block_lt_of_cell? w _ (hc 0 h1)
  have SE := Lib.hid (fun w => terraceError_any st sh hl' hh' w)
  by_cases hz : terE st sh = 0
  · have hz2 : fldE 2 (two st sh) = 0 := by
      unfold terE at hz
      by_cases q : fldE 2 (two st sh) = 0
      · exact q
      · rw [if_neg q] at hz; exact hz
    obtain ⟨k1, k2⟩ := two_hgt hz2
    have hzB : terB st sh = false := by
      unfold terE at hz
      rw [if_pos hz2] at hz
      cases q : terB st sh with
      | false => rfl
      | true => rw [q, if_pos rfl] at hz; cases hz
    unfold terB at hzB
    simp only [Bool.or_eq_false_iff] at hzB
    obtain ⟨c1, c2, c3, c4, c5⟩ := hzB
    obtain ⟨g1, g2⟩ := ter_ok k1 k2 c1 c2 c3 (by rw [c4, c5]; rfl)
    clear k1 k2 c1 c2 c3 c4 c5
    have BY := Lib.hid (fun W' p (kF : W'.heap[p]? = some (fldO X Y W H (.slice (some ⟨b, 0, none⟩) n cap))) (k1 : W'.heap[p + 1]? = some (flObj st)) (k2 : W'.heap[p + 1 + 1]? = some (flObj sh)) (hc' : FlAt W' b 0 n v) =>
      made_any X Y W H n 118 #[.pointer (some ⟨p, 0, none⟩), .pointer (some ⟨p + 1, 0, none⟩), .pointer (some ⟨p + 1 + 1, 0, none⟩)] (fun i => terW (v i) st sh) W' enters_rTerrace1
        (rter1_any X Y W H n b cap v p st sh W' kF k1 k2 hc' hh g1 g2 h0 hnn) (fun i hi' => ter_lt (allB_iff.1 hh i hi') g1 g2) (by omega) (by omega) (by omega) (by omega) (by omega) (by omega) (by omega) (by omega) hnn)
    rw [hz] at SE ⊢
    have HC := Lib.hid hc
    clear hc hn h0 hh hz hz2 b1 b2 b3 b4 b5 b6 b7 b8 b9 hnn g1 g2 hl' hh'
    go_enter Try.func32, Try.ntmps32
    go_wp2_with (first | (go_at_call 117; refine (SE.out _).mono ?_; rintro e w2 ⟨rfl, hb2⟩; have HF2 := Lib.hid (blkStay (b := w.heap.size) (o := fldO X Y W H (.slice (some ⟨b, 0, none⟩) n cap)) (by ((simp only [heap_alloc_get, heap_size_alloc, if_true]) <;> ((repeat' split) <;> first | rfl | omega))) hb2); have HL2 := Lib.hid (blkStay (b := w.heap.size + 1) (o := flObj st) (by ((simp only [heap_alloc_get, heap_size_alloc, if_true]) <;> ((repeat' split) <;> first | rfl | omega))) hb2); have HH2 := Lib.hid (blkStay (b := w.heap.size + 1 + 1) (o := flObj sh) (by ((simp only [heap_alloc_get, heap_size_alloc, if_true]) <;> ((repeat' split) <;> first | rfl | omega))) hb2); have HS2 := Lib.hid (blkStay (b := w.heap.size + 1 + 1 + 1) (o := fldO 0 0 0 0 (.slice none 0 0)) (by ((simp only [heap_alloc_get, heap_size_alloc, if_true]) <;> ((repeat' split) <;> first | rfl | omega))) hb2); have hB2 : Below w.heap.size w w2 := Below.trans (by repeat (first | exact Below.refl _ _ | refine Below.alloc ?_ (by first | omega | (simp; done) | (simp; omega)) _ | refine Below.setCell ?_ (by first | omega | (simp; done) | (simp; omega)) _ | refine Below.drew ?_)) (Below.mono hb2 (by first | omega | (simp; done) | (simp; omega))); obtain ⟨cF, fF, zF⟩ := blkC HF2.out; clear hb2))
    refine (BY.out _ w.heap.size HF2.out HL2.out HH2.out (flAt_congr HC.out (hB2.block _ hlt))).mono ?_
    intro e w4 hmade
    clear cF fF zF
    rcases hmade with ⟨hall, b', cap', rfl, hb', hlt', hrow, hbel⟩ | ⟨hall, rfl, hbel⟩
    · obtain ⟨cS, fS, zS4⟩ := blkC (blkStay HS2.out hbel)
      have zS2 := (blkC HS2.out).2.2
      have HB := Lib.hid hb'
      clear hb'
      go_wp2
      refine bodyPost_ret (v := .tuple #[fldV X Y W H (.slice (some ⟨b', 0, none⟩) n cap'), .int .i64 0]) (by simp [results, Try.results32, go_sem, cS]) rfl ?_
      have z2 := hB2.size
      have hb' := HB.out
      exact .inr ⟨rfl, .inl ⟨hall, b', cap', rfl, by omega, by rw [set5_size]; exact hlt', flAt_congr hrow (set5_heap w4 _ _ _ _ _ _ _ (by omega)), set5_below (hB2.trans (hbel.mono z2)) _ _ _ _ _ _ (by omega)⟩⟩
    · obtain ⟨cS, fS, zS4⟩ := blkC (blkStay HS2.out hbel)
      go_wp2
      refine bodyPost_ret (v := .tuple #[fldV 0 0 0 0 (.slice none 0 0), .int .i64 3]) (by simp [results, Try.results32, go_sem, cS]) rfl ?_
      have z2 := hB2.size
      exact .inr ⟨rfl, .inr ⟨hall, rfl, set5_below (hB2.trans (hbel.mono z2)) _ _ _ _ _ _ (by omega)⟩⟩
  · have hzb : (terE st sh != 0) = true := by simp [hz]
    have HZ := Lib.hid hz
    generalize terE st sh = er at *
    clear hc hn h0 hh hz b1 b2 b3 b4 b5 b6 b7 b8 b9 hnn hl' hh'
    go_enter Try.func32, Try.ntmps32
    go_wp2_with (first | (go_at_call 117; refine (SE.out _).mono ?_; rintro e w2 ⟨rfl, hb2⟩; have HS2 := Lib.hid (blkStay (b := w.heap.size + 1 + 1 + 1) (o := fldO 0 0 0 0 (.slice none 0 0)) (by ((simp only [heap_alloc_get, heap_size_alloc, if_true]) <;> ((repeat' split) <;> first | rfl | omega))) hb2); have hB2 : Below w.heap.size w w2 := Below.trans (by repeat (first | exact Below.refl _ _ | refine Below.alloc ?_ (by first | omega | (simp; done) | (simp; omega)) _ | refine Below.setCell ?_ (by first | omega | (simp; done) | (simp; omega)) _ | refine Below.drew ?_)) (Below.mono hb2 (by first | omega | (simp; done) | (simp; omega))); obtain ⟨cS, fS, zS⟩ := blkC HS2.out; clear hb2))
    refine bodyPost_ret (v := .tuple #[fldV 0 0 0 0 (.slice none 0 0), .int .i64 er]) (by simp [results, Try.results32, go_sem, cS]) rfl ?_
    exact .inl ⟨HZ.out, rfl, set5_below hB2 _ _ _ _ _ _ (by omega)⟩
end Go.Proofs.Ytjjhhnoeiglnhab
