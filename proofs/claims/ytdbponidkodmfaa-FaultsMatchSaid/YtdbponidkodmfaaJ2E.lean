/- FaultsMatch, for every list of faults, every field and every place: CheckFault, Throw and Faults answer as the references do. No condition. -/
import Derived.Test.YtdbponidkodmfaaJ2D
import Derived.ProofKit
import Derived.OpenShut
import Derived.Lib.SmallJoins
import Derived.Laws.Cover2
import Derived.Deep.Slices

/- Folds of the reference, of a right field; Lift of both sides. -/
namespace Go.Proofs.Ytdbponidkodmfaa
open Go.RowKit Fl
set_option linter.unusedVariables false

theorem bnd_wf {m n : Nat} {v : Nat → Nat} {A B P : Nat → Int} {h : Nat → Nat} {X Y : Int} {W : Nat} (hh : allB m (fun i => hgtB (v i)) = true) (wv : wf32 m v) (hn : n ≤ 100) (K : ∀ i, i < n → FolOk (A i) (B i) (P i) (h i)) : wf32 m (bndF v A B P h n X Y W) := by
  intro i hi
  exact acc_lt (hgt_bd (allB_iff.1 hh i hi)) (wv i hi) hn (folF_bd K)

set_option maxHeartbeats 4000000 in
set_option maxRecDepth 100000 in
theorem rfolds_any (X Y : Int) (W H m b cap : Nat) (v : Nat → Nat) (a : Option Addr) (n lcap : Nat) (A B P : Nat → Int) (h : Nat → Nat) (er : Int) (w : World) (h0 : checkR X Y W H = 0) (hm : m = W * H) (hc : FlAt w b 0 m v) (hh : allB m (fun i => hgtB (v i)) = true) (wv : wf32 m v)
    (L : FolL w a n A B P h) (hl : n ≤ 9223372036854775807) (wh : wf32 n h) (E : LstE n (fun i => folE (A i) (B i) (P i) (h i)) er) :
    Calls Try.prog 12 #[fldV X Y W H (.slice (some ⟨b, 0, none⟩) m cap), .slice a n lcap] w (ScPost w X Y W H m (bndF v A B P h n X Y W) (bndE n er)) := by
  obtain ⟨b1, b2, b3, b4, b5, b6, b7, b8, b9⟩ := checkR_zero h0
  have hnn : m = H * W := by rw [hm]; exact Nat.mul_comm _ _
  have h1 : 1 ≤ m := by rw [hm]; exact Nat.mul_pos (by omega) (by omega)
  have hlt : b < w.heap.size := World.block_lt_of_cell? w _ (hc 0 h1)
  have hsf := fun (w : World) (a : Addr) (m : Mode) (k : FloatKind) (b : Nat) => run_store_float (P := Try.prog) (w := w) (a := a) (m := m) k b
  unfold bndE
  by_cases cn : 100 < n
  · rw [if_pos cn]
    have cn' : decide ((100 : Int) < (n : Int)) = true := by simp; omega
    clear hc hh h0 hm hnn h1 b1 b2 b3 b4 b5 b6 b7 b8 b9 E L cn wv wh hlt
    go_enter Try.func12, Try.ntmps12
    go_wp2
    refine bodyPost_ret (v := .tuple #[fldV 0 0 0 0 (.slice none 0 0), .int .i64 4]) (by simp [results, Try.results12, go_sem]) rfl ?_
    exact .inl ⟨by decide, rfl, (by repeat (first | exact Below.refl _ _ | refine Below.alloc ?_ (by first | omega | (simp; done) | (simp; omega)) _ | refine Below.setCell ?_ (by first | omega | (simp; done) | (simp; omega)) _ | refine Below.drew ?_))⟩
  · rw [if_neg cn]
    have cn' : decide ((100 : Int) < (n : Int)) = false := by simp; omega
    have hn : n ≤ 100 := by omega
    have HC := Lib.hid hc
    have HL := Lib.hid L
    have EE := Lib.hid E
    have CF := Lib.hid (fun i (hi : i < n) w => refCheckFold_any (A i) (B i) (P i) (h i) (wh i hi) w)
    have BY := Lib.hid (fun (hz : ∀ i, i < n → folE (A i) (B i) (P i) (h i) = 0) W' p (kF : W'.heap[p]? = some (fldO X Y W H (.slice (some ⟨b, 0, none⟩) m cap))) (k1 : W'.heap[p + 1]? = some (folsO a n lcap)) (hc' : FlAt W' b 0 m v) (L' : FolL W' a n A B P h) =>
      made_any X Y W H m 57 #[.pointer (some ⟨p, 0, none⟩), .pointer (some ⟨p + 1, 0, none⟩)] (bndF v A B P h n X Y W) W' enters_rFolds1
        (rFolds1_any X Y W H m b cap v a n lcap A B P h p (p + 1) W' kF k1 hc' hh L' hn (fun i hi => fol_ok (hz i hi)) h0 hnn) (bnd_wf hh wv hn (fun i hi => fol_ok (hz i hi))) (by omega) (by omega) (by omega) (by omega) (by omega) (by omega) (by omega) (by omega) hnn)
    have A0 := Lib.hid (show Below w.heap.size w (((w.alloc (fldO X Y W H (.slice (some ⟨b, 0, none⟩) m cap))).alloc (folsO a n lcap)).alloc (fldO 0 0 0 0 (.slice none 0 0))) from (by repeat (first | exact Below.refl _ _ | refine Below.alloc ?_ (by first | omega | (simp; done) | (simp; omega)) _ | refine Below.setCell ?_ (by first | omega | (simp; done) | (simp; omega)) _ | refine Below.drew ?_)))
    have HF0 := Lib.hid (show (((w.alloc (fldO X Y W H (.slice (some ⟨b, 0, none⟩) m cap))).alloc (folsO a n lcap)).alloc (fldO 0 0 0 0 (.slice none 0 0))).heap[w.heap.size]? = some (fldO X Y W H (.slice (some ⟨b, 0, none⟩) m cap)) by (first | (rw [heap_alloc_get, if_pos rfl]; done) | ((simp only [heap_alloc_get, heap_size_alloc, if_true]) <;> ((repeat' split) <;> first | rfl | omega))))
    have HL0 := Lib.hid (show (((w.alloc (fldO X Y W H (.slice (some ⟨b, 0, none⟩) m cap))).alloc (folsO a n lcap)).alloc (fldO 0 0 0 0 (.slice none 0 0))).heap[w.heap.size + 1]? = some (folsO a n lcap) by (first | (rw [heap_alloc_get, if_pos rfl]; done) | ((simp only [heap_alloc_get, heap_size_alloc, if_true]) <;> ((repeat' split) <;> first | rfl | omega))))
    have HS0 := Lib.hid (show (((w.alloc (fldO X Y W H (.slice (some ⟨b, 0, none⟩) m cap))).alloc (folsO a n lcap)).alloc (fldO 0 0 0 0 (.slice none 0 0))).heap[w.heap.size + 1 + 1]? = some (fldO 0 0 0 0 (.slice none 0 0)) by (first | (rw [heap_alloc_get, if_pos rfl]; done) | ((simp only [heap_alloc_get, heap_size_alloc, if_true]) <;> ((repeat' split) <;> first | rfl | omega))))
    clear hc hh h0 hm hnn h1 b1 b2 b3 b4 b5 b6 b7 b8 b9 E L cn hl wv wh
    go_enter Try.func12, Try.ntmps12
    go_wp2
    generalize ((w.alloc (fldO X Y W H (.slice (some ⟨b, 0, none⟩) m cap))).alloc (folsO a n lcap)).alloc (fldO 0 0 0 0 (.slice none 0 0)) = w2 at *
    go_loopw [15] (fun i wr => ∃ j : Nat, j ≤ n ∧ i = .int .i64 j ∧ (∀ i, i < j → folE (A i) (B i) (P i) (h i) = 0) ∧ Below w2.heap.size w2 wr) (fun i _ => n - (intOf i).toNat)
    case atStart => exact ⟨0, by omega, rfl, fun i hi => by omega, Below.refl _ _⟩
    case round =>
      obtain ⟨j, hj, rfl, hz, hb⟩ := hrel
      have HZ := Lib.hid hz
      have HB := Lib.hid hb
      clear hz
      by_cases c : j < n
      · rcases HL.out.stay (A0.out.trans (hb.mono A0.out.size)) with z | ⟨b', off, rfl, l⟩
        · omega
        obtain ⟨l0, l1, l2, l3⟩ := l j c
        have C1 := Lib.hid (fun w => CF.out j c w)
        obtain ⟨ej, hej⟩ : ∃ ej, folE (A j) (B j) (P j) (h j) = ej := ⟨_, rfl⟩
        rw [hej] at C1
        have HE := Lib.hid hej
        clear l hb hej
        by_cases c0 : ej = 0
        · subst c0
          go_wp2_with (first | (go_at_call 18; refine (C1.out _).mono ?_; rintro e' w4 ⟨rfl, hb4⟩; have hB4 : Below wr.heap.size wr w4 := Below.trans (by repeat (first | exact Below.refl _ _ | refine Below.alloc ?_ (by first | omega | (simp; done) | (simp; omega)) _ | refine Below.setCell ?_ (by first | omega | (simp; done) | (simp; omega)) _ | refine Below.drew ?_)) (Below.mono hb4 (by simp)); have HB4 := Lib.hid (HB.out.trans (hB4.mono HB.out.size)); clear hb4 hB4))
          go_roundw
          case rel => exact ⟨j + 1, by omega, by go_num, (fun i hi => by
            rcases Nat.lt_or_ge i j with q | q
            · exact HZ.out i q
            · rw [show i = j by omega]; exact HE.out), HB4.out⟩
          case measure => simp [intOf]; omega
        · have cz : (ej != 0) = true := by simp [c0]
          have C0 := Lib.hid c0
          clear c0
          go_wp2_with (first | (go_at_call 18; refine (C1.out _).mono ?_; rintro e' w4 ⟨rfl, hb4⟩; have hB4 : Below wr.heap.size wr w4 := Below.trans (by repeat (first | exact Below.refl _ _ | refine Below.alloc ?_ (by first | omega | (simp; done) | (simp; omega)) _ | refine Below.setCell ?_ (by first | omega | (simp; done) | (simp; omega)) _ | refine Below.drew ?_)) (Below.mono hb4 (by simp)); have HB4 := Lib.hid (HB.out.trans (hB4.mono HB.out.size)); clear hb4 hB4; obtain ⟨cS, fS, zS⟩ := blkC (blkStay HS0.out HB4.out)))
          refine bodyPost_ret (v := .tuple #[fldV 0 0 0 0 (.slice none 0 0), .int .i64 ej]) (by simp [results, Try.results12, go_sem, cS]) rfl ?_
          have e := EE.out.at HZ.out c (by show folE (A j) (B j) (P j) (h j) ≠ 0; rw [HE.out]; exact C0.out)
          have e' : ej = er := by rw [← HE.out]; exact e
          have z2 := A0.out.size; have zS2 := (blkC HS0.out).2.2
          exact .inl ⟨by rw [← e']; exact C0.out, by rw [e'], set5_below (A0.out.trans (HB4.out.mono z2)) _ _ _ _ _ _ (by omega)⟩
      · have : j = n := by omega
        subst this
        have e0 := EE.out.zero HZ.out
        subst e0
        obtain ⟨cF, fF, zF⟩ := blkC (blkStay HF0.out hb)
        have hb2 := A0.out.trans (hb.mono A0.out.size)
        have RX := Lib.hid (BY.out HZ.out wr w.heap.size (blkStay HF0.out hb) (blkStay HL0.out hb) (flAt_congr HC.out (hb2.block _ hlt)) (HL.out.stay hb2))
        have HS := Lib.hid (blkStay HS0.out hb)
        have HX := Lib.hid hb2
        clear hb hb2
        go_wp2_with fail
        clear cF fF zF
        refine RX.out.mono ?_
        intro e w4 hmade
        rcases hmade with ⟨hall, b', cap', rfl, hb', hlt', hrow, hbel⟩ | ⟨hall, rfl, hbel⟩
        · obtain ⟨cS, fS, zS4⟩ := blkC (blkStay HS.out hbel)
          have zS3 := (blkC HS.out).2.2
          have HB' := Lib.hid hb'
          clear hb'
          go_wp2
          refine bodyPost_ret (v := .tuple #[fldV X Y W H (.slice (some ⟨b', 0, none⟩) m cap'), .int .i64 0]) (by simp [results, Try.results12, go_sem, cS]) rfl ?_
          have z3 := HX.out.size
          have hb' := HB'.out
          exact .inr ⟨rfl, .inl ⟨hall, b', cap', rfl, by omega, by rw [set5_size]; exact hlt', flAt_congr hrow (set5_heap w4 _ _ _ _ _ _ _ (by omega)), set5_below (HX.out.trans (hbel.mono z3)) _ _ _ _ _ _ (by omega)⟩⟩
        · obtain ⟨cS, fS, zS4⟩ := blkC (blkStay HS.out hbel)
          go_wp2
          refine bodyPost_ret (v := .tuple #[fldV 0 0 0 0 (.slice none 0 0), .int .i64 3]) (by simp [results, Try.results12, go_sem, cS]) rfl ?_
          have z3 := HX.out.size
          exact .inr ⟨rfl, .inr ⟨hall, rfl, set5_below (HX.out.trans (hbel.mono z3)) _ _ _ _ _ _ (by omega)⟩⟩


/-- Lift's error and value. -/
def lifE (A B P : Int) (h : Nat) (x y : Int) : Int := if folE A B P h = 0 then plcE x y else folE A B P h
def lifV (A B P : Int) (h : Nat) (x y : Int) : Nat := if lifE A B P h x y = 0 then lifW (folK A B P x y) P h else 0

set_option maxHeartbeats 1000000 in
set_option maxRecDepth 100000 in
theorem liftX_any (A B P : Int) (h : Nat) (x y : Int) (w : World) :
    Calls Try.prog 14 #[fol A B P h, .int .i64 x, .int .i64 y] w fun e w' => e = .returned (.tuple #[.float .f32 (lifV A B P h x y), .int .i64 (lifE A B P h x y)]) ∧ Below w.heap.size w w' := by
  have CF := Lib.hid (fun w => checkFold_any A B P h w)
  have CP := Lib.hid (fun w => checkPlace_any x y w)
  unfold lifV lifE
  by_cases c : folE A B P h = 0
  · have K := fol_ok c
    rw [c] at CF
    rw [if_pos c]
    rcases plcE_cases x y with d | d
    · obtain ⟨p1, p2, p3, p4⟩ := plc_ok d
      have LI := Lib.hid (fun w => lift_any A B P h x y w K (by omega) (by omega) (by omega) (by omega))
      rw [d] at CP
      rw [d, if_pos rfl]
      generalize lifW (folK A B P x y) P h = r at *
      clear c K d p1 p2 p3 p4
      go_enter Try.func14, Try.ntmps14
      go_wp2_with (first | (go_at_call 17; refine (CF.out _).mono ?_; rintro e w2 ⟨rfl, hb2⟩; have HB2 := Lib.hid (blkStay (b := w.heap.size) (o := folObj A B P h) (by (first | (rw [heap_alloc_get, if_pos rfl]; done) | ((simp only [heap_alloc_get, heap_size_alloc, if_true]) <;> ((repeat' split) <;> first | rfl | omega)))) hb2); have hB2 : Below w.heap.size w w2 := Below.trans (by repeat (first | exact Below.refl _ _ | refine Below.alloc ?_ (by first | omega | (simp; done) | (simp; omega)) _ | refine Below.setCell ?_ (by first | omega | (simp; done) | (simp; omega)) _ | refine Below.drew ?_)) (Below.mono hb2 (by simp)); clear hb2; obtain ⟨cB, fB, zB⟩ := blkC HB2.out) | (go_at_call 61; refine (CP.out _).mono ?_; rintro e w' ⟨rfl, rfl⟩) | (go_at_call 55; refine (LI.out _).mono ?_; rintro e w3 ⟨rfl, hb3⟩; have hB3 := hB2.trans (hb3.mono hB2.size)))
      go_ret2
      exact ⟨rfl, hB3⟩
    · rw [d] at CP
      rw [d, if_neg (by decide)]
      clear c K d
      go_enter Try.func14, Try.ntmps14
      go_wp2_with (first | (go_at_call 17; refine (CF.out _).mono ?_; rintro e w2 ⟨rfl, hb2⟩; have HB2 := Lib.hid (blkStay (b := w.heap.size) (o := folObj A B P h) (by (first | (rw [heap_alloc_get, if_pos rfl]; done) | ((simp only [heap_alloc_get, heap_size_alloc, if_true]) <;> ((repeat' split) <;> first | rfl | omega)))) hb2); have hB2 : Below w.heap.size w w2 := Below.trans (by repeat (first | exact Below.refl _ _ | refine Below.alloc ?_ (by first | omega | (simp; done) | (simp; omega)) _ | refine Below.setCell ?_ (by first | omega | (simp; done) | (simp; omega)) _ | refine Below.drew ?_)) (Below.mono hb2 (by simp)); clear hb2; obtain ⟨cB, fB, zB⟩ := blkC HB2.out) | (go_at_call 61; refine (CP.out _).mono ?_; rintro e w' ⟨rfl, rfl⟩))
      go_ret2
      exact ⟨rfl, hB2⟩
  · rw [if_neg c, if_neg c]
    have cz : (folE A B P h != 0) = true := by simp [c]
    generalize folE A B P h = er at *
    clear c
    go_enter Try.func14, Try.ntmps14
    go_wp2_with (first | (go_at_call 17; refine (CF.out _).mono ?_; rintro e w2 ⟨rfl, hb2⟩; have hB2 : Below w.heap.size w w2 := Below.trans (by repeat (first | exact Below.refl _ _ | refine Below.alloc ?_ (by first | omega | (simp; done) | (simp; omega)) _ | refine Below.setCell ?_ (by first | omega | (simp; done) | (simp; omega)) _ | refine Below.drew ?_)) (Below.mono hb2 (by simp)); clear hb2))
    go_ret2
    exact ⟨rfl, hB2⟩


set_option maxHeartbeats 1000000 in
theorem rplaceError_any (x y : Int) (w : World) :
    Calls Try.prog 62 #[.int .i64 x, .int .i64 y, .int .i64 1] w fun e w' => e = .returned (.int .i64 (plcE x y)) ∧ w = w' := by
  go_enter Try.func62, Try.ntmps62
  go_wp2
  all_goals go_ret
  all_goals refine ⟨ret_int (Eq.symm ?_), rfl⟩
  all_goals unfold plcE
  all_goals first
    | (rw [if_neg (by rw [withinB_iff, withinB_iff]; omega)])
    | (rw [if_pos (by rw [withinB_iff, withinB_iff]; omega)])

set_option maxHeartbeats 1000000 in
set_option maxRecDepth 100000 in
theorem rliftX_any (A B P : Int) (h : Nat) (x y : Int) (w : World) (hh : h < 4294967296) :
    Calls Try.prog 15 #[fol A B P h, .int .i64 x, .int .i64 y] w fun e w' => e = .returned (.tuple #[.float .f32 (lifV A B P h x y), .int .i64 (lifE A B P h x y)]) ∧ Below w.heap.size w w' := by
  have CF := Lib.hid (fun w => refCheckFold_any A B P h hh w)
  have CP := Lib.hid (fun w => rplaceError_any x y w)
  unfold lifV lifE
  by_cases c : folE A B P h = 0
  · have K := fol_ok c
    rw [c] at CF
    rw [if_pos c]
    rcases plcE_cases x y with d | d
    · obtain ⟨p1, p2, p3, p4⟩ := plc_ok d
      have LI := Lib.hid (fun w => rlift_any A B P h x y w K (by omega) (by omega) (by omega) (by omega))
      rw [d] at CP
      rw [d, if_pos rfl]
      generalize lifW (folK A B P x y) P h = r at *
      clear c K d p1 p2 p3 p4
      go_enter Try.func15, Try.ntmps15
      go_wp2_with (first | (go_at_call 18; refine (CF.out _).mono ?_; rintro e w2 ⟨rfl, hb2⟩; have HB2 := Lib.hid (blkStay (b := w.heap.size) (o := folObj A B P h) (by (first | (rw [heap_alloc_get, if_pos rfl]; done) | ((simp only [heap_alloc_get, heap_size_alloc, if_true]) <;> ((repeat' split) <;> first | rfl | omega)))) hb2); have hB2 : Below w.heap.size w w2 := Below.trans (by repeat (first | exact Below.refl _ _ | refine Below.alloc ?_ (by first | omega | (simp; done) | (simp; omega)) _ | refine Below.setCell ?_ (by first | omega | (simp; done) | (simp; omega)) _ | refine Below.drew ?_)) (Below.mono hb2 (by simp)); clear hb2; obtain ⟨cB, fB, zB⟩ := blkC HB2.out) | (go_at_call 62; refine (CP.out _).mono ?_; rintro e w' ⟨rfl, rfl⟩) | (go_at_call 60; refine (LI.out _).mono ?_; rintro e w3 ⟨rfl, hb3⟩; have hB3 := hB2.trans (hb3.mono hB2.size)))
      go_ret2
      exact ⟨rfl, hB3⟩
    · rw [d] at CP
      rw [d, if_neg (by decide)]
      clear c K d
      go_enter Try.func15, Try.ntmps15
      go_wp2_with (first | (go_at_call 18; refine (CF.out _).mono ?_; rintro e w2 ⟨rfl, hb2⟩; have HB2 := Lib.hid (blkStay (b := w.heap.size) (o := folObj A B P h) (by (first | (rw [heap_alloc_get, if_pos rfl]; done) | ((simp only [heap_alloc_get, heap_size_alloc, if_true]) <;> ((repeat' split) <;> first | rfl | omega)))) hb2); have hB2 : Below w.heap.size w w2 := Below.trans (by repeat (first | exact Below.refl _ _ | refine Below.alloc ?_ (by first | omega | (simp; done) | (simp; omega)) _ | refine Below.setCell ?_ (by first | omega | (simp; done) | (simp; omega)) _ | refine Below.drew ?_)) (Below.mono hb2 (by simp)); clear hb2; obtain ⟨cB, fB, zB⟩ := blkC HB2.out) | (go_at_call 62; refine (CP.out _).mono ?_; rintro e w' ⟨rfl, rfl⟩))
      go_ret2
      exact ⟨rfl, hB2⟩
  · rw [if_neg c, if_neg c]
    have cz : (folE A B P h != 0) = true := by simp [c]
    generalize folE A B P h = er at *
    clear c
    go_enter Try.func15, Try.ntmps15
    go_wp2_with (first | (go_at_call 18; refine (CF.out _).mono ?_; rintro e w2 ⟨rfl, hb2⟩; have hB2 : Below w.heap.size w w2 := Below.trans (by repeat (first | exact Below.refl _ _ | refine Below.alloc ?_ (by first | omega | (simp; done) | (simp; omega)) _ | refine Below.setCell ?_ (by first | omega | (simp; done) | (simp; omega)) _ | refine Below.drew ?_)) (Below.mono hb2 (by simp)); clear hb2))
    go_ret2
    exact ⟨rfl, hB2⟩

end Go.Proofs.Ytdbponidkodmfaa

/- Faults of the reference, of a right field; Throw of both sides. -/
namespace Go.Proofs.Ytdbponidkodmfaa
open Go.RowKit Fl
set_option linter.unusedVariables false

theorem bnu_wf {m n : Nat} {v : Nat → Nat} {A B C D : Nat → Int} {h : Nat → Nat} {X Y : Int} {W H : Nat} (h0 : checkR X Y W H = 0) (hm : m = W * H) (hh : allB m (fun i => hgtB (v i)) = true) (wv : wf32 m v) (hn : n ≤ 100) (K : ∀ i, i < n → FauOk (A i) (B i) (C i) (D i) (h i)) : wf32 m (bnuF v A B C D h n X Y W) := by
  intro i hi
  obtain ⟨b1, b2, b3, b4, b5, b6, b7, b8, b9⟩ := checkR_zero h0
  have e1 : i % W < W := Nat.mod_lt _ (by omega)
  have e2 : i / W < H := Nat.div_lt_of_lt_mul (by rw [← hm]; exact hi)
  have fin : ∀ p q : Nat, p < W → q < H → accW (v i) (fauF A B C D h (X + (p : Int)) (Y + (q : Int))) n < 4294967296 := fun p q hp hq =>
    acc_lt (hgt_bd (allB_iff.1 hh i hi)) (wv i hi) hn (fauF_bd K (by omega) (by omega) (by omega) (by omega))
  exact fin _ _ e1 e2

set_option maxHeartbeats 4000000 in
set_option maxRecDepth 100000 in
theorem rfaults_any (X Y : Int) (W H m b cap : Nat) (v : Nat → Nat) (a : Option Addr) (n lcap : Nat) (A B C D : Nat → Int) (h : Nat → Nat) (er : Int) (w : World) (h0 : checkR X Y W H = 0) (hm : m = W * H) (hc : FlAt w b 0 m v) (hh : allB m (fun i => hgtB (v i)) = true) (wv : wf32 m v)
    (L : FauL w a n A B C D h) (hl : n ≤ 9223372036854775807) (wh : wf32 n h) (E : LstE n (fun i => fauE (A i) (B i) (C i) (D i) (h i)) er) :
    Calls Try.prog 20 #[fldV X Y W H (.slice (some ⟨b, 0, none⟩) m cap), .slice a n lcap] w (ScPost w X Y W H m (bnuF v A B C D h n X Y W) (bndE n er)) := by
  obtain ⟨b1, b2, b3, b4, b5, b6, b7, b8, b9⟩ := checkR_zero h0
  have hnn : m = H * W := by rw [hm]; exact Nat.mul_comm _ _
  have h1 : 1 ≤ m := by rw [hm]; exact Nat.mul_pos (by omega) (by omega)
  have hlt : b < w.heap.size := World.block_lt_of_cell? w _ (hc 0 h1)
  have hsf := fun (w : World) (a : Addr) (m : Mode) (k : FloatKind) (b : Nat) => run_store_float (P := Try.prog) (w := w) (a := a) (m := m) k b
  unfold bndE
  by_cases cn : 100 < n
  · rw [if_pos cn]
    have cn' : decide ((100 : Int) < (n : Int)) = true := by simp; omega
    clear hc hh h0 hm hnn h1 b1 b2 b3 b4 b5 b6 b7 b8 b9 E L cn wv wh hlt
    go_enter Try.func20, Try.ntmps20
    go_wp2
    refine bodyPost_ret (v := .tuple #[fldV 0 0 0 0 (.slice none 0 0), .int .i64 4]) (by simp [results, Try.results20, go_sem]) rfl ?_
    exact .inl ⟨by decide, rfl, (by repeat (first | exact Below.refl _ _ | refine Below.alloc ?_ (by first | omega | (simp; done) | (simp; omega)) _ | refine Below.setCell ?_ (by first | omega | (simp; done) | (simp; omega)) _ | refine Below.drew ?_))⟩
  · rw [if_neg cn]
    have cn' : decide ((100 : Int) < (n : Int)) = false := by simp; omega
    have hn : n ≤ 100 := by omega
    have HC := Lib.hid hc
    have HL := Lib.hid L
    have EE := Lib.hid E
    have CF := Lib.hid (fun i (hi : i < n) w => refCheckFault_any (A i) (B i) (C i) (D i) (h i) (wh i hi) w)
    have BY := Lib.hid (fun (hz : ∀ i, i < n → fauE (A i) (B i) (C i) (D i) (h i) = 0) W' p (kF : W'.heap[p]? = some (fldO X Y W H (.slice (some ⟨b, 0, none⟩) m cap))) (k1 : W'.heap[p + 1]? = some (fausO a n lcap)) (hc' : FlAt W' b 0 m v) (L' : FauL W' a n A B C D h) =>
      made_any X Y W H m 69 #[.pointer (some ⟨p, 0, none⟩), .pointer (some ⟨p + 1, 0, none⟩)] (bnuF v A B C D h n X Y W) W' enters_rFaults1
        (rFaults1_any X Y W H m b cap v a n lcap A B C D h p (p + 1) W' kF k1 hc' hh L' hn (fun i hi => fau_ok (hz i hi)) h0 hnn) (bnu_wf h0 hm hh wv hn (fun i hi => fau_ok (hz i hi))) (by omega) (by omega) (by omega) (by omega) (by omega) (by omega) (by omega) (by omega) hnn)
    have A0 := Lib.hid (show Below w.heap.size w (((w.alloc (fldO X Y W H (.slice (some ⟨b, 0, none⟩) m cap))).alloc (fausO a n lcap)).alloc (fldO 0 0 0 0 (.slice none 0 0))) from (by repeat (first | exact Below.refl _ _ | refine Below.alloc ?_ (by first | omega | (simp; done) | (simp; omega)) _ | refine Below.setCell ?_ (by first | omega | (simp; done) | (simp; omega)) _ | refine Below.drew ?_)))
    have HF0 := Lib.hid (show (((w.alloc (fldO X Y W H (.slice (some ⟨b, 0, none⟩) m cap))).alloc (fausO a n lcap)).alloc (fldO 0 0 0 0 (.slice none 0 0))).heap[w.heap.size]? = some (fldO X Y W H (.slice (some ⟨b, 0, none⟩) m cap)) by (first | (rw [heap_alloc_get, if_pos rfl]; done) | ((simp only [heap_alloc_get, heap_size_alloc, if_true]) <;> ((repeat' split) <;> first | rfl | omega))))
    have HL0 := Lib.hid (show (((w.alloc (fldO X Y W H (.slice (some ⟨b, 0, none⟩) m cap))).alloc (fausO a n lcap)).alloc (fldO 0 0 0 0 (.slice none 0 0))).heap[w.heap.size + 1]? = some (fausO a n lcap) by (first | (rw [heap_alloc_get, if_pos rfl]; done) | ((simp only [heap_alloc_get, heap_size_alloc, if_true]) <;> ((repeat' split) <;> first | rfl | omega))))
    have HS0 := Lib.hid (show (((w.alloc (fldO X Y W H (.slice (some ⟨b, 0, none⟩) m cap))).alloc (fausO a n lcap)).alloc (fldO 0 0 0 0 (.slice none 0 0))).heap[w.heap.size + 1 + 1]? = some (fldO 0 0 0 0 (.slice none 0 0)) by (first | (rw [heap_alloc_get, if_pos rfl]; done) | ((simp only [heap_alloc_get, heap_size_alloc, if_true]) <;> ((repeat' split) <;> first | rfl | omega))))
    clear hc hh h0 hm hnn h1 b1 b2 b3 b4 b5 b6 b7 b8 b9 E L cn hl wv wh
    go_enter Try.func20, Try.ntmps20
    go_wp2
    generalize ((w.alloc (fldO X Y W H (.slice (some ⟨b, 0, none⟩) m cap))).alloc (fausO a n lcap)).alloc (fldO 0 0 0 0 (.slice none 0 0)) = w2 at *
    go_loopw [15] (fun i wr => ∃ j : Nat, j ≤ n ∧ i = .int .i64 j ∧ (∀ i, i < j → fauE (A i) (B i) (C i) (D i) (h i) = 0) ∧ Below w2.heap.size w2 wr) (fun i _ => n - (intOf i).toNat)
    case atStart => exact ⟨0, by omega, rfl, fun i hi => by omega, Below.refl _ _⟩
    case round =>
      obtain ⟨j, hj, rfl, hz, hb⟩ := hrel
      have HZ := Lib.hid hz
      have HB := Lib.hid hb
      clear hz
      by_cases c : j < n
      · rcases HL.out.stay (A0.out.trans (hb.mono A0.out.size)) with z | ⟨b', off, rfl, l⟩
        · omega
        obtain ⟨l0, l1, l2, l3, l4⟩ := l j c
        have C1 := Lib.hid (fun w => CF.out j c w)
        obtain ⟨ej, hej⟩ : ∃ ej, fauE (A j) (B j) (C j) (D j) (h j) = ej := ⟨_, rfl⟩
        rw [hej] at C1
        have HE := Lib.hid hej
        clear l hb hej
        by_cases c0 : ej = 0
        · subst c0
          go_wp2_with (first | (go_at_call 24; refine (C1.out _).mono ?_; rintro e' w4 ⟨rfl, hb4⟩; have hB4 : Below wr.heap.size wr w4 := Below.trans (by repeat (first | exact Below.refl _ _ | refine Below.alloc ?_ (by first | omega | (simp; done) | (simp; omega)) _ | refine Below.setCell ?_ (by first | omega | (simp; done) | (simp; omega)) _ | refine Below.drew ?_)) (Below.mono hb4 (by simp)); have HB4 := Lib.hid (HB.out.trans (hB4.mono HB.out.size)); clear hb4 hB4))
          go_roundw
          case rel => exact ⟨j + 1, by omega, by go_num, (fun i hi => by
            rcases Nat.lt_or_ge i j with q | q
            · exact HZ.out i q
            · rw [show i = j by omega]; exact HE.out), HB4.out⟩
          case measure => simp [intOf]; omega
        · have cz : (ej != 0) = true := by simp [c0]
          have C0 := Lib.hid c0
          clear c0
          go_wp2_with (first | (go_at_call 24; refine (C1.out _).mono ?_; rintro e' w4 ⟨rfl, hb4⟩; have hB4 : Below wr.heap.size wr w4 := Below.trans (by repeat (first | exact Below.refl _ _ | refine Below.alloc ?_ (by first | omega | (simp; done) | (simp; omega)) _ | refine Below.setCell ?_ (by first | omega | (simp; done) | (simp; omega)) _ | refine Below.drew ?_)) (Below.mono hb4 (by simp)); have HB4 := Lib.hid (HB.out.trans (hB4.mono HB.out.size)); clear hb4 hB4; obtain ⟨cS, fS, zS⟩ := blkC (blkStay HS0.out HB4.out)))
          refine bodyPost_ret (v := .tuple #[fldV 0 0 0 0 (.slice none 0 0), .int .i64 ej]) (by simp [results, Try.results20, go_sem, cS]) rfl ?_
          have e := EE.out.at HZ.out c (by show fauE (A j) (B j) (C j) (D j) (h j) ≠ 0; rw [HE.out]; exact C0.out)
          have e' : ej = er := by rw [← HE.out]; exact e
          have z2 := A0.out.size; have zS2 := (blkC HS0.out).2.2
          exact .inl ⟨by rw [← e']; exact C0.out, by rw [e'], set5_below (A0.out.trans (HB4.out.mono z2)) _ _ _ _ _ _ (by omega)⟩
      · have : j = n := by omega
        subst this
        have e0 := EE.out.zero HZ.out
        subst e0
        obtain ⟨cF, fF, zF⟩ := blkC (blkStay HF0.out hb)
        have hb2 := A0.out.trans (hb.mono A0.out.size)
        have RX := Lib.hid (BY.out HZ.out wr w.heap.size (blkStay HF0.out hb) (blkStay HL0.out hb) (flAt_congr HC.out (hb2.block _ hlt)) (HL.out.stay hb2))
        have HS := Lib.hid (blkStay HS0.out hb)
        have HX := Lib.hid hb2
        clear hb hb2
        go_wp2_with fail
        clear cF fF zF
        refine RX.out.mono ?_
        intro e w4 hmade
        rcases hmade with ⟨hall, b', cap', rfl, hb', hlt', hrow, hbel⟩ | ⟨hall, rfl, hbel⟩
        · obtain ⟨cS, fS, zS4⟩ := blkC (blkStay HS.out hbel)
          have zS3 := (blkC HS.out).2.2
          have HB' := Lib.hid hb'
          clear hb'
          go_wp2
          refine bodyPost_ret (v := .tuple #[fldV X Y W H (.slice (some ⟨b', 0, none⟩) m cap'), .int .i64 0]) (by simp [results, Try.results20, go_sem, cS]) rfl ?_
          have z3 := HX.out.size
          have hb' := HB'.out
          exact .inr ⟨rfl, .inl ⟨hall, b', cap', rfl, by omega, by rw [set5_size]; exact hlt', flAt_congr hrow (set5_heap w4 _ _ _ _ _ _ _ (by omega)), set5_below (HX.out.trans (hbel.mono z3)) _ _ _ _ _ _ (by omega)⟩⟩
        · obtain ⟨cS, fS, zS4⟩ := blkC (blkStay HS.out hbel)
          go_wp2
          refine bodyPost_ret (v := .tuple #[fldV 0 0 0 0 (.slice none 0 0), .int .i64 3]) (by simp [results, Try.results20, go_sem, cS]) rfl ?_
          have z3 := HX.out.size
          exact .inr ⟨rfl, .inr ⟨hall, rfl, set5_below (HX.out.trans (hbel.mono z3)) _ _ _ _ _ _ (by omega)⟩⟩


/-- Throw's error and value. -/
def thrE (A B C D : Int) (h : Nat) (x y : Int) : Int := if fauE A B C D h = 0 then plcE x y else fauE A B C D h
def thrV (A B C D : Int) (h : Nat) (x y : Int) : Nat := if thrE A B C D h x y = 0 then thrW (fauK A B C x y) (lenW A B 0) D h else 0

set_option maxHeartbeats 1000000 in
set_option maxRecDepth 100000 in
theorem throwX_any (A B C D : Int) (h : Nat) (x y : Int) (w : World) :
    Calls Try.prog 21 #[fau A B C D h, .int .i64 x, .int .i64 y] w fun e w' => e = .returned (.tuple #[.float .f32 (thrV A B C D h x y), .int .i64 (thrE A B C D h x y)]) ∧ Below w.heap.size w w' := by
  have CF := Lib.hid (fun w => checkFault_any A B C D h w)
  have CP := Lib.hid (fun w => checkPlace_any x y w)
  unfold thrV thrE
  by_cases c : fauE A B C D h = 0
  · have K := fau_ok c
    rw [c] at CF
    rw [if_pos c]
    rcases plcE_cases x y with d | d
    · obtain ⟨p1, p2, p3, p4⟩ := plc_ok d
      have LI := Lib.hid (fun w => throw_any A B C D h x y w K (by omega) (by omega) (by omega) (by omega))
      rw [d] at CP
      rw [d, if_pos rfl]
      generalize thrW (fauK A B C x y) (lenW A B 0) D h = r at *
      clear c K d p1 p2 p3 p4
      go_enter Try.func21, Try.ntmps21
      go_wp2_with (first | (go_at_call 23; refine (CF.out _).mono ?_; rintro e w2 ⟨rfl, hb2⟩; have HB2 := Lib.hid (blkStay (b := w.heap.size) (o := fauObj A B C D h) (by (first | (rw [heap_alloc_get, if_pos rfl]; done) | ((simp only [heap_alloc_get, heap_size_alloc, if_true]) <;> ((repeat' split) <;> first | rfl | omega)))) hb2); have hB2 : Below w.heap.size w w2 := Below.trans (by repeat (first | exact Below.refl _ _ | refine Below.alloc ?_ (by first | omega | (simp; done) | (simp; omega)) _ | refine Below.setCell ?_ (by first | omega | (simp; done) | (simp; omega)) _ | refine Below.drew ?_)) (Below.mono hb2 (by simp)); clear hb2; obtain ⟨cB, fB, zB⟩ := blkC HB2.out) | (go_at_call 61; refine (CP.out _).mono ?_; rintro e w' ⟨rfl, rfl⟩) | (go_at_call 68; refine (LI.out _).mono ?_; rintro e w3 ⟨rfl, hb3⟩; have hB3 := hB2.trans (hb3.mono hB2.size)))
      go_ret2
      exact ⟨rfl, hB3⟩
    · rw [d] at CP
      rw [d, if_neg (by decide)]
      clear c K d
      go_enter Try.func21, Try.ntmps21
      go_wp2_with (first | (go_at_call 23; refine (CF.out _).mono ?_; rintro e w2 ⟨rfl, hb2⟩; have HB2 := Lib.hid (blkStay (b := w.heap.size) (o := fauObj A B C D h) (by (first | (rw [heap_alloc_get, if_pos rfl]; done) | ((simp only [heap_alloc_get, heap_size_alloc, if_true]) <;> ((repeat' split) <;> first | rfl | omega)))) hb2); have hB2 : Below w.heap.size w w2 := Below.trans (by repeat (first | exact Below.refl _ _ | refine Below.alloc ?_ (by first | omega | (simp; done) | (simp; omega)) _ | refine Below.setCell ?_ (by first | omega | (simp; done) | (simp; omega)) _ | refine Below.drew ?_)) (Below.mono hb2 (by simp)); clear hb2; obtain ⟨cB, fB, zB⟩ := blkC HB2.out) | (go_at_call 61; refine (CP.out _).mono ?_; rintro e w' ⟨rfl, rfl⟩))
      go_ret2
      exact ⟨rfl, hB2⟩
  · rw [if_neg c, if_neg c]
    have cz : (fauE A B C D h != 0) = true := by simp [c]
    generalize fauE A B C D h = er at *
    clear c
    go_enter Try.func21, Try.ntmps21
    go_wp2_with (first | (go_at_call 23; refine (CF.out _).mono ?_; rintro e w2 ⟨rfl, hb2⟩; have hB2 : Below w.heap.size w w2 := Below.trans (by repeat (first | exact Below.refl _ _ | refine Below.alloc ?_ (by first | omega | (simp; done) | (simp; omega)) _ | refine Below.setCell ?_ (by first | omega | (simp; done) | (simp; omega)) _ | refine Below.drew ?_)) (Below.mono hb2 (by simp)); clear hb2))
    go_ret2
    exact ⟨rfl, hB2⟩


set_option maxHeartbeats 1000000 in
set_option maxRecDepth 100000 in
theorem rthrowX_any (A B C D : Int) (h : Nat) (x y : Int) (w : World) (hh : h < 4294967296) :
    Calls Try.prog 22 #[fau A B C D h, .int .i64 x, .int .i64 y] w fun e w' => e = .returned (.tuple #[.float .f32 (thrV A B C D h x y), .int .i64 (thrE A B C D h x y)]) ∧ Below w.heap.size w w' := by
  have CF := Lib.hid (fun w => refCheckFault_any A B C D h hh w)
  have CP := Lib.hid (fun w => rplaceError_any x y w)
  unfold thrV thrE
  by_cases c : fauE A B C D h = 0
  · have K := fau_ok c
    rw [c] at CF
    rw [if_pos c]
    rcases plcE_cases x y with d | d
    · obtain ⟨p1, p2, p3, p4⟩ := plc_ok d
      have LI := Lib.hid (fun w => rthrow_any A B C D h x y w K (by omega) (by omega) (by omega) (by omega))
      rw [d] at CP
      rw [d, if_pos rfl]
      generalize thrW (fauK A B C x y) (lenW A B 0) D h = r at *
      clear c K d p1 p2 p3 p4
      go_enter Try.func22, Try.ntmps22
      go_wp2_with (first | (go_at_call 24; refine (CF.out _).mono ?_; rintro e w2 ⟨rfl, hb2⟩; have HB2 := Lib.hid (blkStay (b := w.heap.size) (o := fauObj A B C D h) (by (first | (rw [heap_alloc_get, if_pos rfl]; done) | ((simp only [heap_alloc_get, heap_size_alloc, if_true]) <;> ((repeat' split) <;> first | rfl | omega)))) hb2); have hB2 : Below w.heap.size w w2 := Below.trans (by repeat (first | exact Below.refl _ _ | refine Below.alloc ?_ (by first | omega | (simp; done) | (simp; omega)) _ | refine Below.setCell ?_ (by first | omega | (simp; done) | (simp; omega)) _ | refine Below.drew ?_)) (Below.mono hb2 (by simp)); clear hb2; obtain ⟨cB, fB, zB⟩ := blkC HB2.out) | (go_at_call 62; refine (CP.out _).mono ?_; rintro e w' ⟨rfl, rfl⟩) | (go_at_call 70; refine (LI.out _).mono ?_; rintro e w3 ⟨rfl, hb3⟩; have hB3 := hB2.trans (hb3.mono hB2.size)))
      go_ret2
      exact ⟨rfl, hB3⟩
    · rw [d] at CP
      rw [d, if_neg (by decide)]
      clear c K d
      go_enter Try.func22, Try.ntmps22
      go_wp2_with (first | (go_at_call 24; refine (CF.out _).mono ?_; rintro e w2 ⟨rfl, hb2⟩; have HB2 := Lib.hid (blkStay (b := w.heap.size) (o := fauObj A B C D h) (by (first | (rw [heap_alloc_get, if_pos rfl]; done) | ((simp only [heap_alloc_get, heap_size_alloc, if_true]) <;> ((repeat' split) <;> first | rfl | omega)))) hb2); have hB2 : Below w.heap.size w w2 := Below.trans (by repeat (first | exact Below.refl _ _ | refine Below.alloc ?_ (by first | omega | (simp; done) | (simp; omega)) _ | refine Below.setCell ?_ (by first | omega | (simp; done) | (simp; omega)) _ | refine Below.drew ?_)) (Below.mono hb2 (by simp)); clear hb2; obtain ⟨cB, fB, zB⟩ := blkC HB2.out) | (go_at_call 62; refine (CP.out _).mono ?_; rintro e w' ⟨rfl, rfl⟩))
      go_ret2
      exact ⟨rfl, hB2⟩
  · rw [if_neg c, if_neg c]
    have cz : (fauE A B C D h != 0) = true := by simp [c]
    generalize fauE A B C D h = er at *
    clear c
    go_enter Try.func22, Try.ntmps22
    go_wp2_with (first | (go_at_call 24; refine (CF.out _).mono ?_; rintro e w2 ⟨rfl, hb2⟩; have hB2 : Below w.heap.size w w2 := Below.trans (by repeat (first | exact Below.refl _ _ | refine Below.alloc ?_ (by first | omega | (simp; done) | (simp; omega)) _ | refine Below.setCell ?_ (by first | omega | (simp; done) | (simp; omega)) _ | refine Below.drew ?_)) (Below.mono hb2 (by simp)); clear hb2))
    go_ret2
    exact ⟨rfl, hB2⟩

end Go.Proofs.Ytdbponidkodmfaa

/- Select of both sides, of a right field. -/
namespace Go.Proofs.Ytdbponidkodmfaa
open Go.RowKit Fl
set_option linter.unusedVariables false

/-- Three singles, as a list. -/
def three (a b c : Nat) (i : Nat) : Nat := if i = 0 then a else if i = 1 then b else c
theorem flAt_three {w : World} {k a b c : Nat} (h : w.heap[k]? = some (.cells #[.float .f32 a, .float .f32 b, .float .f32 c] 34)) : FlAt w k 0 3 (three a b c) := by
  intro i hi
  rw [Nat.zero_add, (blkC h).1 i]
  have : i = 0 ∨ i = 1 ∨ i = 2 := by omega
  rcases this with rfl | rfl | rfl <;> rfl
theorem three_hgt {a b c : Nat} (h : fldE 3 (three a b c) = 0) : hgtB a = true ∧ hgtB b = true ∧ hgtB c = true := by
  have := allB_iff.1 (fldE_zero.1 h)
  exact ⟨this 0 (by omega), this 1 (by omega), this 2 (by omega)⟩
theorem three_wf {a b c : Nat} (ha : a < 4294967296) (hb : b < 4294967296) (hc : c < 4294967296) : wf32 3 (three a b c) := by
  intro i hi
  have : i = 0 ∨ i = 1 ∨ i = 2 := by omega
  rcases this with rfl | rfl | rfl <;> assumption

/-- The error of Select's singles. -/
def selE (lo hi so : Nat) : Int := if fldE 3 (three lo hi so) = 0 then (if (FloatKind.f32.format.order lo hi == some .gt) = true then 8 else if (FloatKind.f32.format.order so 0 == some .lt) = true then 3 else 0) else fldE 3 (three lo hi so)

end Go.Proofs.Ytdbponidkodmfaa

/- Select of the reference, of a right field. -/
namespace Go.Proofs.Ytdbponidkodmfaa
open Go.RowKit Fl
set_option linter.unusedVariables false

end Go.Proofs.Ytdbponidkodmfaa

/- Terrace of the program, of a right field. -/
namespace Go.Proofs.Ytdbponidkodmfaa
open Go.RowKit Fl
set_option linter.unusedVariables false

/-- The tests of Terrace's singles: what is wrong. -/
def terB (st sh : Nat) : Bool := (FloatKind.f32.format.order st 981467136 == some .lt) || ((FloatKind.f32.format.order st 1149239296 == some .gt) || ((FloatKind.f32.format.order sh 0 == some .lt) || (FloatKind.f32.format.order sh 1065353216 == some .gt || FloatKind.f32.format.order sh 1065353216 == some .eq)))
/-- The error of Terrace's singles. -/
def terE (st sh : Nat) : Int := if fldE 2 (two st sh) = 0 then (if terB st sh = true then 3 else 0) else fldE 2 (two st sh)

theorem two_wf {a b : Nat} (ha : a < 4294967296) (hb : b < 4294967296) : wf32 2 (two a b) := by
  intro i hi
  have : i = 0 ∨ i = 1 := by omega
  rcases this with rfl | rfl <;> assumption

theorem ter_ok {st sh : Nat} (h : hgtB st = true) (h' : hgtB sh = true) (c1 : (FloatKind.f32.format.order st 981467136 == some .lt) = false) (c2 : (FloatKind.f32.format.order st 1149239296 == some .gt) = false) (c3 : (FloatKind.f32.format.order sh 0 == some .lt) = false)
    (c4 : (FloatKind.f32.format.order sh 1065353216 == some .gt || FloatKind.f32.format.order sh 1065353216 == some .eq) = false) : StepOk st ∧ ShOk sh := by
  constructor
  · exact step_ok (by unfold wiE; rw [if_neg (by rw [hgt_fin h]; simp), if_neg (by rw [c1, c2]; simp)])
  · obtain ⟨b, hb, _⟩ := hgt_val h'
    rw [f32f, lss_val hb vS_zero] at c3
    rw [f32f, geq_val hb vS_one] at c4
    exact ⟨b, hb, by simpa using c3, by simpa using c4⟩

end Go.Proofs.Ytdbponidkodmfaa

/- Terrace of the reference, of a right field. -/
namespace Go.Proofs.Ytdbponidkodmfaa
open Go.RowKit Fl
set_option linter.unusedVariables false

theorem al_below (w : World) (o : Obj) : Below w.heap.size w (w.alloc o) := (Below.refl _ _).alloc (Nat.le_refl _) o
theorem ter_lt {v st sh : Nat} (hv : hgtB v = true) (hs : StepOk st) (hsh : ShOk sh) : terW v st sh < 4294967296 := by
  obtain ⟨q, d, c, u, x, y, j, r, T⟩ := ter_parts hv hs hsh
  rw [T.w]; exact T.lt

end Go.Proofs.Ytdbponidkodmfaa

/- SelectsMatch: Select and Terrace answer as the references do, for every field that fit makes, and any three singles. -/
namespace Go.Proofs.Ytdbponidkodmfaa
open Go.RowKit Fl
set_option linter.unusedVariables false

end Go.Proofs.Ytdbponidkodmfaa

/- Contracts of the regions' functions, continued: the reference's Inside; Common. -/
namespace Go.Proofs.Ytdbponidkodmfaa
open Go.RowKit

set_option maxHeartbeats 1000000 in
theorem refInside_any (x y ww hh x' y' ww' hh' : Int) (w : World) (_ : -1073741824 ≤ x) (_ : x ≤ 1073741824) (_ : -1073741824 ≤ y) (_ : y ≤ 1073741824) (a5 : 1 ≤ ww) (a6 : ww ≤ 1073741824) (a7 : 1 ≤ hh) (a8 : hh ≤ 1073741824)
    (b1 : -1073741824 ≤ x') (b2 : x' ≤ 1073741824) (b3 : -1073741824 ≤ y') (b4 : y' ≤ 1073741824) (b5 : 1 ≤ ww') (b6 : ww' ≤ 1073741824) (b7 : 1 ≤ hh') (b8 : hh' ≤ 1073741824) :
    Calls Try.prog 46 #[reg x y ww hh, reg x' y' ww' hh'] w fun e w' => e = .returned (.bool (insideB x y ww hh x' y' ww' hh')) ∧ Below w.heap.size w w' := by
  go_enter Try.func46, Try.ntmps46
  go_wp2
  all_goals go_ret
  all_goals refine ⟨ret_bool ?_, (by repeat (first | exact Below.refl _ _ | refine Below.alloc ?_ (by first | omega | (simp; done) | (simp; omega)) _ | refine Below.setCell ?_ (by first | omega | (simp; done) | (simp; omega)) _ | refine Below.drew ?_))⟩
  all_goals (rw [Bool.eq_iff_iff, insideB_iff]; simp; omega)


def maxI (a b : Int) : Int := if a < b then b else a
def minI (a b : Int) : Int := if b < a then b else a
theorem maxI_le (a b : Int) : a ≤ maxI a b ∧ b ≤ maxI a b ∧ (maxI a b = a ∨ maxI a b = b) := by unfold maxI; split <;> omega
theorem minI_le (a b : Int) : minI a b ≤ a ∧ minI a b ≤ b ∧ (minI a b = a ∨ minI a b = b) := by unfold minI; split <;> omega

/-- What Common answers. -/
def comB (x y w h x' y' w' h' : Int) : Bool := decide (1 ≤ minI (x + w) (x' + w') - maxI x x') && decide (1 ≤ minI (y + h) (y' + h') - maxI y y')
def comR (x y w h x' y' w' h' : Int) : Value :=
  if comB x y w h x' y' w' h' then reg (maxI x x') (maxI y y') (minI (x + w) (x' + w') - maxI x x') (minI (y + h) (y' + h') - maxI y y') else reg 0 0 0 0
theorem comB_iff {x y w h x' y' w' h' : Int} : comB x y w h x' y' w' h' = true ↔ 1 ≤ minI (x + w) (x' + w') - maxI x x' ∧ 1 ≤ minI (y + h) (y' + h') - maxI y y' := by simp [comB]
theorem comB_no {x y w h x' y' w' h' : Int} : comB x y w h x' y' w' h' = false ↔ minI (x + w) (x' + w') - maxI x x' < 1 ∨ minI (y + h) (y' + h') - maxI y y' < 1 := by
  rw [← Bool.not_eq_true, comB_iff]; omega

set_option maxHeartbeats 1000000 in
theorem common_any (x y ww hh x' y' ww' hh' : Int) (w : World) (a1 : -1073741824 ≤ x) (a2 : x ≤ 1073741824) (a3 : -1073741824 ≤ y) (a4 : y ≤ 1073741824) (a5 : 1 ≤ ww) (a6 : ww ≤ 1073741824) (a7 : 1 ≤ hh) (a8 : hh ≤ 1073741824)
    (b1 : -1073741824 ≤ x') (b2 : x' ≤ 1073741824) (b3 : -1073741824 ≤ y') (b4 : y' ≤ 1073741824) (b5 : 1 ≤ ww') (b6 : ww' ≤ 1073741824) (b7 : 1 ≤ hh') (b8 : hh' ≤ 1073741824) :
    Calls Try.prog 118 #[reg x y ww hh, reg x' y' ww' hh'] w fun e w' => e = .returned (.tuple #[comR x y ww hh x' y' ww' hh', .bool (comB x y ww hh x' y' ww' hh')]) ∧ Below w.heap.size w w' := by
  have hx : (if x < x' then x' else x) = maxI x x' := rfl
  have hy : (if y < y' then y' else y) = maxI y y' := rfl
  have ex : (if x' + ww' < x + ww then x' + ww' else x + ww) = minI (x + ww) (x' + ww') := rfl
  have ey : (if y' + hh' < y + hh then y' + hh' else y + hh) = minI (y + hh) (y' + hh') := rfl
  obtain ⟨x1, x2, x3⟩ := maxI_le x x'
  obtain ⟨y1, y2, y3⟩ := maxI_le y y'
  obtain ⟨x4, x5, x6⟩ := minI_le (x + ww) (x' + ww')
  obtain ⟨y4, y5, y6⟩ := minI_le (y + hh) (y' + hh')
  have x7 : -1073741824 ≤ maxI x x' ∧ maxI x x' ≤ 1073741824 ∧ -1073741824 ≤ minI (x + ww) (x' + ww') ∧ minI (x + ww) (x' + ww') ≤ 2147483648 := by omega
  have y7 : -1073741824 ≤ maxI y y' ∧ maxI y y' ≤ 1073741824 ∧ -1073741824 ≤ minI (y + hh) (y' + hh') ∧ minI (y + hh) (y' + hh') ≤ 2147483648 := by omega
  clear x3 y3 x6 y6
  obtain ⟨x7, x8, x9, xa⟩ := x7
  obtain ⟨y7, y8, y9, ya⟩ := y7
  rcases (show (1 ≤ minI (x + ww) (x' + ww') - maxI x x' ∧ 1 ≤ minI (y + hh) (y' + hh') - maxI y y') ∨ (1 ≤ minI (x + ww) (x' + ww') - maxI x x' ∧ minI (y + hh) (y' + hh') - maxI y y' < 1) ∨ minI (x + ww) (x' + ww') - maxI x x' < 1 by omega) with ⟨t1, t2⟩ | ⟨t1, t2⟩ | t1
  · have hb : comB x y ww hh x' y' ww' hh' = true := comB_iff.2 ⟨t1, t2⟩
    have hr : comR x y ww hh x' y' ww' hh' = reg (maxI x x') (maxI y y') (minI (x + ww) (x' + ww') - maxI x x') (minI (y + hh) (y' + hh') - maxI y y') := by unfold comR; rw [if_pos hb]
    rw [hb, hr]
    clear hb hr
    go_enter Try.func118, Try.ntmps118
    go_wp2
    go_region
    go_wp2
    exact bodyPost_ret (v := .tuple #[reg (maxI x x') (maxI y y') (minI (x + ww) (x' + ww') - maxI x x') (minI (y + hh) (y' + hh') - maxI y y'), .bool true]) (by simp [results, Try.results118, go_sem]) rfl ⟨rfl, (by repeat (first | exact Below.refl _ _ | refine Below.alloc ?_ (by first | omega | (simp; done) | (simp; omega)) _ | refine Below.setCell ?_ (by first | omega | (simp; done) | (simp; omega)) _ | refine Below.drew ?_))⟩
  all_goals
    have hb : comB x y ww hh x' y' ww' hh' = false := comB_no.2 (by omega)
    have hr : comR x y ww hh x' y' ww' hh' = reg 0 0 0 0 := by unfold comR; rw [hb]; rfl
    rw [hb, hr]
    clear hb hr
    go_enter Try.func118, Try.ntmps118
    go_wp2
    go_region
    go_wp2
    exact bodyPost_ret (v := .tuple #[reg 0 0 0 0, .bool false]) (by simp [results, Try.results118, go_sem]) rfl ⟨rfl, (by repeat (first | exact Below.refl _ _ | refine Below.alloc ?_ (by first | omega | (simp; done) | (simp; omega)) _ | refine Below.setCell ?_ (by first | omega | (simp; done) | (simp; omega)) _ | refine Below.drew ?_))⟩

set_option maxHeartbeats 1000000 in
theorem refCommon_any (x y ww hh x' y' ww' hh' : Int) (w : World) (a1 : -1073741824 ≤ x) (a2 : x ≤ 1073741824) (a3 : -1073741824 ≤ y) (a4 : y ≤ 1073741824) (a5 : 1 ≤ ww) (a6 : ww ≤ 1073741824) (a7 : 1 ≤ hh) (a8 : hh ≤ 1073741824)
    (b1 : -1073741824 ≤ x') (b2 : x' ≤ 1073741824) (b3 : -1073741824 ≤ y') (b4 : y' ≤ 1073741824) (b5 : 1 ≤ ww') (b6 : ww' ≤ 1073741824) (b7 : 1 ≤ hh') (b8 : hh' ≤ 1073741824) :
    Calls Try.prog 50 #[reg x y ww hh, reg x' y' ww' hh'] w fun e w' => e = .returned (.tuple #[comR x y ww hh x' y' ww' hh', .bool (comB x y ww hh x' y' ww' hh')]) ∧ Below w.heap.size w w' := by
  have hx : (if x < x' then x' else x) = maxI x x' := rfl
  have hy : (if y < y' then y' else y) = maxI y y' := rfl
  have ex : (if x' + ww' < x + ww then x' + ww' else x + ww) = minI (x + ww) (x' + ww') := rfl
  have ey : (if y' + hh' < y + hh then y' + hh' else y + hh) = minI (y + hh) (y' + hh') := rfl
  obtain ⟨x1, x2, x3⟩ := maxI_le x x'
  obtain ⟨y1, y2, y3⟩ := maxI_le y y'
  obtain ⟨x4, x5, x6⟩ := minI_le (x + ww) (x' + ww')
  obtain ⟨y4, y5, y6⟩ := minI_le (y + hh) (y' + hh')
  have x7 : -1073741824 ≤ maxI x x' ∧ maxI x x' ≤ 1073741824 ∧ -1073741824 ≤ minI (x + ww) (x' + ww') ∧ minI (x + ww) (x' + ww') ≤ 2147483648 := by omega
  have y7 : -1073741824 ≤ maxI y y' ∧ maxI y y' ≤ 1073741824 ∧ -1073741824 ≤ minI (y + hh) (y' + hh') ∧ minI (y + hh) (y' + hh') ≤ 2147483648 := by omega
  clear x3 y3 x6 y6
  obtain ⟨x7, x8, x9, xa⟩ := x7
  obtain ⟨y7, y8, y9, ya⟩ := y7
  rcases (show (1 ≤ minI (x + ww) (x' + ww') - maxI x x' ∧ 1 ≤ minI (y + hh) (y' + hh') - maxI y y') ∨ (1 ≤ minI (x + ww) (x' + ww') - maxI x x' ∧ minI (y + hh) (y' + hh') - maxI y y' < 1) ∨ minI (x + ww) (x' + ww') - maxI x x' < 1 by omega) with ⟨t1, t2⟩ | ⟨t1, t2⟩ | t1
  · have hb : comB x y ww hh x' y' ww' hh' = true := comB_iff.2 ⟨t1, t2⟩
    have hr : comR x y ww hh x' y' ww' hh' = reg (maxI x x') (maxI y y') (minI (x + ww) (x' + ww') - maxI x x') (minI (y + hh) (y' + hh') - maxI y y') := by unfold comR; rw [if_pos hb]
    rw [hb, hr]
    clear hb hr
    go_enter Try.func50, Try.ntmps50
    go_wp2
    go_region
    go_wp2
    exact bodyPost_ret (v := .tuple #[reg (maxI x x') (maxI y y') (minI (x + ww) (x' + ww') - maxI x x') (minI (y + hh) (y' + hh') - maxI y y'), .bool true]) (by simp [results, Try.results50, go_sem]) rfl ⟨rfl, (by repeat (first | exact Below.refl _ _ | refine Below.alloc ?_ (by first | omega | (simp; done) | (simp; omega)) _ | refine Below.setCell ?_ (by first | omega | (simp; done) | (simp; omega)) _ | refine Below.drew ?_))⟩
  all_goals
    have hb : comB x y ww hh x' y' ww' hh' = false := comB_no.2 (by omega)
    have hr : comR x y ww hh x' y' ww' hh' = reg 0 0 0 0 := by unfold comR; rw [hb]; rfl
    rw [hb, hr]
    clear hb hr
    go_enter Try.func50, Try.ntmps50
    go_wp2
    go_region
    go_wp2
    exact bodyPost_ret (v := .tuple #[reg 0 0 0 0, .bool false]) (by simp [results, Try.results50, go_sem]) rfl ⟨rfl, (by repeat (first | exact Below.refl _ _ | refine Below.alloc ?_ (by first | omega | (simp; done) | (simp; omega)) _ | refine Below.setCell ?_ (by first | omega | (simp; done) | (simp; omega)) _ | refine Below.drew ?_))⟩

end Go.Proofs.Ytdbponidkodmfaa

/- HashesMatch: Hash, Unit and Signed answer as the references do; units are from 0 to below 1, signed ones from -1. -/
namespace Go.Proofs.Ytdbponidkodmfaa
open Go.RowKit Fl
set_option linter.unusedVariables false

theorem unit_cmp {h : Int} (h0 : 0 ≤ h) (h1 : h < 4294967296) : (FloatKind.f32.format.order (unitW h) 0 == some .gt || FloatKind.f32.format.order (unitW h) 0 == some .eq) = true ∧ (FloatKind.f32.format.order (unitW h) 1065353216 == some .lt) = true := by
  obtain ⟨a, v, a0, a1⟩ := unit_in h0 h1
  rw [show FloatKind.f32.format = Ieee.single from rfl]
  exact ⟨by rw [geq_val v vS_zero]; simpa using a0, by rw [lss_val v vS_one]; simpa using a1⟩
theorem sgn_cmp {h : Int} (h0 : 0 ≤ h) (h1 : h < 4294967296) : (FloatKind.f32.format.order (sgnW h) 3212836864 == some .gt || FloatKind.f32.format.order (sgnW h) 3212836864 == some .eq) = true ∧ (FloatKind.f32.format.order (sgnW h) 1065353216 == some .lt) = true := by
  obtain ⟨a, v, a0, a1⟩ := sgn_in h0 h1
  rw [show FloatKind.f32.format = Ieee.single from rfl]
  exact ⟨by rw [geq_val v vS_mone]; simpa using a0, by rw [lss_val v vS_one]; simpa using a1⟩

set_option maxHeartbeats 400000 in
theorem bits_self (x : Nat) (w : World) :
    Calls Try.prog 37 #[.float .f32 x, .float .f32 x] w fun e w' => e = .returned (.bool true) ∧ w = w' := by
  have h1 := f32bits
  go_enter Try.func37, Try.ntmps37
  go_wp2
  go_ret
  exact ⟨rfl, rfl⟩

end Go.Proofs.Ytdbponidkodmfaa

/- EaseMatches: Ease answers as the reference does, and from 0 to 1. -/
namespace Go.Proofs.Ytdbponidkodmfaa
open Go.RowKit Fl
set_option linter.unusedVariables false

set_option maxHeartbeats 400000 in
theorem one_ok (x : Nat) (w : World) :
    Calls Try.prog 16 #[.float .f32 x, .int .i64 0, .float .f32 x, .int .i64 0] w fun e w' => e = .returned (.bool true) ∧ w = w' := by
  go_enter Try.func16, Try.ntmps16
  go_wp2_with (go_at_call 37; refine (bits_self _ _).mono ?_; rintro e w' ⟨rfl, rfl⟩)
  go_ret
  exact ⟨rfl, rfl⟩

set_option maxHeartbeats 400000 in
theorem one_err (b : Nat) (k : Int) (hk : k = 2 ∨ k = 3 ∨ k = 4 ∨ k = 5) (w : World) :
    Calls Try.prog 16 #[.float .f32 0, .int .i64 k, .float .f32 b, .int .i64 k] w fun e w' => e = .returned (.bool true) ∧ w = w' := by
  rcases hk with rfl | rfl | rfl | rfl
  all_goals go_enter Try.func16, Try.ntmps16
  all_goals go_wp2_with (go_at_call 37; refine (bits_self _ _).mono ?_; rintro e w' ⟨rfl, rfl⟩)
  all_goals go_ret
  all_goals exact ⟨rfl, rfl⟩

theorem zero_geq : (FloatKind.f32.format.order 0 0 == some .gt || FloatKind.f32.format.order 0 0 == some .eq) = true := by rw [f32f, geq_val vS_zero vS_zero]; simp
theorem zero_leq : (FloatKind.f32.format.order 0 1065353216 == some .lt || FloatKind.f32.format.order 0 1065353216 == some .eq) = true := by
  rw [f32f, leq_val vS_zero vS_one]; simp
end Go.Proofs.Ytdbponidkodmfaa

/- FoldsMatch: CheckFold, Lift and Folds answer as the references do, for every list of folds, every field that fit makes, and every place. -/
namespace Go.Proofs.Ytdbponidkodmfaa
open Go.RowKit Fl
set_option linter.unusedVariables false

set_option maxHeartbeats 400000 in
theorem one_errX (b : Nat) (k : Int) (hk : k ≠ 0) (w : World) :
    Calls Try.prog 16 #[.float .f32 0, .int .i64 k, .float .f32 b, .int .i64 k] w fun e w' => e = .returned (.bool true) ∧ w = w' := by
  have hb : (k != 0) = true := by simp [hk]
  clear hk
  go_enter Try.func16, Try.ntmps16
  go_wp2_with (go_at_call 37; refine (bits_self _ _).mono ?_; rintro e w' ⟨rfl, rfl⟩)
  go_ret
  exact ⟨rfl, rfl⟩

set_option maxHeartbeats 4000000 in
set_option maxRecDepth 100000 in
theorem foldsMatch_any (a : Option Addr) (m lcap : Nat) (A B P : Nat → Int) (h : Nat → Nat) (X0 Y0 W0 H0 : Int) (sl : Value) (x y : Int) (w : World) (L : FolL w a m A B P h) (hml : m ≤ 9223372036854775807) (wh : wf32 m h)
    (hfit : ∀ W', Below w.heap.size w W' → Calls Try.prog 10 #[fldV X0 Y0 W0 H0 sl] W' (FitPost W')) :
    Calls Try.prog 3 #[.slice a m lcap, fldV X0 Y0 W0 H0 sl, .int .i64 x, .int .i64 y] w fun e w' => e = .returned (.bool true) ∧ Below w.heap.size w w' := by
  have HF := Lib.hid hfit
  have HL := Lib.hid L
  obtain ⟨er, E⟩ := lstE_ex (fun i => folE (A i) (B i) (P i) (h i)) m
  have hsf := fun (w : World) (a : Addr) (m : Mode) (k : FloatKind) (b : Nat) => run_store_float (P := Try.prog) (w := w) (a := a) (m := m) k b
  have CF := Lib.hid (fun i w => checkFold_any (A i) (B i) (P i) (h i) w)
  have CR := Lib.hid (fun i (hi : i < m) w => refCheckFold_any (A i) (B i) (P i) (h i) (wh i hi) w)
  have LF := Lib.hid (fun i w => liftX_any (A i) (B i) (P i) (h i) x y w)
  have LR := Lib.hid (fun i (hi : i < m) w => rliftX_any (A i) (B i) (P i) (h i) x y w (wh i hi))
  have ON := Lib.hid (fun i w => show Calls Try.prog 16 #[.float .f32 (lifV (A i) (B i) (P i) (h i) x y), .int .i64 (lifE (A i) (B i) (P i) (h i) x y), .float .f32 (lifV (A i) (B i) (P i) (h i) x y), .int .i64 (lifE (A i) (B i) (P i) (h i) x y)] w fun e w' => e = .returned (.bool true) ∧ w = w' by
    by_cases c : lifE (A i) (B i) (P i) (h i) x y = 0
    · rw [c]; exact one_ok _ w
    · have : lifV (A i) (B i) (P i) (h i) x y = 0 := by unfold lifV; rw [if_neg c]
      rw [this]; exact one_errX 0 _ c w)
  clear hfit L
  go_enter Try.func3, Try.ntmps3
  go_wp2_with (first | (go_at_call 9; refine (landed_any _).mono ?_; rintro e w1 ⟨rfl, hb1⟩; have HA1 := Lib.hid (blkStay (b := w.heap.size) (o := fldO X0 Y0 W0 H0 sl) (heap_alloc_new w _) hb1); have hB1 : Below w.heap.size w w1 := Below.trans (by repeat (first | exact Below.refl _ _ | refine Below.alloc ?_ (by first | omega | (simp; done) | (simp; omega)) _ | refine Below.setCell ?_ (by first | omega | (simp; done) | (simp; omega)) _ | refine Below.drew ?_)) (Below.mono hb1 (by first | omega | (simp; done) | (simp; omega))); obtain ⟨cA, fA, zA⟩ := blkC HA1.out; clear hb1))
  refine (HF.out w1 hB1).mono ?_
  rintro e w2 ⟨X, Y, W', H', b, n, rfl, x1, x2, y1, y2, u1, u2, h1, h2, hn, hn1, hn2, hlo, hrow, hb2⟩
  obtain ⟨W, rfl⟩ : ∃ W : Nat, W' = W := ⟨W'.toNat, by omega⟩
  obtain ⟨H, rfl⟩ : ∃ H : Nat, H' = H := ⟨H'.toNat, by omega⟩
  obtain ⟨v, fv, wv, hv, bv⟩ := fit_fn hrow
  have h0 := fit_check x1 x2 y1 y2 u1 u2 h1 h2 hn hn2
  have hnn : n = W * H := by
    have : (n : Int) = ((W * H : Nat) : Int) := by rw [hn]; simp
    omega
  have HA2 := Lib.hid (blkStay HA1.out hb2)
  have hB2 : Below w.heap.size w w2 := hB1.trans (hb2.mono hB1.size)
  obtain ⟨cA, fA, zA⟩ := blkC HA2.out
  have S1 := Lib.hid (fun W' (hB : Below w.heap.size w W') (hf : FlAt W' b 0 n v) => folds_any X Y W H n b n v a m lcap A B P h er W' h0 hnn hf hv (HL.out.stay hB) hml E)
  have S2 := Lib.hid (fun W' (hB : Below w.heap.size w W') (hf : FlAt W' b 0 n v) => rfolds_any X Y W H n b n v a m lcap A B P h er W' h0 hnn hf hv wv (HL.out.stay hB) hml wh E)
  clear x1 x2 y1 y2 u1 u2 h1 h2 hn h0 hnn hrow hv wv
  have hbp : b ≠ w.heap.size := by have := hB1.size; omega
  have HA3 := Lib.hid (set5_self (.int .i64 X) (.int .i64 Y) (.int .i64 W) (.int .i64 H) (.slice (some ⟨b, 0, none⟩) n n) HA2.out)
  have F3 := Lib.hid (flAt_congr fv (set5_heap w2 w.heap.size b (.int .i64 X) (.int .i64 Y) (.int .i64 W) (.int .i64 H) (.slice (some ⟨b, 0, none⟩) n n) hbp))
  have hB3 := set5_below hB2 w.heap.size (.int .i64 X) (.int .i64 Y) (.int .i64 W) (.int .i64 H) (.slice (some ⟨b, 0, none⟩) n n) (Nat.le_refl _)
  clear hb2
  go_wp2_with fail
  refine (S1.out _ hB3 F3.out).mono ?_
  intro e w4 hp
  obtain ⟨x1, y1, u1, h1, p1, l1, q1, k1, rfl, r1, hb4⟩ := made_res hp
  have hx := set5_size w2 w.heap.size (.int .i64 X) (.int .i64 Y) (.int .i64 W) (.int .i64 H) (.slice (some ⟨b, 0, none⟩) n n)
  have F4 := Lib.hid (flAt_congr F3.out (hb4.block b (by rw [hx]; exact bv)))
  have HA4 := Lib.hid (blkStay HA3.out hb4)
  have hB4 := hB3.trans (hb4.mono hB3.size)
  have bv4 : b < w4.heap.size := by have := hb4.size; rw [hx] at this; omega
  clear hp
  rw [hx] at r1
  clear hb4 HA3 F3 hB3 hx cA fA zA HA2 hB2 hlo fv bv
  obtain ⟨cA, fA, zA⟩ := blkC HA4.out
  -- the reference's Select
  have hb5 := al_below w4 (fldO x1 y1 u1 h1 (.slice p1 l1 q1))
  have F5 := Lib.hid (flAt_congr F4.out (heap_alloc_old w4 (fldO x1 y1 u1 h1 (.slice p1 l1 q1)) bv4))
  have HA5 := Lib.hid ((heap_alloc_old w4 (fldO x1 y1 u1 h1 (.slice p1 l1 q1)) zA).trans HA4.out)
  have HQ5 := Lib.hid (heap_alloc_new w4 (fldO x1 y1 u1 h1 (.slice p1 l1 q1)))
  have R5 := Lib.hid (r1.stay hb5)
  go_wp2_with fail
  refine (S2.out _ (hB4.trans (hb5.mono hB4.size)) F5.out).mono ?_
  intro e w6 hp
  obtain ⟨x2, y2, u2, h2, p2, l2, q2, k2, rfl, r2, hb6⟩ := made_res hp
  have hb46 := hb5.trans (hb6.mono hb5.size)
  have F6 := Lib.hid (flAt_congr F5.out (hb6.block b (by have := hb5.size; omega)))
  have HA6 := Lib.hid (blkStay HA5.out hb6)
  have HQ6 := Lib.hid (blkStay HQ5.out hb6)
  have R6 := Lib.hid (R5.out.stay hb6)
  have hB6 := hB4.trans (hb46.mono hB4.size)
  have bv6 : b < w6.heap.size := by have := hb46.size; omega
  clear r1 R5 HQ5 HA5 F5 hb5 hb46 hp F4 HA4 hb6 cA fA
  obtain ⟨cA, fA, zA6⟩ := blkC HA6.out
  obtain ⟨cQ, fQ, zQ6⟩ := blkC HQ6.out
  -- same
  have hb7 := al_below w6 (fldO x2 y2 u2 h2 (.slice p2 l2 q2))
  have F7 := Lib.hid (flAt_congr F6.out (heap_alloc_old w6 (fldO x2 y2 u2 h2 (.slice p2 l2 q2)) bv6))
  have HA7 := Lib.hid ((heap_alloc_old w6 (fldO x2 y2 u2 h2 (.slice p2 l2 q2)) zA6).trans HA6.out)
  have HQ7 := Lib.hid ((heap_alloc_old w6 (fldO x2 y2 u2 h2 (.slice p2 l2 q2)) zQ6).trans HQ6.out)
  have HR7 := Lib.hid (heap_alloc_new w6 (fldO x2 y2 u2 h2 (.slice p2 l2 q2)))
  have R7 := Lib.hid (R6.out.stay hb7)
  have T7 := Lib.hid (r2.stay hb7)
  go_wp2_with fail
  refine (same_res hn1 (by omega) R7.out T7.out).mono ?_
  rintro e w8 ⟨rfl, hb8⟩
  have hb68 := hb7.trans (hb8.mono hb7.size)
  have F8 := Lib.hid (flAt_congr F7.out (hb8.block b (by have := hb7.size; omega)))
  have HA8 := Lib.hid (blkStay HA7.out hb8)
  have HQ8 := Lib.hid (blkStay HQ7.out hb8)
  have HR8 := Lib.hid (blkStay HR7.out hb8)
  have hB8 := hB6.trans (hb68.mono hB6.size)
  have bv8 : b < w8.heap.size := by have := hb68.size; omega
  clear R6 r2 R7 T7 HR7 HQ7 HA7 F7 hb7 hb8 hb68 HQ6 HA6 F6 cA fA cQ fQ
  obtain ⟨cA, fA, zA8⟩ := blkC HA8.out
  obtain ⟨cQ, fQ, zQ8⟩ := blkC HQ8.out
  obtain ⟨cR, fR, zR8⟩ := blkC HR8.out
  clear cA fA cQ fQ cR fR HA8 HQ8 HR8 F8 S1 S2 E wh hn1 hn2 HF bv8 bv6 bv4
  have HB8 := Lib.hid hB8
  clear hB8
  go_wp2_with fail
  go_loopw [43] (fun i wr => ∃ j : Nat, j ≤ m ∧ i = .int .i64 j ∧ Below w.heap.size w wr) (fun i _ => m - (intOf i).toNat)
  case atStart => exact ⟨0, by omega, rfl, HB8.out⟩
  case round =>
    obtain ⟨j, hj, rfl, hb⟩ := hrel
    have HB := Lib.hid hb
    by_cases c : j < m
    · rcases HL.out.stay hb with z | ⟨b', off, rfl, l⟩
      · omega
      obtain ⟨l0, l1, l2, l3⟩ := l j c
      have C1 := Lib.hid (fun w => CF.out j w)
      have C2 := Lib.hid (fun w => CR.out j c w)
      have L1 := Lib.hid (fun w => LF.out j w)
      have L2 := Lib.hid (fun w => LR.out j c w)
      have O1 := Lib.hid (fun w => ON.out j w)
      generalize folE (A j) (B j) (P j) (h j) = fe at *
      generalize lifV (A j) (B j) (P j) (h j) x y = V at *
      generalize lifE (A j) (B j) (P j) (h j) x y = E at *
      clear l hb CF CR LF LR ON
      go_wp2_with (first | (go_at_call 14; refine (L1.out _).mono ?_; rintro e' w9 ⟨rfl, hb9⟩; have HF9 := Lib.hid (blkStay (b := wr.heap.size) (o := folObj (A j) (B j) (P j) (h j)) (by (first | (rw [heap_alloc_get, if_pos rfl]; done) | ((simp only [heap_alloc_get, heap_size_alloc, if_true]) <;> ((repeat' split) <;> first | rfl | omega)))) hb9); have hB9 : Below wr.heap.size wr w9 := Below.trans (by repeat (first | exact Below.refl _ _ | refine Below.alloc ?_ (by first | omega | (simp; done) | (simp; omega)) _ | refine Below.setCell ?_ (by first | omega | (simp; done) | (simp; omega)) _ | refine Below.drew ?_)) (Below.mono hb9 (by simp)); clear hb9; obtain ⟨cF, fF, zF⟩ := blkC HF9.out) | (go_at_call 15; refine (L2.out _).mono ?_; rintro e' w10 ⟨rfl, hb10⟩; clear cF fF zF; have HF10 := Lib.hid (blkStay HF9.out hb10); have hB10 := hB9.trans (hb10.mono hB9.size); clear hb10 HF9 hB9; obtain ⟨cF, fF, zF⟩ := blkC HF10.out))
      go_region_held3 (fun w' => (∀ o, w'.cell? ⟨wr.heap.size, o, none⟩ = #[.int .i64 (A j), .int .i64 (B j), .int .i64 (P j), .float .f32 (h j)][o]?) ∧ Below w10.heap.size w10 w') (first | exact ⟨(blkC (blkStay HF10.out hb9)).1, hb9⟩ | exact ⟨(blkC (blkStay HF10.out (by repeat (first | exact Below.refl _ _ | refine Below.alloc ?_ (by first | omega | (simp; done) | (simp; omega)) _ | refine Below.setCell ?_ (by first | omega | (simp; done) | (simp; omega)) _ | refine Below.drew ?_)))).1, (by repeat (first | exact Below.refl _ _ | refine Below.alloc ?_ (by first | omega | (simp; done) | (simp; omega)) _ | refine Below.setCell ?_ (by first | omega | (simp; done) | (simp; omega)) _ | refine Below.drew ?_))⟩) (first | (go_at_call 17; (with_reducible refine Calls.mono (C1.out _) ?_); rintro e w' ⟨rfl, hb8⟩; have hb9 : Below w10.heap.size w10 w' := Below.trans (by first | exact hb9 | exact hb9.drew | exact (by repeat (first | exact Below.refl _ _ | refine Below.alloc ?_ (by first | omega | (simp; done) | (simp; omega)) _ | refine Below.setCell ?_ (by first | omega | (simp; done) | (simp; omega)) _ | refine Below.drew ?_))) (Below.mono hb8 (by first | exact hb9.size | exact Nat.le_refl _ | (simp; done) | (simp; omega))); clear hb8) | (go_at_call 18; (with_reducible refine Calls.mono (C2.out _) ?_); rintro e w' ⟨rfl, hb8⟩; have hb9 : Below w10.heap.size w10 w' := Below.trans (by first | exact hb9 | exact hb9.drew | exact (by repeat (first | exact Below.refl _ _ | refine Below.alloc ?_ (by first | omega | (simp; done) | (simp; omega)) _ | refine Below.setCell ?_ (by first | omega | (simp; done) | (simp; omega)) _ | refine Below.drew ?_))) (Below.mono hb8 (by first | exact hb9.size | exact Nat.le_refl _ | (simp; done) | (simp; omega))); clear hb8) | (go_at_call 16; refine (O1.out _).mono ?_; rintro e w' ⟨rfl, rfl⟩))
      rename_i wh hHeld
      have HH := Lib.hid ((HB.out.trans (hB10.mono HB.out.size)).trans (hHeld.2.mono (Nat.le_trans HB.out.size hB10.size)))
      clear hB10 hHeld cF fF zF
      go_wp2
      go_roundw
      case rel => exact ⟨j + 1, by omega, by go_num, HH.out⟩
      case measure => simp [intOf]; omega
    · have : j = m := by omega
      subst this
      go_wp2
      go_ret
      exact ⟨rfl, HB.out⟩
end Go.Proofs.Ytdbponidkodmfaa

/- FaultsMatch: CheckFault, Lift and Folds answer as the references do, for every list of faults, every field that fit makes, and every place. -/
namespace Go.Proofs.Ytdbponidkodmfaa
open Go.RowKit Fl
set_option linter.unusedVariables false

set_option maxHeartbeats 4000000 in
set_option maxRecDepth 100000 in
theorem faultsMatch_any (a : Option Addr) (m lcap : Nat) (A B C D : Nat → Int) (h : Nat → Nat) (X0 Y0 W0 H0 : Int) (sl : Value) (x y : Int) (w : World) (L : FauL w a m A B C D h) (hml : m ≤ 9223372036854775807) (wh : wf32 m h)
    (hfit : ∀ W', Below w.heap.size w W' → Calls Try.prog 10 #[fldV X0 Y0 W0 H0 sl] W' (FitPost W')) :
    Calls Try.prog 4 #[.slice a m lcap, fldV X0 Y0 W0 H0 sl, .int .i64 x, .int .i64 y] w fun e w' => e = .returned (.bool true) ∧ Below w.heap.size w w' := by
  have HF := Lib.hid hfit
  have HL := Lib.hid L
  obtain ⟨er, E⟩ := lstE_ex (fun i => fauE (A i) (B i) (C i) (D i) (h i)) m
  have hsf := fun (w : World) (a : Addr) (m : Mode) (k : FloatKind) (b : Nat) => run_store_float (P := Try.prog) (w := w) (a := a) (m := m) k b
  have CF := Lib.hid (fun i w => checkFault_any (A i) (B i) (C i) (D i) (h i) w)
  have CR := Lib.hid (fun i (hi : i < m) w => refCheckFault_any (A i) (B i) (C i) (D i) (h i) (wh i hi) w)
  have LF := Lib.hid (fun i w => throwX_any (A i) (B i) (C i) (D i) (h i) x y w)
  have LR := Lib.hid (fun i (hi : i < m) w => rthrowX_any (A i) (B i) (C i) (D i) (h i) x y w (wh i hi))
  have ON := Lib.hid (fun i w => show Calls Try.prog 16 #[.float .f32 (thrV (A i) (B i) (C i) (D i) (h i) x y), .int .i64 (thrE (A i) (B i) (C i) (D i) (h i) x y), .float .f32 (thrV (A i) (B i) (C i) (D i) (h i) x y), .int .i64 (thrE (A i) (B i) (C i) (D i) (h i) x y)] w fun e w' => e = .returned (.bool true) ∧ w = w' by
    by_cases c : thrE (A i) (B i) (C i) (D i) (h i) x y = 0
    · rw [c]; exact one_ok _ w
    · have : thrV (A i) (B i) (C i) (D i) (h i) x y = 0 := by unfold thrV; rw [if_neg c]
      rw [this]; exact one_errX 0 _ c w)
  clear hfit L
  go_enter Try.func4, Try.ntmps4
  go_wp2_with (first | (go_at_call 9; refine (landed_any _).mono ?_; rintro e w1 ⟨rfl, hb1⟩; have HA1 := Lib.hid (blkStay (b := w.heap.size) (o := fldO X0 Y0 W0 H0 sl) (heap_alloc_new w _) hb1); have hB1 : Below w.heap.size w w1 := Below.trans (by repeat (first | exact Below.refl _ _ | refine Below.alloc ?_ (by first | omega | (simp; done) | (simp; omega)) _ | refine Below.setCell ?_ (by first | omega | (simp; done) | (simp; omega)) _ | refine Below.drew ?_)) (Below.mono hb1 (by first | omega | (simp; done) | (simp; omega))); obtain ⟨cA, fA, zA⟩ := blkC HA1.out; clear hb1))
  refine (HF.out w1 hB1).mono ?_
  rintro e w2 ⟨X, Y, W', H', b, n, rfl, x1, x2, y1, y2, u1, u2, h1, h2, hn, hn1, hn2, hlo, hrow, hb2⟩
  obtain ⟨W, rfl⟩ : ∃ W : Nat, W' = W := ⟨W'.toNat, by omega⟩
  obtain ⟨H, rfl⟩ : ∃ H : Nat, H' = H := ⟨H'.toNat, by omega⟩
  obtain ⟨v, fv, wv, hv, bv⟩ := fit_fn hrow
  have h0 := fit_check x1 x2 y1 y2 u1 u2 h1 h2 hn hn2
  have hnn : n = W * H := by
    have : (n : Int) = ((W * H : Nat) : Int) := by rw [hn]; simp
    omega
  have HA2 := Lib.hid (blkStay HA1.out hb2)
  have hB2 : Below w.heap.size w w2 := hB1.trans (hb2.mono hB1.size)
  obtain ⟨cA, fA, zA⟩ := blkC HA2.out
  have S1 := Lib.hid (fun W' (hB : Below w.heap.size w W') (hf : FlAt W' b 0 n v) => faults_any X Y W H n b n v a m lcap A B C D h er W' h0 hnn hf hv (HL.out.stay hB) hml E)
  have S2 := Lib.hid (fun W' (hB : Below w.heap.size w W') (hf : FlAt W' b 0 n v) => rfaults_any X Y W H n b n v a m lcap A B C D h er W' h0 hnn hf hv wv (HL.out.stay hB) hml wh E)
  clear x1 x2 y1 y2 u1 u2 h1 h2 hn h0 hnn hrow hv wv
  have hbp : b ≠ w.heap.size := by have := hB1.size; omega
  have HA3 := Lib.hid (set5_self (.int .i64 X) (.int .i64 Y) (.int .i64 W) (.int .i64 H) (.slice (some ⟨b, 0, none⟩) n n) HA2.out)
  have F3 := Lib.hid (flAt_congr fv (set5_heap w2 w.heap.size b (.int .i64 X) (.int .i64 Y) (.int .i64 W) (.int .i64 H) (.slice (some ⟨b, 0, none⟩) n n) hbp))
  have hB3 := set5_below hB2 w.heap.size (.int .i64 X) (.int .i64 Y) (.int .i64 W) (.int .i64 H) (.slice (some ⟨b, 0, none⟩) n n) (Nat.le_refl _)
  clear hb2
  go_wp2_with fail
  refine (S1.out _ hB3 F3.out).mono ?_
  intro e w4 hp
  obtain ⟨x1, y1, u1, h1, p1, l1, q1, k1, rfl, r1, hb4⟩ := made_res hp
  have hx := set5_size w2 w.heap.size (.int .i64 X) (.int .i64 Y) (.int .i64 W) (.int .i64 H) (.slice (some ⟨b, 0, none⟩) n n)
  have F4 := Lib.hid (flAt_congr F3.out (hb4.block b (by rw [hx]; exact bv)))
  have HA4 := Lib.hid (blkStay HA3.out hb4)
  have hB4 := hB3.trans (hb4.mono hB3.size)
  have bv4 : b < w4.heap.size := by have := hb4.size; rw [hx] at this; omega
  clear hp
  rw [hx] at r1
  clear hb4 HA3 F3 hB3 hx cA fA zA HA2 hB2 hlo fv bv
  obtain ⟨cA, fA, zA⟩ := blkC HA4.out
  -- the reference's Select
  have hb5 := al_below w4 (fldO x1 y1 u1 h1 (.slice p1 l1 q1))
  have F5 := Lib.hid (flAt_congr F4.out (heap_alloc_old w4 (fldO x1 y1 u1 h1 (.slice p1 l1 q1)) bv4))
  have HA5 := Lib.hid ((heap_alloc_old w4 (fldO x1 y1 u1 h1 (.slice p1 l1 q1)) zA).trans HA4.out)
  have HQ5 := Lib.hid (heap_alloc_new w4 (fldO x1 y1 u1 h1 (.slice p1 l1 q1)))
  have R5 := Lib.hid (r1.stay hb5)
  go_wp2_with fail
  refine (S2.out _ (hB4.trans (hb5.mono hB4.size)) F5.out).mono ?_
  intro e w6 hp
  obtain ⟨x2, y2, u2, h2, p2, l2, q2, k2, rfl, r2, hb6⟩ := made_res hp
  have hb46 := hb5.trans (hb6.mono hb5.size)
  have F6 := Lib.hid (flAt_congr F5.out (hb6.block b (by have := hb5.size; omega)))
  have HA6 := Lib.hid (blkStay HA5.out hb6)
  have HQ6 := Lib.hid (blkStay HQ5.out hb6)
  have R6 := Lib.hid (R5.out.stay hb6)
  have hB6 := hB4.trans (hb46.mono hB4.size)
  have bv6 : b < w6.heap.size := by have := hb46.size; omega
  clear r1 R5 HQ5 HA5 F5 hb5 hb46 hp F4 HA4 hb6 cA fA
  obtain ⟨cA, fA, zA6⟩ := blkC HA6.out
  obtain ⟨cQ, fQ, zQ6⟩ := blkC HQ6.out
  -- same
  have hb7 := al_below w6 (fldO x2 y2 u2 h2 (.slice p2 l2 q2))
  have F7 := Lib.hid (flAt_congr F6.out (heap_alloc_old w6 (fldO x2 y2 u2 h2 (.slice p2 l2 q2)) bv6))
  have HA7 := Lib.hid ((heap_alloc_old w6 (fldO x2 y2 u2 h2 (.slice p2 l2 q2)) zA6).trans HA6.out)
  have HQ7 := Lib.hid ((heap_alloc_old w6 (fldO x2 y2 u2 h2 (.slice p2 l2 q2)) zQ6).trans HQ6.out)
  have HR7 := Lib.hid (heap_alloc_new w6 (fldO x2 y2 u2 h2 (.slice p2 l2 q2)))
  have R7 := Lib.hid (R6.out.stay hb7)
  have T7 := Lib.hid (r2.stay hb7)
  go_wp2_with fail
  refine (same_res hn1 (by omega) R7.out T7.out).mono ?_
  rintro e w8 ⟨rfl, hb8⟩
  have hb68 := hb7.trans (hb8.mono hb7.size)
  have F8 := Lib.hid (flAt_congr F7.out (hb8.block b (by have := hb7.size; omega)))
  have HA8 := Lib.hid (blkStay HA7.out hb8)
  have HQ8 := Lib.hid (blkStay HQ7.out hb8)
  have HR8 := Lib.hid (blkStay HR7.out hb8)
  have hB8 := hB6.trans (hb68.mono hB6.size)
  have bv8 : b < w8.heap.size := by have := hb68.size; omega
  clear R6 r2 R7 T7 HR7 HQ7 HA7 F7 hb7 hb8 hb68 HQ6 HA6 F6 cA fA cQ fQ
  obtain ⟨cA, fA, zA8⟩ := blkC HA8.out
  obtain ⟨cQ, fQ, zQ8⟩ := blkC HQ8.out
  obtain ⟨cR, fR, zR8⟩ := blkC HR8.out
  clear cA fA cQ fQ cR fR HA8 HQ8 HR8 F8 S1 S2 E wh hn1 hn2 HF bv8 bv6 bv4
  have HB8 := Lib.hid hB8
  clear hB8
  go_wp2_with fail
  go_loopw [43] (fun i wr => ∃ j : Nat, j ≤ m ∧ i = .int .i64 j ∧ Below w.heap.size w wr) (fun i _ => m - (intOf i).toNat)
  case atStart => exact ⟨0, by omega, rfl, HB8.out⟩
  case round =>
    obtain ⟨j, hj, rfl, hb⟩ := hrel
    have HB := Lib.hid hb
    by_cases c : j < m
    · rcases HL.out.stay hb with z | ⟨b', off, rfl, l⟩
      · omega
      obtain ⟨l0, l1, l2, l3, l4⟩ := l j c
      have C1 := Lib.hid (fun w => CF.out j w)
      have C2 := Lib.hid (fun w => CR.out j c w)
      have L1 := Lib.hid (fun w => LF.out j w)
      have L2 := Lib.hid (fun w => LR.out j c w)
      have O1 := Lib.hid (fun w => ON.out j w)
      generalize fauE (A j) (B j) (C j) (D j) (h j) = fe at *
      generalize thrV (A j) (B j) (C j) (D j) (h j) x y = V at *
      generalize thrE (A j) (B j) (C j) (D j) (h j) x y = E at *
      clear l hb CF CR LF LR ON
      go_wp2_with (first | (go_at_call 21; refine (L1.out _).mono ?_; rintro e' w9 ⟨rfl, hb9⟩; have HF9 := Lib.hid (blkStay (b := wr.heap.size) (o := fauObj (A j) (B j) (C j) (D j) (h j)) (by (first | (rw [heap_alloc_get, if_pos rfl]; done) | ((simp only [heap_alloc_get, heap_size_alloc, if_true]) <;> ((repeat' split) <;> first | rfl | omega)))) hb9); have hB9 : Below wr.heap.size wr w9 := Below.trans (by repeat (first | exact Below.refl _ _ | refine Below.alloc ?_ (by first | omega | (simp; done) | (simp; omega)) _ | refine Below.setCell ?_ (by first | omega | (simp; done) | (simp; omega)) _ | refine Below.drew ?_)) (Below.mono hb9 (by simp)); clear hb9; obtain ⟨cF, fF, zF⟩ := blkC HF9.out) | (go_at_call 22; refine (L2.out _).mono ?_; rintro e' w10 ⟨rfl, hb10⟩; clear cF fF zF; have HF10 := Lib.hid (blkStay HF9.out hb10); have hB10 := hB9.trans (hb10.mono hB9.size); clear hb10 HF9 hB9; obtain ⟨cF, fF, zF⟩ := blkC HF10.out))
      go_region_held3 (fun w' => (∀ o, w'.cell? ⟨wr.heap.size, o, none⟩ = #[.int .i64 (A j), .int .i64 (B j), .int .i64 (C j), .int .i64 (D j), .float .f32 (h j)][o]?) ∧ Below w10.heap.size w10 w') (first | exact ⟨(blkC (blkStay HF10.out hb9)).1, hb9⟩ | exact ⟨(blkC (blkStay HF10.out (by repeat (first | exact Below.refl _ _ | refine Below.alloc ?_ (by first | omega | (simp; done) | (simp; omega)) _ | refine Below.setCell ?_ (by first | omega | (simp; done) | (simp; omega)) _ | refine Below.drew ?_)))).1, (by repeat (first | exact Below.refl _ _ | refine Below.alloc ?_ (by first | omega | (simp; done) | (simp; omega)) _ | refine Below.setCell ?_ (by first | omega | (simp; done) | (simp; omega)) _ | refine Below.drew ?_))⟩) (first | (go_at_call 23; (with_reducible refine Calls.mono (C1.out _) ?_); rintro e w' ⟨rfl, hb8⟩; have hb9 : Below w10.heap.size w10 w' := Below.trans (by first | exact hb9 | exact hb9.drew | exact (by repeat (first | exact Below.refl _ _ | refine Below.alloc ?_ (by first | omega | (simp; done) | (simp; omega)) _ | refine Below.setCell ?_ (by first | omega | (simp; done) | (simp; omega)) _ | refine Below.drew ?_))) (Below.mono hb8 (by first | exact hb9.size | exact Nat.le_refl _ | (simp; done) | (simp; omega))); clear hb8) | (go_at_call 24; (with_reducible refine Calls.mono (C2.out _) ?_); rintro e w' ⟨rfl, hb8⟩; have hb9 : Below w10.heap.size w10 w' := Below.trans (by first | exact hb9 | exact hb9.drew | exact (by repeat (first | exact Below.refl _ _ | refine Below.alloc ?_ (by first | omega | (simp; done) | (simp; omega)) _ | refine Below.setCell ?_ (by first | omega | (simp; done) | (simp; omega)) _ | refine Below.drew ?_))) (Below.mono hb8 (by first | exact hb9.size | exact Nat.le_refl _ | (simp; done) | (simp; omega))); clear hb8) | (go_at_call 16; refine (O1.out _).mono ?_; rintro e w' ⟨rfl, rfl⟩))
      rename_i wh hHeld
      have HH := Lib.hid ((HB.out.trans (hB10.mono HB.out.size)).trans (hHeld.2.mono (Nat.le_trans HB.out.size hB10.size)))
      clear hB10 hHeld cF fF zF
      go_wp2
      go_roundw
      case rel => exact ⟨j + 1, by omega, by go_num, HH.out⟩
      case measure => simp [intOf]; omega
    · have : j = m := by omega
      subst this
      go_wp2
      go_ret
      exact ⟨rfl, HB.out⟩
end Go.Proofs.Ytdbponidkodmfaa

/- A field that came in, opened: four integers, and a slice of singles that is empty or known cell by cell. -/
namespace Go.Proofs.Ytdbponidkodmfaa
open Go.ChangeShapes Go.WideShapes Go.ChangeAt Go.RowKit Go.Joins Fl

section
variable {H : Type} {enc : TypeId × Value → H} {w : World} {base : Nat} {spare : Nat → Bool} {held : Bool}

theorem trod_f32 {P : Program} {t : TypeId} {fuel : Nat} {v : Value} {y : DataW H × List MemPlace} (ht : P.underlying t = some (.float .f32)) (h : DataW.trod enc P w base spare held fuel t [v] = some y) : ∃ b, v = .float .f32 b ∧ b < 4294967296 := by
  cases fuel with
  | zero => simp [DataW.trod] at h
  | succ n =>
    unfold DataW.trod at h
    rw [ht] at h
    cases v <;> simp at h
    rename_i k b
    obtain ⟨⟨rfl, hw⟩, _⟩ := h
    exact ⟨b, rfl, by simpa [Lit.wf] using hw⟩

theorem array5 {α : Type} {cs : Array α} (h : cs.size = 5) : ∃ c0 c1 c2 c3 c4, cs = #[c0, c1, c2, c3, c4] := by
  obtain ⟨l⟩ := cs
  match l, h with
  | [c0, c1, c2, c3, c4], _ => exact ⟨c0, c1, c2, c3, c4, rfl⟩

theorem flAt_congr' {w w' : World} {b off n : Nat} {f : Nat → Nat} (h : FlAt w b off n f) (e : w'.heap[b]? = w.heap[b]?) : FlAt w' b off n f := fun i hi => by
  rw [← h i hi]; exact World.cell?_of_block (w := w) (a := ⟨b, off + i, none⟩) e

/-- What a slice of singles is: empty, or known cell by cell. -/
def SlF (w : World) (s : Value) : Prop :=
  (∃ a cap, s = .slice a 0 cap) ∨ ∃ b off len cap x, s = .slice (some ⟨b, off, none⟩) len cap ∧ 0 < len ∧ len ≤ 9223372036854775807 ∧ FlAt w b off len x ∧ wf32 len x

theorem open_singles {t e : TypeId} {fuel : Nat} {cs : List Value} {y : DataW H × List MemPlace} (ht : Try.prog.underlying t = some (.slice e)) (he : Try.prog.underlying e = some (.float .f32)) (hc : Try.prog.cellsOf e = 1)
    (h : DataW.trod enc Try.prog w base spare held fuel t cs = some y) : ∃ s, cs = [s] ∧ SlF w s := by
  rcases Go.Deep.open_slice1 ht hc h with ⟨rfl, _⟩ | ⟨a, len, cap, m, n, V, D, Pl, rfl, hb, hl, hm, hmm, _, hx⟩
  · exact ⟨_, rfl, .inl ⟨none, 0, rfl⟩⟩
  · refine ⟨_, rfl, ?_⟩
    rcases Nat.eq_zero_or_pos len with z | z
    · subst z; exact .inl ⟨_, _, rfl⟩
    · have hlm : len ≤ m := by rw [hmm]; split <;> omega
      have h0 := (hx 0 (by omega)).1
      obtain ⟨b, off, spot⟩ := a
      have hspot : spot = none := by simpa [Addr.add] using World.cell?_spot h0
      subst hspot
      have hv : ∀ i, i < len → ∃ x, V i = .float .f32 x ∧ x < 4294967296 := fun i hi => trod_f32 he (hx i (by omega)).2
      refine .inr ⟨b, off, len, cap, fun i => match V i with | .float _ x => x | _ => 0, rfl, z, ?_, fun i hi => ?_, fun i hi => ?_⟩
      · exact Nat.le_trans hl (Nat.le_trans hm (by decide))
      · have h1 := (hx i (by omega)).1
        obtain ⟨x, e1, _⟩ := hv i hi
        rw [← Go.WideShapes.add_plain, h1]
        simp only [e1]
      · obtain ⟨x, e1, e2⟩ := hv i hi
        simp only [e1]; exact e2

theorem cellsF : Try.prog.cellsOf 27 = 5 := by kernel_rfl
theorem cellsR : Try.prog.cellsOf 24 = 4 := by kernel_rfl
theorem cellsS : Try.prog.cellsOf 25 = 1 := by kernel_rfl
theorem cells1 : Try.prog.cellsOf 34 = 1 := by kernel_rfl
theorem cellsI : Try.prog.cellsOf 3 = 1 := by kernel_rfl

set_option maxRecDepth 100000 in
theorem open_field {r : Reach} {b0 : Nat} {v : Value} {d : DataW H} {p : List MemPlace} (hv : Value.okWide Try.prog w r b0 27 v) (h : DataW.Trod enc Try.prog w base spare held 27 v d p) :
    ∃ X Y W' H' : Int, ∃ s, v = fldV X Y W' H' s ∧ SlF w s := by
  obtain ⟨cs, rfl, hsz⟩ := okWide_struct Try.underlying27 hv
  obtain ⟨c0, c1, c2, c3, c4, rfl⟩ := array5 (hsz.trans cellsF)
  obtain ⟨fuel, hf⟩ := h
  obtain ⟨y0, y1, n, _, _, h0, h1⟩ := trod_struct2 Try.underlying27 hf
  rw [cellsR] at h0
  rw [cellsS] at h1
  obtain ⟨s, e4, hs⟩ := open_singles Try.underlying25 Try.underlying34 cells1 h1
  obtain ⟨z0, z1, z2, z3, n2, _, _, g0, g1, g2, g3⟩ := trod_struct4 Try.underlying24 h0
  rw [cellsI] at g0 g1 g2 g3
  obtain ⟨x0, e0, _, _⟩ := DataW.trod_int Try.underlying3 g0
  obtain ⟨x1, e1, _, _⟩ := DataW.trod_int Try.underlying3 g1
  obtain ⟨x2, e2, _, _⟩ := DataW.trod_int Try.underlying3 g2
  obtain ⟨x3, e3, _, _⟩ := DataW.trod_int Try.underlying3 g3
  simp [Value.cells] at e0 e1 e2 e3 e4
  subst e0 e1 e2 e3 e4
  exact ⟨x0, x1, x2, x3, _, rfl, hs⟩
end

theorem SlF.stay {w w' : World} {s : Value} (h : SlF w s) (hb : Below w.heap.size w w') : SlF w' s := by
  rcases h with h | ⟨b, off, len, cap, x, rfl, h1, h2, h3, h4⟩
  · exact .inl h
  · exact .inr ⟨b, off, len, cap, x, rfl, h1, h2, flAt_congr' h3 (hb.block _ (World.block_lt_of_cell? w _ (h3 0 h1))), h4⟩

/-- fit, of whatever slice. -/
theorem fit_any {X Y W H : Int} {s : Value} {w : World} (h : SlF w s) : Calls Try.prog 10 #[fldV X Y W H s] w (FitPost w) := by
  rcases h with ⟨a, cap, rfl⟩ | ⟨b, off, len, cap, x, rfl, h1, h2, h3, h4⟩
  · exact fit_none X Y W H a cap w
  · exact fit_some X Y W H b off len cap x w h1 h2 h3 h4

theorem laidOut : laidOutB Try.prog = true := by kernel_rfl
end Go.Proofs.Ytdbponidkodmfaa

/- A brush that came in, opened: four integers and a single. -/
namespace Go.Proofs.Ytdbponidkodmfaa
open Go.ChangeShapes Go.WideShapes Go.ChangeAt Go.RowKit Go.Joins Fl

section
variable {H : Type} {enc : TypeId × Value → H} {w : World} {base : Nat} {spare : Nat → Bool} {held : Bool}

theorem trod_struct5 {P : Program} {t : TypeId} {f0 f1 f2 f3 f4 : Go.Field} {fuel : Nat} {cs : List Value} {x : DataW H × List MemPlace} (ht : P.underlying t = some (.struct #[f0, f1, f2, f3, f4])) (h : DataW.trod enc P w base spare held fuel t cs = some x) :
    ∃ y0 y1 y2 y3 y4 n, DataW.trod enc P w base spare held n f0.type ((cs.drop f0.offset).take (P.cellsOf f0.type)) = some y0 ∧ DataW.trod enc P w base spare held n f1.type ((cs.drop f1.offset).take (P.cellsOf f1.type)) = some y1 ∧
      DataW.trod enc P w base spare held n f2.type ((cs.drop f2.offset).take (P.cellsOf f2.type)) = some y2 ∧ DataW.trod enc P w base spare held n f3.type ((cs.drop f3.offset).take (P.cellsOf f3.type)) = some y3 ∧
      DataW.trod enc P w base spare held n f4.type ((cs.drop f4.offset).take (P.cellsOf f4.type)) = some y4 := by
  obtain ⟨xs, n, _, rfl, hl, hlen, hf⟩ := DataW.trod_struct ht h
  match xs, hlen with
  | [y0, y1, y2, y3, y4], _ => exact ⟨y0, y1, y2, y3, y4, n, by simpa using hf 0 f0 rfl, by simpa using hf 1 f1 rfl, by simpa using hf 2 f2 rfl, by simpa using hf 3 f3 rfl, by simpa using hf 4 f4 rfl⟩

end
end Go.Proofs.Ytdbponidkodmfaa

/- A list of faults that came in, opened. -/
namespace Go.Proofs.Ytdbponidkodmfaa
open Go.ChangeShapes Go.WideShapes Go.ChangeAt Go.RowKit Go.Joins Go.Deep Fl

section
variable {H : Type} {enc : TypeId × Value → H} {w : World} {base : Nat} {spare : Nat → Bool} {held : Bool}

theorem cellsU : Try.prog.cellsOf 45 = 5 := by kernel_rfl

set_option maxRecDepth 100000 in
theorem open_fault {n : Nat} {cs : List Value} {y : DataW H × List MemPlace} (hl : cs.length = 5) (h : DataW.trod enc Try.prog w base spare held n 45 cs = some y) :
    ∃ A B C D : Int, ∃ s : Nat, cs = [.int .i64 A, .int .i64 B, .int .i64 C, .int .i64 D, .float .f32 s] ∧ s < 4294967296 := by
  match cs, hl with
  | [c0, c1, c2, c3, c4], _ =>
    obtain ⟨z0, z1, z2, z3, z4, n2, g0, g1, g2, g3, g4⟩ := trod_struct5 Try.underlying45 h
    rw [cellsI] at g0 g1 g2 g3
    rw [cells1] at g4
    obtain ⟨x0, e0, _, _⟩ := DataW.trod_int Try.underlying3 g0
    obtain ⟨x1, e1, _, _⟩ := DataW.trod_int Try.underlying3 g1
    obtain ⟨x2, e2, _, _⟩ := DataW.trod_int Try.underlying3 g2
    obtain ⟨x3, e3, _, _⟩ := DataW.trod_int Try.underlying3 g3
    have e4 : ∃ s, c4 = .float .f32 s ∧ s < 4294967296 := by
      have e : List.take 1 (List.drop 4 [c0, c1, c2, c3, c4]) = [c4] := by simp
      simp only [e] at g4
      exact trod_f32 Try.underlying34 g4
    obtain ⟨s, rfl, ls⟩ := e4
    simp at e0 e1 e2 e3
    subst e0 e1 e2 e3
    exact ⟨x0, x1, x2, x3, s, rfl, ls⟩

theorem open_faus {fuel : Nat} {cs : List Value} {y : DataW H × List MemPlace} (h : DataW.trod enc Try.prog w base spare held fuel 42 cs = some y) :
    ∃ a len cap A B C D hh, cs = [.slice a len cap] ∧ len ≤ 9223372036854775807 ∧ FauL w a len A B C D hh ∧ wf32 len hh := by
  rcases open_slice Try.underlying42 h with ⟨rfl, _⟩ | ⟨a, len, cap, m, n, D, Pl, rfl, hb, hl, hm, hmm, _, hx⟩
  · exact ⟨none, 0, 0, fun _ => 0, fun _ => 0, fun _ => 0, fun _ => 0, fun _ => 0, rfl, by omega, .inl rfl, fun i hi => by omega⟩
  · have hlm : len ≤ m := by rw [hmm]; split <;> omega
    have hlen : len ≤ 9223372036854775807 := Nat.le_trans hl (Nat.le_trans hm (by decide))
    rcases Nat.eq_zero_or_pos len with z | z
    · subst z; exact ⟨some a, 0, cap, fun _ => 0, fun _ => 0, fun _ => 0, fun _ => 0, fun _ => 0, rfl, by omega, .inl rfl, fun i hi => by omega⟩
    · have each : ∀ i, i < len → ∃ q : Int × Int × Int × Int × Nat, w.cell? (a.add (i * 5)) = some (.int .i64 q.1) ∧ w.cell? (a.add (i * 5 + 1)) = some (.int .i64 q.2.1) ∧ w.cell? (a.add (i * 5 + 2)) = some (.int .i64 q.2.2.1) ∧ w.cell? (a.add (i * 5 + 3)) = some (.int .i64 q.2.2.2.1) ∧ w.cell? (a.add (i * 5 + 4)) = some (.float .f32 q.2.2.2.2) ∧ q.2.2.2.2 < 4294967296 := by
        intro i hi
        obtain ⟨cs', h1, h2⟩ := hx i (by omega)
        rw [cellsU] at h1
        obtain ⟨_, hlen, hcell⟩ := World.cells?_some h1
        obtain ⟨A, B, C, D', s, rfl, ls⟩ := open_fault hlen h2
        have e0 := hcell 0 (by omega)
        have e1 := hcell 1 (by omega)
        have e2 := hcell 2 (by omega)
        have e3 := hcell 3 (by omega)
        have e4 := hcell 4 (by omega)
        rw [add_add] at e0 e1 e2 e3 e4
        exact ⟨(A, B, C, D', s), by simpa using e0, by simpa using e1, by simpa using e2, by simpa using e3, by simpa using e4, ls⟩
      obtain ⟨q, hq⟩ := choose_lt each
      obtain ⟨b, off, spot⟩ := a
      have h0 := (hq 0 z).1
      have hspot : spot = none := by simpa [Addr.add] using World.cell?_spot h0
      subst hspot
      refine ⟨some ⟨b, off, none⟩, len, cap, fun i => (q i).1, fun i => (q i).2.1, fun i => (q i).2.2.1, fun i => (q i).2.2.2.1, fun i => (q i).2.2.2.2, rfl, hlen, .inr ⟨b, off, rfl, fun i hi => ?_⟩, fun i hi => (hq i hi).2.2.2.2.2⟩
      obtain ⟨q0, q1, q2, q3, q4, _⟩ := hq i hi
      rw [add_plain] at q0 q1 q2 q3 q4
      exact ⟨q0, by rw [← q1, Nat.add_assoc], by rw [← q2, Nat.add_assoc], by rw [← q3, Nat.add_assoc], by rw [← q4, Nat.add_assoc]⟩
end
end Go.Proofs.Ytdbponidkodmfaa

/- FaultsMatch, for every list of faults, every field and every place: CheckFault, Throw and Faults answer as the references do. No condition. -/
namespace Go.Proofs.Ytdbponidkodmfaa.faultsMatch
open Go.ChangeShapes Go.WideShapes Go.ChangeAt Go.RowKit Go.Joins
set_option linter.unusedVariables false

theorem own : ownKnob Try.prog.godebug = none := by kernel_rfl

set_option maxRecDepth 100000 in
theorem lifted (os : Os) (started : os.Started) (H : Type) (enc : TypeId × Value → H) :
    ReturnsInHanded {} Try.checked os 4 .any (Rows.faultsMatchSpec.pre6 enc Try.prog Try.f4 Rows.faultsMatchRow.domain false) (Rows.faultsMatchSpec.post enc Try.prog Try.f4 false true false false) := by
  refine returnsInHanded_of_change (C := Try.checked) own started (by kernel_rfl) Try.func4
    (ChangeSpec.witness6 (enc := enc) (C := Try.checked) false ⟨#[], #[.slice none 0 0, fldV 0 0 0 0 (.slice none 0 0), .int .i64 0, .int .i64 0], []⟩ 8 (by kernel_rfl) (by kernel_rfl) (by kernel_rfl) (by kernel_rfl)) ?_
  intro W base args ds gs before hval0 hW hcnd _
  have hval : ∀ (j : Nat) t v, Try.f4.params[j]? = some t → args[j]? = some v → Value.okWide Try.prog W .any base t v := hval0
  have hW' := hW
  have hplt : ∀ x ∈ before, x.block < W.heap.size := fun x hx => by simpa using hW'.lt x hx
  obtain ⟨p, q, hA0, hV, rfl, hfz, hnd⟩ := hW
  have hA : DataW.TrodAll enc Try.prog W 0 (fun _ => true) true Try.f4.params.toList args.toList ds p := hA0
  rw [Try.params4] at hA hval
  obtain ⟨v0, vs0, d0, ds0, p0, q0, hargs, rfl, rfl, h0, r0⟩ := trodAll_cons hA
  obtain ⟨v1, vs1, d1, ds1, p1, q1, rfl, rfl, rfl, h1, r1⟩ := trodAll_cons r0
  obtain ⟨v2, vs2, d2, ds2, p2, q2, rfl, rfl, rfl, h2, r2⟩ := trodAll_cons r1
  obtain ⟨v3, vs3, d3, ds3, p3, q3, rfl, rfl, rfl, h3, r3⟩ := trodAll_cons r2
  obtain ⟨rfl, rfl, rfl⟩ := trodAll_nil r3
  obtain rfl : args = #[v0, v1, v2, v3] := by cases args; simp_all
  obtain ⟨rfl, rfl⟩ := trodVars_none hV
  obtain ⟨a', len', cap', rfl⟩ := okWide_slice Try.underlying42 (hval 0 42 v0 rfl rfl)
  have h0' := h0
  obtain ⟨nf, hf⟩ := h0'
  obtain ⟨a, len, cap, A, B, C, D, hh, ecs, hl, L, wh⟩ := open_faus hf
  obtain ⟨rfl, rfl, rfl⟩ : a' = a ∧ len' = len ∧ cap' = cap := by simpa [Value.cells] using ecs
  obtain ⟨X, Y, W0, H0, s, rfl, hs⟩ := open_field (hval 1 27 v1 rfl rfl) h1
  obtain ⟨x, rfl, rfl, rfl, wx⟩ := open_int Try.underlying3 (hval 2 3 v2 rfl rfl) h2
  obtain ⟨y, rfl, rfl, rfl, wy⟩ := open_int Try.underlying3 (hval 3 3 v3 rfl rfl) h3
  have hlt1 : ∀ x ∈ p1, x.block < W.heap.size := fun x hx => hplt x (by simp [hx])
  have hlt : ∀ x ∈ p0, x.block < W.heap.size := fun x hx => hplt x (by simp [hx])
  clear hA0 hval0 hplt
  simp only [List.append_nil] at hW'
  refine (faultsMatch_any a' len' cap' A B C D hh X Y W0 H0 s x y W L hl wh (fun W' hb => fit_any (hs.stay hb))).mono fun e W' ⟨he, hb⟩ => ?_
  subst he
  exact ⟨_, rfl, _, _, _, [], _, [], hW', trodAll_cons_mk (shut_bool Try.underlying4 _) trodAll_mk0, trodAll_cons_mk (Below.trod laidOut (by kernel_rfl) (of_decide_eq_true (by kernel_rfl)) h0 hb hlt) (trodAll_cons_mk (Below.trod laidOut (by kernel_rfl) (of_decide_eq_true (by kernel_rfl)) h1 hb hlt1) (trodAll_cons_mk (shut_int Try.underlying3 wx) (trodAll_cons_mk (shut_int Try.underlying3 wy) trodAll_mk0))), rfl, hb.frame _, fun h => by cases h⟩

theorem over : Rows.faultsMatchRow.holds Try.pinned (OpenSpec.ofChange Rows.faultsMatchSpec) :=
  OpenClaim.holds_of_wide 4 Try.f4 rfl rfl rfl rfl rfl rfl rfl ⟨rfl, rfl, rfl, rfl, rfl⟩ rfl rfl rfl rfl rfl (by kernel_rfl) Try.func4 (by kernel_rfl)
    (of_decide_eq_true (by kernel_rfl)) (by unfold Func.isWrapper; rw [if_neg (of_decide_eq_false (by kernel_rfl))]; exact ⟨rfl, rfl⟩)
    (fun os started H enc _ => lifted os started H enc)

theorem proved : Rows.FaultsMatchSaid :=
  over
#print axioms proved
end Go.Proofs.Ytdbponidkodmfaa.faultsMatch
