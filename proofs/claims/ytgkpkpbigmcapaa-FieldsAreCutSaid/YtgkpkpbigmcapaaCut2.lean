/- Fill and Cut of the program, Cut of the reference. -/
import Derived.Test.YtgkpkpbigmcapaaCut
namespace Go.Proofs.Ytgkpkpbigmcapaa
open Go.RowKit Fl
set_option linter.unusedVariables false

/-- The error of Fill. -/
def filE (X Y W H : Int) (h : Nat) : Int := if checkR X Y W H = 0 then fldE 1 (fun _ => h) else checkR X Y W H

theorem le_one63 : 1 ≤ 9223372036854775807 := by decide
theorem flAt_one1 {w : World} {b h : Nat} (hb : w.heap[b]? = some (flObj h)) : FlAt w b 0 1 (fun _ => h) := by
  intro i hi
  obtain rfl : i = 0 := by omega
  rw [(blkC hb).1]; rfl

set_option maxHeartbeats 2000000 in
set_option maxRecDepth 100000 in
theorem fill_bad (X Y W H : Int) (h : Nat) (w : World) (hz : filE X Y W H h ≠ 0) :
    Calls Try.prog 14 #[reg X Y W H, .float .f32 h] w fun e w' => e = .returned (.tuple #[fldV 0 0 0 0 (.slice none 0 0), .int .i64 (filE X Y W H h)]) ∧ Below w.heap.size w w' := by
  have RC := Lib.hid (fun w => checkRegion_any X Y W H w)
  by_cases h0 : checkR X Y W H = 0
  · have e : filE X Y W H h = fldE 1 (fun _ => h) := by unfold filE; rw [if_pos h0]
    rw [e] at hz ⊢
    have CS := Lib.hid (fun bb W' (hb : W'.heap[bb]? = some (flObj h)) => CheckHeights_row bb 0 1 1 (fun _ => h) le_one63 W' (flAt_one1 hb))
    rw [h0] at RC
    have hzb : (fldE 1 (fun _ => h) != 0) = true := by simp [hz]
    generalize fldE 1 (fun _ => h) = er at *
    clear h0 e
    go_enter Try.func14, Try.ntmps14
    go_wp2_with (first | (go_at_call 47; refine (RC.out _).mono ?_; rintro e w' ⟨rfl, rfl⟩) | (go_at_call 58; refine (CS.out _ _ (by ((simp only [heap_alloc_get, heap_size_alloc, if_true]) <;> ((repeat' split) <;> first | rfl | omega)))).mono ?_; rintro e w3 ⟨rfl, rfl⟩))
    refine bodyPost_ret (v := .tuple #[fldV 0 0 0 0 (.slice none 0 0), .int .i64 er]) (by simp [results, Try.results14, go_sem]) rfl ?_
    exact ⟨rfl, (by repeat (first | exact Below.refl _ _ | refine Below.alloc ?_ (by first | omega | (simp; done) | (simp; omega)) _ | refine Below.setCell ?_ (by first | omega | (simp; done) | (simp; omega)) _ | refine Below.drew ?_))⟩
  · have e : filE X Y W H h = checkR X Y W H := by unfold filE; rw [if_neg h0]
    rw [e] at hz ⊢
    generalize checkR X Y W H = er at *
    have hzb : (er != 0) = true := by simp [hz]
    clear e
    go_enter Try.func14, Try.ntmps14
    go_wp2_with (first | (go_at_call 47; refine (RC.out _).mono ?_; rintro e w' ⟨rfl, rfl⟩))
    refine bodyPost_ret (v := .tuple #[fldV 0 0 0 0 (.slice none 0 0), .int .i64 er]) (by simp [results, Try.results14, go_sem]) rfl ?_
    exact ⟨rfl, (by repeat (first | exact Below.refl _ _ | refine Below.alloc ?_ (by first | omega | (simp; done) | (simp; omega)) _ | refine Below.setCell ?_ (by first | omega | (simp; done) | (simp; omega)) _ | refine Below.drew ?_))⟩

set_option maxHeartbeats 2000000 in
set_option maxRecDepth 100000 in
theorem fill_ok (X Y : Int) (W H n : Nat) (h : Nat) (w : World) (h0 : checkR X Y W H = 0) (hn : n = W * H) (hh : fldE 1 (fun _ => h) = 0) :
    Calls Try.prog 14 #[reg X Y W H, .float .f32 h] w (MadePost w X Y W H n (fun _ => h)) := by
  obtain ⟨b1, b2, b3, b4, b5, _⟩ := checkR_zero h0
  have en : ((W : Int) * (H : Int)) = (n : Int) := by rw [hn]; simp
  have hn2 : n ≤ 65536 := by omega
  have h1 : 1 ≤ n := by
    have := Nat.mul_pos (by omega : 0 < W) (by omega : 0 < H)
    omega
  have RC := Lib.hid (fun w => checkRegion_any X Y W H w)
  have CS := Lib.hid (fun bb W' (hb : W'.heap[bb]? = some (flObj h)) => CheckHeights_row bb 0 1 1 (fun _ => h) le_one63 W' (flAt_one1 hb))
  rw [hh] at CS
  rw [h0] at RC
  have BY := Lib.hid (fun W' p (hk : W'.heap[p]? = some (flObj h)) => byCell_any X Y W H n 59 _ (fun _ => h) W' enters_Fill1 (fill1_any n p h W' hk) en.symm h1 hn2)
  clear hh h0 hn b1 b2 b3 b4 b5 en hn2 h1
  go_enter Try.func14, Try.ntmps14
  go_wp2_with (first | (go_at_call 47; refine (RC.out _).mono ?_; rintro e w' ⟨rfl, rfl⟩) | (go_at_call 58; refine (CS.out _ _ (by ((simp only [heap_alloc_get, heap_size_alloc, if_true]) <;> ((repeat' split) <;> first | rfl | omega)))).mono ?_; rintro e w3 ⟨rfl, rfl⟩))
  refine (BY.out _ (w.heap.size + 1) (by ((simp only [heap_alloc_get, heap_size_alloc, if_true]) <;> ((repeat' split) <;> first | rfl | omega)))).mono ?_
  intro e w4 hmade
  rcases hmade with ⟨hall, b', cap', rfl, hb', hlt', hrow, hbel⟩ | ⟨hall, rfl, hbel⟩
  · have hS := Lib.hid (blkStay (b := w.heap.size + 1 + 1) (o := fldO 0 0 0 0 (.slice none 0 0)) (by ((simp only [heap_alloc_get, heap_size_alloc, if_true]) <;> ((repeat' split) <;> first | rfl | omega))) hbel)
    have hB : Below w.heap.size w w4 := Below.trans (by repeat (first | exact Below.refl _ _ | refine Below.alloc ?_ (by first | omega | (simp; done) | (simp; omega)) _ | refine Below.setCell ?_ (by first | omega | (simp; done) | (simp; omega)) _ | refine Below.drew ?_)) (Below.mono hbel (by simp; try omega))
    obtain ⟨cS, fS, zS⟩ := blkC hS.out
    have HB := Lib.hid hb'
    clear hb'
    go_wp2
    refine bodyPost_ret (v := .tuple #[fldV X Y W H (.slice (some ⟨b', 0, none⟩) n cap'), .int .i64 0]) (by simp [results, Try.results14, go_sem, cS]) rfl ?_
    have hb' := HB.out
    simp only [heap_size_alloc] at hb'
    exact .inl ⟨hall, b', cap', rfl, by omega, by rw [set5_size]; exact hlt', flAt_congr hrow (set5_heap w4 _ _ _ _ _ _ _ (by omega)), set5_below hB _ _ _ _ _ _ (by omega)⟩
  · have hS := Lib.hid (blkStay (b := w.heap.size + 1 + 1) (o := fldO 0 0 0 0 (.slice none 0 0)) (by ((simp only [heap_alloc_get, heap_size_alloc, if_true]) <;> ((repeat' split) <;> first | rfl | omega))) hbel)
    have hB : Below w.heap.size w w4 := Below.trans (by repeat (first | exact Below.refl _ _ | refine Below.alloc ?_ (by first | omega | (simp; done) | (simp; omega)) _ | refine Below.setCell ?_ (by first | omega | (simp; done) | (simp; omega)) _ | refine Below.drew ?_)) (Below.mono hbel (by simp; try omega))
    obtain ⟨cS, fS, zS⟩ := blkC hS.out
    go_wp2
    refine bodyPost_ret (v := .tuple #[fldV 0 0 0 0 (.slice none 0 0), .int .i64 3]) (by simp [results, Try.results14, go_sem, cS]) rfl ?_
    exact .inr ⟨hall, rfl, set5_below hB _ _ _ _ _ _ (by omega)⟩
end Go.Proofs.Ytgkpkpbigmcapaa
