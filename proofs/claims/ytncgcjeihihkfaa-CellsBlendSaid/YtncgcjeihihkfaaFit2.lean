/- Contract: fit of a field without singles. -/
import Derived.Test.YtncgcjeihihkfaaFit
namespace Go.Proofs.Ytncgcjeihihkfaa
open Go.RowKit Fl

set_option maxHeartbeats 2000000 in
theorem fit_none (X Y W H : Int) (a : Option Addr) (cap : Nat) (w : World) :
    Calls Try.prog 15 #[fldV X Y W H (.slice a 0 cap)] w (FitPost w) := by
  obtain ⟨p, hp, eW⟩ := and15 W
  obtain ⟨q, hq, eH⟩ := and15 H
  obtain ⟨n, hn⟩ : ∃ n : Nat, n = (1 + p) * (1 + q) := ⟨_, rfl⟩
  have hn2 : n ≤ 256 := by rw [hn]; exact Nat.le_trans (Nat.mul_le_mul (by omega : 1 + p ≤ 16) (by omega : 1 + q ≤ 16)) (by omega)
  have hn1 : 1 ≤ n := by rw [hn]; exact Nat.mul_pos (by omega) (by omega)
  have en : wrap64 ((1 + (p : Int)) * (1 + (q : Int))) = (n : Int) := by
    have : ((1 + (p : Int)) * (1 + (q : Int))) = (n : Int) := by rw [hn]; simp
    rw [this]; exact IntWalk.wrap64_in _ ⟨by omega, by omega⟩
  have HN := Lib.hid hn
  clear hn
  have e1 : (if X < -5000 then -5000 else X) = cl1 X := rfl
  have e2 : (if Y < -5000 then -5000 else Y) = cl1 Y := rfl
  have e3 : (if 5000 < cl1 X then 5000 else cl1 X) = clampI X := rfl
  have e4 : (if 5000 < cl1 Y then 5000 else cl1 Y) = clampI Y := rfl
  have hmk := make_f32 n (by omega)
  have hsf := fun (w : World) (a : Addr) (m : Mode) (k : FloatKind) (b : Nat) => run_store_float (P := Try.prog) (w := w) (a := a) (m := m) k b
  go_enter Try.func15, Try.ntmps15
  go_wp2
  clear en e1 e2 e3 e4 eW eH hmk
  go_loopw [43] (fun i wr => ∃ k : Nat, k ≤ n ∧ i = .int .i64 k ∧ FitRow wr (w.heap.size + 1 + 1) n k ∧ wr.heap[w.heap.size]? = some (fldO (clampI X) (clampI Y) (1 + p) (1 + q) (.slice a 0 cap)) ∧ wr.heap[w.heap.size + 1]? = some (fldO 0 0 0 0 (.slice none 0 0)) ∧ Below w.heap.size w wr) (fun i _ => n - (intOf i).toNat)
  case atStart =>
    refine ⟨0, Nat.zero_le _, rfl, ⟨madeCells #[Value.float .f32 0] n, ?_, size_madeCells _ _, fun j hj => ⟨0, made_f32 n j hj, by omega, fun c => by omega⟩⟩, ?_, ?_, (by repeat (first | exact Below.refl _ _ | refine Below.alloc ?_ (by first | omega | (simp; done) | (simp; omega)) _ | refine Below.setCell ?_ (by first | omega | (simp; done) | (simp; omega)) _ | refine Below.drew ?_))⟩
    · simp only [heap_alloc_get, heap_size_alloc]; simp <;> omega
    · simp only [heap_alloc_get, heap_size_alloc]; simp <;> omega
    · simp only [heap_alloc_get, heap_size_alloc]; simp <;> omega
  case round =>
    obtain ⟨k, hk, rfl, hrow, hbox, hres, hbel⟩ := hrel
    have HR := Lib.hid hrow
    have HB := Lib.hid hbox
    have HS := Lib.hid hres
    obtain ⟨cB, fB, zB⟩ := blkC hbox
    clear hrow hbox hres
    by_cases hlt : k < n
    · obtain ⟨x, C2, hx, _⟩ := fit_cell HR.out k hlt
      have hfr : wr.frozen? ⟨w.heap.size + 1 + 1, k, none⟩ = false := by
        obtain ⟨cs, h1, _⟩ := HR.out
        exact (blkC h1).2.1 k
      have R2 := HR
      have B2 := HB
      have S2 := HS
      have L2 := hbel
      obtain ⟨w2, rfl⟩ : ∃ w2, w2 = wr := ⟨_, rfl⟩
      clear HR HB HS hbel hfr
      have HX := Lib.hid hx
      have z2 : w.heap.size + 1 + 1 < w2.heap.size := R2.out.lt
      have f2 := R2.out.free k
      cases hh : hgtB x with
      | true =>
        have HG := Lib.hid hh
        clear hh
        have HT := Lib.hid (fun w => refHeight_one x hx w)
        rw [fldE_one_ok HG.out] at HT
        clear hx
        go_wp2_with (go_at_call 60; refine (HT.out _).mono ?_; rintro e w' ⟨rfl, rfl⟩)
        go_roundw
        case rel =>
          exact ⟨k + 1, by omega, by go_num, (fit_up R2.out C2 HG.out).congr (heap_alloc_old _ _ (by omega)), (heap_alloc_old _ _ (by omega)).trans B2.out, (heap_alloc_old _ _ (by omega)).trans S2.out, L2.alloc (by omega) _⟩
        case measure => simp [intOf]; omega
      | false =>
        have HG := Lib.hid hh
        clear hh
        have HT := Lib.hid (fun w => refHeight_one x hx w)
        clear hx
        have hk256 : k ≤ 256 := by omega
        rcases fldE_one_no HG.out with e | e
        all_goals
          rw [e] at HT
          clear e
          go_wp2_with (go_at_call 60; refine (HT.out _).mono ?_; rintro e w' ⟨rfl, rfl⟩)
          go_roundw
          case rel =>
            have sz : ∀ u, (w2.setCell ⟨w.heap.size + 1 + 1, k, none⟩ u).heap.size = w2.heap.size := fun u => by simp
            exact ⟨k + 1, by omega, by go_num, (fit_keep R2.out hlt (floatOfInt_lt _) (floatOfInt_small k hk256)).congr (heap_alloc_old _ _ (by rw [sz]; omega)), (heap_alloc_old _ _ (by rw [sz]; omega)).trans ((Below.heap_setCell _ _ _ _ (show w.heap.size ≠ w.heap.size + 1 + 1 by omega)).trans B2.out), (heap_alloc_old _ _ (by rw [sz]; omega)).trans ((Below.heap_setCell _ _ _ _ (show w.heap.size + 1 ≠ w.heap.size + 1 + 1 by omega)).trans S2.out), (L2.setCell (p := ⟨w.heap.size + 1 + 1, k, none⟩) (show w.heap.size ≤ w.heap.size + 1 + 1 by omega) _).alloc (by rw [sz]; omega) _⟩
          case measure => simp [intOf]; omega
    · obtain ⟨cS, fS, zS⟩ := blkC HS.out
      go_wp2
      have hkn : k = n := by omega
      refine bodyPost_ret (v := fldV (clampI X) (clampI Y) (1 + p) (1 + q) (.slice (some ⟨w.heap.size + 1 + 1, 0, none⟩) n n)) (by simp [results, Try.results15, go_sem, cS]) rfl ?_
      obtain ⟨c1, c2⟩ := clampI_le X
      obtain ⟨c3, c4⟩ := clampI_le Y
      refine ⟨_, _, _, _, _, _, rfl, c1, c2, c3, c4, by omega, by omega, by omega, by omega, ?_, hn1, hn2, by omega, ?_, ?_⟩
      · rw [HN.out]; simp
      · subst hkn
        exact HR.out.congr (fit_six wr _ _ _ _ _ _ _)
      · exact (((((hbel.setCell (p := ⟨w.heap.size, 4, none⟩) (Nat.le_refl _) _).setCell (p := ⟨w.heap.size + 1, 0, none⟩) (Nat.le_succ _) _).setCell (p := ⟨w.heap.size + 1, 1, none⟩) (Nat.le_succ _) _).setCell (p := ⟨w.heap.size + 1, 2, none⟩) (Nat.le_succ _) _).setCell (p := ⟨w.heap.size + 1, 3, none⟩) (Nat.le_succ _) _).setCell (p := ⟨w.heap.size + 1, 4, none⟩) (Nat.le_succ _) _

end Go.Proofs.Ytncgcjeihihkfaa
