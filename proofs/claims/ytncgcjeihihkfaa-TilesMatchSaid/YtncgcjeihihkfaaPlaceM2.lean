/- Contract: byPlace, whatever function it is given, with a state of its own. -/
import Derived.Test.YtncgcjeihihkfaaPlaceM
namespace Go.Proofs.Ytncgcjeihihkfaa
open Go.RowKit Fl
set_option linter.unusedVariables false

set_option maxHeartbeats 2000000 in
theorem byPlaceM_any (M : Nat → Prop) (Inv : Nat → World → Prop) (X Y : Int) (W H n : Nat) (g : Nat) (caps : Array Value) (f : Nat → Nat) (w : World) (hst : State M Inv w) (h0 : Inv 0 w) (hcall : Enters g) (hcl : Clos2M M Inv g caps X Y W H f w)
    (hX1 : -16777216 ≤ X) (hX2 : X ≤ 16777216) (hY1 : -16777216 ≤ Y) (hY2 : Y ≤ 16777216) (hW1 : 1 ≤ W) (hW2 : W ≤ 512) (hH1 : 1 ≤ H) (hH2 : H ≤ 512) (hn : n = H * W) (hn2 : n ≤ 65536) :
    Calls Try.prog 155 #[reg X Y W H, .func (.func g) #[] caps] w (MadePostM M Inv w X Y W H n f) := by
  have en : (n : Int) = (W : Int) * (H : Int) := by rw [hn, Nat.mul_comm]; simp
  have n1 : 1 ≤ n := by rw [hn]; exact Nat.mul_pos hH1 hW1
  have hBl : Below w.heap.size w (((w.alloc (regObj X Y W H)).alloc (fnObj g caps)).alloc (fldO 0 0 0 0 (.slice none 0 0))) := (by repeat (first | exact Below.refl _ _ | refine Below.alloc ?_ (by first | omega | (simp; done) | (simp; omega)) _ | refine Below.setCell ?_ (by first | omega | (simp; done) | (simp; omega)) _ | refine Below.drew ?_))
  have hst' : State M Inv (((w.alloc (regObj X Y W H)).alloc (fnObj g caps)).alloc (fldO 0 0 0 0 (.slice none 0 0))) := ⟨fun k hk => Nat.lt_of_lt_of_le (hst.old k hk) hBl.size, hst.hang⟩
  have h0' : Inv 0 (((w.alloc (regObj X Y W H)).alloc (fnObj g caps)).alloc (fldO 0 0 0 0 (.slice none 0 0))) := hst.hang 0 w _ h0 (fun k hk => hBl.block k (hst.old k hk))
  have ST := Lib.hid hst
  have BC := Lib.hid (byCellM_any M Inv X Y W H n 182 #[.pointer (some ⟨w.heap.size + 1, 0, none⟩), .pointer (some ⟨w.heap.size, 0, none⟩)] f _ hst' h0' enters_place1
    (place1M_any M Inv X Y W H n g caps f (w.heap.size + 1) w.heap.size _ hst' hcall (fun x y i W' h1 h2 h3 h4 h5 hb hi => hcl x y i W' h1 h2 h3 h4 h5 ((Below.toM hBl).trans (hb.mono hBl.size)) hi) (by ((simp only [heap_alloc_get, heap_size_alloc, if_true]) <;> ((repeat' split) <;> first | rfl | omega))) (by ((simp only [heap_alloc_get, heap_size_alloc, if_true]) <;> ((repeat' split) <;> first | rfl | omega))) (fun hm => by have := hst.old _ hm; omega) (fun hm => by have := hst.old _ hm; omega) hX1 hX2 hY1 hY2 hW1 hW2 hH2 hn) en n1 hn2)
  have HBL := Lib.hid hBl
  clear hcl hcall hn en hst hst' h0 h0' hBl
  go_enter Try.func155, Try.ntmps155
  go_wp2_with fail
  refine BC.out.mono ?_
  intro e w4 hmade
  obtain ⟨hinv, hbel, hmade⟩ := hmade
  have hS := Lib.hid (blkStayM (b := w.heap.size + 1 + 1) (o := fldO 0 0 0 0 (.slice none 0 0)) (by ((simp only [heap_alloc_get, heap_size_alloc, if_true]) <;> ((repeat' split) <;> first | rfl | omega))) hbel (fun hm => by have := ST.out.old _ hm; omega))
  have HB := Lib.hid ((Below.toM HBL.out).trans (hbel.mono HBL.out.size))
  have HI5 := Lib.hid (fun u1 u2 u3 u4 u5 => ST.out.hang n w4 (set5 w4 (w.heap.size + 1 + 1) u1 u2 u3 u4 u5) hinv (fun q hq => set5_heap w4 (w.heap.size + 1 + 1) q u1 u2 u3 u4 u5 (by have := ST.out.old q hq; omega)))
  clear hinv hbel
  obtain ⟨cS, fS, zS⟩ := blkC hS.out
  rcases hmade with ⟨hall, b', cap', rfl, hb', hlt', hrow⟩ | ⟨hall, rfl⟩
  · have HB' := Lib.hid (show w.heap.size + 3 ≤ b' by simp only [heap_size_alloc] at hb'; omega)
    clear hb'
    go_wp2
    refine bodyPost_ret (v := .tuple #[fldV X Y W H (.slice (some ⟨b', 0, none⟩) n cap'), .int .i64 0]) (by simp [results, Try.results155, go_sem, cS]) rfl ?_
    have hb' := HB'.out
    exact ⟨HI5.out _ _ _ _ _, set5_belowM HB.out _ _ _ _ _ _ (by omega), .inl ⟨hall, b', cap', rfl, by omega, by rw [set5_size]; exact hlt', flAt_congr hrow (set5_heap w4 _ _ _ _ _ _ _ (by omega))⟩⟩
  · go_wp2
    refine bodyPost_ret (v := .tuple #[fldV 0 0 0 0 (.slice none 0 0), .int .i64 3]) (by simp [results, Try.results155, go_sem, cS]) rfl ?_
    exact ⟨HI5.out _ _ _ _ _, set5_belowM HB.out _ _ _ _ _ _ (by omega), .inr ⟨hall, rfl⟩⟩
end Go.Proofs.Ytncgcjeihihkfaa
