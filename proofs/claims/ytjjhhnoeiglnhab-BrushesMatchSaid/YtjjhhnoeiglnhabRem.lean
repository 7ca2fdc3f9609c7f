/- Contracts: remade, whatever function of a value and its place it is given. -/
import Derived.Test.YtjjhhnoeiglnhabGen
import Derived.Test.YtjjhhnoeiglnhabPlace
namespace Go.Proofs.Ytjjhhnoeiglnhab
open Go.RowKit Fl
set_option linter.unusedVariables false

theorem enters_remade1 : Enters 178 := by intro args W; simp [callFunc, Try.func178, Try.f178]

/-- A function of a value and its place, as a closure: over the cells of a field with the values v it answers f. -/
def Clos3 (g : Nat) (caps : Array Value) (X Y W H : Int) (v f : Nat → Nat) (w : World) : Prop :=
  ∀ (x y : Int) (i : Nat) (W' : World), X ≤ x → x < X + W → Y ≤ y → y < Y + H → (i : Int) = (y - Y) * W + (x - X) → Below w.heap.size w W' →
    Calls Try.prog g (#[.float .f32 (v i), .int .i64 x, .int .i64 y] ++ caps) W' fun e W'' => e = .returned (.float .f32 (f i)) ∧ Below W'.heap.size W' W''
theorem Clos3.stay {g : Nat} {caps : Array Value} {X Y W H : Int} {v f : Nat → Nat} {w w' : World} (h : Clos3 g caps X Y W H v f w) (hb : Below w.heap.size w w') : Clos3 g caps X Y W H v f w' :=
  fun x y i W' h1 h2 h3 h4 h5 hb' => h x y i W' h1 h2 h3 h4 h5 (hb.trans (hb'.mono hb.size))

/-- Such a function value in a box. -/
abbrev fn3Obj (g : Nat) (caps : Array Value) : Obj := .cells #[.func (.func g) #[] caps] 127

set_option maxHeartbeats 4000000 in
set_option maxRecDepth 100000 in
theorem remade1_any (X Y : Int) (W H n b cap : Nat) (v f : Nat → Nat) (g : Nat) (caps : Array Value) (p q : Nat) (w : World) (hcall : Enters g) (hcl : Clos3 g caps X Y W H v f w)
    (hp : w.heap[p]? = some (fldO X Y W H (.slice (some ⟨b, 0, none⟩) n cap))) (hq : w.heap[q]? = some (fn3Obj g caps)) (hc : FlAt w b 0 n v) (hn : n ≤ 65536)
    (hX1 : -16777216 ≤ X) (hX2 : X ≤ 16777216) (hY1 : -16777216 ≤ Y) (hY2 : Y ≤ 16777216) (hW1 : 1 ≤ W) (hW2 : W ≤ 512) (hH2 : H ≤ 512) (hnn : n = H * W) :
    Clos2 178 #[.pointer (some ⟨q, 0, none⟩), .pointer (some ⟨p, 0, none⟩)] X Y W H f w := by
  intro x y i w2 h1 h2 h3 h4 h5 hb
  have hi : i < n := num_lt hW1 h1 h2 h4 h5 hnn
  have CC := Lib.hid (fun W' (hB : Below w2.heap.size w2 W') => hcl x y i W' h1 h2 h3 h4 h5 (hb.trans (hB.mono hb.size)))
  have IX := Lib.hid (fun w => index_any X Y W H i x y w hX1 hX2 hY1 hY2 hW1 hW2 hH2 h1 h2 h3 h4 h5 (by omega))
  have P := blkStay hp hb
  have Q := blkStay hq hb
  have hcell : w2.cell? ⟨b, i, none⟩ = some (.float .f32 (v i)) := by
    have := flAt_congr hc (hb.block b (World.block_lt_of_cell? w _ (hc i hi))) i hi
    rwa [Nat.zero_add] at this
  have zb : b < w2.heap.size := World.block_lt_of_cell? w2 _ hcell
  have HC := Lib.hid hcell
  have HP := Lib.hid P
  have HQ := Lib.hid Q
  obtain ⟨cP, fP, zP⟩ := blkC P
  obtain ⟨cQ, fQ, zQ⟩ := blkC Q
  unfold Enters at hcall
  have hi2 : (i : Int) < (n : Int) := by omega
  have hi3 : (0 : Int) ≤ (i : Int) := by omega
  clear hp hq P Q hb h1 h2 h3 h4 h5 hX1 hX2 hY1 hY2 hW1 hW2 hH2 hnn hcl hc hi hn
  go_enter Try.func178, Try.ntmps178
  go_wp2
  go_region_held3 (fun w' => (∀ o, w'.cell? ⟨p, o, none⟩ = #[.int .i64 X, .int .i64 Y, .int .i64 W, .int .i64 H, .slice (some ⟨b, 0, none⟩) n cap][o]?) ∧ (∀ o, w'.cell? ⟨q, o, none⟩ = #[.func (.func g) #[] caps][o]?) ∧ w'.cell? ⟨b, i, none⟩ = some (.float .f32 (v i)) ∧ Below w2.heap.size w2 w') (first | exact ⟨(blkC (blkStay HP.out hb9)).1, (blkC (blkStay HQ.out hb9)).1, (Below.cell (p := ⟨b, i, none⟩) (w := w2) (B := w2.heap.size) hb9 zb).trans HC.out, hb9⟩ | exact ⟨(blkC (blkStay HP.out (by repeat (first | exact Below.refl _ _ | refine Below.alloc ?_ (by first | omega | (simp; done) | (simp; omega)) _ | refine Below.setCell ?_ (by first | omega | (simp; done) | (simp; omega)) _ | refine Below.drew ?_)))).1, (blkC (blkStay HQ.out (by repeat (first | exact Below.refl _ _ | refine Below.alloc ?_ (by first | omega | (simp; done) | (simp; omega)) _ | refine Below.setCell ?_ (by first | omega | (simp; done) | (simp; omega)) _ | refine Below.drew ?_)))).1, (Below.cell (p := ⟨b, i, none⟩) (w := w2) (B := w2.heap.size) (by repeat (first | exact Below.refl _ _ | refine Below.alloc ?_ (by first | omega | (simp; done) | (simp; omega)) _ | refine Below.setCell ?_ (by first | omega | (simp; done) | (simp; omega)) _ | refine Below.drew ?_)) zb).trans HC.out, (by repeat (first | exact Below.refl _ _ | refine Below.alloc ?_ (by first | omega | (simp; done) | (simp; omega)) _ | refine Below.setCell ?_ (by first | omega | (simp; done) | (simp; omega)) _ | refine Below.drew ?_))⟩) (first | (go_at_call 170; (with_reducible refine Calls.mono (IX.out _) ?_); rintro e w' ⟨rfl, rfl⟩) | (go_simp; (with_reducible refine Calls.mono (CC.out _ ?_) ?_); exact (by repeat (first | exact Below.refl _ _ | refine Below.alloc ?_ (by first | omega | (simp; done) | (simp; omega)) _ | refine Below.setCell ?_ (by first | omega | (simp; done) | (simp; omega)) _ | refine Below.drew ?_)); rintro e w' ⟨rfl, hb8⟩; have hb9 : Below w2.heap.size w2 w' := Below.trans (by repeat (first | exact Below.refl _ _ | refine Below.alloc ?_ (by first | omega | (simp; done) | (simp; omega)) _ | refine Below.setCell ?_ (by first | omega | (simp; done) | (simp; omega)) _ | refine Below.drew ?_)) (Below.mono hb8 (by first | exact Nat.le_refl _ | (simp; done) | (simp; omega))); clear hb8))
  rename_i hHeld
  go_wp2
  go_ret
  exact ⟨rfl, hHeld.2.2.2⟩

set_option maxHeartbeats 2000000 in
theorem remade_any (X Y : Int) (W H n b cap : Nat) (v f : Nat → Nat) (g : Nat) (caps : Array Value) (w : World) (hcall : Enters g) (hcl : Clos3 g caps X Y W H v f w) (h0 : checkR X Y W H = 0) (hnn : n = H * W) (hc : FlAt w b 0 n v) :
    Calls Try.prog 109 #[fldV X Y W H (.slice (some ⟨b, 0, none⟩) n cap), .func (.func g) #[] caps] w (MadePost w X Y W H n f) := by
  obtain ⟨b1, b2, b3, b4, b5, b6, b7, b8, b9⟩ := checkR_zero h0
  have hn2 : n ≤ 65536 := by
    have : ((W : Int) * (H : Int)) = (n : Int) := by rw [hnn, Nat.mul_comm]; simp
    omega
  have n1 : 1 ≤ n := by rw [hnn]; exact Nat.mul_pos (by omega) (by omega)
  have hlt : b < w.heap.size := World.block_lt_of_cell? w _ (hc 0 n1)
  have hB : Below w.heap.size w (((w.alloc (fldO X Y W H (.slice (some ⟨b, 0, none⟩) n cap))).alloc (fn3Obj g caps)).alloc (fldO 0 0 0 0 (.slice none 0 0))) := (by repeat (first | exact Below.refl _ _ | refine Below.alloc ?_ (by first | omega | (simp; done) | (simp; omega)) _ | refine Below.setCell ?_ (by first | omega | (simp; done) | (simp; omega)) _ | refine Below.drew ?_))
  have MK := Lib.hid (make_ok X Y W H n 178 #[.pointer (some ⟨w.heap.size + 1, 0, none⟩), .pointer (some ⟨w.heap.size, 0, none⟩)] f (((w.alloc (fldO X Y W H (.slice (some ⟨b, 0, none⟩) n cap))).alloc (fn3Obj g caps)).alloc (fldO 0 0 0 0 (.slice none 0 0))) enters_remade1
    (remade1_any X Y W H n b cap v f g caps w.heap.size (w.heap.size + 1) _ hcall (hcl.stay hB) (by ((simp only [heap_alloc_get, heap_size_alloc, if_true]) <;> ((repeat' split) <;> first | rfl | omega))) (by ((simp only [heap_alloc_get, heap_size_alloc, if_true]) <;> ((repeat' split) <;> first | rfl | omega))) (flAt_congr hc (hB.block b hlt)) hn2 (by omega) (by omega) (by omega) (by omega) (by omega) (by omega) (by omega) hnn) h0 hnn)
  clear hcl hcall hc h0 b1 b2 b3 b4 b5 b6 b7 b8 b9 hnn hn2 n1 hlt hB
  go_enter Try.func109, Try.ntmps109
  go_wp2_with fail
  refine MK.out.mono ?_
  intro e w4 hmade
  rcases hmade with ⟨hall, b', cap', rfl, hb', hlt', hrow, hbel⟩ | ⟨hall, rfl, hbel⟩
  · have hS := Lib.hid (blkStay (b := w.heap.size + 1 + 1) (o := fldO 0 0 0 0 (.slice none 0 0)) (by ((simp only [heap_alloc_get, heap_size_alloc, if_true]) <;> ((repeat' split) <;> first | rfl | omega))) hbel)
    have hB : Below w.heap.size w w4 := Below.trans (by repeat (first | exact Below.refl _ _ | refine Below.alloc ?_ (by first | omega | (simp; done) | (simp; omega)) _ | refine Below.setCell ?_ (by first | omega | (simp; done) | (simp; omega)) _ | refine Below.drew ?_)) (Below.mono hbel (by simp; omega))
    obtain ⟨cS, fS, zS⟩ := blkC hS.out
    have HB := Lib.hid hb'
    clear hb'
    go_wp2
    refine bodyPost_ret (v := .tuple #[fldV X Y W H (.slice (some ⟨b', 0, none⟩) n cap'), .int .i64 0]) (by simp [results, Try.results109, go_sem, cS]) rfl ?_
    have hb' := HB.out
    simp only [heap_size_alloc] at hb'
    exact .inl ⟨hall, b', cap', rfl, by omega, by rw [set5_size]; exact hlt', flAt_congr hrow (set5_heap w4 _ _ _ _ _ _ _ (by omega)), set5_below hB _ _ _ _ _ _ (by omega)⟩
  · have hS := Lib.hid (blkStay (b := w.heap.size + 1 + 1) (o := fldO 0 0 0 0 (.slice none 0 0)) (by ((simp only [heap_alloc_get, heap_size_alloc, if_true]) <;> ((repeat' split) <;> first | rfl | omega))) hbel)
    have hB : Below w.heap.size w w4 := Below.trans (by repeat (first | exact Below.refl _ _ | refine Below.alloc ?_ (by first | omega | (simp; done) | (simp; omega)) _ | refine Below.setCell ?_ (by first | omega | (simp; done) | (simp; omega)) _ | refine Below.drew ?_)) (Below.mono hbel (by simp; omega))
    obtain ⟨cS, fS, zS⟩ := blkC hS.out
    go_wp2
    refine bodyPost_ret (v := .tuple #[fldV 0 0 0 0 (.slice none 0 0), .int .i64 3]) (by simp [results, Try.results109, go_sem, cS]) rfl ?_
    exact .inr ⟨hall, rfl, set5_below hB _ _ _ _ _ _ (by omega)⟩
end Go.Proofs.Ytjjhhnoeiglnhab
