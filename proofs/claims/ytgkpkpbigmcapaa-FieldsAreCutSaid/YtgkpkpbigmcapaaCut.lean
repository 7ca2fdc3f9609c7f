/- The closures of Fill and Cut, on both sides. -/
import Derived.Test.YtgkpkpbigmcapaaDth
import Derived.Test.YtgkpkpbigmcapaaGen
namespace Go.Proofs.Ytgkpkpbigmcapaa
open Go.RowKit Fl
set_option linter.unusedVariables false

theorem enters_Fill1 : Enters 59 := by intro args W; simp [callFunc, Try.func59, Try.f59]
theorem enters_Cut1 : Enters 67 := by intro args W; simp [callFunc, Try.func67, Try.f67]
theorem enters_rCut1 : Enters 71 := by intro args W; simp [callFunc, Try.func71, Try.f71]

/-- The number that the cell number i of a region over X' Y' W' has in one over X Y W. -/
def subN (X Y : Int) (W : Nat) (X' Y' : Int) (W' i : Nat) : Nat := ((Y' + ((i / W' : Nat) : Int) - Y) * W + (X' + ((i % W' : Nat) : Int) - X)).toNat
def cutF (v : Nat → Nat) (X Y : Int) (W : Nat) (X' Y' : Int) (W' i : Nat) : Nat := v (subN X Y W X' Y' W' i)
theorem subN_of {X Y : Int} {W : Nat} {X' Y' x y : Int} {W' i : Nat} (ex : X' + ((i % W' : Nat) : Int) = x) (ey : Y' + ((i / W' : Nat) : Int) = y) (hx : X ≤ x) (hy : Y ≤ y) : (subN X Y W X' Y' W' i : Int) = (y - Y) * W + (x - X) := by
  unfold subN
  rw [ex, ey]
  have : 0 ≤ (y - Y) * W := Int.mul_nonneg (by omega) (by omega)
  omega

set_option maxHeartbeats 1000000 in
theorem fill1_any (n p h : Nat) (w : World) (hk : w.heap[p]? = some (flObj h)) : Clos1 59 #[.pointer (some ⟨p, 0, none⟩)] n (fun _ => h) w := by
  intro i w2 hi hb
  obtain ⟨cP, fP, zP⟩ := blkC (blkStay hk hb)
  clear hk hb
  go_enter Try.func59, Try.ntmps59
  go_wp2
  go_ret
  exact ⟨rfl, (by repeat (first | exact Below.refl _ _ | refine Below.alloc ?_ (by first | omega | (simp; done) | (simp; omega)) _ | refine Below.setCell ?_ (by first | omega | (simp; done) | (simp; omega)) _ | refine Below.drew ?_))⟩

set_option maxHeartbeats 4000000 in
set_option maxRecDepth 100000 in
theorem cut1_any (X Y : Int) (W H n b cap : Nat) (v : Nat → Nat) (p : Nat) (X' Y' : Int) (W' H' : Nat) (w : World) (hk : w.heap[p]? = some (fldO X Y W H (.slice (some ⟨b, 0, none⟩) n cap))) (hr : FlAt w b 0 n v) (h1n : 1 ≤ n) (hn : n ≤ 65536)
    (hX1 : -16777216 ≤ X) (hX2 : X ≤ 16777216) (hY1 : -16777216 ≤ Y) (hY2 : Y ≤ 16777216) (hW1 : 1 ≤ W) (hW2 : W ≤ 512) (hH2 : H ≤ 512) (hnn : n = H * W) (hW' : 1 ≤ W')
    (i1 : X ≤ X') (i2 : Y ≤ Y') (i3 : X' + W' ≤ X + W) (i4 : Y' + H' ≤ Y + H) :
    Clos2 67 #[.pointer (some ⟨p, 0, none⟩)] X' Y' W' H' (cutF v X Y W X' Y' W') w := by
  intro x y i w2 h1 h2 h3 h4 h5 hb
  obtain ⟨ex, ey⟩ := place_of hW' h1 h2 h3 h5
  have hj := subN_of (X := X) (Y := Y) (W := W) ex ey (by omega) (by omega)
  show Calls _ _ _ _ fun e w' => e = .returned (.float .f32 (v (subN X Y W X' Y' W' i))) ∧ _
  generalize subN X Y W X' Y' W' i = j at hj ⊢
  have hi : j < n := num_lt hW1 (by omega) (by omega) (by omega) hj hnn
  have hz : b < w.heap.size := World.block_lt_of_cell? w _ (hr 0 h1n)
  have hcell := flAt_congr hr (hb.block _ hz) j hi
  rw [Nat.zero_add] at hcell
  have zb : b < w2.heap.size := World.block_lt_of_cell? w2 _ hcell
  have K := blkStay hk hb
  have IX := Lib.hid (fun w => index_any X Y W H j x y w hX1 hX2 hY1 hY2 hW1 hW2 hH2 (by omega) (by omega) (by omega) (by omega) hj (by omega))
  have HC := Lib.hid hcell
  have GF := Lib.hid K
  obtain ⟨cF, fF, zF⟩ := blkC K
  have hi2 : (j : Int) < (n : Int) := by omega
  have hi3 : (0 : Int) ≤ (j : Int) := by omega
  clear hk hr hb h1 h2 h3 h4 h5 hX1 hX2 hY1 hY2 hW1 hW2 hH2 hnn K ex ey hi hn hj i1 i2 i3 i4 hz
  go_enter Try.func67, Try.ntmps67
  go_wp2
  go_region_held3 (fun w' => (∀ o, w'.cell? ⟨p, o, none⟩ = #[.int .i64 X, .int .i64 Y, .int .i64 W, .int .i64 H, .slice (some ⟨b, 0, none⟩) n cap][o]?) ∧ w'.cell? ⟨b, j, none⟩ = some (.float .f32 (v j)) ∧ Below w2.heap.size w2 w') (first | exact ⟨(blkC (blkStay GF.out (by repeat (first | exact Below.refl _ _ | refine Below.alloc ?_ (by first | omega | (simp; done) | (simp; omega)) _ | refine Below.setCell ?_ (by first | omega | (simp; done) | (simp; omega)) _ | refine Below.drew ?_)))).1, (Below.cell (p := ⟨b, j, none⟩) (w := w2) (B := w2.heap.size) (by repeat (first | exact Below.refl _ _ | refine Below.alloc ?_ (by first | omega | (simp; done) | (simp; omega)) _ | refine Below.setCell ?_ (by first | omega | (simp; done) | (simp; omega)) _ | refine Below.drew ?_)) zb).trans HC.out, (by repeat (first | exact Below.refl _ _ | refine Below.alloc ?_ (by first | omega | (simp; done) | (simp; omega)) _ | refine Below.setCell ?_ (by first | omega | (simp; done) | (simp; omega)) _ | refine Below.drew ?_))⟩) (first | (go_at_call 68; (with_reducible refine Calls.mono (IX.out _) ?_); rintro e w' ⟨rfl, rfl⟩))
  rename_i hHeld
  go_wp2
  go_ret
  exact ⟨rfl, hHeld.2.2⟩

set_option maxHeartbeats 4000000 in
set_option maxRecDepth 100000 in
theorem rcut1_any (X Y : Int) (W H n b cap : Nat) (v : Nat → Nat) (p : Nat) (X' Y' : Int) (W' H' : Nat) (w : World) (hk : w.heap[p]? = some (fldO X Y W H (.slice (some ⟨b, 0, none⟩) n cap))) (hr : FlAt w b 0 n v) (h1n : 1 ≤ n) (hn : n ≤ 65536)
    (hX1 : -16777216 ≤ X) (hX2 : X ≤ 16777216) (hY1 : -16777216 ≤ Y) (hY2 : Y ≤ 16777216) (hW1 : 1 ≤ W) (hW2 : W ≤ 512) (hH2 : H ≤ 512) (hnn : n = H * W) (hW' : 1 ≤ W')
    (i1 : X ≤ X') (i2 : Y ≤ Y') (i3 : X' + W' ≤ X + W) (i4 : Y' + H' ≤ Y + H) :
    Clos2 71 #[.pointer (some ⟨p, 0, none⟩)] X' Y' W' H' (cutF v X Y W X' Y' W') w := by
  intro x y i w2 h1 h2 h3 h4 h5 hb
  obtain ⟨ex, ey⟩ := place_of hW' h1 h2 h3 h5
  have hj := subN_of (X := X) (Y := Y) (W := W) ex ey (by omega) (by omega)
  show Calls _ _ _ _ fun e w' => e = .returned (.float .f32 (v (subN X Y W X' Y' W' i))) ∧ _
  generalize subN X Y W X' Y' W' i = j at hj ⊢
  have hi : j < n := num_lt hW1 (by omega) (by omega) (by omega) hj hnn
  have hz : b < w.heap.size := World.block_lt_of_cell? w _ (hr 0 h1n)
  have hr2 := flAt_congr hr (hb.block _ hz)
  have zb : b < w2.heap.size := World.block_lt_of_cell? w2 _ (hr2 0 h1n)
  have K := blkStay hk hb
  have AT := Lib.hid (fun W'' (hb : Below w2.heap.size w2 W'') => refAt_any X Y W H n b cap j v x y W'' hX1 hX2 hY1 hY2 hW1 hW2 hH2 (by omega) (by omega) (by omega) (by omega) hj hi hn (flAt_congr hr2 (hb.block _ zb)))
  obtain ⟨cF, fF, zF⟩ := blkC K
  clear hk hr hr2 hb h1 h2 h3 h4 h5 hX1 hX2 hY1 hY2 hW1 hW2 hH2 hnn K ex ey hi hn hj i1 i2 i3 i4 hz
  go_enter Try.func71, Try.ntmps71
  go_wp2_with (first | (go_at_call 57; (with_reducible refine Calls.mono (AT.out _ ?_) ?_); exact (by repeat (first | exact Below.refl _ _ | refine Below.alloc ?_ (by first | omega | (simp; done) | (simp; omega)) _ | refine Below.setCell ?_ (by first | omega | (simp; done) | (simp; omega)) _ | refine Below.drew ?_)); rintro e w' ⟨rfl, rfl⟩))
  go_ret
  exact ⟨rfl, (by repeat (first | exact Below.refl _ _ | refine Below.alloc ?_ (by first | omega | (simp; done) | (simp; omega)) _ | refine Below.setCell ?_ (by first | omega | (simp; done) | (simp; omega)) _ | refine Below.drew ?_))⟩
end Go.Proofs.Ytgkpkpbigmcapaa
