/- The closures of Dither, on both sides. -/
import Derived.Test.YtjjhhnoeiglnhaaDth
import Derived.Test.YtjjhhnoeiglnhaaGen
namespace Go.Proofs.Ytjjhhnoeiglnhaa
open Go.RowKit Fl
set_option linter.unusedVariables false

theorem enters_Dither1 : Enters 118 := by intro args W; simp [callFunc, Try.func118, Try.f118]
theorem enters_rDither1 : Enters 120 := by intro args W; simp [callFunc, Try.func120, Try.f120]

/-- A word of 32 bits in a box. -/
abbrev u32Obj (s : Int) : Obj := .cells #[.int .u32 s] 48

/-- What Dither makes of the cell number i. -/
def dthF (v : Nat → Nat) (st : Nat) (sd X Y : Int) (W : Nat) (i : Nat) : Nat := dthW (v i) st (hashI sd (X + ((i % W : Nat) : Int)) (Y + ((i / W : Nat) : Int)) 8)

/-- What the closures hold: the field, the seed, the step. -/
structure DCaps (w : World) (X Y : Int) (W H n b cap : Nat) (v : Nat → Nat) (p st : Nat) (sd : Int) : Prop where
  fld : w.heap[p]? = some (fldO X Y W H (.slice (some ⟨b, 0, none⟩) n cap))
  sed : w.heap[p + 1]? = some (u32Obj sd)
  stp : w.heap[p + 1 + 1]? = some (flObj st)
  row : FlAt w b 0 n v
theorem DCaps.stay {w w' : World} {X Y : Int} {W H n b cap : Nat} {v : Nat → Nat} {p st : Nat} {sd : Int} (h : DCaps w X Y W H n b cap v p st sd) (hn : 1 ≤ n) (hb : Below w.heap.size w w') : DCaps w' X Y W H n b cap v p st sd :=
  ⟨blkStay h.fld hb, blkStay h.sed hb, blkStay h.stp hb, flAt_congr h.row (hb.block _ (World.block_lt_of_cell? w _ (h.row 0 hn)))⟩

set_option maxHeartbeats 4000000 in
set_option maxRecDepth 100000 in
theorem dither1_any (X Y : Int) (W H n b cap : Nat) (v : Nat → Nat) (p st : Nat) (sd : Int) (w : World) (hk : DCaps w X Y W H n b cap v p st sd) (hn : n ≤ 65536) (hv : allB n (fun i => hgtB (v i)) = true) (hs : StepOk st)
    (hX1 : -16777216 ≤ X) (hX2 : X ≤ 16777216) (hY1 : -16777216 ≤ Y) (hY2 : Y ≤ 16777216) (hW1 : 1 ≤ W) (hW2 : W ≤ 512) (hH2 : H ≤ 512) (hnn : n = H * W) :
    Clos2 118 #[.pointer (some ⟨p, 0, none⟩), .pointer (some ⟨p + 1 + 1, 0, none⟩), .pointer (some ⟨p + 1, 0, none⟩)] X Y W H (dthF v st sd X Y W) w := by
  intro x y i w2 h1 h2 h3 h4 h5 hb
  have hi : i < n := num_lt hW1 h1 h2 h4 h5 hnn
  have K := hk.stay (by omega) hb
  obtain ⟨ex, ey⟩ := place_of hW1 h1 h2 h3 h5
  unfold dthF
  rw [ex, ey]
  obtain ⟨q, d, c, j, r, D⟩ := dth_parts (hashI sd x y 8) (allB_iff.1 hv i hi) hs
  rw [D.w]
  obtain ⟨aq, haq⟩ := D.fq
  have FL := Lib.hid (fun w => floor_any q 30 aq haq D.bq (by omega) w)
  have IX := Lib.hid (fun w => index_any X Y W H i x y w hX1 hX2 hY1 hY2 hW1 hW2 hH2 h1 h2 h3 h4 h5 (by omega))
  have UN := Lib.hid (fun w => unit_any (hashI sd x y 8) w (hashI_in _ _ _ _).1 (hashI_in _ _ _ _).2)
  have a1 := fun (W : World) => run_float_arith (P := Try.prog) W .quo 37 .f32 (v i) st q D.q1
  have a2 := fun (W : World) => run_float_arith (P := Try.prog) W .sub 37 .f32 q (flW q) d D.d1
  have a4 := fun (W : World) => run_float_arith (P := Try.prog) W .mul 37 .f32 j st r D.r1
  have hcell := K.row i hi
  rw [Nat.zero_add] at hcell
  have zb : b < w2.heap.size := World.block_lt_of_cell? w2 _ hcell
  have HC := Lib.hid hcell
  have GF := Lib.hid K.fld
  have GS := Lib.hid K.stp
  have GH := Lib.hid K.sed
  obtain ⟨cF, fF, zF⟩ := blkC K.fld
  obtain ⟨cS, fS, zS⟩ := blkC K.stp
  obtain ⟨cH, fH, zH⟩ := blkC K.sed
  have hi2 : (i : Int) < (n : Int) := by omega
  have hi3 : (0 : Int) ≤ (i : Int) := by omega
  have c1 := D.c1
  have DJ := Lib.hid (And.intro D.j1 D.j3)
  clear D haq hk hb h1 h2 h3 h4 h5 hX1 hX2 hY1 hY2 hW1 hW2 hH2 hnn hv hs K ex ey hi hn
  go_enter Try.func118, Try.ntmps118
  go_wp2
  go_region_held3 (fun w' => (∀ o, w'.cell? ⟨p, o, none⟩ = #[.int .i64 X, .int .i64 Y, .int .i64 W, .int .i64 H, .slice (some ⟨b, 0, none⟩) n cap][o]?) ∧ (∀ o, w'.cell? ⟨p + 1 + 1, o, none⟩ = #[.float .f32 st][o]?) ∧ (∀ o, w'.cell? ⟨p + 1, o, none⟩ = #[.int .u32 sd][o]?) ∧ w'.cell? ⟨b, i, none⟩ = some (.float .f32 (v i)) ∧ Below w2.heap.size w2 w') (first | exact ⟨(blkC (blkStay GF.out (by repeat (first | exact Below.refl _ _ | refine Below.alloc ?_ (by first | omega | (simp; done) | (simp; omega)) _ | refine Below.setCell ?_ (by first | omega | (simp; done) | (simp; omega)) _ | refine Below.drew ?_)))).1, (blkC (blkStay GS.out (by repeat (first | exact Below.refl _ _ | refine Below.alloc ?_ (by first | omega | (simp; done) | (simp; omega)) _ | refine Below.setCell ?_ (by first | omega | (simp; done) | (simp; omega)) _ | refine Below.drew ?_)))).1, (blkC (blkStay GH.out (by repeat (first | exact Below.refl _ _ | refine Below.alloc ?_ (by first | omega | (simp; done) | (simp; omega)) _ | refine Below.setCell ?_ (by first | omega | (simp; done) | (simp; omega)) _ | refine Below.drew ?_)))).1, (Below.cell (p := ⟨b, i, none⟩) (w := w2) (B := w2.heap.size) (by repeat (first | exact Below.refl _ _ | refine Below.alloc ?_ (by first | omega | (simp; done) | (simp; omega)) _ | refine Below.setCell ?_ (by first | omega | (simp; done) | (simp; omega)) _ | refine Below.drew ?_)) zb).trans HC.out, (by repeat (first | exact Below.refl _ _ | refine Below.alloc ?_ (by first | omega | (simp; done) | (simp; omega)) _ | refine Below.setCell ?_ (by first | omega | (simp; done) | (simp; omega)) _ | refine Below.drew ?_))⟩) (first | (go_at_call 119; (with_reducible refine Calls.mono (IX.out _) ?_); rintro e w' ⟨rfl, rfl⟩))
  rename_i hHeld
  obtain ⟨k1, k2, k3, k4, k5⟩ := hHeld
  clear cF cS cH fF fS fH hcell
  cases c with
  | true =>
    have a3 := fun (W : World) => run_float_arith (P := Try.prog) W .add 37 .f32 (flW q) 1065353216 j (DJ.out.1 rfl)
    go_wp2_with (first | (go_at_call 97; refine (FL.out _).mono ?_; rintro e w' ⟨rfl, rfl⟩) | (go_at_call 38; refine (hash_any _ _ _ _ _).mono ?_; rintro e w' ⟨rfl, rfl⟩) | (go_at_call 36; refine (UN.out _).mono ?_; rintro e w' ⟨rfl, rfl⟩))
    go_ret
    exact ⟨rfl, k5⟩
  | false =>
    have ej := DJ.out.2 rfl
    subst ej
    go_wp2_with (first | (go_at_call 97; refine (FL.out _).mono ?_; rintro e w' ⟨rfl, rfl⟩) | (go_at_call 38; refine (hash_any _ _ _ _ _).mono ?_; rintro e w' ⟨rfl, rfl⟩) | (go_at_call 36; refine (UN.out _).mono ?_; rintro e w' ⟨rfl, rfl⟩))
    go_ret
    exact ⟨rfl, k5⟩
end Go.Proofs.Ytjjhhnoeiglnhaa
