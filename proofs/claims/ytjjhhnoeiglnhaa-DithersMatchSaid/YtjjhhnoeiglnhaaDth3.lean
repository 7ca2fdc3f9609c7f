/- The reference's closure of Dither; the closures of Speckle. -/
import Derived.Test.YtjjhhnoeiglnhaaDth2
namespace Go.Proofs.Ytjjhhnoeiglnhaa
open Go.RowKit Fl
set_option linter.unusedVariables false

theorem enters_Speckle1 : Enters 122 := by intro args W; simp [callFunc, Try.func122, Try.f122]
theorem enters_rSpeckle1 : Enters 124 := by intro args W; simp [callFunc, Try.func124, Try.f124]

set_option maxHeartbeats 4000000 in
set_option maxRecDepth 100000 in
theorem rdither1_any (X Y : Int) (W H n b cap : Nat) (v : Nat → Nat) (p st : Nat) (sd : Int) (w : World) (hk : DCaps w X Y W H n b cap v p st sd) (hn : n ≤ 65536) (hv : allB n (fun i => hgtB (v i)) = true) (hs : StepOk st)
    (hX1 : -16777216 ≤ X) (hX2 : X ≤ 16777216) (hY1 : -16777216 ≤ Y) (hY2 : Y ≤ 16777216) (hW1 : 1 ≤ W) (hW2 : W ≤ 512) (hH2 : H ≤ 512) (hnn : n = H * W) :
    Clos2 120 #[.pointer (some ⟨p, 0, none⟩), .pointer (some ⟨p + 1 + 1, 0, none⟩), .pointer (some ⟨p + 1, 0, none⟩)] X Y W H (dthF v st sd X Y W) w := by
  intro x y i w2 h1 h2 h3 h4 h5 hb
  have hi : i < n := num_lt hW1 h1 h2 h4 h5 hnn
  have K := hk.stay (by omega) hb
  obtain ⟨ex, ey⟩ := place_of hW1 h1 h2 h3 h5
  unfold dthF
  rw [ex, ey]
  obtain ⟨q, d, c, j, r, D⟩ := dth_parts (hashI sd x y 8) (allB_iff.1 hv i hi) hs
  rw [D.w]
  obtain ⟨aq, haq⟩ := D.fq
  have FL := Lib.hid (fun w => refFloor_any q 30 aq haq D.bq (by omega) w)
  have z1 := (World.block_lt_of_cell? w2 _ (K.row i hi))
  have AT := Lib.hid (fun W' (hb : Below w2.heap.size w2 W') => refAt_any X Y W H n b cap i v x y W' hX1 hX2 hY1 hY2 hW1 hW2 hH2 h1 h2 h3 h4 h5 hi hn (flAt_congr K.row (hb.block _ z1)))
  have DV := Lib.hid (fun w => refDiv_any 30 (v i) st q D.q2 D.q1 w)
  have SB := Lib.hid (fun w => refSub_any 32 q (flW q) d D.d2 D.d1 w)
  have ML := Lib.hid (fun w => refMul_any 43 j st r D.r2 D.r1 w)
  have UN := Lib.hid (fun w => refUnit_any (hashI sd x y 8) w (hashI_in _ _ _ _).1 (hashI_in _ _ _ _).2)
  have GF := Lib.hid K.fld
  have GS := Lib.hid K.stp
  have GH := Lib.hid K.sed
  obtain ⟨cF, fF, zF⟩ := blkC K.fld
  obtain ⟨cS, fS, zS⟩ := blkC K.stp
  obtain ⟨cH, fH, zH⟩ := blkC K.sed
  have c1 := D.c1
  have DJ := Lib.hid (And.intro D.j1 (And.intro D.j2 D.j3))
  clear D haq hk hb h1 h2 h3 h4 h5 hX1 hX2 hY1 hY2 hW1 hW2 hH2 hnn hv hs K ex ey hi hn z1
  go_enter Try.func120, Try.ntmps120
  go_wp2
  go_region_held3 (fun w' => (∀ o, w'.cell? ⟨p, o, none⟩ = #[.int .i64 X, .int .i64 Y, .int .i64 W, .int .i64 H, .slice (some ⟨b, 0, none⟩) n cap][o]?) ∧ (∀ o, w'.cell? ⟨p + 1 + 1, o, none⟩ = #[.float .f32 st][o]?) ∧ (∀ o, w'.cell? ⟨p + 1, o, none⟩ = #[.int .u32 sd][o]?) ∧ Below w2.heap.size w2 w') (first | exact ⟨(blkC (blkStay GF.out (by repeat (first | exact Below.refl _ _ | refine Below.alloc ?_ (by first | omega | (simp; done) | (simp; omega)) _ | refine Below.setCell ?_ (by first | omega | (simp; done) | (simp; omega)) _ | refine Below.drew ?_)))).1, (blkC (blkStay GS.out (by repeat (first | exact Below.refl _ _ | refine Below.alloc ?_ (by first | omega | (simp; done) | (simp; omega)) _ | refine Below.setCell ?_ (by first | omega | (simp; done) | (simp; omega)) _ | refine Below.drew ?_)))).1, (blkC (blkStay GH.out (by repeat (first | exact Below.refl _ _ | refine Below.alloc ?_ (by first | omega | (simp; done) | (simp; omega)) _ | refine Below.setCell ?_ (by first | omega | (simp; done) | (simp; omega)) _ | refine Below.drew ?_)))).1, (by repeat (first | exact Below.refl _ _ | refine Below.alloc ?_ (by first | omega | (simp; done) | (simp; omega)) _ | refine Below.setCell ?_ (by first | omega | (simp; done) | (simp; omega)) _ | refine Below.drew ?_))⟩) (first | (go_at_call 89; (with_reducible refine Calls.mono (AT.out _ ?_) ?_); exact (by repeat (first | exact Below.refl _ _ | refine Below.alloc ?_ (by first | omega | (simp; done) | (simp; omega)) _ | refine Below.setCell ?_ (by first | omega | (simp; done) | (simp; omega)) _ | refine Below.drew ?_)); rintro e w' ⟨rfl, rfl⟩) | (go_at_call 109; refine (DV.out _).mono ?_; rintro e w' ⟨rfl, rfl⟩))
  rename_i wh hHeld
  obtain ⟨k1, k2, k3, k5⟩ := hHeld
  have K5 := Lib.hid k5
  clear cF cS cH fF fS fH k1 k2 k5
  cases c with
  | true =>
    have AD := Lib.hid (fun w => refAdd_any 32 (flW q) 1065353216 j (DJ.out.2.1 rfl) (DJ.out.1 rfl) w)
    go_wp2_with (first | (go_at_call 101; refine (FL.out _).mono ?_; rintro e w' ⟨rfl, rfl⟩) | (go_at_call 39; refine (refHash_any _ _ _ _ _).mono ?_; rintro e w5 ⟨rfl, hb5⟩; have B5 := Lib.hid (K5.out.trans (hb5.mono K5.out.size)); obtain ⟨cS5, fS5, zS5⟩ := blkC (blkStay GS.out B5.out); clear hb5) | (go_at_call 41; refine (UN.out _).mono ?_; rintro e w' ⟨rfl, rfl⟩) | (go_at_call 103; refine (SB.out _).mono ?_; rintro e w' ⟨rfl, rfl⟩) | (go_at_call 121; refine (AD.out _).mono ?_; rintro e w' ⟨rfl, rfl⟩) | (go_at_call 113; refine (ML.out _).mono ?_; rintro e w' ⟨rfl, rfl⟩))
    go_ret
    exact ⟨rfl, B5.out⟩
  | false =>
    have ej := DJ.out.2.2 rfl
    subst ej
    go_wp2_with (first | (go_at_call 101; refine (FL.out _).mono ?_; rintro e w' ⟨rfl, rfl⟩) | (go_at_call 39; refine (refHash_any _ _ _ _ _).mono ?_; rintro e w5 ⟨rfl, hb5⟩; have B5 := Lib.hid (K5.out.trans (hb5.mono K5.out.size)); obtain ⟨cS5, fS5, zS5⟩ := blkC (blkStay GS.out B5.out); clear hb5) | (go_at_call 41; refine (UN.out _).mono ?_; rintro e w' ⟨rfl, rfl⟩) | (go_at_call 103; refine (SB.out _).mono ?_; rintro e w' ⟨rfl, rfl⟩) | (go_at_call 113; refine (ML.out _).mono ?_; rintro e w' ⟨rfl, rfl⟩))
    go_ret
    exact ⟨rfl, B5.out⟩

/-- What Speckle makes of the cell number i. -/
def spkF (st : Nat) (sd X Y : Int) (W : Nat) (i : Nat) : Nat := spkW st (hashI sd (X + ((i % W : Nat) : Int)) (Y + ((i / W : Nat) : Int)) 9)

/-- What Speckle's closures hold: the seed, the share. -/
structure SCaps (w : World) (p st : Nat) (sd : Int) : Prop where
  sed : w.heap[p]? = some (u32Obj sd)
  stp : w.heap[p + 1]? = some (flObj st)
theorem SCaps.stay {w w' : World} {p st : Nat} {sd : Int} (h : SCaps w p st sd) (hb : Below w.heap.size w w') : SCaps w' p st sd := ⟨blkStay h.sed hb, blkStay h.stp hb⟩

set_option maxHeartbeats 4000000 in
theorem speckle1_any (X Y : Int) (W H n : Nat) (p st : Nat) (sd : Int) (w : World) (hk : SCaps w p st sd) (hW1 : 1 ≤ W) (hnn : n = H * W) :
    Clos2 122 #[.pointer (some ⟨p, 0, none⟩), .pointer (some ⟨p + 1, 0, none⟩)] X Y W H (spkF st sd X Y W) w := by
  intro x y i w2 h1 h2 h3 h4 h5 hb
  have K := hk.stay hb
  obtain ⟨ex, ey⟩ := place_of hW1 h1 h2 h3 h5
  unfold spkF
  rw [ex, ey]
  unfold spkW
  have UN := Lib.hid (fun w => unit_any (hashI sd x y 9) w (hashI_in _ _ _ _).1 (hashI_in _ _ _ _).2)
  obtain ⟨cS, fS, zS⟩ := blkC K.stp
  obtain ⟨cH, fH, zH⟩ := blkC K.sed
  clear hk hb h1 h2 h3 h4 h5 hW1 hnn K ex ey
  generalize hh : hashI sd x y 9 = hw at *
  have HH := Lib.hid hh
  clear hh
  cases hc : (FloatKind.f32.format.order (unitW hw) st == some .lt)
  all_goals
    go_enter Try.func122, Try.ntmps122
    go_wp2
    go_quiet (first | (go_at_call 38; exact Calls.quiet_of_same ((hash_any _ _ _ _ _).mono fun _ _ h => ⟨h.1.trans (by rw [HH.out]), h.2.symm⟩)) | (go_at_call 36; exact Calls.quiet_of_same ((UN.out _).mono fun _ _ h => ⟨h.1, h.2.symm⟩)))
    go_wp2
    go_ret
    exact ⟨rfl, below_drewN _ _⟩

set_option maxHeartbeats 4000000 in
theorem rspeckle1_any (X Y : Int) (W H n : Nat) (p st : Nat) (sd : Int) (w : World) (hk : SCaps w p st sd) (hW1 : 1 ≤ W) (hnn : n = H * W) :
    Clos2 124 #[.pointer (some ⟨p, 0, none⟩), .pointer (some ⟨p + 1, 0, none⟩)] X Y W H (spkF st sd X Y W) w := by
  intro x y i w2 h1 h2 h3 h4 h5 hb
  have K := hk.stay hb
  obtain ⟨ex, ey⟩ := place_of hW1 h1 h2 h3 h5
  unfold spkF
  rw [ex, ey]
  unfold spkW
  have UN := Lib.hid (fun w => refUnit_any (hashI sd x y 9) w (hashI_in _ _ _ _).1 (hashI_in _ _ _ _).2)
  have RH := Lib.hid (fun w => refHash_any sd x y 9 w)
  have GS := Lib.hid K.stp
  have GH := Lib.hid K.sed
  obtain ⟨cS, fS, zS⟩ := blkC K.stp
  obtain ⟨cH, fH, zH⟩ := blkC K.sed
  clear hk hb h1 h2 h3 h4 h5 hW1 hnn K ex ey
  generalize hashI sd x y 9 = hw at *
  cases hc : (FloatKind.f32.format.order (unitW hw) st == some .lt)
  all_goals
    go_enter Try.func124, Try.ntmps124
    go_wp2
    go_region_held3 (fun w' => (∀ o, w'.cell? ⟨p + 1, o, none⟩ = #[.float .f32 st][o]?) ∧ (∀ o, w'.cell? ⟨p, o, none⟩ = #[.int .u32 sd][o]?) ∧ Below w2.heap.size w2 w') (first | exact ⟨(blkC (blkStay GS.out hb9)).1, (blkC (blkStay GH.out hb9)).1, hb9⟩ | exact ⟨(blkC (blkStay GS.out (by repeat (first | exact Below.refl _ _ | refine Below.alloc ?_ (by first | omega | (simp; done) | (simp; omega)) _ | refine Below.setCell ?_ (by first | omega | (simp; done) | (simp; omega)) _ | refine Below.drew ?_)))).1, (blkC (blkStay GH.out (by repeat (first | exact Below.refl _ _ | refine Below.alloc ?_ (by first | omega | (simp; done) | (simp; omega)) _ | refine Below.setCell ?_ (by first | omega | (simp; done) | (simp; omega)) _ | refine Below.drew ?_)))).1, (by repeat (first | exact Below.refl _ _ | refine Below.alloc ?_ (by first | omega | (simp; done) | (simp; omega)) _ | refine Below.setCell ?_ (by first | omega | (simp; done) | (simp; omega)) _ | refine Below.drew ?_))⟩) (first | (go_at_call 39; (with_reducible refine Calls.mono (RH.out _) ?_); rintro e w' ⟨rfl, hb8⟩; have hb9 : Below w2.heap.size w2 w' := ⟨hb8.os, hb8.tape, hb8.output, hb8.size, hb8.block⟩; clear hb8) | (go_at_call 41; refine (UN.out _).mono ?_; rintro e w' ⟨rfl, rfl⟩))
    rename_i wh hHeld
    go_wp2
    go_ret
    exact ⟨rfl, hHeld.2.2⟩
end Go.Proofs.Ytjjhhnoeiglnhaa
