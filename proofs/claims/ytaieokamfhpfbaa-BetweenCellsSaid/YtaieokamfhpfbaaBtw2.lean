/- The reference's there, row and bilinear. -/
import Derived.Test.YtaieokamfhpfbaaBtw
import Derived.Test.YtaieokamfhpfbaaReg4
import Derived.Test.YtaieokamfhpfbaaHshLaw
import Derived.Test.YtaieokamfhpfbaaDth5
namespace Go.Proofs.Ytaieokamfhpfbaa
open Go.RowKit Fl
set_option linter.unusedVariables false

set_option maxHeartbeats 1000000 in
theorem refThere_any (X Y : Int) (W H n b cap : Nat) (x y : Int) (c : Bool) (w : World) (h0 : checkR X Y W H = 0) (x1 : -16777300 ≤ x) (x2 : x ≤ 16777300) (y1 : -16777300 ≤ y) (y2 : y ≤ 16777300) (hc : insideB x y 1 1 X Y W H = c) :
    Calls Try.prog 102 #[fldV X Y W H (.slice (some ⟨b, 0, none⟩) n cap), .int .i64 x, .int .i64 y] w fun e w' => e = .returned (.bool c) ∧ Below w.heap.size w w' := by
  obtain ⟨b1, b2, b3, b4, b5, b6, b7, b8, b9⟩ := checkR_zero h0
  have IN := Lib.hid (fun w => refInside_any x y 1 1 X Y W H w (by omega) (by omega) (by omega) (by omega) (by omega) (by omega) (by omega) (by omega) (by omega) (by omega) (by omega) (by omega) (by omega) (by omega) (by omega) (by omega))
  rw [hc] at IN
  clear h0 b1 b2 b3 b4 b5 b6 b7 b8 b9 hc x1 x2 y1 y2
  go_enter Try.func102, Try.ntmps102
  go_wp2_with (first | (go_at_call 24; refine (IN.out _).mono ?_; rintro e w2 ⟨rfl, hb2⟩))
  go_ret
  exact ⟨rfl, Below.trans (by repeat (first | exact Below.refl _ _ | refine Below.alloc ?_ (by first | omega | (simp; done) | (simp; omega)) _ | refine Below.setCell ?_ (by first | omega | (simp; done) | (simp; omega)) _ | refine Below.drew ?_)) (hb2.mono (by simp))⟩

/-- What row holds: the field, the column, the share. -/
structure RCaps (w : World) (X Y : Int) (W H n b cap : Nat) (v : Nat → Nat) (p : Nat) (i : Int) (s : Nat) : Prop where
  fld : w.heap[p]? = some (fldO X Y W H (.slice (some ⟨b, 0, none⟩) n cap))
  col : w.heap[p + 1]? = some (.cells #[.int .i64 i] 3)
  shr : w.heap[p + 1 + 1]? = some (flObj s)
  row : FlAt w b 0 n v
theorem RCaps.stay {w w' : World} {X Y : Int} {W H n b cap : Nat} {v : Nat → Nat} {p : Nat} {i : Int} {s : Nat} (h : RCaps w X Y W H n b cap v p i s) (hn : 1 ≤ n) (hb : Below w.heap.size w w') : RCaps w' X Y W H n b cap v p i s :=
  ⟨blkStay h.fld hb, blkStay h.col hb, blkStay h.shr hb, flAt_congr h.row (hb.block _ (World.block_lt_of_cell? w _ (h.row 0 hn)))⟩

theorem there_row {X Y W H i y : Int} {cs : Bool} : thereB X Y W H i y cs true = (insideB i y 1 1 X Y W H && (cs || insideB (i + 1) y 1 1 X Y W H)) := by
  rw [Bool.eq_iff_iff]
  unfold thereB
  rw [Bool.and_eq_true, Bool.or_eq_true, insideB_iff, insideB_iff, insideB_iff]
  cases cs <;> simp <;> omega

set_option maxHeartbeats 4000000 in
theorem row_no (X Y : Int) (W H n b cap : Nat) (v : Nat → Nat) (p : Nat) (i y : Int) (s : Nat) (cs : Bool) (w : World) (hk : RCaps w X Y W H n b cap v p i s) (h0 : checkR X Y W H = 0) (i1 : -16777216 ≤ i) (i2 : i ≤ 16777216) (y1 : -16777217 ≤ y) (y2 : y ≤ 16777217)
    (hs : (FloatKind.f32.format.order s 0 == some .eq) = cs) (hth : thereB X Y W H i y cs true = false) :
    Calls Try.prog 170 #[.int .i64 y, .pointer (some ⟨p, 0, none⟩), .pointer (some ⟨p + 1, 0, none⟩), .pointer (some ⟨p + 1 + 1, 0, none⟩)] w fun e w' => e = .returned (.tuple #[.float .f32 0, .bool false]) ∧ Below w.heap.size w w' := by
  rw [there_row] at hth
  have hs' : (FloatKind.f32.format.order s 0 != some .eq) = !cs := by rw [bne, hs]
  have GF := Lib.hid hk.fld
  have GC := Lib.hid hk.col
  have GS := Lib.hid hk.shr
  obtain ⟨cF, fF, zF⟩ := blkC hk.fld
  obtain ⟨cC, fC, zC⟩ := blkC hk.col
  obtain ⟨cS, fS, zS⟩ := blkC hk.shr
  cases h1 : insideB i y 1 1 X Y W H with
  | false =>
    have T1 := Lib.hid (fun w => refThere_any X Y W H n b cap i y false w h0 (by omega) (by omega) (by omega) (by omega) h1)
    clear hk h0 h1 hth
    go_enter Try.func170, Try.ntmps170
    go_wp2_with (first | (go_at_call 102; refine (T1.out _).mono ?_; rintro e w2 ⟨rfl, hb2⟩))
    go_ret2
    exact ⟨rfl, hb2⟩
  | true =>
    rw [h1] at hth
    have T1 := Lib.hid (fun w => refThere_any X Y W H n b cap i y true w h0 (by omega) (by omega) (by omega) (by omega) h1)
    cases cs with
    | true => simp at hth
    | false =>
      have h2 : insideB (i + 1) y 1 1 X Y W H = false := by simpa using hth
      have T2 := Lib.hid (fun w => refThere_any X Y W H n b cap (i + 1) y false w h0 (by omega) (by omega) (by omega) (by omega) h2)
      clear hk h0 h1 hth h2
      simp only [Bool.not_false] at hs'
      go_enter Try.func170, Try.ntmps170
      go_wp2_with fail
      refine (T1.out _).mono ?_
      rintro e w2 ⟨rfl, hb2⟩
      obtain ⟨cF2, fF2, zF2⟩ := blkC (blkStay GF.out hb2)
      obtain ⟨cC2, fC2, zC2⟩ := blkC (blkStay GC.out hb2)
      obtain ⟨cS2, fS2, zS2⟩ := blkC (blkStay GS.out hb2)
      have B2 := Lib.hid hb2
      clear hb2 cF fF cC fC cS fS
      go_wp2_with fail
      refine (T2.out _).mono ?_
      rintro e w3 ⟨rfl, hb3⟩
      have B3 := Lib.hid (B2.out.trans (hb3.mono B2.out.size))
      clear hb3 cF2 fF2 cC2 fC2 cS2 fS2
      go_wp2
      go_ret2
      exact ⟨rfl, B3.out⟩

set_option maxHeartbeats 8000000 in
set_option maxRecDepth 100000 in
theorem row_ok (X Y : Int) (W H n b cap : Nat) (v : Nat → Nat) (p : Nat) (i y : Int) (s : Nat) (cs : Bool) (w : World) (hk : RCaps w X Y W H n b cap v p i s) (h0 : checkR X Y W H = 0) (hn : n = W * H) (hh : allB n (fun i => hgtB (v i)) = true)
    (hs : (FloatKind.f32.format.order s 0 == some .eq) = cs) (hth : thereB X Y W H i y cs true = true) (bs : Bd 1 s) :
    Calls Try.prog 170 #[.int .i64 y, .pointer (some ⟨p, 0, none⟩), .pointer (some ⟨p + 1, 0, none⟩), .pointer (some ⟨p + 1 + 1, 0, none⟩)] w fun e w' => e = .returned (.tuple #[.float .f32 (alongW cs s (v (numC X Y W i y)) (v (numC X Y W i y + 1))), .bool true]) ∧ Below w.heap.size w w' := by
  obtain ⟨b1, b2, b3, b4, b5, b6, b7, b8, b9⟩ := checkR_zero h0
  have hnn : n = H * W := by rw [hn]; exact Nat.mul_comm _ _
  have hn2 : n ≤ 65536 := by
    have : ((W : Int) * (H : Int)) = (n : Int) := by rw [hn]; simp
    omega
  rw [there_row, Bool.and_eq_true, Bool.or_eq_true] at hth
  obtain ⟨h1, h2⟩ := hth
  obtain ⟨t1, t2, t3, t4⟩ := insideB_iff.1 h1
  have hkk : ((numC X Y W i y : Nat) : Int) = (y - Y) * W + (i - X) := by
    unfold numC
    have : 0 ≤ (y - Y) * W := Int.mul_nonneg (by omega) (by omega)
    omega
  generalize numC X Y W i y = k at *
  have hkn : k < n := cell_lt (X := X) (Y := Y) (x := i) (y := y) (by omega) t1 (by omega) (by omega) hkk hnn
  have hs' : (FloatKind.f32.format.order s 0 != some .eq) = !cs := by rw [bne, hs]
  have T1 := Lib.hid (fun w => refThere_any X Y W H n b cap i y true w h0 (by omega) (by omega) (by omega) (by omega) h1)
  have GF := Lib.hid hk.fld
  have GC := Lib.hid hk.col
  have GS := Lib.hid hk.shr
  obtain ⟨cF, fF, zF⟩ := blkC hk.fld
  obtain ⟨cC, fC, zC⟩ := blkC hk.col
  obtain ⟨cS, fS, zS⟩ := blkC hk.shr
  have z := World.block_lt_of_cell? w _ (hk.row 0 (by omega))
  have A1 := Lib.hid (fun W' (hb : Below w.heap.size w W') => refAt_any X Y W H n b cap k v i y W' (by omega) (by omega) (by omega) (by omega) (by omega) (by omega) (by omega) t1 (by omega) t2 (by omega) hkk hkn hn2 (flAt_congr hk.row (hb.block _ z)))
  cases cs with
  | true =>
    simp only [Bool.not_true] at hs'
    clear hk h0 h1 h2 b1 b2 b3 b4 b5 b6 b7 b8 b9 hn hnn hh t1 t2 t3 t4 hkk hkn hn2
    go_enter Try.func170, Try.ntmps170
    go_wp2_with fail
    refine (T1.out _).mono ?_
    rintro e w2 ⟨rfl, hb2⟩
    obtain ⟨cF2, fF2, zF2⟩ := blkC (blkStay GF.out hb2)
    obtain ⟨cC2, fC2, zC2⟩ := blkC (blkStay GC.out hb2)
    obtain ⟨cS2, fS2, zS2⟩ := blkC (blkStay GS.out hb2)
    have B2 := Lib.hid hb2
    clear hb2 cF fF cC fC cS fS
    go_wp2_with (first | (go_at_call 97; refine (A1.out _ B2.out).mono ?_; rintro e w3 ⟨rfl, hw3⟩; have B3 := Lib.hid (B2.out.trans (show Below w.heap.size w2 w3 by (rw [← hw3]; exact (Below.refl _ _).alloc B2.out.size _))); clear hw3))
    go_ret2
    exact ⟨rfl, B3.out⟩
  | false =>
    have h3 : insideB (i + 1) y 1 1 X Y W H = true := by simpa using h2
    obtain ⟨u1, u2, u3, u4⟩ := insideB_iff.1 h3
    have hk1 : k + 1 < n := cell_lt (X := X) (Y := Y) (x := i + 1) (y := y) (by omega) (by omega) (by omega) (by omega) (by omega) hnn
    have T2 := Lib.hid (fun w => refThere_any X Y W H n b cap (i + 1) y true w h0 (by omega) (by omega) (by omega) (by omega) h3)
    have A2 := Lib.hid (fun W' (hb : Below w.heap.size w W') => refAt_any X Y W H n b cap (k + 1) v (i + 1) y W' (by omega) (by omega) (by omega) (by omega) (by omega) (by omega) (by omega) (by omega) (by omega) t2 (by omega) (by omega) hk1 hn2 (flAt_congr hk.row (hb.block _ z)))
    obtain ⟨d, q, r, e1, s1, e2, s2, e3, s3, _, _⟩ := mix_parts (i := 20) (j := 1) (by omega) (by omega) (hgt_bd (allB_iff.1 hh k hkn)) (hgt_bd (allB_iff.1 hh (k + 1) hk1)) bs
    have LP := Lib.hid (fun w => lerp_any _ _ _ (v k) (v (k + 1)) s d q r e1 s1 e2 s2 e3 s3 w)
    have HE := Lib.hid (mix_eq e1 e2 e3)
    have i1 : -16777216 ≤ i := by omega
    have i2 : i ≤ 16777216 := by omega
    simp only [Bool.not_false] at hs'
    clear hk h0 h1 h2 b1 b2 b3 b4 b5 b6 b7 b8 b9 hn hnn hh t1 t2 t3 t4 hkk hkn hn2 h3 u1 u2 u3 u4 hk1 e1 s1 e2 s2 e3 s3
    go_enter Try.func170, Try.ntmps170
    go_wp2_with fail
    refine (T1.out _).mono ?_
    rintro e w2 ⟨rfl, hb2⟩
    obtain ⟨cF2, fF2, zF2⟩ := blkC (blkStay GF.out hb2)
    obtain ⟨cC2, fC2, zC2⟩ := blkC (blkStay GC.out hb2)
    obtain ⟨cS2, fS2, zS2⟩ := blkC (blkStay GS.out hb2)
    have B2 := Lib.hid hb2
    clear hb2 cF fF cC fC cS fS
    go_wp2_with fail
    refine (T2.out _).mono ?_
    rintro e w3 ⟨rfl, hb3⟩
    have B3 := Lib.hid (B2.out.trans (hb3.mono B2.out.size))
    have GF3 := Lib.hid (blkStay GF.out B3.out)
    have GC3 := Lib.hid (blkStay GC.out B3.out)
    have GS3 := Lib.hid (blkStay GS.out B3.out)
    clear hb3 cF2 fF2 cC2 fC2 cS2 fS2
    obtain ⟨cF3, fF3, zF3⟩ := blkC GF3.out
    obtain ⟨cC3, fC3, zC3⟩ := blkC GC3.out
    obtain ⟨cS3, fS3, zS3⟩ := blkC GS3.out
    have D1 := Lib.hid (fun W' (hb : Below w3.heap.size w3 W') => A1.out W' (B3.out.trans (hb.mono B3.out.size)))
    have D2 := Lib.hid (fun W' (hb : Below w3.heap.size w3 W') => A2.out W' (B3.out.trans (hb.mono B3.out.size)))
    have u9 : IntKind.i64.wrap (i + 1) = i + 1 := IntWalk.i64_in _ (by omega)
    go_wp2_with fail
    go_region_held3 (fun w' => (∀ o, w'.cell? ⟨p, o, none⟩ = #[.int .i64 X, .int .i64 Y, .int .i64 W, .int .i64 H, .slice (some ⟨b, 0, none⟩) n cap][o]?) ∧ (∀ o, w'.cell? ⟨p + 1, o, none⟩ = #[.int .i64 i][o]?) ∧ (∀ o, w'.cell? ⟨p + 1 + 1, o, none⟩ = #[.float .f32 s][o]?) ∧ Below w3.heap.size w3 w') (first | exact ⟨(blkC (blkStay GF3.out (by repeat (first | exact Below.refl _ _ | refine Below.alloc ?_ (by first | omega | (simp; done) | (simp; omega)) _ | refine Below.setCell ?_ (by first | omega | (simp; done) | (simp; omega)) _ | refine Below.drew ?_)))).1, (blkC (blkStay GC3.out (by repeat (first | exact Below.refl _ _ | refine Below.alloc ?_ (by first | omega | (simp; done) | (simp; omega)) _ | refine Below.setCell ?_ (by first | omega | (simp; done) | (simp; omega)) _ | refine Below.drew ?_)))).1, (blkC (blkStay GS3.out (by repeat (first | exact Below.refl _ _ | refine Below.alloc ?_ (by first | omega | (simp; done) | (simp; omega)) _ | refine Below.setCell ?_ (by first | omega | (simp; done) | (simp; omega)) _ | refine Below.drew ?_)))).1, (by repeat (first | exact Below.refl _ _ | refine Below.alloc ?_ (by first | omega | (simp; done) | (simp; omega)) _ | refine Below.setCell ?_ (by first | omega | (simp; done) | (simp; omega)) _ | refine Below.drew ?_))⟩) (first | (go_at_call 97; (with_reducible refine Calls.mono (D1.out _ ?_) ?_); exact (by repeat (first | exact Below.refl _ _ | refine Below.alloc ?_ (by first | omega | (simp; done) | (simp; omega)) _ | refine Below.setCell ?_ (by first | omega | (simp; done) | (simp; omega)) _ | refine Below.drew ?_)); rintro e w' ⟨rfl, rfl⟩) | (go_at_call 97; (with_reducible refine Calls.mono (D2.out _ ?_) ?_); exact (by repeat (first | exact Below.refl _ _ | refine Below.alloc ?_ (by first | omega | (simp; done) | (simp; omega)) _ | refine Below.setCell ?_ (by first | omega | (simp; done) | (simp; omega)) _ | refine Below.drew ?_)); rintro e w' ⟨rfl, rfl⟩) | (go_at_call 116; refine (LP.out _).mono ?_; rintro e w' ⟨rfl, rfl⟩))
    rename_i wh hHeld
    go_wp2
    go_ret2
    exact ⟨by rw [← HE.out]; rfl, B3.out.trans (hHeld.2.2.2.mono B3.out.size)⟩
end Go.Proofs.Ytaieokamfhpfbaa
