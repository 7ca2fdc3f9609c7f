/- Contracts: square and Weight of the reference; Weight and Box of the program; the reference's box. -/
import Derived.Test.YtjjhhnoeiglnhabBru3
namespace Go.Proofs.Ytjjhhnoeiglnhab
open Go.RowKit Fl
set_option linter.unusedVariables false

abbrev pnt (x y : Int) : Value := .agg #[.int .i64 x, .int .i64 y]

set_option maxHeartbeats 1000000 in
theorem square_any (x y X Y : Int) (w : World) (X1 : -4194304 ≤ X) (X2 : X ≤ 4194304) (Y1 : -4194304 ≤ Y) (Y2 : Y ≤ 4194304) (x1 : -4194304 ≤ x) (x2 : x ≤ 4194304) (y1 : -4194304 ≤ y) (y2 : y ≤ 4194304) :
    Calls Try.prog 126 #[pnt x y, pnt X Y] w fun e w' => e = .returned (.int .i64 (sqD x y X Y)) ∧ Below w.heap.size w w' := by
  obtain ⟨a0, a1⟩ := side_sq (d := x - X) (by omega) (by omega)
  obtain ⟨b0, b1⟩ := side_sq (d := y - Y) (by omega) (by omega)
  unfold sqD
  obtain ⟨A, hA⟩ : ∃ A, (x - X) * (x - X) = A := ⟨_, rfl⟩
  obtain ⟨B, hB⟩ : ∃ B, (y - Y) * (y - Y) = B := ⟨_, rfl⟩
  rw [hA] at a0 a1 ⊢
  rw [hB] at b0 b1 ⊢
  have u1 : wrap64 ((x - X) * (x - X)) = A := by rw [hA]; exact IntWalk.wrap64_in _ ⟨by omega, by omega⟩
  have u2 : wrap64 ((y - Y) * (y - Y)) = B := by rw [hB]; exact IntWalk.wrap64_in _ ⟨by omega, by omega⟩
  clear hA hB
  go_enter Try.func126, Try.ntmps126
  go_wp2
  go_ret
  exact ⟨rfl, (by repeat (first | exact Below.refl _ _ | refine Below.alloc ?_ (by first | omega | (simp; done) | (simp; omega)) _ | refine Below.setCell ?_ (by first | omega | (simp; done) | (simp; omega)) _ | refine Below.drew ?_))⟩

set_option maxHeartbeats 4000000 in
set_option maxRecDepth 100000 in
theorem rweight_any (k X Y R : Int) (h : Nat) (x y : Int) (w : World) (k1 : 1 ≤ k) (k3 : k ≤ 3) (X1 : -4194304 ≤ X) (X2 : X ≤ 4194304) (Y1 : -4194304 ≤ Y) (Y2 : Y ≤ 4194304) (r1 : 1 ≤ R) (r2 : R ≤ 256)
    (x1 : -4194304 ≤ x) (x2 : x ≤ 4194304) (y1 : -4194304 ≤ y) (y2 : y ≤ 4194304) :
    Calls Try.prog 40 #[bru k X Y R h, .int .i64 x, .int .i64 y] w fun e w' => e = .returned (.float .f32 (weiW k (sqD x y X Y) R)) ∧ Below w.heap.size w w' := by
  have SQ := Lib.hid (fun w => square_any x y X Y w X1 X2 Y1 Y2 x1 x2 y1 y2)
  obtain ⟨f0, f1⟩ := rad_sq r1 r2
  obtain ⟨N, hN⟩ : ∃ N, sqD x y X Y = N := ⟨_, rfl⟩
  have n0 : 0 ≤ N := by
    obtain ⟨a0, a1⟩ := side_sq (d := x - X) (by omega) (by omega)
    obtain ⟨b0, b1⟩ := side_sq (d := y - Y) (by omega) (by omega)
    rw [← hN]; unfold sqD; omega
  rw [hN] at SQ ⊢
  obtain ⟨F, hF⟩ : ∃ F, R * R = F := ⟨_, rfl⟩
  rw [hF] at f0 f1
  have wei : ∀ v, (if F ≤ N then 0 else if k = 2 then coneW N R else if k = 3 then mulW (bellT N F) (bellT N F) else 1065353216) = v → weiW k N R = v := fun v h => by unfold weiW; rw [hF]; exact h
  have u3 : wrap64 (R * R) = F := by rw [hF]; exact IntWalk.wrap64_in _ ⟨by omega, by omega⟩
  have u4 : IntKind.i64.wrap (R * R) = F := by rw [hF]; exact IntWalk.i64_in _ (by omega)
  have GB := Lib.hid (show (w.alloc (bruObj k X Y R h)).heap[w.heap.size]? = some (bruObj k X Y R h) from heap_alloc_new _ _)
  have zB : w.heap.size < (w.alloc (bruObj k X Y R h)).heap.size := by simp
  by_cases c : F ≤ N
  · rw [wei 0 (if_pos c)]
    clear wei hN hF n0
    go_enter Try.func40, Try.ntmps40
    go_wp2
    go_region_held3 (fun w' => (∀ o, w'.cell? ⟨w.heap.size, o, none⟩ = #[.int .i64 k, .int .i64 X, .int .i64 Y, .int .i64 R, .float .f32 h][o]?) ∧ Below (w.alloc (bruObj k X Y R h)).heap.size (w.alloc (bruObj k X Y R h)) w') (first | exact ⟨(blkC (blkStay GB.out hb9)).1, hb9⟩ | exact ⟨(blkC (blkStay GB.out (by repeat (first | exact Below.refl _ _ | refine Below.alloc ?_ (by first | omega | (simp; done) | (simp; omega)) _ | refine Below.setCell ?_ (by first | omega | (simp; done) | (simp; omega)) _ | refine Below.drew ?_)))).1, (by repeat (first | exact Below.refl _ _ | refine Below.alloc ?_ (by first | omega | (simp; done) | (simp; omega)) _ | refine Below.setCell ?_ (by first | omega | (simp; done) | (simp; omega)) _ | refine Below.drew ?_))⟩) (first | (go_at_call 126; (with_reducible refine Calls.mono (SQ.out _) ?_); rintro e w' ⟨rfl, hb8⟩; have hb9 : Below (w.alloc (bruObj k X Y R h)).heap.size (w.alloc (bruObj k X Y R h)) w' := Below.trans (by repeat (first | exact Below.refl _ _ | refine Below.alloc ?_ (by first | omega | (simp; done) | (simp; omega)) _ | refine Below.setCell ?_ (by first | omega | (simp; done) | (simp; omega)) _ | refine Below.drew ?_)) (Below.mono hb8 (by first | exact Nat.le_refl _ | (simp; done) | (simp; omega))); clear hb8))
    rename_i wh hHeld
    go_wp2
    go_ret
    exact ⟨rfl, Below.trans (by repeat (first | exact Below.refl _ _ | refine Below.alloc ?_ (by first | omega | (simp; done) | (simp; omega)) _ | refine Below.setCell ?_ (by first | omega | (simp; done) | (simp; omega)) _ | refine Below.drew ?_)) (hHeld.2.mono (by simp))⟩
  · rcases (show k = 1 ∨ k = 2 ∨ k = 3 by omega) with rfl | rfl | rfl
    · rw [wei 1065353216 (by rw [if_neg c, if_neg (by decide), if_neg (by decide)])]
      clear wei hN hF n0
      go_enter Try.func40, Try.ntmps40
      go_wp2
      go_region_held3 (fun w' => (∀ o, w'.cell? ⟨w.heap.size, o, none⟩ = #[.int .i64 1, .int .i64 X, .int .i64 Y, .int .i64 R, .float .f32 h][o]?) ∧ Below (w.alloc (bruObj 1 X Y R h)).heap.size (w.alloc (bruObj 1 X Y R h)) w') (first | exact ⟨(blkC (blkStay GB.out hb9)).1, hb9⟩ | exact ⟨(blkC (blkStay GB.out (by repeat (first | exact Below.refl _ _ | refine Below.alloc ?_ (by first | omega | (simp; done) | (simp; omega)) _ | refine Below.setCell ?_ (by first | omega | (simp; done) | (simp; omega)) _ | refine Below.drew ?_)))).1, (by repeat (first | exact Below.refl _ _ | refine Below.alloc ?_ (by first | omega | (simp; done) | (simp; omega)) _ | refine Below.setCell ?_ (by first | omega | (simp; done) | (simp; omega)) _ | refine Below.drew ?_))⟩) (first | (go_at_call 126; (with_reducible refine Calls.mono (SQ.out _) ?_); rintro e w' ⟨rfl, hb8⟩; have hb9 : Below (w.alloc (bruObj 1 X Y R h)).heap.size (w.alloc (bruObj 1 X Y R h)) w' := Below.trans (by repeat (first | exact Below.refl _ _ | refine Below.alloc ?_ (by first | omega | (simp; done) | (simp; omega)) _ | refine Below.setCell ?_ (by first | omega | (simp; done) | (simp; omega)) _ | refine Below.drew ?_)) (Below.mono hb8 (by first | exact Nat.le_refl _ | (simp; done) | (simp; omega))); clear hb8))
      rename_i wh hHeld
      go_wp2
      go_ret
      exact ⟨rfl, Below.trans (by repeat (first | exact Below.refl _ _ | refine Below.alloc ?_ (by first | omega | (simp; done) | (simp; omega)) _ | refine Below.setCell ?_ (by first | omega | (simp; done) | (simp; omega)) _ | refine Below.drew ?_)) (hHeld.2.mono (by simp))⟩
    · obtain ⟨XX, Z, cc, q, r, C⟩ := cone_parts n0 r1 r2 (by rw [hF]; omega)
      rw [wei r (by rw [if_neg c, if_pos rfl]; exact C.w)]
      have RT := Lib.hid (fun w => refRoot_any C.rt w)
      have DV := Lib.hid (fun w => refDiv_any 0 _ _ q C.q2 C.q1 w)
      have SB := Lib.hid (fun w => refSub_any 1 1065353216 q r C.r2 C.r1 w)
      clear C wei hN hF n0
      generalize rootW (floatOfInt .f32 N) = rt at *
      go_enter Try.func40, Try.ntmps40
      go_wp2
      go_region_held3 (fun w' => (∀ o, w'.cell? ⟨w.heap.size, o, none⟩ = #[.int .i64 2, .int .i64 X, .int .i64 Y, .int .i64 R, .float .f32 h][o]?) ∧ Below (w.alloc (bruObj 2 X Y R h)).heap.size (w.alloc (bruObj 2 X Y R h)) w') (first | exact ⟨(blkC (blkStay GB.out hb9)).1, hb9⟩ | exact ⟨(blkC (blkStay GB.out (by repeat (first | exact Below.refl _ _ | refine Below.alloc ?_ (by first | omega | (simp; done) | (simp; omega)) _ | refine Below.setCell ?_ (by first | omega | (simp; done) | (simp; omega)) _ | refine Below.drew ?_)))).1, (by repeat (first | exact Below.refl _ _ | refine Below.alloc ?_ (by first | omega | (simp; done) | (simp; omega)) _ | refine Below.setCell ?_ (by first | omega | (simp; done) | (simp; omega)) _ | refine Below.drew ?_))⟩) (first | (go_at_call 126; (with_reducible refine Calls.mono (SQ.out _) ?_); rintro e w' ⟨rfl, hb8⟩; have hb9 : Below (w.alloc (bruObj 2 X Y R h)).heap.size (w.alloc (bruObj 2 X Y R h)) w' := Below.trans (by repeat (first | exact Below.refl _ _ | refine Below.alloc ?_ (by first | omega | (simp; done) | (simp; omega)) _ | refine Below.setCell ?_ (by first | omega | (simp; done) | (simp; omega)) _ | refine Below.drew ?_)) (Below.mono hb8 (by first | exact Nat.le_refl _ | (simp; done) | (simp; omega))); clear hb8))
      rename_i wh hHeld
      obtain ⟨cB, hbh⟩ := hHeld
      go_wp2
      go_quiet (first | (go_at_call 102; exact Calls.quiet_of_same ((refConv_any _ _).mono fun _ _ h => ⟨h.1, h.2.symm⟩)) | (go_at_call 79; exact Calls.quiet_of_same ((RT.out _).mono fun _ _ h => ⟨h.1, h.2.symm⟩)) | (go_at_call 105; exact Calls.quiet_of_same ((DV.out _).mono fun _ _ h => ⟨h.1, h.2.symm⟩)) | (go_at_call 86; exact Calls.quiet_of_same ((SB.out _).mono fun _ _ h => ⟨h.1, h.2.symm⟩)))
      go_wp2
      go_ret
      exact ⟨rfl, Below.trans (Below.trans (show Below w.heap.size w _ from (by repeat (first | exact Below.refl _ _ | refine Below.alloc ?_ (by first | omega | (simp; done) | (simp; omega)) _ | refine Below.setCell ?_ (by first | omega | (simp; done) | (simp; omega)) _ | refine Below.drew ?_))) (hbh.mono (by simp))) ((below_drewN _ _).mono (by have := hbh.size; simp at this; omega))⟩
    · obtain ⟨q, t, r, C⟩ := bell_parts n0 f1 (by omega)
      rw [wei r (by rw [if_neg c, if_neg (by decide), if_pos rfl]; exact C.w)]
      have DV := Lib.hid (fun w => refDiv_any 0 _ _ q C.q2 C.q1 w)
      have SB := Lib.hid (fun w => refSub_any 1 1065353216 q t C.t2 C.t1 w)
      have ML := Lib.hid (fun w => refMul_any 0 t t r C.r2 C.r1 w)
      clear C wei hN hF n0
      go_enter Try.func40, Try.ntmps40
      go_wp2
      go_region_held3 (fun w' => (∀ o, w'.cell? ⟨w.heap.size, o, none⟩ = #[.int .i64 3, .int .i64 X, .int .i64 Y, .int .i64 R, .float .f32 h][o]?) ∧ Below (w.alloc (bruObj 3 X Y R h)).heap.size (w.alloc (bruObj 3 X Y R h)) w') (first | exact ⟨(blkC (blkStay GB.out hb9)).1, hb9⟩ | exact ⟨(blkC (blkStay GB.out (by repeat (first | exact Below.refl _ _ | refine Below.alloc ?_ (by first | omega | (simp; done) | (simp; omega)) _ | refine Below.setCell ?_ (by first | omega | (simp; done) | (simp; omega)) _ | refine Below.drew ?_)))).1, (by repeat (first | exact Below.refl _ _ | refine Below.alloc ?_ (by first | omega | (simp; done) | (simp; omega)) _ | refine Below.setCell ?_ (by first | omega | (simp; done) | (simp; omega)) _ | refine Below.drew ?_))⟩) (first | (go_at_call 126; (with_reducible refine Calls.mono (SQ.out _) ?_); rintro e w' ⟨rfl, hb8⟩; have hb9 : Below (w.alloc (bruObj 3 X Y R h)).heap.size (w.alloc (bruObj 3 X Y R h)) w' := Below.trans (by repeat (first | exact Below.refl _ _ | refine Below.alloc ?_ (by first | omega | (simp; done) | (simp; omega)) _ | refine Below.setCell ?_ (by first | omega | (simp; done) | (simp; omega)) _ | refine Below.drew ?_)) (Below.mono hb8 (by first | exact Nat.le_refl _ | (simp; done) | (simp; omega))); clear hb8))
      rename_i wh hHeld
      obtain ⟨cB, hbh⟩ := hHeld
      go_wp2_with (first | (go_at_call 102; refine (refConv_any _ _).mono ?_; rintro e w' ⟨rfl, rfl⟩) | (go_at_call 105; refine (DV.out _).mono ?_; rintro e w' ⟨rfl, rfl⟩) | (go_at_call 86; refine (SB.out _).mono ?_; rintro e w' ⟨rfl, rfl⟩) | (go_at_call 81; refine (ML.out _).mono ?_; rintro e w' ⟨rfl, rfl⟩))
      go_ret
      exact ⟨rfl, Below.trans (by repeat (first | exact Below.refl _ _ | refine Below.alloc ?_ (by first | omega | (simp; done) | (simp; omega)) _ | refine Below.setCell ?_ (by first | omega | (simp; done) | (simp; omega)) _ | refine Below.drew ?_)) (hbh.mono (by simp))⟩
end Go.Proofs.Ytjjhhnoeiglnhab
