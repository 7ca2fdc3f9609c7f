/- Contracts: weight of the program; square and Weight of the reference. -/
import Derived.Test.YtjjhhnoeiglnhabBru2
namespace Go.Proofs.Ytjjhhnoeiglnhab
open Go.RowKit Fl
set_option linter.unusedVariables false

theorem side_sq {d : Int} (a : -8388608 ≤ d) (b : d ≤ 8388608) : 0 ≤ d * d ∧ d * d ≤ 70368744177664 := by
  have := Int.natAbs_mul d d
  have h : d * d = ((d.natAbs * d.natAbs : Nat) : Int) := by rw [Int.natCast_mul]; exact (Int.natAbs_mul_self' d).symm
  have l : d.natAbs * d.natAbs ≤ 8388608 * 8388608 := Nat.mul_le_mul (by omega) (by omega)
  omega
theorem rad_sq {R : Int} (r1 : 1 ≤ R) (r2 : R ≤ 256) : 1 ≤ R * R ∧ R * R ≤ 65536 := by
  have a := Int.mul_le_mul r2 r2 (by omega) (by omega)
  have b := Int.mul_le_mul r1 r1 (by omega) (by omega)
  omega

theorem drewBox (w : World) (o : Obj) (k : Nat) {w' : World} (h : w' = (w.alloc o).drewN k) : Below w.heap.size w w' := by
  rw [h]
  exact ((Below.refl _ _).alloc (Nat.le_refl _) _).trans ((below_drewN _ _).mono (by simp))
theorem drewBox2 (w : World) (o : Obj) (j k : Nat) {w' : World} (h : w' = ((w.alloc o).drewN j).drewN k) : Below w.heap.size w w' := by
  rw [h, World.drewN_drewN]; exact drewBox w o _ rfl

set_option maxHeartbeats 4000000 in
set_option maxRecDepth 100000 in
theorem weight_any (k X Y R : Int) (h : Nat) (x y : Int) (w : World) (k1 : 1 ≤ k) (k3 : k ≤ 3) (X1 : -4194304 ≤ X) (X2 : X ≤ 4194304) (Y1 : -4194304 ≤ Y) (Y2 : Y ≤ 4194304) (r1 : 1 ≤ R) (r2 : R ≤ 256)
    (x1 : -4194304 ≤ x) (x2 : x ≤ 4194304) (y1 : -4194304 ≤ y) (y2 : y ≤ 4194304) :
    Calls Try.prog 123 #[bru k X Y R h, .int .i64 x, .int .i64 y] w fun e w' => e = .returned (.float .f32 (weiW k (sqD x y X Y) R)) ∧ Below w.heap.size w w' := by
  obtain ⟨a0, a1⟩ := side_sq (d := x - X) (by omega) (by omega)
  obtain ⟨b0, b1⟩ := side_sq (d := y - Y) (by omega) (by omega)
  obtain ⟨f0, f1⟩ := rad_sq r1 r2
  obtain ⟨A, hA⟩ : ∃ A, (x - X) * (x - X) = A := ⟨_, rfl⟩
  obtain ⟨B, hB⟩ : ∃ B, (y - Y) * (y - Y) = B := ⟨_, rfl⟩
  obtain ⟨F, hF⟩ : ∃ F, R * R = F := ⟨_, rfl⟩
  have hS : sqD x y X Y = A + B := by unfold sqD; rw [hA, hB]
  rw [hA] at a0 a1
  rw [hB] at b0 b1
  rw [hF] at f0 f1
  have n0 : 0 ≤ A + B := by omega
  have wei : ∀ v, (if F ≤ A + B then 0 else if k = 2 then coneW (A + B) R else if k = 3 then mulW (bellT (A + B) F) (bellT (A + B) F) else 1065353216) = v → weiW k (sqD x y X Y) R = v := fun v h => by rw [hS]; unfold weiW; rw [hF]; exact h
  have u1 : wrap64 ((x - X) * (x - X)) = A := by rw [hA]; exact IntWalk.wrap64_in _ ⟨by omega, by omega⟩
  have u2 : wrap64 ((y - Y) * (y - Y)) = B := by rw [hB]; exact IntWalk.wrap64_in _ ⟨by omega, by omega⟩
  have u3 : wrap64 (R * R) = F := by rw [hF]; exact IntWalk.wrap64_in _ ⟨by omega, by omega⟩
  have v6 : wrap64 (A + B) = A + B := IntWalk.wrap64_in _ ⟨by omega, by omega⟩
  by_cases c : F ≤ A + B
  · rw [wei 0 (if_pos c)]
    clear wei hS n0 hA hB hF
    go_enter Try.func123, Try.ntmps123
    go_wp2
    go_quiet (fail)
    go_wp2
    go_quiet (fail)
    go_wp2
    go_ret
    exact ⟨rfl, by first | exact drewBox w _ _ rfl | exact drewBox2 w _ _ _ rfl⟩
  · rcases (show k = 1 ∨ k = 2 ∨ k = 3 by omega) with rfl | rfl | rfl
    · rw [wei 1065353216 (by rw [if_neg c, if_neg (by decide), if_neg (by decide)])]
      clear wei hS n0 hA hB hF
      go_enter Try.func123, Try.ntmps123
      go_wp2
      go_quiet (fail)
      go_wp2
      go_quiet (fail)
      go_wp2
      go_ret
      exact ⟨rfl, by first | exact drewBox w _ _ rfl | exact drewBox2 w _ _ _ rfl⟩
    · obtain ⟨XX, Z, cc, q, r, C⟩ := cone_parts n0 r1 r2 (by rw [hF]; omega)
      rw [wei r (by rw [if_neg c, if_pos rfl]; exact C.w)]
      have RT := Lib.hid (fun w => root_any C.rt w)
      have a2 := fun (W : World) => run_float_arith (P := Try.prog) W .quo 37 .f32 _ _ q C.q1
      have a3 := fun (W : World) => run_float_arith (P := Try.prog) W .sub 37 .f32 1065353216 q r C.r1
      clear C
      generalize rootW (floatOfInt .f32 (A + B)) = rt at *
      clear wei hS n0 hA hB hF
      go_enter Try.func123, Try.ntmps123
      go_wp2
      go_quiet (fail)
      go_wp2
      go_quiet (fail)
      go_wp2
      go_quiet ((go_at_call 163; exact (RT.out _).mono fun _ _ h => ⟨h.1, _, h.2.symm⟩))
      go_wp2
      go_ret
      exact ⟨rfl, by first | exact drewBox w _ _ rfl | exact drewBox2 w _ _ _ rfl⟩
    · obtain ⟨q, t, r, C⟩ := bell_parts n0 f1 (by omega)
      rw [wei r (by rw [if_neg c, if_neg (by decide), if_pos rfl]; exact C.w)]
      have a2 := fun (W : World) => run_float_arith (P := Try.prog) W .quo 37 .f32 _ _ q C.q1
      have a3 := fun (W : World) => run_float_arith (P := Try.prog) W .sub 37 .f32 1065353216 q t C.t1
      have a4 := fun (W : World) => run_float_arith (P := Try.prog) W .mul 37 .f32 t t r C.r1
      clear C
      clear wei hS n0 hA hB hF
      go_enter Try.func123, Try.ntmps123
      go_wp2
      go_quiet (fail)
      go_wp2
      go_quiet (fail)
      go_wp2
      go_ret
      exact ⟨rfl, by first | exact drewBox w _ _ rfl | exact drewBox2 w _ _ _ rfl⟩
end Go.Proofs.Ytjjhhnoeiglnhab
