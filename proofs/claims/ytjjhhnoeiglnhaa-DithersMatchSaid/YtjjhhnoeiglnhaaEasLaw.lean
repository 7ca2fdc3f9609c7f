/- EaseMatches: Ease answers as the reference does, and from 0 to 1. -/
import Derived.Test.YtjjhhnoeiglnhaaEas
import Derived.Test.YtjjhhnoeiglnhaaHshLaw
import Derived.Test.YtjjhhnoeiglnhaaGen
namespace Go.Proofs.Ytjjhhnoeiglnhaa
open Go.RowKit Fl
set_option linter.unusedVariables false

set_option maxHeartbeats 400000 in
theorem one_ok (x : Nat) (w : World) :
    Calls Try.prog 33 #[.float .f32 x, .int .i64 0, .float .f32 x, .int .i64 0] w fun e w' => e = .returned (.bool true) ∧ w = w' := by
  go_enter Try.func33, Try.ntmps33
  go_wp2_with (go_at_call 40; refine (bits_self _ _).mono ?_; rintro e w' ⟨rfl, rfl⟩)
  go_ret
  exact ⟨rfl, rfl⟩

set_option maxHeartbeats 400000 in
theorem one_err (b : Nat) (k : Int) (hk : k = 2 ∨ k = 3 ∨ k = 4 ∨ k = 5) (w : World) :
    Calls Try.prog 33 #[.float .f32 0, .int .i64 k, .float .f32 b, .int .i64 k] w fun e w' => e = .returned (.bool true) ∧ w = w' := by
  rcases hk with rfl | rfl | rfl | rfl
  all_goals go_enter Try.func33, Try.ntmps33
  all_goals go_wp2_with (go_at_call 40; refine (bits_self _ _).mono ?_; rintro e w' ⟨rfl, rfl⟩)
  all_goals go_ret
  all_goals exact ⟨rfl, rfl⟩

theorem zero_geq : (FloatKind.f32.format.order 0 0 == some .gt || FloatKind.f32.format.order 0 0 == some .eq) = true := by rw [f32f, geq_val vS_zero vS_zero]; simp
theorem zero_leq : (FloatKind.f32.format.order 0 1065353216 == some .lt || FloatKind.f32.format.order 0 1065353216 == some .eq) = true := by
  rw [f32f, leq_val vS_zero vS_one]; simp
set_option maxHeartbeats 1000000 in
theorem easeMatches_bad (t : Nat) (k k' : Int) (hk : k = 2 ∨ k = 3) (ht : t < 4294967296) (h1 : wiE t 0 1065353216 = k) (h2 : fldE 1 (fun _ => t) = k') 
    (h3 : (k' = k) ∨ (k' = 0 ∧ k = 3 ∧ (FloatKind.f32.format.order t 0 == some .lt) = true) ∨ (k' = 0 ∧ k = 3 ∧ (FloatKind.f32.format.order t 0 == some .lt) = false ∧ (FloatKind.f32.format.order t 1065353216 == some .gt) = true)) (w : World) :
    Calls Try.prog 8 #[.float .f32 t] w fun e w' => e = .returned (.bool true) ∧ Below w.heap.size w w' := by
  have EN := Lib.hid (fun w => easeX_no t k h1 hk w)
  have HT := Lib.hid (fun w => refHeight_one t ht w)
  have ON := Lib.hid (fun b w => one_err b k (by omega) w)
  rw [h2] at HT
  have z1 := zero_geq
  have z2 := zero_leq
  clear h1 h2 ht
  rcases h3 with rfl | ⟨rfl, rfl, c1⟩ | ⟨rfl, rfl, c1, c2⟩
  · rcases hk with rfl | rfl
    all_goals go_enter Try.func8, Try.ntmps8
    all_goals go_wp2_with (first | (go_at_call 15; refine (landed_any _).mono ?_; rintro e w1 ⟨rfl, hb1⟩) | (go_at_call 43; refine (EN.out _).mono ?_; rintro e w' ⟨rfl, rfl⟩) | (go_at_call 44; refine (HT.out _).mono ?_; rintro e w' ⟨rfl, rfl⟩) | (go_at_call 45; refine (refEase_loose _ _).mono ?_; rintro e w' ⟨r, n, rfl, rfl⟩) | (go_at_call 33; refine (ON.out _ _).mono ?_; rintro e w' ⟨rfl, rfl⟩))
    all_goals go_ret
    all_goals exact ⟨rfl, Below.trans hb1 (Below.mono (Go.below_drewN (Below.alloc (Below.refl w1.heap.size w1) (Nat.le_refl _) _) _) (by have := hb1.size; omega))⟩
  all_goals clear hk
  all_goals go_enter Try.func8, Try.ntmps8
  all_goals go_wp2_with (first | (go_at_call 15; refine (landed_any _).mono ?_; rintro e w1 ⟨rfl, hb1⟩) | (go_at_call 43; refine (EN.out _).mono ?_; rintro e w' ⟨rfl, rfl⟩) | (go_at_call 44; refine (HT.out _).mono ?_; rintro e w' ⟨rfl, rfl⟩) | (go_at_call 45; refine (refEase_loose _ _).mono ?_; rintro e w' ⟨r, n, rfl, rfl⟩) | (go_at_call 33; refine (ON.out _ _).mono ?_; rintro e w' ⟨rfl, rfl⟩))
  all_goals go_ret
  all_goals exact ⟨rfl, Below.trans hb1 (Below.mono (Go.below_drewN (Below.alloc (Below.refl w1.heap.size w1) (Nat.le_refl _) _) _) (by have := hb1.size; omega))⟩

set_option maxHeartbeats 1000000 in
theorem easeMatches_good (t p q r v : Nat) (E : EaseAt t p q r v) (ht : t < 4294967296) (h1 : wiE t 0 1065353216 = 0) (h2 : fldE 1 (fun _ => t) = 0)
    (c1 : (FloatKind.f32.format.order t 0 == some .lt) = false) (c2 : (FloatKind.f32.format.order t 1065353216 == some .gt) = false)
    (c3 : (FloatKind.f32.format.order (easeW t) 0 == some .gt || FloatKind.f32.format.order (easeW t) 0 == some .eq) = true) (c4 : (FloatKind.f32.format.order (easeW t) 1065353216 == some .lt || FloatKind.f32.format.order (easeW t) 1065353216 == some .eq) = true) (w : World) :
    Calls Try.prog 8 #[.float .f32 t] w fun e w' => e = .returned (.bool true) ∧ Below w.heap.size w w' := by
  have EN := Lib.hid (fun w => easeX_ok t p q r v E h1 w)
  have RN := Lib.hid (fun w => refEase_any t p q r v E w)
  have HT := Lib.hid (fun w => refHeight_one t ht w)
  rw [h2] at HT
  clear h1 h2 ht E
  go_enter Try.func8, Try.ntmps8
  go_wp2_with (first | (go_at_call 15; refine (landed_any _).mono ?_; rintro e w1 ⟨rfl, hb1⟩) | (go_at_call 43; refine (EN.out _).mono ?_; rintro e w' ⟨rfl, rfl⟩) | (go_at_call 44; refine (HT.out _).mono ?_; rintro e w' ⟨rfl, rfl⟩) | (go_at_call 45; refine (RN.out _).mono ?_; rintro e w' ⟨rfl, rfl⟩) | (go_at_call 33; refine (one_ok _ _).mono ?_; rintro e w' ⟨rfl, rfl⟩))
  go_ret
  exact ⟨rfl, Below.trans hb1 (Below.mono (Below.alloc (Below.refl w1.heap.size w1) (Nat.le_refl _) _) (by have := hb1.size; omega))⟩

theorem easeMatches_any (t : Nat) (ht : t < 4294967296) (w : World) :
    Calls Try.prog 8 #[.float .f32 t] w fun e w' => e = .returned (.bool true) ∧ Below w.heap.size w w' := by
  cases hf : finB t with
  | false => exact easeMatches_bad t 2 2 (.inl rfl) ht (by unfold wiE; rw [if_pos hf]) (by simp [fldE, allB, List.range_succ, hf]) (.inl rfl) w
  | true =>
    obtain ⟨a, ha⟩ := Option.isSome_iff_exists.1 (show (vS t).isSome = true from hf)
    have l0 := lss_val ha vS_zero
    have g1 := gtr_val ha vS_one
    rw [← f32f] at l0 g1
    have hw : ∀ P : Prop, ((FloatKind.f32.format.order t 0 == some .lt) = true ∨ (FloatKind.f32.format.order t 1065353216 == some .gt) = true) → wiE t 0 1065353216 = 3 := fun _ c => by
      unfold wiE; rw [if_neg (by rw [hf]; simp), if_pos c]
    cases hh : hgtB t with
    | false =>
      refine easeMatches_bad t 3 3 (.inr rfl) ht (hw True ?_) (by simp [fldE, hgtE, allB, List.range_succ, hf, hh]) (.inl rfl) w
      have := one_vTop
      have h0 : (0 : Int) < (one : Int) := Int.natCast_pos.2 one_pos
      unfold hgtB at hh
      rw [ha] at hh
      rw [l0, g1]
      simp at hh ⊢
      omega
    | true =>
      have h2 : fldE 1 (fun _ => t) = 0 := fldE_one_ok hh
      cases c1 : (FloatKind.f32.format.order t 0 == some .lt) with
      | true => exact easeMatches_bad t 3 0 (.inr rfl) ht (hw True (.inl c1)) h2 (.inr (.inl ⟨rfl, rfl, c1⟩)) w
      | false =>
        cases c2 : (FloatKind.f32.format.order t 1065353216 == some .gt) with
        | true => exact easeMatches_bad t 3 0 (.inr rfl) ht (hw True (.inr c2)) h2 (.inr (.inr ⟨rfl, rfl, c1, c2⟩)) w
        | false =>
          rw [c1] at l0
          rw [c2] at g1
          have a0 : 0 ≤ a := by have := l0.symm; simp at this; omega
          have a1 : a ≤ (one : Int) := by have := g1.symm; simp at this; omega
          obtain ⟨p, q, r, v, E⟩ := ease_parts (bd_unit ha (by omega) a1)
          obtain ⟨c, hc, b0, b1⟩ := ease_in ha a0 a1
          exact easeMatches_good t p q r v E ht (by unfold wiE; rw [if_neg (by rw [hf]; simp), if_neg (by rw [c1, c2]; simp)]) h2 c1 c2 (by rw [f32f, geq_val hc vS_zero]; simpa using b0) (by rw [f32f, leq_val hc vS_one]; simpa using b1) w
end Go.Proofs.Ytjjhhnoeiglnhaa
