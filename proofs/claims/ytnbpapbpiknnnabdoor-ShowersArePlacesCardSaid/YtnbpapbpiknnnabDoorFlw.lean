/- Contract: flows, which each law of chapters 4, 5, 6, 9 and 10 asks first. -/
import Derived.Test.YtnbpapbpiknnnabDoorFil6
namespace Go.Proofs.YtnbpapbpiknnnabDoor
open Go.RowKit Fl Go.Shelf
set_option linter.unusedVariables false

/-- The heights of flows' field: a pit within a wall. -/
def flowV (i : Nat) : Nat := if i = 4 then 0 else 1084227584
theorem flow_step : stepW 0 1084227584 0 = 1084227584 := by kernel_rfl
theorem flow_hgt : hgtB 1084227584 = true := by kernel_rfl
theorem flow_hgt0 : hgtB 0 = true := by kernel_rfl
theorem flow_wiE : wiE 0 0 1149239296 = 0 := by
  have e : decide (wiE 0 0 1149239296 = 0) = true := by kernel_rfl
  exact of_decide_eq_true e
theorem flow_slope : SlW 0 := ⟨0, vS_zero, Int.le_refl _, Int.mul_nonneg (by decide) (Int.natCast_nonneg _)⟩
theorem flow_checkR : checkR 0 0 3 3 = 0 := by decide
theorem flow_all : allB 9 (fun i => hgtB (flowV i)) = true := allB_iff.2 fun i hi => by
  unfold flowV
  by_cases h : i = 4
  · rw [if_pos h]; exact flow_hgt0
  · rw [if_neg h]; exact flow_hgt
theorem flow_spill {s : Nat → Nat} (S : Spills (gndOf 3 3 flowV 0) s) : s 4 = 1084227584 ∧ allB 9 (fun i => hgtB (s i)) = true := by
  have b : ∀ k, k < 9 → k ≠ 4 → s k = 1084227584 := fun k hk h4 => by
    have e : bdB 3 3 k = true := bdB_iff.2 (by omega)
    have q : s k = flowV k := S.bor k hk e
    rw [q]; unfold flowV; rw [if_neg h4]
  have c : s 4 = 1084227584 := by
    obtain ⟨rk, hr⟩ := S.par
    obtain ⟨p, hp, _, hlt, e⟩ := hr 4 (by show 4 < 3 * 3; omega) (by show bdB 3 3 4 = false; decide)
    have ne : p ≠ 4 := by rintro rfl; omega
    have q : s 4 = stepW 0 (s p) 0 := e
    rw [q, b p hp ne]; exact flow_step
  refine ⟨c, allB_iff.2 fun i hi => ?_⟩
  have : s i = 1084227584 := by
    by_cases h : i = 4
    · subst h; exact c
    · exact b i hi h
  rw [this]; exact flow_hgt

theorem flow_row (w : World) : FlAt (w.alloc (.cells #[.float .f32 1084227584, .float .f32 1084227584, .float .f32 1084227584, .float .f32 1084227584, .float .f32 0, .float .f32 1084227584, .float .f32 1084227584, .float .f32 1084227584, .float .f32 1084227584] 27)) w.heap.size 0 9 flowV := by
  intro i hi
  rw [Nat.zero_add, (blkC (heap_alloc_new w _)).1 i]
  have : i = 0 ∨ i = 1 ∨ i = 2 ∨ i = 3 ∨ i = 4 ∨ i = 5 ∨ i = 6 ∨ i = 7 ∨ i = 8 := by omega
  rcases this with rfl | rfl | rfl | rfl | rfl | rfl | rfl | rfl | rfl <;> rfl

theorem flowFilled_any (w : World) (b : Nat) (hc : FlAt w b 0 9 flowV) (hD : DirsAt w) :
    Calls Tryd.prog 15 #[fldV 0 0 3 3 (.slice (some ⟨b, 0, none⟩) 9 9), .float .f32 0] w (fun e w' => ∃ b' cap', e = .returned (.tuple #[fldV 0 0 3 3 (.slice (some ⟨b', 0, none⟩) 9 cap'), .int .i64 0]) ∧ w'.cell? ⟨b', 4, none⟩ = some (.float .f32 1084227584) ∧ Below w.heap.size w w') := by
  have F := filled_any 0 0 3 3 9 b 9 flowV 0 w flow_checkR rfl (by omega) (by omega) hc flow_all flow_slope flow_wiE hD
  refine Calls.mono F ?_
  rintro e w' ⟨s, S, h⟩
  obtain ⟨s4, sh⟩ := flow_spill S
  rcases h with ⟨_, b', cap', rfl, h1, h2, h3, h4⟩ | ⟨hno, _⟩
  · have q := h3 4 (by omega)
    rw [s4] at q
    exact ⟨b', cap', rfl, q, h4⟩
  · rw [sh] at hno; cases hno

set_option maxRecDepth 100000 in
set_option maxHeartbeats 4000000 in
theorem flows_any (w : World) (hD : DirsAt w) : Calls Tryd.prog 20 #[] w fun e w' => e = .returned (.bool true) ∧ Below w.heap.size w w' := by
  have FA := Lib.hid (fun W' b (hc : FlAt W' b 0 9 flowV) (hB : Below w.heap.size w W') => flowFilled_any W' b hc (hD.stay hB))
  clear hD
  go_enter Tryd.func20, Tryd.ntmps20
  go_wp2_with (first | (go_at_call 15; refine (FA.out _ _ (flow_row _) (by repeat (first | exact Below.refl _ _ | refine Below.alloc ?_ (by first | omega | (simp; done) | (simp; omega)) _ | refine Below.setCell ?_ (by first | omega | (simp; done) | (simp; omega)) _ | refine Below.drew ?_))).mono ?_; rintro e w2 ⟨b', cap', rfl, q, hb⟩; have hB2 : Below w.heap.size w w2 := Below.trans (by repeat (first | exact Below.refl _ _ | refine Below.alloc ?_ (by first | omega | (simp; done) | (simp; omega)) _ | refine Below.setCell ?_ (by first | omega | (simp; done) | (simp; omega)) _ | refine Below.drew ?_)) (Below.mono hb (by first | omega | (simp; done) | (simp; omega))); have z2 := World.block_lt_of_cell? w2 _ q; clear hb))
  go_ret
  exact ⟨rfl, hB2.alloc hB2.size _⟩
end Go.Proofs.YtnbpapbpiknnnabDoor
