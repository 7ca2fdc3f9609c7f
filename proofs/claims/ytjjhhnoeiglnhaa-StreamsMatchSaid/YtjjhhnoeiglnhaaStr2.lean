/- Contracts: NewStream of both sides; Below and Unit of streams. -/
import Derived.Test.YtjjhhnoeiglnhaaStr
namespace Go.Proofs.Ytjjhhnoeiglnhaa
open Go.RowKit Fl
set_option linter.unusedVariables false

/-- The first state. -/
def st0 (s x y : Int) : Int := max (hashI s x y 10) 1

set_option maxHeartbeats 400000 in
theorem newStream_any (s x y : Int) (w : World) :
    Calls Try.prog 46 #[.int .u32 s, .int .i64 x, .int .i64 y] w fun e w' => e = .returned (.pointer (some ⟨w.heap.size, 0, none⟩)) ∧ w' = w.alloc (.cells #[.int .u32 (st0 s x y)] 115) := by
  go_enter Try.func46, Try.ntmps46
  go_wp2_with (go_at_call 38; refine (hash_any _ _ _ _ _).mono ?_; rintro e w' ⟨rfl, rfl⟩)
  all_goals go_ret
  · exact ⟨rfl, by rw [show st0 s x y = 1 by unfold st0; omega]⟩
  · exact ⟨rfl, by rw [show st0 s x y = hashI s x y 10 by unfold st0; omega]⟩

/-- A new stream of the reference. -/
def NewS (w : World) (s0 : Int) (e : Ending) (w' : World) : Prop := ∃ b, e = .returned (.pointer (some ⟨b, 0, none⟩)) ∧ w.heap.size ≤ b ∧ SAt 117 w' b s0 ∧ Below w.heap.size w w'

set_option maxHeartbeats 400000 in
theorem refNewStream_any (s x y : Int) (w : World) :
    Calls Try.prog 47 #[.int .u32 s, .int .i64 x, .int .i64 y] w (NewS w (st0 s x y)) := by
  go_enter Try.func47, Try.ntmps47
  go_wp2_with (go_at_call 39; refine (refHash_any _ _ _ _ _).mono ?_; rintro e w1 ⟨rfl, hb1⟩)
  all_goals go_ret
  · refine ⟨_, rfl, hb1.size, ?_, hb1.alloc hb1.size _⟩
    rw [show st0 s x y = 1 by unfold st0; omega]
    exact by unfold SAt; rw [heap_alloc_get, if_pos rfl]
  · refine ⟨_, rfl, hb1.size, ?_, hb1.alloc hb1.size _⟩
    rw [show st0 s x y = hashI s x y 10 by unfold st0; omega]
    exact by unfold SAt; rw [heap_alloc_get, if_pos rfl]

theorem mulShr (a n : Int) (h0 : 0 ≤ a) (h1 : a < 4294967296) (n0 : 1 ≤ n) (n1 : n ≤ 2147483647) : 0 ≤ a * n ∧ a * n < 18446744073709551616 ∧ 0 ≤ a * n / 4294967296 ∧ a * n / 4294967296 < n := by
  have p := Int.mul_nonneg h0 (by omega : 0 ≤ n)
  have q : a * n ≤ 4294967295 * n := Int.mul_le_mul_of_nonneg_right (by omega) (by omega)
  refine ⟨p, by omega, by omega, by omega⟩

set_option maxHeartbeats 1000000 in
theorem streamBelow_ok (b : Nat) (s n : Int) (w : World) (h : SAt 115 w b s) (n0 : 1 ≤ n) (n1 : n ≤ 2147483647) :
    Calls Try.prog 50 #[.pointer (some ⟨b, 0, none⟩), .int .i64 n] w fun e w' => e = .returned (.tuple #[.int .i64 (nxI s * n / 4294967296), .int .i64 0]) ∧ SAt 115 w' b (nxI s) ∧ OneBlk b w w' := by
  obtain ⟨s0, s1⟩ := nxI_in s
  obtain ⟨p0, p1, p2, p3⟩ := mulShr (nxI s) n s0 s1 n0 n1
  have NX := Lib.hid (next_any b s w h)
  have W := Lib.hid (fun w => within_any n 1 2147483647 w)
  rw [show withinB n 1 2147483647 = true by rw [withinB_iff]; omega] at W
  clear h
  go_enter Try.func50, Try.ntmps50
  go_wp2_with (first | (go_at_call 78; refine (W.out _).mono ?_; rintro e w' ⟨rfl, rfl⟩) | (go_at_call 48; refine NX.out.mono ?_; rintro e w' ⟨rfl, hs, ho⟩; have HS := Lib.hid hs; have HO := Lib.hid ho; clear hs ho))
  go_ret2
  exact ⟨rfl, HS.out, HO.out⟩

set_option maxHeartbeats 1000000 in
theorem streamBelow_no (b : Nat) (n : Int) (w : World) (hn : n < 1 ∨ 2147483647 < n) :
    Calls Try.prog 50 #[.pointer (some ⟨b, 0, none⟩), .int .i64 n] w fun e w' => e = .returned (.tuple #[.int .i64 0, .int .i64 3]) ∧ w = w' := by
  have W := Lib.hid (fun w => within_any n 1 2147483647 w)
  rw [show withinB n 1 2147483647 = false by rw [withinB_no]; omega] at W
  clear hn
  go_enter Try.func50, Try.ntmps50
  go_wp2_with (first | (go_at_call 78; refine (W.out _).mono ?_; rintro e w' ⟨rfl, rfl⟩))
  go_ret2
  exact ⟨rfl, rfl⟩

set_option maxHeartbeats 1000000 in
theorem streamUnit_any (b : Nat) (s : Int) (w : World) (h : SAt 115 w b s) :
    Calls Try.prog 51 #[.pointer (some ⟨b, 0, none⟩)] w fun e w' => e = .returned (.float .f32 (unitW (nxI s))) ∧ SAt 115 w' b (nxI s) ∧ OneBlk b w w' := by
  have NI := Lib.hid (nxI_in s)
  have NX := Lib.hid (next_any b s w h)
  clear h
  go_enter Try.func51, Try.ntmps51
  go_wp2_with (first | (go_at_call 36; refine (unit_any _ _ NI.out.1 NI.out.2).mono ?_; rintro e w' ⟨rfl, rfl⟩) | (go_at_call 48; refine NX.out.mono ?_; rintro e w' ⟨rfl, hs, ho⟩; have HS := Lib.hid hs; have HO := Lib.hid ho; clear hs ho))
  go_ret
  exact ⟨rfl, HS.out, HO.out⟩

/-- What holds at the head of a round: both streams in one state, in blocks of their own. -/
structure Both (B b1 b2 : Nat) (w wr : World) : Prop where
  ex : ∃ s, SAt 115 wr b1 s ∧ SAt 117 wr b2 s
  lo : B ≤ b1
  ne : b1 < b2
  below : Below B w wr

/-- One step of both. -/
theorem Both.step {B b1 b2 : Nat} {w wr w1 w2 : World} {t : Int} (h : Both B b1 b2 w wr) (o1 : OneBlk b1 wr w1) (o2 : OneBlk b2 w1 w2) (a1 : SAt 115 w1 b1 t) (a2 : SAt 117 w2 b2 t) : Both B b1 b2 w w2 :=
  ⟨⟨t, a1.other o2 (by have := h.ne; omega), a2⟩, h.lo, h.ne, (h.below.trans (o1.below h.lo)).trans (o2.below (by have := h.lo; have := h.ne; omega))⟩

end Go.Proofs.Ytjjhhnoeiglnhaa
