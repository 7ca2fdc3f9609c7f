/- The closure of the reference's Paste; checkFields of two fields. -/
import Derived.Test.YtncgcjeihihkfaaCut5
namespace Go.Proofs.Ytncgcjeihihkfaa
open Go.RowKit Fl
set_option linter.unusedVariables false

/-- Two fields that lie in a row. -/
abbrev twoFlds (X Y W H : Int) (s : Value) (X2 Y2 W2 H2 : Int) (s2 : Value) : Obj := .cells #[.int .i64 X, .int .i64 Y, .int .i64 W, .int .i64 H, s, .int .i64 X2, .int .i64 Y2, .int .i64 W2, .int .i64 H2, s2] 36

set_option maxHeartbeats 2000000 in
theorem checkFields_two (X Y : Int) (W H n b cap : Nat) (v : Nat → Nat) (X2 Y2 : Int) (W2 H2 n2 b2 cap2 : Nat) (v2 : Nat → Nat) (p : Nat) (w : World) (h0 : checkR X Y W H = 0) (hn : n = W * H) (hc : FlAt w b 0 n v) (hh : allB n (fun i => hgtB (v i)) = true)
    (h02 : checkR X2 Y2 W2 H2 = 0) (hn2 : n2 = W2 * H2) (hc2 : FlAt w b2 0 n2 v2) (hh2 : allB n2 (fun i => hgtB (v2 i)) = true) (hp : w.heap[p]? = some (twoFlds X Y W H (.slice (some ⟨b, 0, none⟩) n cap) X2 Y2 W2 H2 (.slice (some ⟨b2, 0, none⟩) n2 cap2))) :
    Calls Try.prog 62 #[.slice (some ⟨p, 0, none⟩) 2 2] w fun e w' => e = .returned (.int .i64 0) ∧ Below w.heap.size w w' := by
  have pos : ∀ {A B : Nat} {X Y : Int}, checkR X Y A B = 0 → 1 ≤ A * B := fun h => Nat.mul_pos (by obtain ⟨a, _⟩ := checkR_zero h; omega) (by obtain ⟨_, _, a, _⟩ := checkR_zero h; omega)
  have hlt : b < w.heap.size := World.block_lt_of_cell? w _ (hc 0 (by rw [hn]; exact pos h0))
  have hlt2 : b2 < w.heap.size := World.block_lt_of_cell? w _ (hc2 0 (by rw [hn2]; exact pos h02))
  have C1 := Lib.hid (fun W' (hb : Below w.heap.size w W') => check_ok X Y W H n b cap v W' h0 hn (flAt_congr hc (hb.block _ hlt)) hh)
  have C2 := Lib.hid (fun W' (hb : Below w.heap.size w W') => check_ok X2 Y2 W2 H2 n2 b2 cap2 v2 W' h02 hn2 (flAt_congr hc2 (hb.block _ hlt2)) hh2)
  have HP := Lib.hid hp
  clear h0 hn hc hh h02 hn2 hc2 hh2 hp hlt hlt2 pos
  go_enter Try.func62, Try.ntmps62
  go_wp2
  go_loopw [8] (fun i wr => ∃ k : Nat, k ≤ 2 ∧ i = .int .i64 k ∧ Below w.heap.size w wr) (fun i _ => 2 - (intOf i).toNat)
  case atStart => exact ⟨0, by omega, rfl, Below.refl _ _⟩
  case round =>
    obtain ⟨k, hk, rfl, hb⟩ := hrel
    have GP := Lib.hid (blkStay HP.out hb)
    obtain ⟨cP, fP, zP⟩ := blkC GP.out
    have : k = 0 ∨ k = 1 ∨ k = 2 := by omega
    rcases this with rfl | rfl | rfl
    · go_wp2_with (first | (go_at_call 89; refine (C1.out _ (hb.alloc hb.size _)).mono ?_; rintro e w2 ⟨rfl, hb2⟩))
      go_roundw
      case rel => exact ⟨1, by omega, by go_num, (hb.alloc hb.size _).trans (hb2.mono (hb.alloc hb.size _).size)⟩
      case measure => simp [intOf]
    · go_wp2_with (first | (go_at_call 89; refine (C2.out _ (hb.alloc hb.size _)).mono ?_; rintro e w2 ⟨rfl, hb2⟩))
      go_roundw
      case rel => exact ⟨2, by omega, by go_num, (hb.alloc hb.size _).trans (hb2.mono (hb.alloc hb.size _).size)⟩
      case measure => simp [intOf]
    · go_wp2
      go_ret
      exact ⟨rfl, hb⟩
end Go.Proofs.Ytncgcjeihihkfaa
