/- The closure of the reference's Paste; checkFields of two fields. -/
import Derived.Test.YtgkpkpbigmcapaaCut5
namespace Go.Proofs.Ytgkpkpbigmcapaa
open Go.RowKit Fl
set_option linter.unusedVariables false

set_option maxHeartbeats 4000000 in
set_option maxRecDepth 100000 in
theorem rpaste1_any (X Y : Int) (W H n b cap : Nat) (vf : Nat → Nat) (X2 Y2 : Int) (W2 H2 n2 b2 cap2 : Nat) (vg : Nat → Nat) (p q : Nat) (w : World) (hk : PCaps w X Y W H n b cap vf X2 Y2 W2 H2 n2 b2 cap2 vg p q)
    (h0 : checkR X Y W H = 0) (h02 : checkR X2 Y2 W2 H2 = 0) (hn : n = H * W) (hn2 : n2 = H2 * W2) :
    Clos2 75 #[.pointer (some ⟨q, 0, none⟩), .pointer (some ⟨p, 0, none⟩)] X Y W H (pstF vf vg X Y W X2 Y2 W2 H2) w := by
  intro x y i w2 h1 h2 h3 h4 h5 hb
  obtain ⟨b1, b2', b3, b4, b5, b6, b7, b8, b9⟩ := checkR_zero h0
  obtain ⟨d1, d2, d3, d4, d5, d6, d7, d8, d9⟩ := checkR_zero h02
  have en : ((W : Int) * (H : Int)) = (n : Int) := by rw [hn, Nat.mul_comm]; simp
  have en2 : ((W2 : Int) * (H2 : Int)) = (n2 : Int) := by rw [hn2, Nat.mul_comm]; simp
  have hN : n ≤ 65536 := by omega
  have hN2 : n2 ≤ 65536 := by omega
  have hp1 : 1 ≤ n := by rw [hn]; exact Nat.mul_pos (by omega) (by omega)
  have hp2 : 1 ≤ n2 := by rw [hn2]; exact Nat.mul_pos (by omega) (by omega)
  obtain ⟨ex, ey⟩ := place_of (show 1 ≤ W by omega) h1 h2 h3 h5
  show Calls _ _ _ _ fun e w' => e = .returned (.float .f32 (if insideB (X + ((i % W : Nat) : Int)) (Y + ((i / W : Nat) : Int)) 1 1 X2 Y2 W2 H2 then vg (subN X2 Y2 W2 X Y W i) else vf i)) ∧ _
  rw [ex, ey]
  have K := hk.stay hp1 hp2 hb
  have GF := Lib.hid K.one
  have GG := Lib.hid K.two
  have zb : b < w2.heap.size := World.block_lt_of_cell? w2 _ (K.row 0 hp1)
  have zb2 : b2 < w2.heap.size := World.block_lt_of_cell? w2 _ (K.row2 0 hp2)
  obtain ⟨cF, fF, zF⟩ := blkC GF.out
  obtain ⟨cG, fG, zG⟩ := blkC GG.out
  cases hin : insideB x y 1 1 X2 Y2 W2 H2 with
  | false =>
    have TH := Lib.hid (fun w => pThere_any X2 Y2 W2 H2 n2 b2 cap2 x y false w h02 (by omega) (by omega) (by omega) (by omega) hin)
    have hi : i < n := num_lt (by omega) h1 h2 h4 h5 hn
    have AT := Lib.hid (fun W'' (hb : Below w2.heap.size w2 W'') => refAt_any X Y W H n b cap i vf x y W'' (by omega) (by omega) (by omega) (by omega) (by omega) (by omega) (by omega) h1 h2 h3 h4 h5 hi hN (flAt_congr K.row (hb.block _ zb)))
    clear hk hb h1 h2 h3 h4 h5 K ex ey hin b1 b2' b3 b4 b5 b6 b7 b8 b9 d1 d2 d3 d4 d5 d6 d7 d8 d9 en en2 hN hN2 hp1 hp2 hn hn2 h0 h02 hi zb zb2
    go_enter Try.func75, Try.ntmps75
    go_wp2_with (first | (go_at_call 76; refine (TH.out _).mono ?_; rintro e w3 ⟨rfl, hb3⟩; have HF3 := Lib.hid (blkStay GF.out hb3); clear cF fF zF cG fG zG; obtain ⟨cF, fF, zF⟩ := blkC HF3.out) | (go_at_call 57; (with_reducible refine Calls.mono (AT.out _ hb3) ?_); rintro e w4 ⟨rfl, rfl⟩))
    go_ret
    exact ⟨rfl, hb3.alloc hb3.size _⟩
  | true =>
    obtain ⟨g1, g2, g3, g4⟩ := insideB_iff.1 hin
    have hj := subN_of (X := X2) (Y := Y2) (W := W2) ex ey (by omega) (by omega)
    generalize subN X2 Y2 W2 X Y W i = j at hj ⊢
    have TH := Lib.hid (fun w => pThere_any X2 Y2 W2 H2 n2 b2 cap2 x y true w h02 (by omega) (by omega) (by omega) (by omega) hin)
    have hi : j < n2 := num_lt (by omega) (by omega) (by omega) (by omega) hj hn2
    have AT := Lib.hid (fun W'' (hb : Below w2.heap.size w2 W'') => refAt_any X2 Y2 W2 H2 n2 b2 cap2 j vg x y W'' (by omega) (by omega) (by omega) (by omega) (by omega) (by omega) (by omega) (by omega) (by omega) (by omega) (by omega) hj hi hN2 (flAt_congr K.row2 (hb.block _ zb2)))
    clear hk hb h1 h2 h3 h4 h5 K ex ey hin b1 b2' b3 b4 b5 b6 b7 b8 b9 d1 d2 d3 d4 d5 d6 d7 d8 d9 en en2 hN hN2 hp1 hp2 hn hn2 h0 h02 hi zb zb2 hj g1 g2 g3 g4
    go_enter Try.func75, Try.ntmps75
    go_wp2_with (first | (go_at_call 76; refine (TH.out _).mono ?_; rintro e w3 ⟨rfl, hb3⟩; have HG3 := Lib.hid (blkStay GG.out hb3); clear cF fF zF cG fG zG; obtain ⟨cG, fG, zG⟩ := blkC HG3.out) | (go_at_call 57; (with_reducible refine Calls.mono (AT.out _ hb3) ?_); rintro e w4 ⟨rfl, rfl⟩))
    go_ret
    exact ⟨rfl, hb3.alloc hb3.size _⟩

/-- Two fields that lie in a row. -/
abbrev twoFlds (X Y W H : Int) (s : Value) (X2 Y2 W2 H2 : Int) (s2 : Value) : Obj := .cells #[.int .i64 X, .int .i64 Y, .int .i64 W, .int .i64 H, s, .int .i64 X2, .int .i64 Y2, .int .i64 W2, .int .i64 H2, s2] 26

set_option maxHeartbeats 2000000 in
theorem checkFields_two (X Y : Int) (W H n b cap : Nat) (v : Nat → Nat) (X2 Y2 : Int) (W2 H2 n2 b2 cap2 : Nat) (v2 : Nat → Nat) (p : Nat) (w : World) (h0 : checkR X Y W H = 0) (hn : n = W * H) (hc : FlAt w b 0 n v) (hh : allB n (fun i => hgtB (v i)) = true)
    (h02 : checkR X2 Y2 W2 H2 = 0) (hn2 : n2 = W2 * H2) (hc2 : FlAt w b2 0 n2 v2) (hh2 : allB n2 (fun i => hgtB (v2 i)) = true) (hp : w.heap[p]? = some (twoFlds X Y W H (.slice (some ⟨b, 0, none⟩) n cap) X2 Y2 W2 H2 (.slice (some ⟨b2, 0, none⟩) n2 cap2))) :
    Calls Try.prog 49 #[.slice (some ⟨p, 0, none⟩) 2 2] w fun e w' => e = .returned (.int .i64 0) ∧ Below w.heap.size w w' := by
  have pos : ∀ {A B : Nat} {X Y : Int}, checkR X Y A B = 0 → 1 ≤ A * B := fun h => Nat.mul_pos (by obtain ⟨a, _⟩ := checkR_zero h; omega) (by obtain ⟨_, _, a, _⟩ := checkR_zero h; omega)
  have hlt : b < w.heap.size := World.block_lt_of_cell? w _ (hc 0 (by rw [hn]; exact pos h0))
  have hlt2 : b2 < w.heap.size := World.block_lt_of_cell? w _ (hc2 0 (by rw [hn2]; exact pos h02))
  have C1 := Lib.hid (fun W' (hb : Below w.heap.size w W') => check_ok X Y W H n b cap v W' h0 hn (flAt_congr hc (hb.block _ hlt)) hh)
  have C2 := Lib.hid (fun W' (hb : Below w.heap.size w W') => check_ok X2 Y2 W2 H2 n2 b2 cap2 v2 W' h02 hn2 (flAt_congr hc2 (hb.block _ hlt2)) hh2)
  have HP := Lib.hid hp
  clear h0 hn hc hh h02 hn2 hc2 hh2 hp hlt hlt2 pos
  go_enter Try.func49, Try.ntmps49
  go_wp2
  go_loopw [8] (fun i wr => ∃ k : Nat, k ≤ 2 ∧ i = .int .i64 k ∧ Below w.heap.size w wr) (fun i _ => 2 - (intOf i).toNat)
  case atStart => exact ⟨0, by omega, rfl, Below.refl _ _⟩
  case round =>
    obtain ⟨k, hk, rfl, hb⟩ := hrel
    have GP := Lib.hid (blkStay HP.out hb)
    obtain ⟨cP, fP, zP⟩ := blkC GP.out
    have : k = 0 ∨ k = 1 ∨ k = 2 := by omega
    rcases this with rfl | rfl | rfl
    · go_wp2_with (first | (go_at_call 64; refine (C1.out _ (hb.alloc hb.size _)).mono ?_; rintro e w2 ⟨rfl, hb2⟩))
      go_roundw
      case rel => exact ⟨1, by omega, by go_num, (hb.alloc hb.size _).trans (hb2.mono (hb.alloc hb.size _).size)⟩
      case measure => simp [intOf]
    · go_wp2_with (first | (go_at_call 64; refine (C2.out _ (hb.alloc hb.size _)).mono ?_; rintro e w2 ⟨rfl, hb2⟩))
      go_roundw
      case rel => exact ⟨2, by omega, by go_num, (hb.alloc hb.size _).trans (hb2.mono (hb.alloc hb.size _).size)⟩
      case measure => simp [intOf]
    · go_wp2
      go_ret
      exact ⟨rfl, hb⟩
end Go.Proofs.Ytgkpkpbigmcapaa
