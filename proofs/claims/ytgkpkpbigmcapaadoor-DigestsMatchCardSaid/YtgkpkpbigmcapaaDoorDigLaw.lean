/- Digest of the reference; the law. -/
import Derived.Test.YtgkpkpbigmcapaaDoorDig5
namespace Go.Proofs.YtgkpkpbigmcapaaDoor
open Go.RowKit
set_option linter.unusedVariables false

set_option maxHeartbeats 2000000 in
theorem rdigest_any (s : ByteArray) (w : World) (hs : s.size ≤ 9223372036854775807) (htab : ∀ W', Below w.heap.size w W' → Tab16 W') :
    Calls Tryd.prog 5 #[.string s] w fun e w' => e = .returned (.string (digS s)) ∧ Below w.heap.size w w' := by
  have D0 := dgI_in s s.size
  obtain ⟨u, hu⟩ := Int.eq_ofNat_of_zero_le D0.1
  have HX := Lib.hid (hexOf_any u w (by omega) htab)
  have hS : hexS u = digS s := by unfold digS; rw [hu]; rfl
  rw [hS] at HX
  have HU := Lib.hid hu
  clear htab D0 hu hS
  go_enter Tryd.func5, Tryd.ntmps5
  go_wp2
  go_loop [3, 7] (fun a b => ∃ k : Nat, k ≤ s.size ∧ a = .int .u64 (dgI s k) ∧ b = .int .i64 k) (fun _ b => s.size - (intOf b).toNat)
  case atStart => exact ⟨0, Nat.zero_le _, rfl, rfl⟩
  case round =>
    obtain ⟨k, hk, rfl, rfl⟩ := hrel
    by_cases hlt : k < s.size
    · have hx := fun w => index_byte s k hlt w
      obtain ⟨b1, b2⟩ := byteI_in s k
      have hd : IntKind.u64.wrap (bits .xor .u64 (dgI s k) (byteI s k) * 1099511628211) = dgI s (k + 1) := rfl
      generalize byteI s k = c at *
      go_wp2
      go_round
      case rel => exact ⟨k + 1, by omega, by first | rfl | (congr 1), by go_num⟩
      case measure => simp [intOf]; omega
    · obtain rfl : k = s.size := by omega
      rw [HU.out]
      go_wp2_with (first | (go_at_call 7; refine HX.out.mono ?_; rintro e w' ⟨rfl, hb⟩))
      go_ret
      exact ⟨rfl, hb⟩

set_option maxHeartbeats 2000000 in
theorem digestsMatch_any (s : ByteArray) (w : World) (hs : s.size ≤ 9223372036854775807) (htab : ∀ W', Below w.heap.size w W' → Tab16 W') :
    Calls Tryd.prog 3 #[.string s] w fun e w' => e = .returned (.bool true) ∧ Below w.heap.size w w' := by
  have D1 := Lib.hid (digest_any s w hs htab)
  have D2 := Lib.hid (fun W' (hb : Below w.heap.size w W') => rdigest_any s W' hs (fun W'' hb' => htab W'' (hb.trans (hb'.mono hb.size))))
  clear htab hs
  go_enter Tryd.func3, Tryd.ntmps3
  go_wp2_with (first | (go_at_call 4; refine D1.out.mono ?_; rintro e w1 ⟨rfl, hb1⟩) | (go_at_call 5; refine (D2.out _ hb1).mono ?_; rintro e w2 ⟨rfl, hb2⟩))
  go_ret
  exact ⟨rfl, hb1.trans (hb2.mono hb1.size)⟩
end Go.Proofs.YtgkpkpbigmcapaaDoor
