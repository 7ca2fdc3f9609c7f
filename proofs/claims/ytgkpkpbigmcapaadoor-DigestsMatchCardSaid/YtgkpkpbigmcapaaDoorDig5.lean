/- Hexadecimal digits; Digest of both sides; the law. -/
import Derived.Test.YtgkpkpbigmcapaaDoorDig4
namespace Go.Proofs.YtgkpkpbigmcapaaDoor
open Go.RowKit
set_option linter.unusedVariables false

theorem hexK_le : ∀ (k u : Nat), u < 16 ^ (k + 1) → hexK u ≤ k
  | 0, u, h => by rw [hexK_lt (by simpa using h)]; exact Nat.le_refl _
  | k + 1, u, h => by
    rcases Nat.lt_or_ge u 16 with c | c
    · rw [hexK_lt c]; omega
    · rw [hexK_ge c]
      have := hexK_le k (u / 16) (Nat.div_lt_of_lt_mul (by rw [Nat.mul_comm, ← Nat.pow_succ]; exact h))
      omega

def hexS (u : Nat) : ByteArray := rep0 (15 - hexK u) ++ ⟨(hexL u).toArray⟩

set_option maxHeartbeats 1000000 in
theorem hex_any (u : Nat) (w : World) (hu : u < 18446744073709551616) (htab : ∀ W', Below w.heap.size w W' → Tab16 W') :
    Calls Tryd.prog 6 #[.int .u64 u, .int .i64 16] w fun e w' => e = .returned (.string (hexS u)) ∧ Below w.heap.size w w' := by
  have FB := Lib.hid (fmtUint_any u w hu htab)
  have hk := hexK_le 15 u hu
  have RP := Lib.hid (fun w => rep0_any (15 - hexK u) (by omega) w)
  obtain ⟨T, hT⟩ : ∃ T : ByteArray, T = ⟨(hexL u).toArray⟩ := ⟨_, rfl⟩
  have hz : T.size = hexK u + 1 := by rw [hT]; simp [ByteArray.size, hexL_length]
  unfold hexS
  rw [← hT] at FB ⊢
  generalize hexK u = K at *
  have e1 : IntKind.i64.wrap (16 - (T.size : Int)) = ((15 - K : Nat) : Int) := by rw [IntWalk.i64_in _ (by omega)]; omega
  have e2 : (16 : Int) - (T.size : Int) = ((15 - K : Nat) : Int) := by omega
  have hsz : ¬ 9223372036854775807 < (rep0 (15 - K)).size + T.size := by rw [show (rep0 (15 - K)).size = 15 - K by simp [rep0, ByteArray.size]]; omega
  clear htab hu hT hz
  generalize 15 - K = c at *
  go_enter Tryd.func6, Tryd.ntmps6
  go_wp2_with (first | (go_at_call 8; refine FB.out.mono ?_; rintro e w' ⟨rfl, hb⟩) | (go_at_call 9; refine (RP.out _).mono ?_; rintro e w' ⟨rfl, rfl⟩))
  go_ret
  exact ⟨rfl, hb⟩
set_option maxHeartbeats 1000000 in
theorem hexOf_any (u : Nat) (w : World) (hu : u < 18446744073709551616) (htab : ∀ W', Below w.heap.size w W' → Tab16 W') :
    Calls Tryd.prog 7 #[.int .u64 u, .int .i64 16] w fun e w' => e = .returned (.string (hexS u)) ∧ Below w.heap.size w w' := by
  have FB := Lib.hid (fmtUint_any u w hu htab)
  have hk := hexK_le 15 u hu
  have RP := Lib.hid (fun w => rep0_any (15 - hexK u) (by omega) w)
  obtain ⟨T, hT⟩ : ∃ T : ByteArray, T = ⟨(hexL u).toArray⟩ := ⟨_, rfl⟩
  have hz : T.size = hexK u + 1 := by rw [hT]; simp [ByteArray.size, hexL_length]
  unfold hexS
  rw [← hT] at FB ⊢
  generalize hexK u = K at *
  have e1 : IntKind.i64.wrap (16 - (T.size : Int)) = ((15 - K : Nat) : Int) := by rw [IntWalk.i64_in _ (by omega)]; omega
  have e2 : (16 : Int) - (T.size : Int) = ((15 - K : Nat) : Int) := by omega
  have hsz : ¬ 9223372036854775807 < (rep0 (15 - K)).size + T.size := by rw [show (rep0 (15 - K)).size = 15 - K by simp [rep0, ByteArray.size]]; omega
  clear htab hu hT hz
  generalize 15 - K = c at *
  go_enter Tryd.func7, Tryd.ntmps7
  go_wp2_with (first | (go_at_call 8; refine FB.out.mono ?_; rintro e w' ⟨rfl, hb⟩) | (go_at_call 9; refine (RP.out _).mono ?_; rintro e w' ⟨rfl, rfl⟩))
  go_ret
  exact ⟨rfl, hb⟩

/-- The byte number k. -/
def byteI (s : ByteArray) (k : Nat) : Int := (((s.data[k]?).getD 0).toNat : Int)
theorem byteI_in (s : ByteArray) (k : Nat) : 0 ≤ byteI s k ∧ byteI s k < 256 := by
  unfold byteI
  have := ((s.data[k]?).getD 0).toNat_lt
  omega
theorem index_byte (s : ByteArray) (k : Nat) (hk : k < s.size) (w : World) : (Instr.index 9 (.string s) (.int .i64 (k : Int))).run Tryd.prog w = .ok (.int .u8 (byteI s k)) w := by
  rw [run_index_string (w := w) 9 _ _ _ Tryd.underlying9, dif_pos (by omega)]
  congr 3
  simp only [Int.toNat_natCast]
  rw [Array.getElem?_eq_getElem (by exact hk)]
  rfl
/-- The number behind k bytes. -/
def dgI (s : ByteArray) : Nat → Int
  | 0 => 14695981039346656037
  | k + 1 => IntKind.u64.wrap (bits .xor .u64 (dgI s k) (byteI s k) * 1099511628211)
theorem dgI_in (s : ByteArray) : ∀ k, 0 ≤ dgI s k ∧ dgI s k < 18446744073709551616
  | 0 => by unfold dgI; omega
  | k + 1 => by show 0 ≤ IntKind.u64.wrap _ ∧ IntKind.u64.wrap _ < _; simp only [IntKind.wrap_u64]; omega
def digS (s : ByteArray) : ByteArray := hexS (dgI s s.size).toNat

set_option maxHeartbeats 2000000 in
theorem digest_any (s : ByteArray) (w : World) (hs : s.size ≤ 9223372036854775807) (htab : ∀ W', Below w.heap.size w W' → Tab16 W') :
    Calls Tryd.prog 4 #[.string s] w fun e w' => e = .returned (.string (digS s)) ∧ Below w.heap.size w w' := by
  have D0 := dgI_in s s.size
  obtain ⟨u, hu⟩ := Int.eq_ofNat_of_zero_le D0.1
  have HX := Lib.hid (hex_any u w (by omega) htab)
  have hS : hexS u = digS s := by unfold digS; rw [hu]; rfl
  rw [hS] at HX
  have HU := Lib.hid hu
  clear htab D0 hu hS
  go_enter Tryd.func4, Tryd.ntmps4
  go_wp2
  go_loop [3, 7] (fun a b => ∃ k : Nat, k ≤ s.size ∧ a = .int .u64 (dgI s k) ∧ b = .int .i64 k) (fun _ b => s.size - (intOf b).toNat)
  case atStart => exact ⟨0, Nat.zero_le _, rfl, rfl⟩
  case round =>
    obtain ⟨k, hk, rfl, rfl⟩ := hrel
    by_cases hlt : k < s.size
    · have hx := fun w => index_byte s k hlt w
      obtain ⟨b1, b2⟩ := byteI_in s k
      have hd : IntKind.u64.wrap (bits .xor .u64 (dgI s k) (byteI s k) * 1099511628211) = dgI s (k + 1) := rfl
      generalize byteI s k = c at *
      go_wp2
      go_round
      case rel => exact ⟨k + 1, by omega, by first | rfl | (congr 1), by go_num⟩
      case measure => simp [intOf]; omega
    · obtain rfl : k = s.size := by omega
      rw [HU.out]
      go_wp2_with (first | (go_at_call 6; refine HX.out.mono ?_; rintro e w' ⟨rfl, hb⟩))
      go_ret
      exact ⟨rfl, hb⟩
end Go.Proofs.YtgkpkpbigmcapaaDoor
