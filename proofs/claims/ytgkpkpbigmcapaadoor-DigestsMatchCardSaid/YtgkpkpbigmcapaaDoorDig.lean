/- FormatUint at base 16: contracts. -/
import Derived.Test.YtgkpkpbigmcapaaDoorReg
import Derived.Test.YtgkpkpbigmcapaaDoorBlk
import Derived.Laws.IdiomStrings
import Derived.Lib.Hide
namespace Go.Proofs.YtgkpkpbigmcapaaDoor
open Go.RowKit
set_option linter.unusedVariables false

/-- A hexadecimal digit's byte. -/
def hexD (d : Nat) : UInt8 := ((⟨#[48, 49, 50, 51, 52, 53, 54, 55, 56, 57, 97, 98, 99, 100, 101, 102, 103, 104, 105, 106, 107, 108, 109, 110, 111, 112, 113, 114, 115, 116, 117, 118, 119, 120, 121, 122]⟩ : ByteArray).data[d]?).getD 0
/-- How many digits stand behind the first one. -/
def hexK (u : Nat) : Nat := if h : u < 16 then 0 else hexK (u / 16) + 1
theorem hexK_lt {u : Nat} (h : u < 16) : hexK u = 0 := by unfold hexK; rw [dif_pos h]
theorem hexK_ge {u : Nat} (h : 16 ≤ u) : hexK u = hexK (u / 16) + 1 := by rw [hexK]; rw [dif_neg (by omega)]
/-- The digit that stands j places ahead of the last one. -/
def hexAt (u j : Nat) : UInt8 := hexD (u / 16 ^ j % 16)
def hexL (u : Nat) : List UInt8 := (List.range (hexK u + 1)).map fun t => hexAt u (hexK u - t)
theorem hexL_length (u : Nat) : (hexL u).length = hexK u + 1 := by simp [hexL]
theorem hexL_get (u t : Nat) (h : t < (hexL u).length) : (hexL u)[t] = hexAt u (hexK u - t) := by simp [hexL]

/-- The table has what TrailingZeros of 16 asks of it. -/
def Tab16 (w : World) : Prop := w.cell? ⟨3, 15, none⟩ = some (.int .u8 4)

set_option maxHeartbeats 400000 in
theorem tz64_16 (w : World) (h : Tab16 w) : Calls Tryd.prog 34 #[.int .u64 16] w fun e w' => e = .returned (.int .i64 4) ∧ w = w' := by
  unfold Tab16 at h
  have hx : IntKind.u64.wrap (bits BinOp.and IntKind.u64 16 (IntKind.u64.wrap (-16)) * 285870213051353865) / 288230376151711744 = 15 := by decide
  go_enter Tryd.func34, Tryd.ntmps34
  go_wp2
  go_ret
  exact ⟨rfl, rfl⟩

set_option maxHeartbeats 400000 in
theorem tz_16 (w : World) (h : Tab16 w) : Calls Tryd.prog 30 #[.int .u64 16] w fun e w' => e = .returned (.int .i64 4) ∧ w = w' := by
  have T := Lib.hid (tz64_16 w h)
  clear h
  go_enter Tryd.func30, Tryd.ntmps30
  go_wp2_with (first | (go_at_call 34; refine T.out.mono ?_; rintro e w' ⟨rfl, rfl⟩))
  go_ret
  exact ⟨rfl, rfl⟩

set_option maxHeartbeats 400000 in
theorem pow2_16 (w : World) : Calls Tryd.prog 29 #[.int .i64 16] w fun e w' => e = .returned (.bool true) ∧ w = w' := by
  go_enter Tryd.func29, Tryd.ntmps29
  go_wp2
  go_ret
  exact ⟨rfl, rfl⟩
end Go.Proofs.YtgkpkpbigmcapaaDoor
