/- The law's helpers: no other single in a filled field; a field that fit has made, in a box. -/
import Derived.Test.YtgkpkpbigmcapaaCut8
import Derived.Test.YtgkpkpbigmcapaaWithin
namespace Go.Proofs.Ytgkpkpbigmcapaa
open Go.RowKit Fl
set_option linter.unusedVariables false

theorem enters_lFac1 : Enters 18 := by intro args W; simp [callFunc, Try.func18, Try.f18]

set_option maxHeartbeats 400000 in
theorem lbits_self (x : Nat) (w : World) :
    Calls Try.prog 19 #[.float .f32 x, .float .f32 x] w fun e w' => e = .returned (.bool true) ∧ w = w' := by
  have h1 := f32bits
  go_enter Try.func19, Try.ntmps19
  go_wp2
  go_ret
  exact ⟨by simp, rfl⟩

set_option maxHeartbeats 400000 in
theorem fac1_no (x p : Nat) (w : World) (hp : w.heap[p]? = some (flObj x)) :
    Calls Try.prog 18 #[.float .f32 x, .pointer (some ⟨p, 0, none⟩)] w fun e w' => e = .returned (.bool false) ∧ w = w' := by
  obtain ⟨cP, fP, zP⟩ := blkC hp
  clear hp
  go_enter Try.func18, Try.ntmps18
  go_wp2_with (first | (go_at_call 19; refine (lbits_self _ _).mono ?_; rintro e w' ⟨rfl, rfl⟩))
  go_ret
  exact ⟨rfl, rfl⟩

set_option maxHeartbeats 1000000 in
theorem facIndex_none (b cap n x p : Nat) (hl : n ≤ 9223372036854775807) (w : World) (hc : FlAt w b 0 n (fun _ => x)) (hp : w.heap[p]? = some (flObj x)) :
    Calls Try.prog 62 #[.slice (some ⟨b, 0, none⟩) n cap, .func (.func 18) #[] #[.pointer (some ⟨p, 0, none⟩)]] w fun e w' => e = .returned (.int .i64 (-1)) ∧ w = w' := by
  have hcall := enters_lFac1
  unfold Enters at hcall
  have IH := Lib.hid (fac1_no x p w hp)
  clear hp
  go_enter Try.func62, Try.ntmps62
  go_wp2
  go_loop [8] (fun i => ∃ k : Nat, k ≤ n ∧ i = .int .i64 k) (fun i => n - (intOf i).toNat)
  case atStart => exact ⟨0, Nat.zero_le _, rfl⟩
  case round =>
    obtain ⟨k, hk, rfl⟩ := hrel
    by_cases hlt : k < n
    · have hcell := hc k hlt
      rw [Nat.zero_add] at hcell
      go_wp2_with fail
      refine IH.out.mono ?_
      rintro e w' ⟨rfl, rfl⟩
      go_wp2
      go_round
      case rel => exact ⟨k + 1, by omega, by go_num⟩
      case measure => simp [intOf]; omega
    · go_wp2
      go_ret
      exact ⟨rfl, rfl⟩

set_option maxHeartbeats 1000000 in
theorem facContains_no (b cap n x p : Nat) (hl : n ≤ 9223372036854775807) (w : World) (hc : FlAt w b 0 n (fun _ => x)) (hp : w.heap[p]? = some (flObj x)) :
    Calls Try.prog 17 #[.slice (some ⟨b, 0, none⟩) n cap, .func (.func 18) #[] #[.pointer (some ⟨p, 0, none⟩)]] w fun e w' => e = .returned (.bool false) ∧ w = w' := by
  have IX := Lib.hid (facIndex_none b cap n x p hl w hc hp)
  clear hc hp
  go_enter Try.func17, Try.ntmps17
  go_wp2_with (first | (go_at_call 62; refine IX.out.mono ?_; rintro e w' ⟨rfl, rfl⟩))
  go_ret
  exact ⟨rfl, rfl⟩

/-- A field that fit has made lies in block p, its singles in a block from lo on. -/
structure FitAt (w : World) (p lo : Nat) (X Y : Int) (W H n b : Nat) (v : Nat → Nat) : Prop where
  chk : checkR X Y W H = 0
  num : n = W * H
  pos : 1 ≤ n
  few : n ≤ 256
  fld : w.heap[p]? = some (fldO X Y W H (.slice (some ⟨b, 0, none⟩) n n))
  low : lo ≤ b
  lt : b < w.heap.size
  row : FlAt w b 0 n v
  wf : wf32 n v
  hgt : allB n (fun i => hgtB (v i)) = true
theorem FitAt.stay {w w' : World} {p lo : Nat} {X Y : Int} {W H n b : Nat} {v : Nat → Nat} (h : FitAt w p lo X Y W H n b v) (hb : Below w.heap.size w w') : FitAt w' p lo X Y W H n b v :=
  ⟨h.chk, h.num, h.pos, h.few, blkStay h.fld hb, h.low, Nat.lt_of_lt_of_le h.lt hb.size, flAt_congr h.row (hb.block _ h.lt), h.wf, h.hgt⟩
end Go.Proofs.Ytgkpkpbigmcapaa
