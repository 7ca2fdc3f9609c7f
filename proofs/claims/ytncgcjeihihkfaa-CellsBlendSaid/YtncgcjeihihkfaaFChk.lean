/- Contracts: isFinite, isHeight, checkRange, CheckHeights, Check; the reference's abs, Height. -/
import Derived.Test.YtncgcjeihihkfaaReg2
import Derived.Test.YtncgcjeihihkfaaFl9
namespace Go.Proofs.Ytncgcjeihihkfaa
open Go.RowKit Fl

theorem f32fmt : FloatKind.f32.format = Ieee.single := rfl

set_option maxHeartbeats 400000 in
theorem isFinite_any (x : Nat) (w : World) :
    Calls Try.prog 144 #[.float .f32 x] w fun e w' => e = .returned (.bool (finB x)) ∧ w = w' := by
  rw [← isFinite_eq]
  go_enter Try.func144, Try.ntmps144
  go_wp2
  all_goals go_ret
  · exact ⟨rfl, rfl⟩
  · rename_i h
    refine ⟨ret_bool (Eq.symm ?_), rfl⟩
    rw [f32fmt] at h
    rw [Bool.and_eq_false_iff]; left
    simpa using h

set_option maxHeartbeats 400000 in
theorem isHeight_any (x : Nat) (w : World) :
    Calls Try.prog 150 #[.float .f32 x] w fun e w' => e = .returned (.bool (hgtB x)) ∧ w = w' := by
  rw [← isHeight_eq]
  go_enter Try.func150, Try.ntmps150
  go_wp2
  all_goals go_ret
  · exact ⟨rfl, rfl⟩
  · rename_i h
    refine ⟨ret_bool (Eq.symm ?_), rfl⟩
    rw [f32fmt] at h
    rw [Bool.and_eq_false_iff]; left
    simpa using h

/-- Do all below n have it? -/
def allB (n : Nat) (p : Nat → Bool) : Bool := (List.range n).all p
theorem allB_iff {n : Nat} {p : Nat → Bool} : allB n p = true ↔ ∀ i, i < n → p i = true := by simp [allB]
theorem allB_no {n : Nat} {p : Nat → Bool} {k : Nat} (h : k < n) (h2 : p k = false) : allB n p = false := by
  rw [← Bool.not_eq_true, allB_iff]; intro c; rw [c k h] at h2; cases h2

def hgtE (n : Nat) (v : Nat → Nat) : Int := if allB n (fun i => hgtB (v i)) then 0 else 3
/-- The error of singles that should be heights. -/
def fldE (n : Nat) (v : Nat → Nat) : Int := if allB n (fun i => finB (v i)) then hgtE n v else 2

/-- n cells from b, off on are the singles v. -/
def FlAt (w : World) (b off n : Nat) (v : Nat → Nat) : Prop := ∀ i, i < n → w.cell? ⟨b, off + i, none⟩ = some (.float .f32 (v i))

set_option maxHeartbeats 400000 in
theorem checkRange_nil (a : Option Addr) (cap : Nat) (w : World) :
    Calls Try.prog 113 #[.slice a 0 cap] w fun e w' => e = .returned (.int .i64 0) ∧ w = w' := by
  go_enter Try.func113, Try.ntmps113
  go_wp2
  go_loop [7] (fun i => i = .int .i64 0) (fun _ => 0)
  case atStart => rfl
  case round =>
    subst hrel
    go_wp2
    go_ret
    exact ⟨rfl, rfl⟩

set_option maxHeartbeats 400000 in
theorem checkRange_row (b off cap n : Nat) (v : Nat → Nat) (hl : n ≤ 9223372036854775807) (w : World) (hc : FlAt w b off n v) :
    Calls Try.prog 113 #[.slice (some ⟨b, off, none⟩) n cap] w fun e w' => e = .returned (.int .i64 (hgtE n v)) ∧ w = w' := by
  go_enter Try.func113, Try.ntmps113
  go_wp2
  go_loop [7] (fun i => ∃ k : Nat, k ≤ n ∧ i = .int .i64 k ∧ allB k (fun i => hgtB (v i)) = true) (fun i => n - (intOf i).toNat)
  case atStart => exact ⟨0, Nat.zero_le _, rfl, rfl⟩
  case round =>
    obtain ⟨k, hk, rfl, hall⟩ := hrel
    have HA := Lib.hid hall
    clear hall
    by_cases hlt : k < n
    · have hcell := hc k hlt
      have IH := Lib.hid (fun w => isHeight_any (v k) w)
      cases hb : hgtB (v k) with
      | true =>
        have HB := Lib.hid hb
        rw [hb] at IH
        clear hb
        go_wp2_with (go_at_call 150; refine (IH.out _).mono ?_; rintro e w' ⟨rfl, rfl⟩)
        go_round
        case rel => exact ⟨k + 1, by omega, by go_num, allB_iff.2 fun i hi => by rcases Nat.lt_or_ge i k with c | c; exact allB_iff.1 HA.out i c; rw [show i = k by omega]; exact HB.out⟩
        case measure => simp [intOf]; omega
      | false =>
        have HB := Lib.hid hb
        rw [hb] at IH
        clear hb
        go_wp2_with (go_at_call 150; refine (IH.out _).mono ?_; rintro e w' ⟨rfl, rfl⟩)
        go_ret
        exact ⟨ret_int (by unfold hgtE; rw [allB_no hlt HB.out]; rfl), rfl⟩
    · go_wp2
      go_ret
      have : k = n := by omega
      subst this
      exact ⟨ret_int (by unfold hgtE; rw [HA.out]; rfl), rfl⟩

set_option maxHeartbeats 400000 in
theorem CheckHeights_nil (a : Option Addr) (cap : Nat) (w : World) :
    Calls Try.prog 94 #[.slice a 0 cap] w fun e w' => e = .returned (.int .i64 0) ∧ w = w' := by
  go_enter Try.func94, Try.ntmps94
  go_wp2
  go_loop [7] (fun i => i = .int .i64 0) (fun _ => 0)
  case atStart => rfl
  case round =>
    subst hrel
    go_wp2_with (go_at_call 113; refine (checkRange_nil _ _ _).mono ?_; rintro e w' ⟨rfl, rfl⟩)
    go_ret
    exact ⟨rfl, rfl⟩

set_option maxHeartbeats 400000 in
theorem CheckHeights_row (b off cap n : Nat) (v : Nat → Nat) (hl : n ≤ 9223372036854775807) (w : World) (hc : FlAt w b off n v) :
    Calls Try.prog 94 #[.slice (some ⟨b, off, none⟩) n cap] w fun e w' => e = .returned (.int .i64 (fldE n v)) ∧ w = w' := by
  have CH := Lib.hid (checkRange_row b off cap n v hl w hc)
  go_enter Try.func94, Try.ntmps94
  go_wp2
  go_loop [7] (fun i => ∃ k : Nat, k ≤ n ∧ i = .int .i64 k ∧ allB k (fun i => finB (v i)) = true) (fun i => n - (intOf i).toNat)
  case atStart => exact ⟨0, Nat.zero_le _, rfl, rfl⟩
  case round =>
    obtain ⟨k, hk, rfl, hall⟩ := hrel
    have HA := Lib.hid hall
    clear hall
    by_cases hlt : k < n
    · have hcell := hc k hlt
      have IH := Lib.hid (fun w => isFinite_any (v k) w)
      cases hb : finB (v k) with
      | true =>
        have HB := Lib.hid hb
        rw [hb] at IH
        clear hb
        go_wp2_with (go_at_call 144; refine (IH.out _).mono ?_; rintro e w' ⟨rfl, rfl⟩)
        go_round
        case rel => exact ⟨k + 1, by omega, by go_num, allB_iff.2 fun i hi => by rcases Nat.lt_or_ge i k with c | c; exact allB_iff.1 HA.out i c; rw [show i = k by omega]; exact HB.out⟩
        case measure => simp [intOf]; omega
      | false =>
        have HB := Lib.hid hb
        rw [hb] at IH
        clear hb
        go_wp2_with (go_at_call 144; refine (IH.out _).mono ?_; rintro e w' ⟨rfl, rfl⟩)
        go_ret
        exact ⟨ret_int (by unfold fldE; rw [allB_no hlt HB.out]; rfl), rfl⟩
    · go_wp2_with (go_at_call 113; refine CH.out.mono ?_; rintro e w' ⟨rfl, rfl⟩)
      go_ret
      have : k = n := by omega
      subst this
      exact ⟨ret_int (by unfold fldE; rw [HA.out]; rfl), rfl⟩

end Go.Proofs.Ytncgcjeihihkfaa
