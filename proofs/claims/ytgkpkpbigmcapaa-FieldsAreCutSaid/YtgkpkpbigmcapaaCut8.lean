/- Same of both sides, of any two right fields. -/
import Derived.Test.YtgkpkpbigmcapaaCut7
namespace Go.Proofs.Ytgkpkpbigmcapaa
open Go.RowKit Fl
set_option linter.unusedVariables false

/-- Is one field the other, bit by bit? -/
def sameR (X Y : Int) (W H : Nat) (X2 Y2 : Int) (W2 H2 : Nat) : Bool := decide (X = X2) && (decide (Y = Y2) && (decide (W = W2) && decide (H = H2)))
def sameV (n : Nat) (v v2 : Nat → Nat) : Bool := allB n (fun i => v i == v2 i)

set_option maxHeartbeats 400000 in
theorem same1_any (x y : Nat) (w : World) :
    Calls Try.prog 70 #[.float .f32 x, .float .f32 y] w fun e w' => e = .returned (.bool (x == y)) ∧ w = w' := by
  have h1 := f32bits
  go_enter Try.func70, Try.ntmps70
  go_wp2
  go_ret
  exact ⟨ret_bool (by rw [Bool.eq_iff_iff, beq_iff_eq, beq_iff_eq]; omega), rfl⟩

set_option maxHeartbeats 1000000 in
theorem equalFunc_any (b b' cap cap' n : Nat) (v v2 : Nat → Nat) (hl : n ≤ 9223372036854775807) (w : World) (hc : FlAt w b 0 n v) (hc' : FlAt w b' 0 n v2) :
    Calls Try.prog 69 #[.slice (some ⟨b, 0, none⟩) n cap, .slice (some ⟨b', 0, none⟩) n cap', .func (.func 70) #[] #[]] w fun e w' => e = .returned (.bool (sameV n v v2)) ∧ w = w' := by
  have hcall := enters_Same1
  unfold Enters at hcall
  go_enter Try.func69, Try.ntmps69
  go_wp2
  go_loop [17] (fun i => ∃ k : Nat, k ≤ n ∧ i = .int .i64 k ∧ allB k (fun i => v i == v2 i) = true) (fun i => n - (intOf i).toNat)
  case atStart => exact ⟨0, Nat.zero_le _, rfl, rfl⟩
  case round =>
    obtain ⟨k, hk, rfl, ha⟩ := hrel
    by_cases hlt : k < n
    · have hcell := hc k hlt
      have hcell' := hc' k hlt
      rw [Nat.zero_add] at hcell hcell'
      have IH := Lib.hid (fun w => same1_any (v k) (v2 k) w)
      have HA := Lib.hid ha
      clear ha
      cases hq : (v k == v2 k) with
      | true =>
        rw [hq] at IH
        have HQ := Lib.hid hq
        clear hq
        go_wp2_with fail
        refine (IH.out _).mono ?_
        rintro e w' ⟨rfl, rfl⟩
        go_wp2
        go_round
        case rel =>
          exact ⟨k + 1, by omega, by go_num, allB_iff.2 fun i hi => by
            rcases Nat.lt_or_ge i k with c | c
            · exact allB_iff.1 HA.out i c
            · obtain rfl : i = k := by omega
              exact HQ.out⟩
        case measure => simp [intOf]; omega
      | false =>
        rw [hq] at IH
        have HQ := Lib.hid (show sameV n v v2 = false from allB_no hlt hq)
        clear hq
        go_wp2_with fail
        refine (IH.out _).mono ?_
        rintro e w' ⟨rfl, rfl⟩
        go_wp2
        go_ret
        exact ⟨ret_bool HQ.out.symm, rfl⟩
    · obtain rfl : k = n := by omega
      have HQ := Lib.hid (show sameV k v v2 = true from ha)
      clear ha
      go_wp2
      go_ret
      exact ⟨ret_bool HQ.out.symm, rfl⟩

set_option maxHeartbeats 1000000 in
theorem rsame_any (X Y : Int) (W H n b cap : Nat) (v : Nat → Nat) (X2 Y2 : Int) (W2 H2 n2 b2 cap2 : Nat) (v2 : Nat → Nat) (w : World) (hl : n ≤ 9223372036854775807) (h1 : 1 ≤ n) (h2 : 1 ≤ n2) (hn : n = W * H) (hn2 : n2 = W2 * H2) (hc : FlAt w b 0 n v) (hc2 : FlAt w b2 0 n2 v2) :
    Calls Try.prog 22 #[fldV X Y W H (.slice (some ⟨b, 0, none⟩) n cap), fldV X2 Y2 W2 H2 (.slice (some ⟨b2, 0, none⟩) n2 cap2)] w fun e w' => e = .returned (.bool (sameR X Y W H X2 Y2 W2 H2 && sameV n v v2)) ∧ Below w.heap.size w w' := by
  have z := World.block_lt_of_cell? w _ (hc 0 h1)
  have z' := World.block_lt_of_cell? w _ (hc2 0 h2)
  cases hr : sameR X Y W H X2 Y2 W2 H2 with
  | true =>
    unfold sameR at hr
    simp only [Bool.and_eq_true, decide_eq_true_eq] at hr
    obtain ⟨rfl, rfl, rfl, rfl⟩ := hr
    obtain rfl : n = n2 := by rw [hn, hn2]
    have EF := Lib.hid (fun W' (hb : Below w.heap.size w W') => equalFunc_any b b2 cap cap2 n v v2 hl W' (flAt_congr hc (hb.block _ z)) (flAt_congr hc2 (hb.block _ z')))
    clear hc hc2 hn hn2
    go_enter Try.func22, Try.ntmps22
    go_wp2_with (first | (go_at_call 69; refine (EF.out _ (by repeat (first | exact Below.refl _ _ | refine Below.alloc ?_ (by first | omega | (simp; done) | (simp; omega)) _ | refine Below.setCell ?_ (by first | omega | (simp; done) | (simp; omega)) _ | refine Below.drew ?_))).mono ?_; rintro e w' ⟨rfl, rfl⟩))
    go_ret
    exact ⟨rfl, (by repeat (first | exact Below.refl _ _ | refine Below.alloc ?_ (by first | omega | (simp; done) | (simp; omega)) _ | refine Below.setCell ?_ (by first | omega | (simp; done) | (simp; omega)) _ | refine Below.drew ?_))⟩
  | false =>
    unfold sameR at hr
    have hd : (decide (X = X2) && (decide (Y = Y2) && (decide ((W : Int) = (W2 : Int)) && decide ((H : Int) = (H2 : Int))))) = false := by
      rw [← hr, Bool.eq_iff_iff]; simp only [Bool.and_eq_true, decide_eq_true_eq]; omega
    clear hc hc2 hn hn2 hr
    go_enter Try.func22, Try.ntmps22
    go_wp2_with (first | (go_at_call 69; exfalso; simp_all; done))
    all_goals go_ret
    all_goals exact ⟨rfl, (by repeat (first | exact Below.refl _ _ | refine Below.alloc ?_ (by first | omega | (simp; done) | (simp; omega)) _ | refine Below.setCell ?_ (by first | omega | (simp; done) | (simp; omega)) _ | refine Below.drew ?_))⟩

set_option maxHeartbeats 2000000 in
theorem fsame_any (X Y : Int) (W H n b cap : Nat) (v : Nat → Nat) (X2 Y2 : Int) (W2 H2 n2 b2 cap2 : Nat) (v2 : Nat → Nat) (w : World) (hl : n ≤ 9223372036854775807) (h1 : 1 ≤ n) (h2 : 1 ≤ n2) (hn : n = W * H) (hn2 : n2 = W2 * H2) (hc : FlAt w b 0 n v) (hc2 : FlAt w b2 0 n2 v2) :
    Calls Try.prog 27 #[fldV X Y W H (.slice (some ⟨b, 0, none⟩) n cap), fldV X2 Y2 W2 H2 (.slice (some ⟨b2, 0, none⟩) n2 cap2)] w fun e w' => e = .returned (.bool (sameR X Y W H X2 Y2 W2 H2 && sameV n v v2)) ∧ Below w.heap.size w w' := by
  have z := World.block_lt_of_cell? w _ (hc 0 h1)
  have z' := World.block_lt_of_cell? w _ (hc2 0 h2)
  have hf := f32bits
  cases hr : sameR X Y W H X2 Y2 W2 H2 with
  | true =>
    unfold sameR at hr
    simp only [Bool.and_eq_true, decide_eq_true_eq] at hr
    obtain ⟨rfl, rfl, rfl, rfl⟩ := hr
    obtain rfl : n = n2 := by rw [hn, hn2]
    have HC := Lib.hid hc
    have HC2 := Lib.hid hc2
    clear hc hc2 hn hn2
    go_enter Try.func27, Try.ntmps27
    go_wp2
    have hB0 : Below w.heap.size w ((w.alloc (fldO X Y W H (.slice (some ⟨b, 0, none⟩) n cap))).alloc (fldO X Y W H (.slice (some ⟨b2, 0, none⟩) n cap2))) := (by repeat (first | exact Below.refl _ _ | refine Below.alloc ?_ (by first | omega | (simp; done) | (simp; omega)) _ | refine Below.setCell ?_ (by first | omega | (simp; done) | (simp; omega)) _ | refine Below.drew ?_))
    have HG0 := Lib.hid (show ((w.alloc (fldO X Y W H (.slice (some ⟨b, 0, none⟩) n cap))).alloc (fldO X Y W H (.slice (some ⟨b2, 0, none⟩) n cap2))).heap[w.heap.size + 1]? = some (fldO X Y W H (.slice (some ⟨b2, 0, none⟩) n cap2)) by (first | (rw [heap_alloc_get, if_pos rfl]; done) | ((simp only [heap_alloc_get, heap_size_alloc, if_true]) <;> ((repeat' split) <;> first | rfl | omega))))
    generalize (w.alloc (fldO X Y W H (.slice (some ⟨b, 0, none⟩) n cap))).alloc (fldO X Y W H (.slice (some ⟨b2, 0, none⟩) n cap2)) = w0 at *
    have HB0 := Lib.hid hB0
    clear hB0
    go_loopw [24] (fun i wr => ∃ k : Nat, k ≤ n ∧ i = .int .i64 k ∧ allB k (fun i => v i == v2 i) = true ∧ Below w0.heap.size w0 wr) (fun i _ => n - (intOf i).toNat)
    case atStart => exact ⟨0, Nat.zero_le _, rfl, rfl, Below.refl _ _⟩
    case round =>
      obtain ⟨k, hk, rfl, ha, hb⟩ := hrel
      have HA := Lib.hid ha
      clear ha
      obtain ⟨cG, fG, zG⟩ := blkC (blkStay HG0.out hb)
      have hb' := HB0.out.trans (hb.mono HB0.out.size)
      by_cases hlt : k < n
      · have hcell := flAt_congr HC.out (hb'.block _ z) k hlt
        have hcell' := flAt_congr HC2.out (hb'.block _ z') k hlt
        rw [Nat.zero_add] at hcell hcell'
        have hz1 : b < wr.heap.size := Nat.lt_of_lt_of_le z hb'.size
        have hz2 : b2 < wr.heap.size := Nat.lt_of_lt_of_le z' hb'.size
        have hi2 : (k : Int) < (n : Int) := by omega
        cases hq : (v k == v2 k) with
        | true =>
          have hq2 : (((v k : Nat) : Int) != ((v2 k : Nat) : Int)) = false := by rw [beq_iff_eq] at hq; rw [hq]; simp
          have HQ := Lib.hid hq
          clear hq
          go_wp2
          go_quiet (fail)
          go_wp2
          go_roundw
          case rel =>
            refine ⟨k + 1, by omega, by go_num, allB_iff.2 fun i hi => ?_, by first | exact hb | exact hb.drew | exact hb.trans ((below_drewN _ _).mono hb.size)⟩
            rcases Nat.lt_or_ge i k with c | c
            · exact allB_iff.1 HA.out i c
            · obtain rfl : i = k := by omega
              exact HQ.out
          case measure => simp [intOf]; omega
        | false =>
          have hq2 : (((v k : Nat) : Int) != ((v2 k : Nat) : Int)) = true := by simp only [beq_eq_false_iff_ne, ne_eq] at hq; simp; omega
          have HQ := Lib.hid (show sameV n v v2 = false from allB_no hlt hq)
          clear hq
          go_wp2
          go_quiet (fail)
          go_wp2
          go_ret
          exact ⟨ret_bool (by rw [HQ.out]; rfl), by first | exact hb' | exact hb'.drew | exact hb'.trans ((below_drewN _ _).mono hb'.size)⟩
      · obtain rfl : k = n := by omega
        have HQ := Lib.hid (show sameV k v v2 = true from HA.out)
        go_wp2
        go_ret
        exact ⟨ret_bool (by rw [HQ.out]; rfl), hb'⟩
  | false =>
    unfold sameR at hr
    have hd : (decide (X = X2) && (decide (Y = Y2) && (decide ((W : Int) = (W2 : Int)) && decide ((H : Int) = (H2 : Int))))) = false := by
      rw [← hr, Bool.eq_iff_iff]; simp only [Bool.and_eq_true, decide_eq_true_eq]; omega
    clear hc hc2 hn hn2 hr
    go_enter Try.func27, Try.ntmps27
    go_wp2
    all_goals (first | (go_ret; exact ⟨rfl, (by repeat (first | exact Below.refl _ _ | refine Below.alloc ?_ (by first | omega | (simp; done) | (simp; omega)) _ | refine Below.setCell ?_ (by first | omega | (simp; done) | (simp; omega)) _ | refine Below.drew ?_))⟩) | (exfalso; simp_all; done))
end Go.Proofs.Ytgkpkpbigmcapaa
