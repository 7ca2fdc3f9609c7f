/- Tiles: errors, of the program and of the reference; the reference's parts. -/
import Derived.Test.YtncgcjeihihkfaaTil2
namespace Go.Proofs.Ytncgcjeihihkfaa
open Go.RowKit Fl
set_option linter.unusedVariables false

theorem tilsE_parts {X Y W H s : Int} (h : tilsE X Y W H s = 0) : checkR X Y W H = 0 ∧ sidB s = true ∧ tlN X W s * tlN Y H s ≤ 1024 := by
  unfold tilsE at h
  split at h
  · rename_i c
    exact absurd h c
  · rename_i c
    have c' : checkR X Y W H = 0 := by simpa using c
    split at h
    · cases h
    · rename_i d
      split at h
      · cases h
      · exact ⟨c', by simpa using d, by omega⟩

/-- The answer is an error. -/
def TilsNo (w : World) (n : Int) (e : Ending) (w' : World) : Prop := e = .returned (.tuple #[.slice none 0 0, .int .i64 n]) ∧ Below w.heap.size w w'

set_option maxHeartbeats 2000000 in
theorem tiles_bad (X Y W H s : Int) (w : World) (h : tilsE X Y W H s ≠ 0) : Calls Try.prog 12 #[reg X Y W H, .int .i64 s] w (TilsNo w (tilsE X Y W H s)) := by
  by_cases h0 : checkR X Y W H = 0
  · have CR := Lib.hid (fun w => checkRegion_any X Y W H w)
    rw [h0] at CR
    cases hs : sidB s with
    | false =>
      have e : tilsE X Y W H s = 3 := by unfold tilsE; rw [if_neg (by simpa using h0), if_pos hs]
      rw [e]
      have CS := Lib.hid (checkSide_no s hs)
      clear h h0 hs e
      go_enter Try.func12, Try.ntmps12
      go_wp2_with (first | (go_at_call 51; refine (CR.out _).mono ?_; rintro e w' ⟨rfl, rfl⟩) | (go_at_call 52; refine (CS.out _).mono ?_; rintro e w' ⟨rfl, rfl⟩))
      go_ret2
      exact ⟨rfl, (by repeat (first | exact Below.refl _ _ | refine Below.alloc ?_ (by first | omega | (simp; done) | (simp; omega)) _ | refine Below.setCell ?_ (by first | omega | (simp; done) | (simp; omega)) _ | refine Below.drew ?_))⟩
    | true =>
      have hm : 1024 < tlN X W s * tlN Y H s := by
        apply Nat.lt_of_not_le
        intro c
        apply h
        unfold tilsE
        rw [if_neg (by simpa using h0), if_neg (by simp [hs]), if_neg (by omega)]
      have e : tilsE X Y W H s = 4 := by unfold tilsE; rw [if_neg (by simpa using h0), if_neg (by simp [hs]), if_pos hm]
      rw [e]
      have CS := Lib.hid (checkSide_ok s hs)
      obtain ⟨b1, b2, b3, b4, _, b6, b7, b8, b9⟩ := checkR_zero h0
      obtain ⟨s1, s2⟩ := sid_iff.1 hs
      obtain ⟨c1, c2, c3⟩ := tlN_parts (X := X) s1 b1 b2
      obtain ⟨d1, d2, d3⟩ := tlN_parts (X := Y) s1 b3 b4
      obtain ⟨p1, p2, _, _⟩ := sq_bd s1 s2 b6 (show X ≤ 4194304 by omega) (Int.le_refl (X / s)) (by omega)
      obtain ⟨q1, q2, _, _⟩ := sq_bd s1 s2 b8 (show Y ≤ 4194304 by omega) (Int.le_refl (Y / s)) (by omega)
      have D0 := Lib.hid (fun w => divide_any X s w s1 (by omega) (by omega) (by omega))
      have D1 := Lib.hid (fun w => divide_any Y s w s1 (by omega) (by omega) (by omega))
      have D2 := Lib.hid (fun w => divide_any (X + W - 1) s w s1 (by omega) (by omega) (by omega))
      have D3 := Lib.hid (fun w => divide_any (Y + H - 1) s w s1 (by omega) (by omega) (by omega))
      have hpr : ((X + W - 1) / s - X / s + 1) * ((Y + H - 1) / s - Y / s + 1) = (tlN X W s * tlN Y H s : Nat) := by rw [← c1, ← d1]; simp
      have hle : tlN X W s * tlN Y H s ≤ 512 * 512 := Nat.mul_le_mul c3 d3
      have hmu : wrap64 (((X + W - 1) / s - X / s + 1) * ((Y + H - 1) / s - Y / s + 1)) = (tlN X W s * tlN Y H s : Nat) := by rw [hpr]; exact IntWalk.wrap64_in _ ⟨by omega, by omega⟩
      have z1 : X / s ≤ (X + W - 1) / s := by omega
      have z2 : Y / s ≤ (Y + H - 1) / s := by omega
      have z3 : (X + W - 1) / s ≤ X / s + 511 := by omega
      have z4 : (Y + H - 1) / s ≤ Y / s + 511 := by omega
      obtain ⟨m', hm'⟩ : ∃ m' : Int, ((tlN X W s * tlN Y H s : Nat) : Int) = m' := ⟨_, rfl⟩
      rw [hm'] at hmu
      have hm2 : 1024 < m' := by omega
      clear h h0 hs e hpr hle c1 d1 c2 c3 d2 d3 hm hm'
      generalize shW (X % s) s = f0 at *
      generalize shW (Y % s) s = f1 at *
      generalize shW ((X + W - 1) % s) s = f2 at *
      generalize shW ((Y + H - 1) % s) s = f3 at *
      generalize X / s = x0 at *
      generalize Y / s = y0 at *
      generalize (X + W - 1) / s = x1 at *
      generalize (Y + H - 1) / s = y1 at *
      go_enter Try.func12, Try.ntmps12
      go_wp2_with (first | (go_at_call 51; refine (CR.out _).mono ?_; rintro e w' ⟨rfl, rfl⟩) | (go_at_call 52; refine (CS.out _).mono ?_; rintro e w' ⟨rfl, rfl⟩) | (go_at_call 54; (first | (with_reducible refine Calls.mono (D0.out _) ?_; rintro e w1 ⟨rfl, hb1⟩; have HA1 := Lib.hid (blkStay (b := w.heap.size) (o := regObj X Y W H) (by (first | (rw [heap_alloc_get, if_pos rfl]; done) | ((simp only [heap_alloc_get, heap_size_alloc, if_true]) <;> ((repeat' split) <;> first | rfl | omega)))) hb1); have hB1 : Below w.heap.size w w1 := Below.trans (by repeat (first | exact Below.refl _ _ | refine Below.alloc ?_ (by first | omega | (simp; done) | (simp; omega)) _ | refine Below.setCell ?_ (by first | omega | (simp; done) | (simp; omega)) _ | refine Below.drew ?_)) (Below.mono hb1 (by first | omega | (simp; done) | (simp; omega))); obtain ⟨cA, fA, zA⟩ := blkC HA1.out; clear hb1) | (with_reducible refine Calls.mono (D1.out _) ?_; rintro e w2 ⟨rfl, hb2⟩; have HA2 := Lib.hid (blkStay HA1.out hb2); have hB2 := hB1.trans (hb2.mono hB1.size); clear cA fA zA; obtain ⟨cA, fA, zA⟩ := blkC HA2.out; clear hb2) | (with_reducible refine Calls.mono (D2.out _) ?_; rintro e w3 ⟨rfl, hb3⟩; have HA3 := Lib.hid (blkStay HA2.out hb3); have hB3 := hB2.trans (hb3.mono hB2.size); clear cA fA zA; obtain ⟨cA, fA, zA⟩ := blkC HA3.out; clear hb3) | (with_reducible refine Calls.mono (D3.out _) ?_; rintro e w4 ⟨rfl, hb4⟩; have HA4 := Lib.hid (blkStay HA3.out hb4); have hB4 := hB3.trans (hb4.mono hB3.size); clear cA fA zA; obtain ⟨cA, fA, zA⟩ := blkC HA4.out; clear hb4))))
      go_ret2
      exact ⟨rfl, hB4⟩
  · have e : tilsE X Y W H s = checkR X Y W H := by unfold tilsE; rw [if_pos h0]
    rw [e]
    have CR := Lib.hid (fun w => checkRegion_any X Y W H w)
    have hb : (checkR X Y W H != 0) = true := by simp [h0]
    clear h e h0
    generalize checkR X Y W H = c at *
    go_enter Try.func12, Try.ntmps12
    go_wp2_with (first | (go_at_call 51; refine (CR.out _).mono ?_; rintro e w' ⟨rfl, rfl⟩))
    go_ret2
    exact ⟨rfl, (by repeat (first | exact Below.refl _ _ | refine Below.alloc ?_ (by first | omega | (simp; done) | (simp; omega)) _ | refine Below.setCell ?_ (by first | omega | (simp; done) | (simp; omega)) _ | refine Below.drew ?_))⟩

theorem quotient1_any (n b : Int) (w : World) (b1 : 1 ≤ b) (b2 : b ≤ 16777216) (p1 : -1099511627776 ≤ n) (p2 : n ≤ 1099511627776) :
    Calls Try.prog 58 #[.int .i64 n, .int .i64 1, .int .i64 b] w fun e w' => e = .returned (.tuple #[.int .i64 (n / b), .int .i64 (n % b)]) ∧ w = w' := by
  have h := quotient2_any n 1 b w b1 b2 (by omega) (by omega)
  rw [Int.mul_one] at h
  exact h
theorem com_ref {X Y W H s : Int} (h0 : checkR X Y W H = 0) (hs : sidB s = true) (i j : Nat) (hi : i < tlN X W s) (hj : j < tlN Y H s) (w : World) :
    Calls Try.prog 59 #[reg ((X / s + i) * s) ((Y / s + j) * s) s s, reg X Y W H] w fun e w' => e = .returned (.tuple #[reg (tlX X (X / s + i) s) (tlX Y (Y / s + j) s) (tlW X W (X / s + i) s) (tlW Y H (Y / s + j) s), .bool true]) ∧ Below w.heap.size w w' := by
  obtain ⟨b1, b2, b3, b4, _, b6, b7, b8, b9⟩ := checkR_zero h0
  obtain ⟨s1, s2⟩ := sid_iff.1 hs
  obtain ⟨c1, c2, c3⟩ := tlN_parts (X := X) s1 b1 b2
  obtain ⟨d1, d2, d3⟩ := tlN_parts (X := Y) s1 b3 b4
  obtain ⟨_, _, e1, e2⟩ := sq_bd s1 s2 b6 (show X ≤ 4194304 by omega) (show X / s ≤ X / s + i by omega) (by omega)
  obtain ⟨_, _, e3, e4⟩ := sq_bd s1 s2 b8 (show Y ≤ 4194304 by omega) (show Y / s ≤ Y / s + j by omega) (by omega)
  have h := refCommon_any ((X / s + i) * s) ((Y / s + j) * s) s s X Y W H w (by omega) (by omega) (by omega) (by omega) (by omega) (by omega) (by omega) (by omega) (by omega) (by omega) (by omega) (by omega) (by omega) (by omega) (by omega) (by omega)
  obtain ⟨x1, x2⟩ := com_tile' (X := X) (Y := Y) (W := W) (H := H) s1 b1 b3 (i := X / s + i) (j := Y / s + j) (by omega) (by omega) (by omega) (by omega)
  rw [x1, x2] at h
  exact h
theorem sq_wrap {X Y W H s : Int} (h0 : checkR X Y W H = 0) (hs : sidB s = true) (i j : Nat) (hi : i < tlN X W s) (hj : j < tlN Y H s) :
    wrap64 ((X / s + i) * s) = (X / s + i) * s ∧ wrap64 ((Y / s + j) * s) = (Y / s + j) * s := by
  obtain ⟨b1, b2, b3, b4, _, b6, b7, b8, b9⟩ := checkR_zero h0
  obtain ⟨s1, s2⟩ := sid_iff.1 hs
  obtain ⟨c1, c2, c3⟩ := tlN_parts (X := X) s1 b1 b2
  obtain ⟨d1, d2, d3⟩ := tlN_parts (X := Y) s1 b3 b4
  obtain ⟨_, _, e1, e2⟩ := sq_bd s1 s2 b6 (show X ≤ 4194304 by omega) (show X / s ≤ X / s + i by omega) (by omega)
  obtain ⟨_, _, e3, e4⟩ := sq_bd s1 s2 b8 (show Y ≤ 4194304 by omega) (show Y / s ≤ Y / s + j by omega) (by omega)
  exact ⟨IntWalk.wrap64_in _ ⟨by omega, by omega⟩, IntWalk.wrap64_in _ ⟨by omega, by omega⟩⟩

set_option maxHeartbeats 2000000 in
theorem refTiles_bad (X Y W H s : Int) (w : World) (h : tilsE X Y W H s ≠ 0) : Calls Try.prog 13 #[reg X Y W H, .int .i64 s] w (TilsNo w (tilsE X Y W H s)) := by
  by_cases h0 : checkR X Y W H = 0
  · have CR := Lib.hid (fun w => refCheckRegion_any X Y W H w)
    rw [h0] at CR
    cases hs : sidB s with
    | false =>
      have e : tilsE X Y W H s = 3 := by unfold tilsE; rw [if_neg (by simpa using h0), if_pos hs]
      rw [e]
      have hss : s < 1 ∨ (1 ≤ s ∧ 256 < s) := by
        have := withinB_no.1 hs
        omega
      clear h h0 hs e
      rcases hss with a | ⟨a, b⟩
      all_goals
        go_enter Try.func13, Try.ntmps13
        go_wp2_with (first | (go_at_call 57; refine (CR.out _).mono ?_; rintro e w' ⟨rfl, rfl⟩))
        go_ret2
        exact ⟨rfl, (by repeat (first | exact Below.refl _ _ | refine Below.alloc ?_ (by first | omega | (simp; done) | (simp; omega)) _ | refine Below.setCell ?_ (by first | omega | (simp; done) | (simp; omega)) _ | refine Below.drew ?_))⟩
    | true =>
      have hm : 1024 < tlN X W s * tlN Y H s := by
        apply Nat.lt_of_not_le
        intro c
        apply h
        unfold tilsE
        rw [if_neg (by simpa using h0), if_neg (by simp [hs]), if_neg (by omega)]
      have e : tilsE X Y W H s = 4 := by unfold tilsE; rw [if_neg (by simpa using h0), if_neg (by simp [hs]), if_pos hm]
      rw [e]
      obtain ⟨b1, b2, b3, b4, _, b6, b7, b8, b9⟩ := checkR_zero h0
      obtain ⟨s1, s2⟩ := sid_iff.1 hs
      obtain ⟨c1, c2, c3⟩ := tlN_parts (X := X) s1 b1 b2
      obtain ⟨d1, d2, d3⟩ := tlN_parts (X := Y) s1 b3 b4
      obtain ⟨p1, p2, _, _⟩ := sq_bd s1 s2 b6 (show X ≤ 4194304 by omega) (Int.le_refl (X / s)) (by omega)
      obtain ⟨q1, q2, _, _⟩ := sq_bd s1 s2 b8 (show Y ≤ 4194304 by omega) (Int.le_refl (Y / s)) (by omega)
      have D0 := Lib.hid (fun w => quotient1_any X s w s1 (by omega) (by omega) (by omega))
      have D1 := Lib.hid (fun w => quotient1_any Y s w s1 (by omega) (by omega) (by omega))
      have D2 := Lib.hid (fun w => quotient1_any (X + W - 1) s w s1 (by omega) (by omega) (by omega))
      have D3 := Lib.hid (fun w => quotient1_any (Y + H - 1) s w s1 (by omega) (by omega) (by omega))
      have hpr : ((X + W - 1) / s - X / s + 1) * ((Y + H - 1) / s - Y / s + 1) = (tlN X W s * tlN Y H s : Nat) := by rw [← c1, ← d1]; simp
      have hle : tlN X W s * tlN Y H s ≤ 512 * 512 := Nat.mul_le_mul c3 d3
      have hmu : wrap64 (((X + W - 1) / s - X / s + 1) * ((Y + H - 1) / s - Y / s + 1)) = (tlN X W s * tlN Y H s : Nat) := by rw [hpr]; exact IntWalk.wrap64_in _ ⟨by omega, by omega⟩
      have z1 : X / s ≤ (X + W - 1) / s := by omega
      have z2 : Y / s ≤ (Y + H - 1) / s := by omega
      have z3 : (X + W - 1) / s ≤ X / s + 511 := by omega
      have z4 : (Y + H - 1) / s ≤ Y / s + 511 := by omega
      obtain ⟨m', hm'⟩ : ∃ m' : Int, ((tlN X W s * tlN Y H s : Nat) : Int) = m' := ⟨_, rfl⟩
      rw [hm'] at hmu
      have hm2 : 1024 < m' := by omega
      clear h h0 hs e hpr hle c1 d1 c2 c3 d2 d3 hm hm'
      generalize X % s = f0 at *
      generalize Y % s = f1 at *
      generalize (X + W - 1) % s = f2 at *
      generalize (Y + H - 1) % s = f3 at *
      generalize X / s = x0 at *
      generalize Y / s = y0 at *
      generalize (X + W - 1) / s = x1 at *
      generalize (Y + H - 1) / s = y1 at *
      go_enter Try.func13, Try.ntmps13
      go_wp2_with (first | (go_at_call 57; refine (CR.out _).mono ?_; rintro e w' ⟨rfl, rfl⟩) | (go_at_call 58; (first | (with_reducible refine Calls.mono (D0.out _) ?_) | (with_reducible refine Calls.mono (D1.out _) ?_) | (with_reducible refine Calls.mono (D2.out _) ?_) | (with_reducible refine Calls.mono (D3.out _) ?_)); rintro e w' ⟨rfl, rfl⟩))
      go_ret2
      exact ⟨rfl, (by repeat (first | exact Below.refl _ _ | refine Below.alloc ?_ (by first | omega | (simp; done) | (simp; omega)) _ | refine Below.setCell ?_ (by first | omega | (simp; done) | (simp; omega)) _ | refine Below.drew ?_))⟩
  · have e : tilsE X Y W H s = checkR X Y W H := by unfold tilsE; rw [if_pos h0]
    rw [e]
    have CR := Lib.hid (fun w => refCheckRegion_any X Y W H w)
    have hb : (checkR X Y W H != 0) = true := by simp [h0]
    clear h e h0
    generalize checkR X Y W H = c at *
    go_enter Try.func13, Try.ntmps13
    go_wp2_with (first | (go_at_call 57; refine (CR.out _).mono ?_; rintro e w' ⟨rfl, rfl⟩))
    go_ret2
    exact ⟨rfl, (by repeat (first | exact Below.refl _ _ | refine Below.alloc ?_ (by first | omega | (simp; done) | (simp; omega)) _ | refine Below.setCell ?_ (by first | omega | (simp; done) | (simp; omega)) _ | refine Below.drew ?_))⟩
end Go.Proofs.Ytncgcjeihihkfaa
