/- SlopesMatch, for every field and every place: Slope, Curve, Aspect and Normal answer as the references do, bit by bit. No condition. -/
import Derived.Test.YtdbponidkodmfaaJ3C
import Derived.Deep.AppendLies
import Derived.Deep.RegionLaw
import Derived.ProofKit
import Derived.OpenShut
import Derived.Lib.SmallJoins
import Derived.Laws.Cover2
import Derived.Deep.Slices

/- Contracts: the aspect of a cell, of both sides. -/
namespace Go.Proofs.Ytdbponidkodmfaa
open Go.RowKit Fl
set_option linter.unusedVariables false

def eqZ (x : Nat) : Bool := FloatKind.f32.format.order x 0 == some .eq
def gtZ (x : Nat) : Bool := FloatKind.f32.format.order x 0 == some .gt
def leQ (x y : Nat) : Bool := FloatKind.f32.format.order x y == some .lt || FloatKind.f32.format.order x y == some .eq
/-- The direction of two opposite rises. -/
def aspI (a b : Nat) : Int :=
  if (eqZ a && eqZ b) = true then -1
  else if leQ (mulW (absW b) 1075838976) (absW a) = true then (if gtZ a = true then 0 else 4)
  else if leQ (mulW (absW a) 1075838976) (absW b) = true then (if gtZ b = true then 2 else 6)
  else if gtZ b = true then (if gtZ a = true then 1 else 3) else (if gtZ a = true then 7 else 5)

theorem vS_twohalf {j : Nat} (hj : j = 1073) : vS 1075838976 = some ((5 * 2 ^ j : Nat) : Int) := by
  have r : Ieee.single.read 1075838976 = .number false 10485760 (-22) := by decide
  have := vS_lit (t := 5) (k := 21) (j := j) r (by decide) (by omega)
  simpa using this
theorem bd_twohalf : Bd 3 1075838976 := by
  obtain ⟨J, hJ⟩ : ∃ J : Nat, J = 1073 := ⟨_, rfl⟩
  refine bd_val' (j := J + 4) (vS_twohalf (j := J) hJ) (by omega) ?_
  rw [Int.natAbs_natCast, Nat.pow_add, Nat.mul_comm]
  exact Nat.mul_le_mul_left _ (by decide)
theorem neg_lt {v : Nat} (h : v < 4294967296) : negW v < 4294967296 := by
  unfold negW; rw [xor31 h]; split <;> omega

structure AspAt (a b pa pb : Nat) : Prop where
  m1 : floatBits .mul .f32 (absW b) 1075838976 = some pb
  m1' : Same2 .mul 24 (absW b) 1075838976
  m2 : floatBits .mul .f32 (absW a) 1075838976 = some pa
  m2' : Same2 .mul 24 (absW a) 1075838976
  va : ∃ x, vS a = some x
  vb : ∃ x, vS b = some x
  la : a < 4294967296
  lb : b < 4294967296
  wa : mulW (absW a) 1075838976 = pa
  wb : mulW (absW b) 1075838976 = pb

theorem asp_parts {dx dy : Nat} (hx : Bd 21 dx) (lx : dx < 4294967296) (hy : Bd 21 dy) (ly : dy < 4294967296) : ∃ pa pb, AspAt (negW dx) (negW dy) pa pb := by
  have m1 : Same2 .mul (21 + 3) (absW (negW dy)) 1075838976 := mul_same (by omega) (abs_bd (neg_lt ly) (neg_bd ly hy)) bd_twohalf
  have m2 : Same2 .mul (21 + 3) (absW (negW dx)) 1075838976 := mul_same (by omega) (abs_bd (neg_lt lx) (neg_bd lx hx)) bd_twohalf
  obtain ⟨pb, e1, _⟩ := same_ex m1
  obtain ⟨pa, e2, _⟩ := same_ex m2
  obtain ⟨x, hvx, _⟩ := val_bd hx
  obtain ⟨y, hvy, _⟩ := val_bd hy
  exact ⟨pa, pb, e1, m1, e2, m2, ⟨_, neg_val lx hvx⟩, ⟨_, neg_val ly hvy⟩, neg_lt lx, neg_lt ly, by unfold mulW; rw [e2]; rfl, by unfold mulW; rw [e1]; rfl⟩

set_option maxHeartbeats 400000 in
theorem magnitude_any (x : Nat) {a : Int} (hx : x < 4294967296) (hv : vS x = some a) (w : World) :
    Calls Try.prog 148 #[.float .f32 x] w fun e w' => e = .returned (.float .f32 (absW x)) ∧ w = w' := by
  have ng := run_neg_f32
  have mx := fun (ts : Array TypeId) (t : TypeId) (W : World) => run_max_neg ts t x hx hv W
  clear hv hx
  go_enter Try.func148, Try.ntmps148
  go_wp2
  go_ret
  exact ⟨rfl, rfl⟩

set_option maxHeartbeats 400000 in
theorem choose_any (q : Bool) (x y : Int) (w : World) :
    Calls Try.prog 149 #[.bool q, .int .i64 x, .int .i64 y] w fun e w' => e = .returned (.int .i64 (if q = true then x else y)) ∧ w = w' := by
  cases q
  all_goals go_enter Try.func149, Try.ntmps149
  all_goals go_wp2
  all_goals go_ret
  all_goals exact ⟨rfl, rfl⟩
set_option maxHeartbeats 400000 in
theorem rpick_any (q : Bool) (x y : Int) (w : World) :
    Calls Try.prog 150 #[.bool q, .int .i64 x, .int .i64 y] w fun e w' => e = .returned (.int .i64 (if q = true then x else y)) ∧ w = w' := by
  cases q
  all_goals go_enter Try.func150, Try.ntmps150
  all_goals go_wp2
  all_goals go_ret
  all_goals exact ⟨rfl, rfl⟩

set_option maxHeartbeats 4000000 in
theorem aspect_any (c n ww e s : Nat) (w : World) (hn : hgtB n = true) (hw : hgtB ww = true) (he : hgtB e = true) (hs : hgtB s = true) :
    Calls Try.prog 95 #[crossV c n ww e s] w fun e' w' => e' = .returned (.int .i64 (aspI (negW (riseW e ww)) (negW (riseW s n)))) ∧ Below w.heap.size w w' := by
  have RI := Lib.hid (fun w => rise_any c n ww e s w hn hw he hs)
  obtain ⟨d, r, R1⟩ := rise_parts he hw
  obtain ⟨d', r', R2⟩ := rise_parts hs hn
  obtain ⟨pa, pb, A⟩ := asp_parts (dx := riseW e ww) (dy := riseW s n) (by rw [R1.w]; exact R1.bd) (by rw [R1.w]; exact R1.lt) (by rw [R2.w]; exact R2.bd) (by rw [R2.w]; exact R2.lt)
  generalize riseW e ww = dx at *
  generalize riseW s n = dy at *
  have ng := run_neg_f32
  obtain ⟨a, ha⟩ : ∃ a, negW dx = a := ⟨_, rfl⟩
  obtain ⟨b, hb⟩ : ∃ b, negW dy = b := ⟨_, rfl⟩
  rw [ha, hb] at A ⊢
  obtain ⟨xa, va⟩ := A.va
  obtain ⟨xb, vb⟩ := A.vb
  have MA := Lib.hid (fun w => magnitude_any a A.la va w)
  have MB := Lib.hid (fun w => magnitude_any b A.lb vb w)
  have CH := Lib.hid (fun q x y w => choose_any q x y w)
  have a1 := fun (W : World) => run_float_arith (P := Try.prog) W .mul 34 .f32 (absW b) 1075838976 pb A.m1
  have a2 := fun (W : World) => run_float_arith (P := Try.prog) W .mul 34 .f32 (absW a) 1075838976 pa A.m2
  obtain ⟨za, e1⟩ : ∃ z, (FloatKind.f32.format.order a 0 == some .eq) = z := ⟨_, rfl⟩
  obtain ⟨zb, e2⟩ : ∃ z, (FloatKind.f32.format.order b 0 == some .eq) = z := ⟨_, rfl⟩
  obtain ⟨l1, e3⟩ : ∃ z, (FloatKind.f32.format.order pb (absW a) == some .lt || FloatKind.f32.format.order pb (absW a) == some .eq) = z := ⟨_, rfl⟩
  obtain ⟨l2, e4⟩ : ∃ z, (FloatKind.f32.format.order pa (absW b) == some .lt || FloatKind.f32.format.order pa (absW b) == some .eq) = z := ⟨_, rfl⟩
  obtain ⟨gb, e5⟩ : ∃ z, (FloatKind.f32.format.order b 0 == some .gt) = z := ⟨_, rfl⟩
  obtain ⟨ga, e6⟩ : ∃ z, (FloatKind.f32.format.order a 0 == some .gt) = z := ⟨_, rfl⟩
  have ei : aspI a b = (if (za && zb) = true then -1 else if l1 = true then (if ga = true then 0 else 4) else if l2 = true then (if gb = true then 2 else 6) else if gb = true then (if ga = true then 1 else 3) else (if ga = true then 7 else 5)) := by
    unfold aspI eqZ gtZ leQ
    rw [A.wa, A.wb, e1, e2, e3, e4, e5, e6]
  rw [ei]
  clear ei A R1 R2 hn hw he hs va vb
  cases za with
  | true =>
    cases zb with
    | true =>
      go_enter Try.func95, Try.ntmps95
      go_wp2_with (first | (go_at_call 147; refine (RI.out _).mono ?_; rintro e2 w2 ⟨rfl, hb2⟩; have hB2 : Below w.heap.size w w2 := Below.trans (by repeat (first | exact Below.refl _ _ | refine Below.alloc ?_ (by first | omega | (simp; done) | (simp; omega)) _ | refine Below.setCell ?_ (by first | omega | (simp; done) | (simp; omega)) _ | refine Below.drew ?_)) (Below.mono hb2 (by first | omega | (simp; done) | (simp; omega))); clear hb2) | (go_at_call 148; (with_reducible refine (MA.out _).mono ?_); rintro e w' ⟨rfl, rfl⟩) | (go_at_call 148; (with_reducible refine (MB.out _).mono ?_); rintro e w' ⟨rfl, rfl⟩) | (go_at_call 149; refine (CH.out _ _ _ _).mono ?_; rintro e w' ⟨rfl, rfl⟩))
      all_goals go_ret
      all_goals exact ⟨ret_int (by first | rfl | (simp; done) | (simp_all; done)), hB2⟩
    | false =>
      cases l1 with
      | true =>
        go_enter Try.func95, Try.ntmps95
        go_wp2_with (first | (go_at_call 147; refine (RI.out _).mono ?_; rintro e2 w2 ⟨rfl, hb2⟩; have hB2 : Below w.heap.size w w2 := Below.trans (by repeat (first | exact Below.refl _ _ | refine Below.alloc ?_ (by first | omega | (simp; done) | (simp; omega)) _ | refine Below.setCell ?_ (by first | omega | (simp; done) | (simp; omega)) _ | refine Below.drew ?_)) (Below.mono hb2 (by first | omega | (simp; done) | (simp; omega))); clear hb2) | (go_at_call 148; (with_reducible refine (MA.out _).mono ?_); rintro e w' ⟨rfl, rfl⟩) | (go_at_call 148; (with_reducible refine (MB.out _).mono ?_); rintro e w' ⟨rfl, rfl⟩) | (go_at_call 149; refine (CH.out _ _ _ _).mono ?_; rintro e w' ⟨rfl, rfl⟩))
        all_goals go_ret
        all_goals exact ⟨ret_int (by first | rfl | (simp; done) | (simp_all; done)), hB2⟩
      | false =>
        cases l2 with
        | true =>
          go_enter Try.func95, Try.ntmps95
          go_wp2_with (first | (go_at_call 147; refine (RI.out _).mono ?_; rintro e2 w2 ⟨rfl, hb2⟩; have hB2 : Below w.heap.size w w2 := Below.trans (by repeat (first | exact Below.refl _ _ | refine Below.alloc ?_ (by first | omega | (simp; done) | (simp; omega)) _ | refine Below.setCell ?_ (by first | omega | (simp; done) | (simp; omega)) _ | refine Below.drew ?_)) (Below.mono hb2 (by first | omega | (simp; done) | (simp; omega))); clear hb2) | (go_at_call 148; (with_reducible refine (MA.out _).mono ?_); rintro e w' ⟨rfl, rfl⟩) | (go_at_call 148; (with_reducible refine (MB.out _).mono ?_); rintro e w' ⟨rfl, rfl⟩) | (go_at_call 149; refine (CH.out _ _ _ _).mono ?_; rintro e w' ⟨rfl, rfl⟩))
          all_goals go_ret
          all_goals exact ⟨ret_int (by first | rfl | (simp; done) | (simp_all; done)), hB2⟩
        | false =>
          cases gb with
          | true =>
            go_enter Try.func95, Try.ntmps95
            go_wp2_with (first | (go_at_call 147; refine (RI.out _).mono ?_; rintro e2 w2 ⟨rfl, hb2⟩; have hB2 : Below w.heap.size w w2 := Below.trans (by repeat (first | exact Below.refl _ _ | refine Below.alloc ?_ (by first | omega | (simp; done) | (simp; omega)) _ | refine Below.setCell ?_ (by first | omega | (simp; done) | (simp; omega)) _ | refine Below.drew ?_)) (Below.mono hb2 (by first | omega | (simp; done) | (simp; omega))); clear hb2) | (go_at_call 148; (with_reducible refine (MA.out _).mono ?_); rintro e w' ⟨rfl, rfl⟩) | (go_at_call 148; (with_reducible refine (MB.out _).mono ?_); rintro e w' ⟨rfl, rfl⟩) | (go_at_call 149; refine (CH.out _ _ _ _).mono ?_; rintro e w' ⟨rfl, rfl⟩))
            all_goals go_ret
            all_goals exact ⟨ret_int (by first | rfl | (simp; done) | (simp_all; done)), hB2⟩
          | false =>
            go_enter Try.func95, Try.ntmps95
            go_wp2_with (first | (go_at_call 147; refine (RI.out _).mono ?_; rintro e2 w2 ⟨rfl, hb2⟩; have hB2 : Below w.heap.size w w2 := Below.trans (by repeat (first | exact Below.refl _ _ | refine Below.alloc ?_ (by first | omega | (simp; done) | (simp; omega)) _ | refine Below.setCell ?_ (by first | omega | (simp; done) | (simp; omega)) _ | refine Below.drew ?_)) (Below.mono hb2 (by first | omega | (simp; done) | (simp; omega))); clear hb2) | (go_at_call 148; (with_reducible refine (MA.out _).mono ?_); rintro e w' ⟨rfl, rfl⟩) | (go_at_call 148; (with_reducible refine (MB.out _).mono ?_); rintro e w' ⟨rfl, rfl⟩) | (go_at_call 149; refine (CH.out _ _ _ _).mono ?_; rintro e w' ⟨rfl, rfl⟩))
            all_goals go_ret
            all_goals exact ⟨ret_int (by first | rfl | (simp; done) | (simp_all; done)), hB2⟩
  | false =>
    cases l1 with
    | true =>
      go_enter Try.func95, Try.ntmps95
      go_wp2_with (first | (go_at_call 147; refine (RI.out _).mono ?_; rintro e2 w2 ⟨rfl, hb2⟩; have hB2 : Below w.heap.size w w2 := Below.trans (by repeat (first | exact Below.refl _ _ | refine Below.alloc ?_ (by first | omega | (simp; done) | (simp; omega)) _ | refine Below.setCell ?_ (by first | omega | (simp; done) | (simp; omega)) _ | refine Below.drew ?_)) (Below.mono hb2 (by first | omega | (simp; done) | (simp; omega))); clear hb2) | (go_at_call 148; (with_reducible refine (MA.out _).mono ?_); rintro e w' ⟨rfl, rfl⟩) | (go_at_call 148; (with_reducible refine (MB.out _).mono ?_); rintro e w' ⟨rfl, rfl⟩) | (go_at_call 149; refine (CH.out _ _ _ _).mono ?_; rintro e w' ⟨rfl, rfl⟩))
      all_goals go_ret
      all_goals exact ⟨ret_int (by first | rfl | (simp; done) | (simp_all; done)), hB2⟩
    | false =>
      cases l2 with
      | true =>
        go_enter Try.func95, Try.ntmps95
        go_wp2_with (first | (go_at_call 147; refine (RI.out _).mono ?_; rintro e2 w2 ⟨rfl, hb2⟩; have hB2 : Below w.heap.size w w2 := Below.trans (by repeat (first | exact Below.refl _ _ | refine Below.alloc ?_ (by first | omega | (simp; done) | (simp; omega)) _ | refine Below.setCell ?_ (by first | omega | (simp; done) | (simp; omega)) _ | refine Below.drew ?_)) (Below.mono hb2 (by first | omega | (simp; done) | (simp; omega))); clear hb2) | (go_at_call 148; (with_reducible refine (MA.out _).mono ?_); rintro e w' ⟨rfl, rfl⟩) | (go_at_call 148; (with_reducible refine (MB.out _).mono ?_); rintro e w' ⟨rfl, rfl⟩) | (go_at_call 149; refine (CH.out _ _ _ _).mono ?_; rintro e w' ⟨rfl, rfl⟩))
        all_goals go_ret
        all_goals exact ⟨ret_int (by first | rfl | (simp; done) | (simp_all; done)), hB2⟩
      | false =>
        cases gb with
        | true =>
          go_enter Try.func95, Try.ntmps95
          go_wp2_with (first | (go_at_call 147; refine (RI.out _).mono ?_; rintro e2 w2 ⟨rfl, hb2⟩; have hB2 : Below w.heap.size w w2 := Below.trans (by repeat (first | exact Below.refl _ _ | refine Below.alloc ?_ (by first | omega | (simp; done) | (simp; omega)) _ | refine Below.setCell ?_ (by first | omega | (simp; done) | (simp; omega)) _ | refine Below.drew ?_)) (Below.mono hb2 (by first | omega | (simp; done) | (simp; omega))); clear hb2) | (go_at_call 148; (with_reducible refine (MA.out _).mono ?_); rintro e w' ⟨rfl, rfl⟩) | (go_at_call 148; (with_reducible refine (MB.out _).mono ?_); rintro e w' ⟨rfl, rfl⟩) | (go_at_call 149; refine (CH.out _ _ _ _).mono ?_; rintro e w' ⟨rfl, rfl⟩))
          all_goals go_ret
          all_goals exact ⟨ret_int (by first | rfl | (simp; done) | (simp_all; done)), hB2⟩
        | false =>
          go_enter Try.func95, Try.ntmps95
          go_wp2_with (first | (go_at_call 147; refine (RI.out _).mono ?_; rintro e2 w2 ⟨rfl, hb2⟩; have hB2 : Below w.heap.size w w2 := Below.trans (by repeat (first | exact Below.refl _ _ | refine Below.alloc ?_ (by first | omega | (simp; done) | (simp; omega)) _ | refine Below.setCell ?_ (by first | omega | (simp; done) | (simp; omega)) _ | refine Below.drew ?_)) (Below.mono hb2 (by first | omega | (simp; done) | (simp; omega))); clear hb2) | (go_at_call 148; (with_reducible refine (MA.out _).mono ?_); rintro e w' ⟨rfl, rfl⟩) | (go_at_call 148; (with_reducible refine (MB.out _).mono ?_); rintro e w' ⟨rfl, rfl⟩) | (go_at_call 149; refine (CH.out _ _ _ _).mono ?_; rintro e w' ⟨rfl, rfl⟩))
          all_goals go_ret
          all_goals exact ⟨ret_int (by first | rfl | (simp; done) | (simp_all; done)), hB2⟩

set_option maxHeartbeats 4000000 in
theorem rdirection_any (a b pa pb : Nat) (A : AspAt a b pa pb) (w : World) :
    Calls Try.prog 96 #[.float .f32 a, .float .f32 b] w fun e' w' => e' = .returned (.int .i64 (aspI a b)) ∧ w = w' := by
  have MA := Lib.hid (show ∀ w, Calls Try.prog 109 #[.float .f32 a] w fun e w' => e = .returned (.float .f32 (absW a)) ∧ w = w' from fun w => refAbs_any a w A.la)
  have MB := Lib.hid (show ∀ w, Calls Try.prog 109 #[.float .f32 b] w fun e w' => e = .returned (.float .f32 (absW b)) ∧ w = w' from fun w => refAbs_any b w A.lb)
  have CH := Lib.hid (fun q x y w => rpick_any q x y w)
  have M1 := Lib.hid (fun w => refMul_any 24 _ _ pb A.m1' A.m1 w)
  have M2 := Lib.hid (fun w => refMul_any 24 _ _ pa A.m2' A.m2 w)
  obtain ⟨za, e1⟩ : ∃ z, (FloatKind.f32.format.order a 0 == some .eq) = z := ⟨_, rfl⟩
  obtain ⟨zb, e2⟩ : ∃ z, (FloatKind.f32.format.order b 0 == some .eq) = z := ⟨_, rfl⟩
  obtain ⟨l1, e3⟩ : ∃ z, (FloatKind.f32.format.order pb (absW a) == some .lt || FloatKind.f32.format.order pb (absW a) == some .eq) = z := ⟨_, rfl⟩
  obtain ⟨l2, e4⟩ : ∃ z, (FloatKind.f32.format.order pa (absW b) == some .lt || FloatKind.f32.format.order pa (absW b) == some .eq) = z := ⟨_, rfl⟩
  obtain ⟨gb, e5⟩ : ∃ z, (FloatKind.f32.format.order b 0 == some .gt) = z := ⟨_, rfl⟩
  obtain ⟨ga, e6⟩ : ∃ z, (FloatKind.f32.format.order a 0 == some .gt) = z := ⟨_, rfl⟩
  have ei : aspI a b = (if (za && zb) = true then -1 else if l1 = true then (if ga = true then 0 else 4) else if l2 = true then (if gb = true then 2 else 6) else if gb = true then (if ga = true then 1 else 3) else (if ga = true then 7 else 5)) := by
    unfold aspI eqZ gtZ leQ
    rw [A.wa, A.wb, e1, e2, e3, e4, e5, e6]
  rw [ei]
  clear ei A
  cases za with
  | true =>
    cases zb with
    | true =>
      go_enter Try.func96, Try.ntmps96
      go_wp2_with (first | (go_at_call 109; (with_reducible refine (MA.out _).mono ?_); rintro e w' ⟨rfl, rfl⟩) | (go_at_call 109; (with_reducible refine (MB.out _).mono ?_); rintro e w' ⟨rfl, rfl⟩) | (go_at_call 86; (with_reducible refine (M1.out _).mono ?_); rintro e w' ⟨rfl, rfl⟩) | (go_at_call 86; (with_reducible refine (M2.out _).mono ?_); rintro e w' ⟨rfl, rfl⟩) | (go_at_call 150; refine (CH.out _ _ _ _).mono ?_; rintro e w' ⟨rfl, rfl⟩))
      all_goals go_ret
      all_goals exact ⟨ret_int (by first | rfl | (simp; done) | (simp_all; done)), rfl⟩
    | false =>
      cases l1 with
      | true =>
        go_enter Try.func96, Try.ntmps96
        go_wp2_with (first | (go_at_call 109; (with_reducible refine (MA.out _).mono ?_); rintro e w' ⟨rfl, rfl⟩) | (go_at_call 109; (with_reducible refine (MB.out _).mono ?_); rintro e w' ⟨rfl, rfl⟩) | (go_at_call 86; (with_reducible refine (M1.out _).mono ?_); rintro e w' ⟨rfl, rfl⟩) | (go_at_call 86; (with_reducible refine (M2.out _).mono ?_); rintro e w' ⟨rfl, rfl⟩) | (go_at_call 150; refine (CH.out _ _ _ _).mono ?_; rintro e w' ⟨rfl, rfl⟩))
        all_goals go_ret
        all_goals exact ⟨ret_int (by first | rfl | (simp; done) | (simp_all; done)), rfl⟩
      | false =>
        cases l2 with
        | true =>
          go_enter Try.func96, Try.ntmps96
          go_wp2_with (first | (go_at_call 109; (with_reducible refine (MA.out _).mono ?_); rintro e w' ⟨rfl, rfl⟩) | (go_at_call 109; (with_reducible refine (MB.out _).mono ?_); rintro e w' ⟨rfl, rfl⟩) | (go_at_call 86; (with_reducible refine (M1.out _).mono ?_); rintro e w' ⟨rfl, rfl⟩) | (go_at_call 86; (with_reducible refine (M2.out _).mono ?_); rintro e w' ⟨rfl, rfl⟩) | (go_at_call 150; refine (CH.out _ _ _ _).mono ?_; rintro e w' ⟨rfl, rfl⟩))
          all_goals go_ret
          all_goals exact ⟨ret_int (by first | rfl | (simp; done) | (simp_all; done)), rfl⟩
        | false =>
          cases gb with
          | true =>
            go_enter Try.func96, Try.ntmps96
            go_wp2_with (first | (go_at_call 109; (with_reducible refine (MA.out _).mono ?_); rintro e w' ⟨rfl, rfl⟩) | (go_at_call 109; (with_reducible refine (MB.out _).mono ?_); rintro e w' ⟨rfl, rfl⟩) | (go_at_call 86; (with_reducible refine (M1.out _).mono ?_); rintro e w' ⟨rfl, rfl⟩) | (go_at_call 86; (with_reducible refine (M2.out _).mono ?_); rintro e w' ⟨rfl, rfl⟩) | (go_at_call 150; refine (CH.out _ _ _ _).mono ?_; rintro e w' ⟨rfl, rfl⟩))
            all_goals go_ret
            all_goals exact ⟨ret_int (by first | rfl | (simp; done) | (simp_all; done)), rfl⟩
          | false =>
            go_enter Try.func96, Try.ntmps96
            go_wp2_with (first | (go_at_call 109; (with_reducible refine (MA.out _).mono ?_); rintro e w' ⟨rfl, rfl⟩) | (go_at_call 109; (with_reducible refine (MB.out _).mono ?_); rintro e w' ⟨rfl, rfl⟩) | (go_at_call 86; (with_reducible refine (M1.out _).mono ?_); rintro e w' ⟨rfl, rfl⟩) | (go_at_call 86; (with_reducible refine (M2.out _).mono ?_); rintro e w' ⟨rfl, rfl⟩) | (go_at_call 150; refine (CH.out _ _ _ _).mono ?_; rintro e w' ⟨rfl, rfl⟩))
            all_goals go_ret
            all_goals exact ⟨ret_int (by first | rfl | (simp; done) | (simp_all; done)), rfl⟩
  | false =>
    cases l1 with
    | true =>
      go_enter Try.func96, Try.ntmps96
      go_wp2_with (first | (go_at_call 109; (with_reducible refine (MA.out _).mono ?_); rintro e w' ⟨rfl, rfl⟩) | (go_at_call 109; (with_reducible refine (MB.out _).mono ?_); rintro e w' ⟨rfl, rfl⟩) | (go_at_call 86; (with_reducible refine (M1.out _).mono ?_); rintro e w' ⟨rfl, rfl⟩) | (go_at_call 86; (with_reducible refine (M2.out _).mono ?_); rintro e w' ⟨rfl, rfl⟩) | (go_at_call 150; refine (CH.out _ _ _ _).mono ?_; rintro e w' ⟨rfl, rfl⟩))
      all_goals go_ret
      all_goals exact ⟨ret_int (by first | rfl | (simp; done) | (simp_all; done)), rfl⟩
    | false =>
      cases l2 with
      | true =>
        go_enter Try.func96, Try.ntmps96
        go_wp2_with (first | (go_at_call 109; (with_reducible refine (MA.out _).mono ?_); rintro e w' ⟨rfl, rfl⟩) | (go_at_call 109; (with_reducible refine (MB.out _).mono ?_); rintro e w' ⟨rfl, rfl⟩) | (go_at_call 86; (with_reducible refine (M1.out _).mono ?_); rintro e w' ⟨rfl, rfl⟩) | (go_at_call 86; (with_reducible refine (M2.out _).mono ?_); rintro e w' ⟨rfl, rfl⟩) | (go_at_call 150; refine (CH.out _ _ _ _).mono ?_; rintro e w' ⟨rfl, rfl⟩))
        all_goals go_ret
        all_goals exact ⟨ret_int (by first | rfl | (simp; done) | (simp_all; done)), rfl⟩
      | false =>
        cases gb with
        | true =>
          go_enter Try.func96, Try.ntmps96
          go_wp2_with (first | (go_at_call 109; (with_reducible refine (MA.out _).mono ?_); rintro e w' ⟨rfl, rfl⟩) | (go_at_call 109; (with_reducible refine (MB.out _).mono ?_); rintro e w' ⟨rfl, rfl⟩) | (go_at_call 86; (with_reducible refine (M1.out _).mono ?_); rintro e w' ⟨rfl, rfl⟩) | (go_at_call 86; (with_reducible refine (M2.out _).mono ?_); rintro e w' ⟨rfl, rfl⟩) | (go_at_call 150; refine (CH.out _ _ _ _).mono ?_; rintro e w' ⟨rfl, rfl⟩))
          all_goals go_ret
          all_goals exact ⟨ret_int (by first | rfl | (simp; done) | (simp_all; done)), rfl⟩
        | false =>
          go_enter Try.func96, Try.ntmps96
          go_wp2_with (first | (go_at_call 109; (with_reducible refine (MA.out _).mono ?_); rintro e w' ⟨rfl, rfl⟩) | (go_at_call 109; (with_reducible refine (MB.out _).mono ?_); rintro e w' ⟨rfl, rfl⟩) | (go_at_call 86; (with_reducible refine (M1.out _).mono ?_); rintro e w' ⟨rfl, rfl⟩) | (go_at_call 86; (with_reducible refine (M2.out _).mono ?_); rintro e w' ⟨rfl, rfl⟩) | (go_at_call 150; refine (CH.out _ _ _ _).mono ?_; rintro e w' ⟨rfl, rfl⟩))
          all_goals go_ret
          all_goals exact ⟨ret_int (by first | rfl | (simp; done) | (simp_all; done)), rfl⟩
end Go.Proofs.Ytdbponidkodmfaa

/- Contracts: two lists of whole numbers compared; each, and the aspects of a field, of the program. -/
namespace Go.Proofs.Ytdbponidkodmfaa
open Go.RowKit Fl
set_option linter.unusedVariables false

set_option maxHeartbeats 1000000 in
theorem equalZ_any (b b' cap cap' n : Nat) (c : Nat → Int) (hl : n ≤ 65536) (w : World) (hc : ∀ i, i < n → w.cell? ⟨b, i, none⟩ = some (.int .i64 (c i))) (hc' : ∀ i, i < n → w.cell? ⟨b', i, none⟩ = some (.int .i64 (c i))) :
    Calls Try.prog 34 #[.slice (some ⟨b, 0, none⟩) n cap, .slice (some ⟨b', 0, none⟩) n cap'] w fun e w' => e = .returned (.bool true) ∧ Below w.heap.size w w' := by
  have HC := Lib.hid hc
  have HC' := Lib.hid hc'
  clear hc hc'
  go_enter Try.func34, Try.ntmps34
  go_wp2
  go_loopw [13] (fun i wr => ∃ k : Nat, k ≤ n ∧ i = .int .i64 k ∧ (∀ p : Addr, p.block < w.heap.size → wr.cell? p = w.cell? p) ∧ Below w.heap.size w wr) (fun i _ => n - (intOf i).toNat)
  case atStart => exact ⟨0, Nat.zero_le _, rfl, fun _ _ => rfl, Below.refl _ _⟩
  case round =>
    obtain ⟨k, hk, rfl, hs, hb⟩ := hrel
    have HB := Lib.hid hb
    have HS := Lib.hid hs
    by_cases hlt : k < n
    · have z1 := World.block_lt_of_cell? w _ (HC.out k hlt)
      have z2 := World.block_lt_of_cell? w _ (HC'.out k hlt)
      have d1 := (hs ⟨b, k, none⟩ z1).trans (HC.out k hlt)
      have d2 := (hs ⟨b', k, none⟩ z2).trans (HC'.out k hlt)
      have k1 : (k : Int) < (n : Int) := by omega
      clear hs hb
      go_wp2
      go_region
      all_goals go_wp2
      all_goals go_roundw
      case rel => exact ⟨k + 1, by omega, by go_num, fun p hp => HS.out p hp, HB.out.drew⟩
      case measure => simp [intOf]; omega
    · clear hs hb
      go_wp2
      go_ret
      exact ⟨rfl, HB.out⟩

theorem make0_int (n : Nat) (hn : n ≤ 262144) (w : World) :
    (Instr.makeSlice 53 (.int .i64 0) (.int .i64 (n : Int))).run Try.prog w = .ok (.slice (some ⟨w.heap.size, 0, none⟩) 0 n) (w.alloc (.cells (madeCells #[Value.int .i64 0] n) 3)) := by
  have h : (Try.prog.info? 3).map (fun i => (i.zero, i.size, i.bytes)) = some (some (.int .i64 0), 1, 8) := by kernel_rfl
  obtain ⟨i0, hi, hz0, hz1, hz2⟩ := info_parts h
  have hr := run_make (P := Try.prog) w 53 3 i0 (.int .i64 0) Try.underlying53 hi hz0 .i64 .i64 0 n (by omega) (by omega) (by rw [hz2]; omega) (by omega)
  rw [hz1, Nat.mul_one, Int.toNat_natCast] at hr
  exact hr

/-- The list of f's first k values. -/
def zL (f : Nat → Int) (k : Nat) : List Value := (List.range k).map fun i => Value.int .i64 (f i)
theorem zL_succ (f : Nat → Int) (k : Nat) : zL f k ++ [.int .i64 (f k)] = zL f (k + 1) := by simp [zL, List.range_succ]
/-- The aspect of a cell of the rim's inside. -/
def aspR (v : Nat → Nat) (W j : Nat) : Int := aspI (negW (riseW (v (rimI W j + 1)) (v (rimI W j - 1)))) (negW (riseW (v (rimI W j + W)) (v (rimI W j - W))))

/-- At the head of a loop that makes a list, when k of f are there; the region lies in the block bb. -/
structure EaAt (w0 : World) (X Y W H : Int) (bb base : Nat) (f : Nat → Int) (k : Nat) (ov : Value) (wr : World) : Prop where
  own : wr.ownsRow base 3 1 ov k (zL f k)
  reg : wr.heap[bb]? = some (regObj X Y W H)
  bel : Below w0.heap.size w0 wr
  size : base ≤ wr.heap.size

theorem EaAt.push {w0 wr w5 w6 : World} {X Y W H : Int} {bb base k g' cap' : Nat} {f : Nat → Int} {ov : Value} {o : Obj} (h : EaAt w0 X Y W H bb base f k ov wr) (h5 : Below wr.heap.size wr w5) (hb : bb < base) (h0 : w0.heap.size ≤ base)
    (hgrow : (w5.alloc o).grownBy w6 ov.ownBlock) (hown : w6.ownsRow base 3 1 (.slice (some ⟨g', 0, none⟩) (k + 1) cap') (k + 1) (zL f k ++ [.int .i64 (f k)])) :
    EaAt w0 X Y W H bb base f (k + 1) (.slice (some ⟨g', 0, none⟩) (k + 1) cap') w6 := by
  have z5 : base ≤ w5.heap.size := Nat.le_trans h.size h5.size
  have own5 := ownsRow_below h.own h5
  have B5 : Below w0.heap.size w0 w5 := h.bel.trans (h5.mono h.bel.size)
  have e4 : ∀ j, j < base → w6.heap[j]? = w5.heap[j]? := fun j hj => (hgrow.block j (by show j < (w5.alloc o).heap.size; rw [heap_size_alloc]; omega) (ownsRow_far own5 hj)).trans (heap_alloc_old _ _ (by omega))
  have B4 : Below w0.heap.size w0 (w5.alloc o) := B5.alloc B5.size o
  have z6 := hgrow.size
  rw [heap_size_alloc] at z6
  exact ⟨by rw [← zL_succ]; exact hown, (e4 _ hb).trans (blkStay h.reg h5), ⟨hgrow.os.trans B4.os, hgrow.tape.trans B4.tape, hgrow.output.trans B4.output, Nat.le_trans B4.size hgrow.size, fun j hj => (e4 j (by omega)).trans (B5.block j hj)⟩, by omega⟩

theorem EaAt.cells {w0 wr : World} {X Y W H : Int} {bb base g cap k : Nat} {f : Nat → Int} (h : EaAt w0 X Y W H bb base f k (.slice (some ⟨g, 0, none⟩) k cap) wr) : (∀ i, i < k → wr.cell? ⟨g, i, none⟩ = some (.int .i64 (f i))) ∧ base ≤ g ∧ g < wr.heap.size := by
  rcases h.own.2 with ⟨h0, _⟩ | ⟨g', cap', cur, hv, hg, hh, h1, h2, h3, h4⟩
  · cases h0
  · cases hv
    refine ⟨fun i hi => ?_, hg, (blkC hh).2.2⟩
    rw [(blkC hh).1 i]
    have : (cur.toList.take (k * 1))[i]? = some (.int .i64 (f i)) := by rw [h4]; simp [zL, hi]
    rw [List.getElem?_take, if_pos (by omega)] at this
    simpa using this

set_option maxHeartbeats 4000000 in
theorem asp1_any (X Y : Int) (W H n b cap : Nat) (v : Nat → Nat) (p : Nat) (w : World) (hp : w.heap[p]? = some (fldO X Y W H (.slice (some ⟨b, 0, none⟩) n cap))) (hr : FlAt w b 0 n v)
    (h0 : checkR X Y W H = 0) (hn : n = H * W) (hcap : n ≤ cap) (hcp : cap ≤ 9223372036854775807) (hh : allB n (fun i => hgtB (v i)) = true) (hW : 3 ≤ W) (hH : 3 ≤ H) (x y : Int) (j : Nat) (w2 : World)
    (h1 : X + 1 ≤ x) (h2 : x < X + 1 + ((W : Int) - 2)) (h3 : Y + 1 ≤ y) (h4 : y < Y + 1 + ((H : Int) - 2)) (hj : (j : Int) = (y - (Y + 1)) * ((W : Int) - 2) + (x - (X + 1))) (hb : Below w.heap.size w w2) :
    Calls Try.prog 93 #[.int .i64 x, .int .i64 y, .pointer (some ⟨p, 0, none⟩)] w2 fun e w' => e = .returned (.int .i64 (aspR v W j)) ∧ Below w2.heap.size w2 w' := by
  have n1 : 1 ≤ n := by rw [hn]; exact Nat.mul_pos (by omega) (by omega)
  have hr2 := flAt_congr hr (hb.block _ (World.block_lt_of_cell? w _ (hr 0 n1)))
  have hi := rim_num hW h1 h2 h3 hj
  unfold aspR
  obtain ⟨i, hi'⟩ : ∃ i, rimI W j = i := ⟨_, rfl⟩
  rw [hi'] at hi ⊢
  have I := in_cell hn h1 (show x + 1 < X + W by omega) h3 (show y + 1 < Y + H by omega) hi
  have zb : b < w2.heap.size := World.block_lt_of_cell? w2 _ (hr2 i I.a0)
  have CA := Lib.hid (fun W' (hb : Below w2.heap.size w2 W') => crossAt_any X Y W H n b cap i v x y W' h0 hn hcap hcp (flAt_congr hr2 (hb.block _ zb)) I.h1 I.h2 I.h3 I.h4 I.hi)
  have AS := Lib.hid (fun w => aspect_any (v i) (v (i - W)) (v (i - 1)) (v (i + 1)) (v (i + W)) w (allB_iff.1 hh _ I.a1) (allB_iff.1 hh _ I.a4) (allB_iff.1 hh _ I.a3) (allB_iff.1 hh _ I.a2))
  have GF := Lib.hid (blkStay hp hb)
  obtain ⟨cF, fF, zF⟩ := blkC GF.out
  clear hp hr h0 hn hh hW hH hb hi hi' I h1 h2 h3 h4 hj n1 hr2 hcap hcp zb
  generalize aspI (negW (riseW (v (i + 1)) (v (i - 1)))) (negW (riseW (v (i + W)) (v (i - W)))) = res at *
  generalize v i = v0 at *
  generalize v (i - W) = v1 at *
  generalize v (i + W) = v2 at *
  generalize v (i + 1) = v3 at *
  generalize v (i - 1) = v4 at *
  go_enter Try.func93, Try.ntmps93
  go_wp2_with (first | (go_at_call 94; refine (CA.out _ (Below.refl _ _)).mono ?_; rintro e' w3 ⟨rfl, hb3⟩; have B3 := Lib.hid hb3; clear hb3) | (go_at_call 95; refine (AS.out _).mono ?_; rintro e' w4 ⟨rfl, hb4⟩; have B4 := Lib.hid (B3.out.trans (hb4.mono B3.out.size)); clear hb4))
  go_ret
  exact ⟨rfl, B4.out⟩

set_option maxRecDepth 100000 in
set_option maxHeartbeats 4000000 in
theorem each_any (X Y : Int) (W H n : Nat) (p : Nat) (f : Nat → Int) (w : World)
    (hcl : ∀ (x y : Int) (j : Nat) (w2 : World), X ≤ x → x < X + W → Y ≤ y → y < Y + H → (j : Int) = (y - Y) * W + (x - X) → Below w.heap.size w w2 → Calls Try.prog 93 #[.int .i64 x, .int .i64 y, .pointer (some ⟨p, 0, none⟩)] w2 fun e w' => e = .returned (.int .i64 (f j)) ∧ Below w2.heap.size w2 w')
    (hX1 : -16777216 ≤ X) (hX2 : X ≤ 16777216) (hY1 : -16777216 ≤ Y) (hY2 : Y ≤ 16777216) (hW1 : 1 ≤ W) (hW2 : W ≤ 512) (hH1 : 1 ≤ H) (hH2 : H ≤ 512) (hn : n = H * W) :
    Calls Try.prog 92 #[reg X Y W H, .func (.func 93) #[] #[.pointer (some ⟨p, 0, none⟩)]] w fun e w' => ∃ g cap, e = .returned (.slice (some ⟨g, 0, none⟩) n cap) ∧ (∀ i, i < n → w'.cell? ⟨g, i, none⟩ = some (.int .i64 (f i))) ∧ w.heap.size ≤ g ∧ g < w'.heap.size ∧ Below w.heap.size w w' := by
  have HCL := Lib.hid hcl
  have HN := Lib.hid hn
  have hn1 : 1 ≤ n := by rw [hn]; exact Nat.mul_pos hH1 hW1
  have hn2 : n ≤ 262144 := by rw [hn]; exact Nat.le_trans (Nat.mul_le_mul hH2 hW2) (by omega)
  have e1 : (W : Int) * (H : Int) = (n : Int) := by rw [hn, Nat.mul_comm]; simp
  have e2 : wrap64 ((W : Int) * (H : Int)) = (n : Int) := by rw [e1]; exact IntWalk.wrap64_in _ ⟨by omega, by omega⟩
  have hinfo : (Try.prog.info? 3).map (fun i => (i.zero, i.size, i.bytes)) = some (some (.int .i64 0), 1, 8) := by kernel_rfl
  obtain ⟨i0, hi, hz0, hz1, hz2⟩ := info_parts hinfo
  have MK := make0_int n hn2
  clear hcl hn hinfo e1
  go_enter Try.func92, Try.ntmps92
  go_wp2
  have HS := Lib.hid (show EaAt w X Y W H w.heap.size (w.heap.size + 1) f 0 (.slice (some ⟨w.heap.size + 1, 0, none⟩) 0 n) ((w.alloc (regObj X Y W H)).alloc (.cells (madeCells #[Value.int .i64 0] n) 3)) from
    ⟨⟨by simp [zL], .inr ⟨_, n, _, rfl, Nat.le_refl _, by (first | (rw [heap_alloc_get, if_pos rfl]; done) | ((simp only [heap_alloc_get, heap_size_alloc, if_true]) <;> ((repeat' split) <;> first | rfl | omega))), by omega, by unfold maxLen; omega, by simp [madeCells], by simp [zL]⟩⟩, by (first | (rw [heap_alloc_get, if_pos rfl]; done) | ((simp only [heap_alloc_get, heap_size_alloc, if_true]) <;> ((repeat' split) <;> first | rfl | omega))), (by repeat (first | exact Below.refl _ _ | refine Below.alloc ?_ (by first | omega | (simp; done) | (simp; omega)) _ | refine Below.setCell ?_ (by first | omega | (simp; done) | (simp; omega)) _ | refine Below.drew ?_)), by simp⟩)
  have HI := Lib.hid hi
  clear e2 MK
  generalize (w.alloc (regObj X Y W H)).alloc (.cells (madeCells #[Value.int .i64 0] n) 3) = w1 at *
  go_loopw [5, 6, 7] (fun l y x wr => ∃ (j : Nat) (ov : Value), j ≤ H ∧ y = .int .i64 (Y + j) ∧ ov = l ∧ EaAt w X Y W H w.heap.size (w.heap.size + 1) f (j * W) ov wr) (fun _ y _ _ => (Y + H - intOf y).toNat)
  case atStart => exact ⟨0, _, by omega, by simp, rfl, by rw [Nat.zero_mul]; exact HS.out⟩
  case round =>
    obtain ⟨j, ov, hj, rfl, rfl, hm⟩ := hrel
    have HM := Lib.hid hm
    obtain ⟨cB, fB, zB⟩ := blkC hm.reg
    clear hm
    by_cases hlt : j < H
    · go_wp2
      clear cB fB zB
      obtain ⟨w2, rfl⟩ : ∃ w2, w2 = wr := ⟨_, rfl⟩
      go_loopw [5, 7] (fun l x wr => ∃ (i : Nat) (ov : Value), i ≤ W ∧ x = .int .i64 (X + i) ∧ ov = l ∧ EaAt w X Y W H w.heap.size (w.heap.size + 1) f (j * W + i) ov wr) (fun _ x _ => (X + W - intOf x).toNat)
      case atStart => exact ⟨0, _, by omega, by simp, rfl, HM.out⟩
      case round =>
        obtain ⟨i, ov, hi1, rfl, rfl, hmi⟩ := hrel
        have HMi := Lib.hid hmi
        obtain ⟨cB, fB, zB⟩ := blkC hmi.reg
        have HB := Lib.hid hmi.bel
        clear hmi
        by_cases hlt2 : i < W
        · have hk : j * W + i < 262144 := by
            have : j * W ≤ 511 * 512 := Nat.mul_le_mul (by omega) hW2
            omega
          have CC := Lib.hid (fun W' hb => HCL.out (X + i) (Y + j) (j * W + i) W' (by omega) (by omega) (by omega) (by omega) (by rw [show (Y + (j : Int) - Y) = j by omega, show (X + (i : Int) - X) = i by omega]; simp) hb)
          obtain ⟨k, hke⟩ : ∃ k, j * W + i = k := ⟨_, rfl⟩
          rw [hke] at CC hk HMi
          have KE := Lib.hid (show j * W + (i + 1) = k + 1 by omega)
          have HZ := Lib.hid HMi.out.size
          have hi := HI.out
          clear hke
          go_wp2_with (first | (go_at_call 93; refine (CC.out _ HB.out).mono ?_; rintro e w5 ⟨rfl, hb5⟩; have HB5 := Lib.hid hb5; clear hb5 cB fB zB; have OW5 := Lib.hid (ownsRow_below HMi.out.own HB5.out)) | (at_builtin; go_loud (refine wpList_append_lies _ rfl _ _ _ rfl (w.heap.size + 1) 3 i0 _ 1 8 Try.underlying53 hi hz0 hz1 hz2 rfl (by omega) ov k (zL f k) (by rfl) (OW5.out.alloc _) ⟨w5.heap.size, 0, none⟩ 1 1 [.int .i64 (f k)] (by rfl) (by rfl) (World.news_of_block (cs := #[.int .i64 (f k)]) (t := 3) (fr := (0, 0)) (heap_alloc_new w5 _)) (by simp [Value.oneCell']) (by omega) (by unfold maxLen; omega) (by omega) (by have := HB5.out.size; have := HZ.out; simp; omega) (w5.heap.size + 1) (by simp) ?_; intro g' cap' w6 hown6 hgrow hat hlt6; have HN6 := Lib.hid (EaAt.push HMi.out HB5.out (by omega) (by omega) hgrow hown6); clear hown6 hgrow hat hlt6)))
          go_roundw
          case rel => exact ⟨i + 1, _, by omega, by go_num, rfl, by rw [KE.out]; exact HN6.out⟩
          case measure => simp [intOf]; omega
        · have hiW : i = W := by omega
          have HM3 : Hid (EaAt w X Y W H w.heap.size (w.heap.size + 1) f ((j + 1) * W) ov wr) := by
            have h := HMi.out
            rw [hiW, ← Nat.succ_mul] at h
            exact h
          have hge : ¬ X + (i : Int) < X + W := by omega
          clear hiW
          go_wp2
          go_roundw
          case rel => exact ⟨j + 1, _, by omega, by go_num, rfl, HM3.out⟩
          case measure => simp [intOf]; omega
    · have hjH : j = H := by omega
      have hm := HM.out
      rw [hjH, ← HN.out] at hm
      have hge : ¬ Y + (j : Int) < Y + H := by omega
      obtain ⟨g, cap, rfl, _⟩ := hm.own.form (by omega)
      obtain ⟨hcell, hg, hgl⟩ := hm.cells
      have HQ := Lib.hid hcell
      have HR := Lib.hid hm.bel
      clear hm hcell HM
      go_wp2
      go_ret
      exact ⟨g, ⟨cap, rfl⟩, HQ.out, by omega, hgl, HR.out⟩
end Go.Proofs.Ytdbponidkodmfaa

/- The aspects of a field, of the program. -/
namespace Go.Proofs.Ytdbponidkodmfaa
open Go.RowKit Fl
set_option linter.unusedVariables false

/-- What Aspect answers on the rim's inside. -/
def AspPost (w : World) (X Y W H : Int) (n : Nat) (f : Nat → Int) (e : Ending) (w' : World) : Prop :=
  ∃ g cap, e = .returned (.tuple #[.slice (some ⟨g, 0, none⟩) n cap, reg X Y W H, .int .i64 0]) ∧ (∀ i, i < n → w'.cell? ⟨g, i, none⟩ = some (.int .i64 (f i))) ∧ w.heap.size ≤ g ∧ g < w'.heap.size ∧ Below w.heap.size w w'

set_option maxHeartbeats 2000000 in
theorem aspect_no (X Y : Int) (W H n b cap : Nat) (v : Nat → Nat) (w : World) (h0 : checkR X Y W H = 0) (hn : n = W * H) (hc : FlAt w b 0 n v) (hh : allB n (fun i => hgtB (v i)) = true) (hi : innB W H = false) :
    Calls Try.prog 32 #[fldV X Y W H (.slice (some ⟨b, 0, none⟩) n cap)] w fun e w' => e = .returned (.tuple #[.slice none 0 0, reg 0 0 0 0, .int .i64 10]) ∧ Below w.heap.size w w' := by
  have h1 : 1 ≤ n := by
    obtain ⟨b1, b2, b3, b4, b5, _⟩ := checkR_zero h0
    rw [hn]; exact Nat.mul_pos (by omega) (by omega)
  have hlt : b < w.heap.size := World.block_lt_of_cell? w _ (hc 0 h1)
  have IN := Lib.hid (fun W' (hb : Below w.heap.size w W') => inner_any X Y W H n b cap v W' h0 hn (flAt_congr hc (hb.block _ hlt)) hh)
  rw [hi] at IN
  simp only [Bool.false_eq_true, if_false] at IN
  clear h0 hn hc hh h1 hi
  go_enter Try.func32, Try.ntmps32
  go_wp2_with (first | (go_at_call 91; refine (IN.out _ (by repeat (first | exact Below.refl _ _ | refine Below.alloc ?_ (by first | omega | (simp; done) | (simp; omega)) _ | refine Below.setCell ?_ (by first | omega | (simp; done) | (simp; omega)) _ | refine Below.drew ?_))).mono ?_; rintro e w2 ⟨rfl, hb2⟩; have HS2 := Lib.hid (blkStay (b := w.heap.size + 1) (o := regObj 0 0 0 0) (by (first | (rw [heap_alloc_get, if_pos rfl]; done) | ((simp only [heap_alloc_get, heap_size_alloc, if_true]) <;> ((repeat' split) <;> first | rfl | omega)))) hb2); have hB2 : Below w.heap.size w w2 := Below.trans (by repeat (first | exact Below.refl _ _ | refine Below.alloc ?_ (by first | omega | (simp; done) | (simp; omega)) _ | refine Below.setCell ?_ (by first | omega | (simp; done) | (simp; omega)) _ | refine Below.drew ?_)) (Below.mono hb2 (by first | omega | (simp; done) | (simp; omega))); clear hb2; obtain ⟨cS, fS, zS⟩ := blkC HS2.out))
  have HRES := fun (u1 u2 u3 u4 : Value) (o : Obj) => (blkC ((heap_alloc_old (set4 w2 (w.heap.size + 1) u1 u2 u3 u4) o (by rw [set4_size]; exact zS)).trans (set4_self u1 u2 u3 u4 HS2.out))).1
  simp only [set4] at HRES
  refine bodyPost_ret (v := .tuple #[.slice none 0 0, reg 0 0 0 0, .int .i64 10]) (by simp [results, Try.results32, go_sem, HRES]) rfl ?_
  exact ⟨rfl, by repeat (first | exact hB2 | refine Below.alloc ?_ (by first | omega | (simp; done) | (simp; omega)) _ | refine Below.setCell ?_ (by first | omega | (simp; done) | (simp; omega)) _)⟩

theorem set4_heap (wr : World) (b k : Nat) (u1 u2 u3 u4 : Value) (h : k ≠ b) : (set4 wr b u1 u2 u3 u4).heap[k]? = wr.heap[k]? := by
  unfold set4
  rw [Below.heap_setCell _ _ _ _ h, Below.heap_setCell _ _ _ _ h, Below.heap_setCell _ _ _ _ h, Below.heap_setCell _ _ _ _ h]
theorem set4_below {w0 wr : World} {B : Nat} (h : Below B w0 wr) (b : Nat) (hb : B ≤ b) (u1 u2 u3 u4 : Value) : Below B w0 (set4 wr b u1 u2 u3 u4) := by
  unfold set4
  exact (((h.setCell (p := ⟨b, 0, none⟩) hb _).setCell (p := ⟨b, 1, none⟩) hb _).setCell (p := ⟨b, 2, none⟩) hb _).setCell (p := ⟨b, 3, none⟩) hb _

set_option maxHeartbeats 4000000 in
set_option maxRecDepth 100000 in
theorem aspect_ok (X Y : Int) (W H n b cap W2 H2 : Nat) (v : Nat → Nat) (w : World) (h0 : checkR X Y W H = 0) (hn : n = W * H) (hcap : n ≤ cap) (hcp : cap ≤ 9223372036854775807) (hc : FlAt w b 0 n v) (hh : allB n (fun i => hgtB (v i)) = true)
    (eW : W = W2 + 2) (eH : H = H2 + 2) (w1 : 1 ≤ W2) (g1 : 1 ≤ H2) :
    Calls Try.prog 32 #[fldV X Y W H (.slice (some ⟨b, 0, none⟩) n cap)] w (AspPost w (X + 1) (Y + 1) W2 H2 (H2 * W2) (aspR v W)) := by
  obtain ⟨b1, b2, b3, b4, b5, b6, b7, b8, b9⟩ := checkR_zero h0
  have h1 : 1 ≤ n := by rw [hn]; exact Nat.mul_pos (by omega) (by omega)
  have hnn : n = H * W := by rw [hn]; exact Nat.mul_comm _ _
  have hlt : b < w.heap.size := World.block_lt_of_cell? w _ (hc 0 h1)
  have iW : (W : Int) - 2 = (W2 : Int) := by omega
  have iH : (H : Int) - 2 = (H2 : Int) := by omega
  have IN := Lib.hid (fun W' (hb : Below w.heap.size w W') => inner_any X Y W H n b cap v W' h0 hn (flAt_congr hc (hb.block _ hlt)) hh)
  have hi : innB W H = true := by unfold innB; simp; omega
  rw [hi, iW, iH] at IN
  simp only [if_true] at IN
  have EA := Lib.hid (fun W' p (k1 : W'.heap[p]? = some (fldO X Y W H (.slice (some ⟨b, 0, none⟩) n cap))) (hb : Below w.heap.size w W') => each_any (X + 1) (Y + 1) W2 H2 (H2 * W2) p (aspR v W) W'
    (fun x y j w2 q1 q2 q3 q4 q5 q6 => asp1_any X Y W H n b cap v p W' k1 (flAt_congr hc (hb.block _ hlt)) h0 hnn hcap hcp hh (by omega) (by omega) x y j w2 q1 (by rw [iW]; exact q2) q3 (by rw [iH]; exact q4) (by rw [iW]; exact q5) q6)
    (by omega) (by omega) (by omega) (by omega) (by omega) (by omega) (by omega) (by omega) rfl)
  generalize aspR v W = f at *
  generalize H2 * W2 = n2 at *
  clear h0 hn hnn hcap hcp hc hh eW eH w1 g1 b1 b2 b3 b4 b5 b6 b7 b8 b9 iW iH hi h1
  go_enter Try.func32, Try.ntmps32
  go_wp2_with (first | (go_at_call 91; refine (IN.out _ (by repeat (first | exact Below.refl _ _ | refine Below.alloc ?_ (by first | omega | (simp; done) | (simp; omega)) _ | refine Below.setCell ?_ (by first | omega | (simp; done) | (simp; omega)) _ | refine Below.drew ?_))).mono ?_; rintro e w2 ⟨rfl, hb2⟩; have HF2 := Lib.hid (blkStay (b := w.heap.size) (o := fldO X Y W H (.slice (some ⟨b, 0, none⟩) n cap)) (by (first | (rw [heap_alloc_get, if_pos rfl]; done) | ((simp only [heap_alloc_get, heap_size_alloc, if_true]) <;> ((repeat' split) <;> first | rfl | omega)))) hb2); have HS2 := Lib.hid (blkStay (b := w.heap.size + 1) (o := regObj 0 0 0 0) (by (first | (rw [heap_alloc_get, if_pos rfl]; done) | ((simp only [heap_alloc_get, heap_size_alloc, if_true]) <;> ((repeat' split) <;> first | rfl | omega)))) hb2); have hB2 : Below w.heap.size w w2 := Below.trans (by repeat (first | exact Below.refl _ _ | refine Below.alloc ?_ (by first | omega | (simp; done) | (simp; omega)) _ | refine Below.setCell ?_ (by first | omega | (simp; done) | (simp; omega)) _ | refine Below.drew ?_)) (Below.mono hb2 (by first | omega | (simp; done) | (simp; omega))); clear hb2; obtain ⟨cS, fS, zS⟩ := blkC HS2.out))
  have z02 := hB2.size
  have hA := (show Below w2.heap.size w2 (w2.alloc (regObj (X + 1) (Y + 1) W2 H2)) from (Below.refl _ _).alloc (Nat.le_refl _) _)
  have HF3 := Lib.hid (blkStay HF2.out hA)
  have HS3 := Lib.hid (blkStay HS2.out hA)
  have HB3 := Lib.hid (hB2.trans (hA.mono z02))
  have HR3 := Lib.hid (heap_alloc_new w2 (regObj (X + 1) (Y + 1) W2 H2))
  have zw : w2.heap.size < (w2.alloc (regObj (X + 1) (Y + 1) W2 H2)).heap.size := by simp
  have zs : w.heap.size + 1 < w2.heap.size := zS
  clear hA HF2 HS2 hB2 IN cS fS zS
  generalize w2.alloc (regObj (X + 1) (Y + 1) W2 H2) = w3 at *
  obtain ⟨cR, fR, zR⟩ := blkC HR3.out
  obtain ⟨cS, fS, zS⟩ := blkC HS3.out
  go_region_law (first
    | (go_simp; (with_reducible refine (EA.out _ w.heap.size (by first | exact HF3.out | exact blkDrew HF3.out | exact blkDrew (blkDrew HF3.out)) (by first | exact HB3.out | exact HB3.out.drew | exact HB3.out.drew.drew)).mono ?_); rintro e w4 ⟨g, cap', rfl, hcl, hg, hgl, hb4⟩; have hb3 : Below w3.heap.size w3 w4 := ⟨hb4.os, hb4.tape, hb4.output, hb4.size, hb4.block⟩; have RR := Lib.hid (blkStay HR3.out hb3); have SS := Lib.hid (blkStay HS3.out hb3); have HB4 := Lib.hid (HB3.out.trans (hb3.mono HB3.out.size)); have HCL := Lib.hid hcl; obtain ⟨cR4, fR4, zR4⟩ := blkC RR.out; obtain ⟨cS4, fS4, zS4⟩ := blkC SS.out; clear hcl hb4 hb3))
  all_goals
    have HRES := fun (u1 u2 u3 u4 : Value) => (blkC (set4_self u1 u2 u3 u4 SS.out)).1
    simp only [set4] at HRES
    go_wp2
    refine bodyPost_ret (v := .tuple #[.slice (some ⟨g, 0, none⟩) n2 cap', reg (X + 1) (Y + 1) W2 H2, .int .i64 0]) (by simp [results, Try.results32, go_sem, HRES]) rfl ?_
    have hg' : w3.heap.size ≤ g := hg
    have z3 := HB3.out.size
    refine ⟨g, cap', rfl, fun i hi => ?_, by omega, ?_, ?_⟩
    · exact (World.cell?_of_block (a := ⟨g, i, none⟩) (set4_heap w4 (w.heap.size + 1) g (.int .i64 (X + 1)) (.int .i64 (Y + 1)) (.int .i64 W2) (.int .i64 H2) (by omega))).trans (HCL.out i hi)
    · exact Nat.lt_of_lt_of_le hgl (Nat.le_of_eq (set4_size w4 (w.heap.size + 1) (.int .i64 (X + 1)) (.int .i64 (Y + 1)) (.int .i64 W2) (.int .i64 H2)).symm)
    · exact set4_below HB4.out (w.heap.size + 1) (by omega) (.int .i64 (X + 1)) (.int .i64 (Y + 1)) (.int .i64 W2) (.int .i64 H2)
end Go.Proofs.Ytdbponidkodmfaa

/- The aspects of a field, of the reference. -/
namespace Go.Proofs.Ytdbponidkodmfaa
open Go.RowKit Fl
set_option linter.unusedVariables false

set_option maxHeartbeats 2000000 in
theorem raspect_no (X Y : Int) (W H n b cap : Nat) (w : World) (h0 : checkR X Y W H = 0) (hi : innB W H = false) :
    Calls Try.prog 33 #[fldV X Y W H (.slice (some ⟨b, 0, none⟩) n cap)] w fun e w' => e = .returned (.tuple #[.slice none 0 0, reg 0 0 0 0, .int .i64 10]) ∧ Below w.heap.size w w' := by
  have IN := Lib.hid (fun W' => rinner_any X Y W H n b cap W' h0)
  rw [hi] at IN
  simp only [Bool.false_eq_true, if_false] at IN
  clear h0 hi
  go_enter Try.func33, Try.ntmps33
  go_wp2_with (first | (go_at_call 82; refine (IN.out _).mono ?_; rintro e w2 ⟨rfl, hb2⟩; have HS2 := Lib.hid (blkStay (b := w.heap.size + 1) (o := regObj 0 0 0 0) (by (first | (rw [heap_alloc_get, if_pos rfl]; done) | ((simp only [heap_alloc_get, heap_size_alloc, if_true]) <;> ((repeat' split) <;> first | rfl | omega)))) hb2); have hB2 : Below w.heap.size w w2 := Below.trans (by repeat (first | exact Below.refl _ _ | refine Below.alloc ?_ (by first | omega | (simp; done) | (simp; omega)) _ | refine Below.setCell ?_ (by first | omega | (simp; done) | (simp; omega)) _ | refine Below.drew ?_)) (Below.mono hb2 (by first | omega | (simp; done) | (simp; omega))); clear hb2; obtain ⟨cS, fS, zS⟩ := blkC HS2.out))
  have HRES := fun (u1 u2 u3 u4 : Value) (o : Obj) => (blkC ((heap_alloc_old (set4 w2 (w.heap.size + 1) u1 u2 u3 u4) o (by rw [set4_size]; exact zS)).trans (set4_self u1 u2 u3 u4 HS2.out))).1
  simp only [set4] at HRES
  refine bodyPost_ret (v := .tuple #[.slice none 0 0, reg 0 0 0 0, .int .i64 10]) (by simp [results, Try.results33, go_sem, HRES]) rfl ?_
  exact ⟨rfl, by repeat (first | exact hB2 | refine Below.alloc ?_ (by first | omega | (simp; done) | (simp; omega)) _ | refine Below.setCell ?_ (by first | omega | (simp; done) | (simp; omega)) _)⟩

/-- The rises at a cell of the rim's inside, and their direction. -/
theorem rim_dir (X Y : Int) (W H n b cap W2 H2 : Nat) (v : Nat → Nat) (w : World) (h0 : checkR X Y W H = 0) (hnn : n = H * W) (hc : FlAt w b 0 n v) (hh : allB n (fun i => hgtB (v i)) = true) (eW : W = W2 + 2) (eH : H = H2 + 2) (i j : Nat) (hi : i < W2) (hj : j < H2) (hn1 : 1 ≤ n) :
    ∃ dx dy : Nat, (∀ W', Below w.heap.size w W' → Calls Try.prog 84 #[fldV X Y W H (.slice (some ⟨b, 0, none⟩) n cap), .int .i64 (X + 1 + i), .int .i64 (Y + 1 + j)] W' fun e w' => e = .returned (.tuple #[.float .f32 dx, .float .f32 dy]) ∧ Below W'.heap.size W' w') ∧
      (∀ W', Calls Try.prog 96 #[.float .f32 (negW dx), .float .f32 (negW dy)] W' fun e w' => e = .returned (.int .i64 (aspR v W (j * W2 + i))) ∧ W' = w') := by
  have hlt : b < w.heap.size := World.block_lt_of_cell? w _ (hc 0 hn1)
  have hk : (((j * W2 + i : Nat)) : Int) = ((Y + 1 + (j : Int)) - (Y + 1)) * ((W : Int) - 2) + ((X + 1 + (i : Int)) - (X + 1)) := by
    rw [show (Y + 1 + (j : Int)) - (Y + 1) = j by omega, show (X + 1 + (i : Int)) - (X + 1) = i by omega, show (W : Int) - 2 = W2 by omega]; simp
  have hr := rim_num (W := W) (by omega) (show X + 1 ≤ X + 1 + (i : Int) by omega) (by omega) (show Y + 1 ≤ Y + 1 + (j : Int) by omega) hk
  have I := in_cell hnn (show X + 1 ≤ X + 1 + (i : Int) by omega) (show X + 1 + (i : Int) + 1 < X + W by omega) (show Y + 1 ≤ Y + 1 + (j : Int) by omega) (show Y + 1 + (j : Int) + 1 < Y + H by omega) hr
  obtain ⟨d, r, R1⟩ := rise_parts (allB_iff.1 hh _ I.a3) (allB_iff.1 hh _ I.a4)
  obtain ⟨d', r', R2⟩ := rise_parts (allB_iff.1 hh _ I.a2) (allB_iff.1 hh _ I.a1)
  obtain ⟨pa, pb, A⟩ := asp_parts (by have := R1.bd; rw [← R1.w] at this; exact this) (by have := R1.lt; rw [← R1.w] at this; exact this) (by have := R2.bd; rw [← R2.w] at this; exact this) (by have := R2.lt; rw [← R2.w] at this; exact this)
  exact ⟨_, _, fun W' hb => inclines_any X Y W H n b cap _ v _ _ W' h0 hnn (flAt_congr hc (hb.block _ hlt)) hh I, fun W' => rdirection_any _ _ pa pb A W'⟩

set_option maxHeartbeats 4000000 in
set_option maxRecDepth 100000 in
theorem raspect_ok (X Y : Int) (W H n b cap W2 H2 : Nat) (v : Nat → Nat) (w : World) (h0 : checkR X Y W H = 0) (hn : n = W * H) (hc : FlAt w b 0 n v) (hh : allB n (fun i => hgtB (v i)) = true)
    (eW : W = W2 + 2) (eH : H = H2 + 2) (w1 : 1 ≤ W2) (g1 : 1 ≤ H2) :
    Calls Try.prog 33 #[fldV X Y W H (.slice (some ⟨b, 0, none⟩) n cap)] w (AspPost w (X + 1) (Y + 1) W2 H2 (H2 * W2) (aspR v W)) := by
  obtain ⟨b1, b2, b3, b4, b5, b6, b7, b8, b9⟩ := checkR_zero h0
  have h1 : 1 ≤ n := by rw [hn]; exact Nat.mul_pos (by omega) (by omega)
  have hnn : n = H * W := by rw [hn]; exact Nat.mul_comm _ _
  have hlt : b < w.heap.size := World.block_lt_of_cell? w _ (hc 0 h1)
  have iW : (W : Int) - 2 = (W2 : Int) := by omega
  have iH : (H : Int) - 2 = (H2 : Int) := by omega
  have IN := Lib.hid (fun W' => rinner_any X Y W H n b cap W' h0)
  have hi : innB W H = true := by unfold innB; simp; omega
  rw [hi, iW, iH] at IN
  simp only [if_true] at IN
  have RD := Lib.hid (fun i j (q1 : i < W2) (q2 : j < H2) => rim_dir X Y W H n b cap W2 H2 v w h0 hnn hc hh eW eH i j q1 q2 h1)
  have x1 : -16777216 ≤ X := by omega
  have x2 : X ≤ 16777216 := by omega
  have y1 : -16777216 ≤ Y := by omega
  have y2 : Y ≤ 16777216 := by omega
  have m1 : W2 ≤ 512 := by omega
  have m2 : H2 ≤ 512 := by omega
  have hn1 : 1 ≤ H2 * W2 := Nat.mul_pos (by omega) (by omega)
  have hn2 : H2 * W2 ≤ 262144 := Nat.le_trans (Nat.mul_le_mul m2 m1) (by omega)
  have HN := Lib.hid (show H2 * W2 = H2 * W2 from rfl)
  have hinfo : (Try.prog.info? 3).map (fun i => (i.zero, i.size, i.bytes)) = some (some (.int .i64 0), 1, 8) := by kernel_rfl
  obtain ⟨i0, hi0, hz0, hz1, hz2⟩ := info_parts hinfo
  have HI := Lib.hid hi0
  have ng := run_neg_f32
  generalize aspR v W = f at *
  clear h0 hn hnn hc hh eW eH b1 b2 b3 b4 b5 b6 b7 b8 b9 iW iH hi h1 hinfo hlt
  go_enter Try.func33, Try.ntmps33
  go_wp2_with (first | (go_at_call 82; refine (IN.out _).mono ?_; rintro e w2 ⟨rfl, hb2⟩; have HF2 := Lib.hid (blkStay (b := w.heap.size) (o := fldO X Y W H (.slice (some ⟨b, 0, none⟩) n cap)) (by (first | (rw [heap_alloc_get, if_pos rfl]; done) | ((simp only [heap_alloc_get, heap_size_alloc, if_true]) <;> ((repeat' split) <;> first | rfl | omega)))) hb2); have HS2 := Lib.hid (blkStay (b := w.heap.size + 1) (o := regObj 0 0 0 0) (by (first | (rw [heap_alloc_get, if_pos rfl]; done) | ((simp only [heap_alloc_get, heap_size_alloc, if_true]) <;> ((repeat' split) <;> first | rfl | omega)))) hb2); have hB2 : Below w.heap.size w w2 := Below.trans (by repeat (first | exact Below.refl _ _ | refine Below.alloc ?_ (by first | omega | (simp; done) | (simp; omega)) _ | refine Below.setCell ?_ (by first | omega | (simp; done) | (simp; omega)) _ | refine Below.drew ?_)) (Below.mono hb2 (by first | omega | (simp; done) | (simp; omega))); clear hb2))
  have z02 := hB2.size
  have zS0 := (blkC HS2.out).2.2
  have hA := (show Below w2.heap.size w2 (w2.alloc (regObj (X + 1) (Y + 1) W2 H2)) from (Below.refl _ _).alloc (Nat.le_refl _) _)
  have HF3 := Lib.hid (blkStay HF2.out hA)
  have HS3 := Lib.hid (blkStay HS2.out hA)
  have HB3 := Lib.hid (hB2.trans (hA.mono z02))
  have HR3 := Lib.hid (heap_alloc_new w2 (regObj (X + 1) (Y + 1) W2 H2))
  have zw : w2.heap.size < (w2.alloc (regObj (X + 1) (Y + 1) W2 H2)).heap.size := by simp
  clear hA HF2 HS2 hB2 IN
  generalize w2.alloc (regObj (X + 1) (Y + 1) W2 H2) = w3 at *
  obtain ⟨bb, hbb⟩ : ∃ bb, w2.heap.size = bb := ⟨_, rfl⟩
  rw [hbb] at HR3 zw z02 ⊢
  have HS := Lib.hid (show EaAt w3 (X + 1) (Y + 1) W2 H2 bb w3.heap.size f 0 (.slice none 0 0) w3 from ⟨World.ownsRow_nil _ _ _ _, HR3.out, Below.refl _ _, Nat.le_refl _⟩)
  go_loopw [7, 8, 9, 10, 11] (fun l y x dx dy wr => ∃ (j : Nat) (ov : Value), j ≤ H2 ∧ y = .int .i64 (Y + 1 + j) ∧ ov = l ∧ EaAt w3 (X + 1) (Y + 1) W2 H2 bb w3.heap.size f (j * W2) ov wr) (fun _ y _ _ _ _ => (Y + 1 + H2 - intOf y).toNat)
  case atStart => exact ⟨0, _, by omega, by simp, rfl, by rw [Nat.zero_mul]; exact HS.out⟩
  case round =>
    obtain ⟨j, ov, hj, rfl, rfl, hm⟩ := hrel
    have HM := Lib.hid hm
    obtain ⟨cB, fB, zB⟩ := blkC hm.reg
    clear hm
    by_cases hlt : j < H2
    · go_wp2
      clear cB fB zB
      obtain ⟨w4, rfl⟩ : ∃ w4, w4 = wr := ⟨_, rfl⟩
      go_loopw [7, 9, 10, 11] (fun l x dx dy wr => ∃ (i : Nat) (ov : Value), i ≤ W2 ∧ x = .int .i64 (X + 1 + i) ∧ ov = l ∧ EaAt w3 (X + 1) (Y + 1) W2 H2 bb w3.heap.size f (j * W2 + i) ov wr) (fun _ x _ _ _ => (X + 1 + W2 - intOf x).toNat)
      case atStart => exact ⟨0, _, by omega, by simp, rfl, HM.out⟩
      case round =>
        obtain ⟨i, ov, hi1, rfl, rfl, hmi⟩ := hrel
        have HMi := Lib.hid hmi
        obtain ⟨cB, fB, zB⟩ := blkC hmi.reg
        obtain ⟨cF, fF, zF⟩ := blkC (blkStay HF3.out hmi.bel)
        have HB := Lib.hid (HB3.out.trans (hmi.bel.mono HB3.out.size))
        clear hmi
        by_cases hlt2 : i < W2
        · have hk : j * W2 + i < 262144 := by
            have : j * W2 ≤ 511 * 512 := Nat.mul_le_mul (by omega) m1
            omega
          obtain ⟨dx, dy, ic, dr⟩ := RD.out i j hlt2 hlt
          have IC := Lib.hid ic
          have DR := Lib.hid dr
          clear ic dr
          obtain ⟨k, hke⟩ : ∃ k, j * W2 + i = k := ⟨_, rfl⟩
          rw [hke] at DR hk HMi
          have KE := Lib.hid (show j * W2 + (i + 1) = k + 1 by omega)
          have HZ := Lib.hid HMi.out.size
          have hi := HI.out
          clear hke
          go_wp2_with (first | (go_at_call 84; refine (IC.out _ HB.out).mono ?_; rintro e w5 ⟨rfl, hb5⟩; have HB5 := Lib.hid hb5; clear hb5 cB fB zB cF fF zF; have OW5 := Lib.hid (ownsRow_below HMi.out.own HB5.out)) | (go_at_call 96; refine (DR.out _).mono ?_; rintro e w' ⟨rfl, rfl⟩) | (at_builtin; go_loud (refine wpList_append_lies _ rfl _ _ _ rfl w3.heap.size 3 i0 _ 1 8 Try.underlying53 hi hz0 hz1 hz2 rfl (by omega) ov k (zL f k) (by rfl) (OW5.out.alloc _) ⟨w5.heap.size, 0, none⟩ 1 1 [.int .i64 (f k)] (by rfl) (by rfl) (World.news_of_block (cs := #[.int .i64 (f k)]) (t := 3) (fr := (0, 0)) (heap_alloc_new w5 _)) (by simp [Value.oneCell']) (by omega) (by unfold maxLen; omega) (by omega) (by have := HB5.out.size; have := HZ.out; simp; omega) (w5.heap.size + 1) (by simp) ?_; intro g' cap' w6 hown6 hgrow hat hlt6; have HN6 := Lib.hid (EaAt.push HMi.out HB5.out (by omega) (by omega) hgrow hown6); clear hown6 hgrow hat hlt6)))
          go_roundw
          case rel => exact ⟨i + 1, _, by omega, by go_num, rfl, by rw [KE.out]; exact HN6.out⟩
          case measure => simp [intOf]; omega
        · have hiW : i = W2 := by omega
          have HM3 : Hid (EaAt w3 (X + 1) (Y + 1) W2 H2 bb w3.heap.size f ((j + 1) * W2) ov wr) := by
            have h := HMi.out
            rw [hiW, ← Nat.succ_mul] at h
            exact h
          have hge : ¬ X + 1 + (i : Int) < X + 1 + W2 := by omega
          clear hiW
          go_wp2
          go_roundw
          case rel => exact ⟨j + 1, _, by omega, by go_num, rfl, HM3.out⟩
          case measure => simp [intOf]; omega
    · have hjH : j = H2 := by omega
      have hm := HM.out
      rw [hjH] at hm
      have hge : ¬ Y + 1 + (j : Int) < Y + 1 + H2 := by omega
      obtain ⟨g, cap, rfl, _⟩ := hm.own.form (by omega)
      obtain ⟨hcell, hg, hgl⟩ := hm.cells
      have HQ := Lib.hid hcell
      have HR := Lib.hid hm.bel
      have HS4 := Lib.hid (blkStay HS3.out hm.bel)
      obtain ⟨cS, fS, zS⟩ := blkC HS4.out
      clear hm hcell HM
      generalize H2 * W2 = n2 at *
      have zg : w.heap.size + 1 < bb := by
        rw [← hbb]; exact zS0
      have HRES := fun (u1 u2 u3 u4 : Value) => (blkC (set4_self u1 u2 u3 u4 HS4.out)).1
      simp only [set4] at HRES
      have HX := Lib.hid (HB3.out.trans (HR.out.mono HB3.out.size))
      have z3 := HB3.out.size
      have hgl' := Lib.hid hgl
      clear hgl
      go_wp2
      go_region
      all_goals
        go_wp2
        refine bodyPost_ret (v := .tuple #[.slice (some ⟨g, 0, none⟩) n2 cap, reg (X + 1) (Y + 1) W2 H2, .int .i64 0]) (by simp [results, Try.results33, go_sem, HRES]) rfl ?_
        refine ⟨g, cap, rfl, fun i hi => ?_, by omega, ?_, ?_⟩
        · exact (World.cell?_of_block (a := ⟨g, i, none⟩) (set4_heap wr (w.heap.size + 1) g (.int .i64 (X + 1)) (.int .i64 (Y + 1)) (.int .i64 W2) (.int .i64 H2) (by omega))).trans (HQ.out i hi)
        · exact Nat.lt_of_lt_of_le hgl'.out (Nat.le_of_eq (set4_size wr (w.heap.size + 1) (.int .i64 (X + 1)) (.int .i64 (Y + 1)) (.int .i64 W2) (.int .i64 H2)).symm)
        · first
            | exact set4_below HX.out (w.heap.size + 1) (by omega) (.int .i64 (X + 1)) (.int .i64 (Y + 1)) (.int .i64 W2) (.int .i64 H2)
            | exact (set4_below HX.out (w.heap.size + 1) (by omega) (.int .i64 (X + 1)) (.int .i64 (Y + 1)) (.int .i64 W2) (.int .i64 H2)).drew
            | exact (set4_below HX.out (w.heap.size + 1) (by omega) (.int .i64 (X + 1)) (.int .i64 (Y + 1)) (.int .i64 W2) (.int .i64 H2)).drew.drew
end Go.Proofs.Ytdbponidkodmfaa

/- The normal at a place, of both sides. -/
namespace Go.Proofs.Ytdbponidkodmfaa
open Go.RowKit Fl
set_option linter.unusedVariables false

/-- Is (x, y) in a region? -/
def hasB (X Y W H x y : Int) : Bool := decide (X ≤ x ∧ Y ≤ y ∧ x ≤ X + W - 1 ∧ y ≤ Y + H - 1)

set_option maxHeartbeats 1000000 in
theorem fHas_any (X Y W H x y : Int) (w : World) (b1 : -1073741824 ≤ X) (b2 : X ≤ 1073741824) (b3 : -1073741824 ≤ Y) (b4 : Y ≤ 1073741824) (b5 : 1 ≤ W) (b6 : W ≤ 1073741824) (b7 : 1 ≤ H) (b8 : H ≤ 1073741824) :
    Calls Try.prog 97 #[reg X Y W H, .int .i64 x, .int .i64 y] w fun e w' => e = .returned (.bool (hasB X Y W H x y)) ∧ Below w.heap.size w w' := by
  have WX := Lib.hid (fun w => within_any x X (X + W - 1) w)
  have WY := Lib.hid (fun w => within_any y Y (Y + H - 1) w)
  have e : hasB X Y W H x y = (withinB x X (X + W - 1) && withinB y Y (Y + H - 1)) := by
    unfold hasB
    rw [Bool.eq_iff_iff, Bool.and_eq_true, withinB_iff, withinB_iff, decide_eq_true_eq]; omega
  rw [e]
  generalize withinB x X (X + W - 1) = c1 at *
  generalize withinB y Y (Y + H - 1) = c2 at *
  clear e
  cases c1 <;> cases c2
  all_goals go_enter Try.func97, Try.ntmps97
  all_goals go_wp2_with (first | (go_at_call 63; (with_reducible refine (WX.out _).mono ?_); rintro e w' ⟨rfl, rfl⟩) | (go_at_call 63; (with_reducible refine (WY.out _).mono ?_); rintro e w' ⟨rfl, rfl⟩))
  all_goals go_ret
  all_goals exact ⟨rfl, (by repeat (first | exact Below.refl _ _ | refine Below.alloc ?_ (by first | omega | (simp; done) | (simp; omega)) _ | refine Below.setCell ?_ (by first | omega | (simp; done) | (simp; omega)) _ | refine Below.drew ?_))⟩

set_option maxHeartbeats 1000000 in
theorem rInside1_any (x y X Y W H : Int) (w : World) (b1 : -1073741824 ≤ X) (b2 : X ≤ 1073741824) (b3 : -1073741824 ≤ Y) (b4 : Y ≤ 1073741824) (b5 : 1 ≤ W) (b6 : W ≤ 1073741824) (b7 : 1 ≤ H) (b8 : H ≤ 1073741824) :
    Calls Try.prog 46 #[reg x y 1 1, reg X Y W H] w fun e w' => e = .returned (.bool (hasB X Y W H x y)) ∧ Below w.heap.size w w' := by
  go_enter Try.func46, Try.ntmps46
  go_wp2
  all_goals go_ret
  all_goals refine ⟨ret_bool ?_, (by repeat (first | exact Below.refl _ _ | refine Below.alloc ?_ (by first | omega | (simp; done) | (simp; omega)) _ | refine Below.setCell ?_ (by first | omega | (simp; done) | (simp; omega)) _ | refine Below.drew ?_))⟩
  all_goals (unfold hasB; rw [Bool.eq_iff_iff, decide_eq_true_eq]; simp; omega)

/-- What Normal answers: an error er, or the normal. -/
def NorPost (w : World) (er : Int) (nx ny nz : Nat) (e : Ending) (w' : World) : Prop :=
  e = .returned (.tuple #[.float .f32 nx, .float .f32 ny, .float .f32 nz, .int .i64 er]) ∧ Below w.heap.size w w'

set_option maxHeartbeats 2000000 in
theorem norm_no (X Y : Int) (W H n b cap : Nat) (v : Nat → Nat) (x y : Int) (w : World) (h0 : checkR X Y W H = 0) (hn : n = W * H) (hc : FlAt w b 0 n v) (hh : allB n (fun i => hgtB (v i)) = true) (hi : innB W H = false) :
    Calls Try.prog 35 #[fldV X Y W H (.slice (some ⟨b, 0, none⟩) n cap), .int .i64 x, .int .i64 y] w (NorPost w 10 0 0 0) := by
  have h1 : 1 ≤ n := by
    obtain ⟨b1, b2, b3, b4, b5, _⟩ := checkR_zero h0
    rw [hn]; exact Nat.mul_pos (by omega) (by omega)
  have hlt : b < w.heap.size := World.block_lt_of_cell? w _ (hc 0 h1)
  have IN := Lib.hid (fun W' (hb : Below w.heap.size w W') => inner_any X Y W H n b cap v W' h0 hn (flAt_congr hc (hb.block _ hlt)) hh)
  rw [hi] at IN
  simp only [Bool.false_eq_true, if_false] at IN
  unfold NorPost
  clear h0 hn hc hh h1 hi
  go_enter Try.func35, Try.ntmps35
  go_wp2_with (first | (go_at_call 91; refine (IN.out _ (by repeat (first | exact Below.refl _ _ | refine Below.alloc ?_ (by first | omega | (simp; done) | (simp; omega)) _ | refine Below.setCell ?_ (by first | omega | (simp; done) | (simp; omega)) _ | refine Below.drew ?_))).mono ?_; rintro e w2 ⟨rfl, hb2⟩; have hB2 : Below w.heap.size w w2 := Below.trans (by repeat (first | exact Below.refl _ _ | refine Below.alloc ?_ (by first | omega | (simp; done) | (simp; omega)) _ | refine Below.setCell ?_ (by first | omega | (simp; done) | (simp; omega)) _ | refine Below.drew ?_)) (Below.mono hb2 (by first | omega | (simp; done) | (simp; omega))); have z2 := hB2.size; clear hb2))
  refine bodyPost_ret (v := .tuple #[.float .f32 0, .float .f32 0, .float .f32 0, .int .i64 10]) (by simp [results, Try.results35, go_sem]) rfl ?_
  exact ⟨rfl, by repeat (first | exact hB2 | refine Below.alloc ?_ (by first | omega | (simp; done) | (simp; omega)) _ | refine Below.setCell ?_ (by first | omega | (simp; done) | (simp; omega)) _)⟩

set_option maxHeartbeats 2000000 in
theorem rnorm_no (X Y : Int) (W H n b cap : Nat) (x y : Int) (w : World) (h0 : checkR X Y W H = 0) (hi : innB W H = false) :
    Calls Try.prog 36 #[fldV X Y W H (.slice (some ⟨b, 0, none⟩) n cap), .int .i64 x, .int .i64 y] w (NorPost w 10 0 0 0) := by
  have IN := Lib.hid (fun W' => rinner_any X Y W H n b cap W' h0)
  rw [hi] at IN
  simp only [Bool.false_eq_true, if_false] at IN
  unfold NorPost
  clear h0 hi
  go_enter Try.func36, Try.ntmps36
  go_wp2_with (first | (go_at_call 82; refine (IN.out _).mono ?_; rintro e w2 ⟨rfl, hb2⟩; have hB2 : Below w.heap.size w w2 := Below.trans (by repeat (first | exact Below.refl _ _ | refine Below.alloc ?_ (by first | omega | (simp; done) | (simp; omega)) _ | refine Below.setCell ?_ (by first | omega | (simp; done) | (simp; omega)) _ | refine Below.drew ?_)) (Below.mono hb2 (by first | omega | (simp; done) | (simp; omega))); have z2 := hB2.size; clear hb2))
  refine bodyPost_ret (v := .tuple #[.float .f32 0, .float .f32 0, .float .f32 0, .int .i64 10]) (by simp [results, Try.results36, go_sem]) rfl ?_
  exact ⟨rfl, by repeat (first | exact hB2 | refine Below.alloc ?_ (by first | omega | (simp; done) | (simp; omega)) _ | refine Below.setCell ?_ (by first | omega | (simp; done) | (simp; omega)) _)⟩

set_option maxHeartbeats 4000000 in
theorem norm_both (X Y : Int) (W H n b cap : Nat) (v : Nat → Nat) (x y : Int) (h0 : checkR X Y W H = 0) (hn : n = W * H) (hcap : n ≤ cap) (hcp : cap ≤ 9223372036854775807) (hh : allB n (fun i => hgtB (v i)) = true) :
    ∃ er nx ny nz, (∀ w, FlAt w b 0 n v → Calls Try.prog 35 #[fldV X Y W H (.slice (some ⟨b, 0, none⟩) n cap), .int .i64 x, .int .i64 y] w (NorPost w er nx ny nz)) ∧
      (∀ w, FlAt w b 0 n v → Calls Try.prog 36 #[fldV X Y W H (.slice (some ⟨b, 0, none⟩) n cap), .int .i64 x, .int .i64 y] w (NorPost w er nx ny nz)) := by
  cases hi : innB W H with
  | false => exact ⟨10, 0, 0, 0, fun w hc => norm_no X Y W H n b cap v x y w h0 hn hc hh hi, fun w hc => rnorm_no X Y W H n b cap x y w h0 hi⟩
  | true =>
    have h3 : 3 ≤ (W : Int) ∧ 3 ≤ (H : Int) := by unfold innB at hi; exact of_decide_eq_true hi
    obtain ⟨h3, h4⟩ := h3
    obtain ⟨W2, eW⟩ : ∃ W2 : Nat, W = W2 + 2 := ⟨W - 2, by omega⟩
    obtain ⟨H2, eH⟩ : ∃ H2 : Nat, H = H2 + 2 := ⟨H - 2, by omega⟩
    obtain ⟨b1, b2, b3, b4, b5, b6, b7, b8, b9⟩ := checkR_zero h0
    have h1 : 1 ≤ n := by rw [hn]; exact Nat.mul_pos (by omega) (by omega)
    have hnn : n = H * W := by rw [hn]; exact Nat.mul_comm _ _
    have iW : (W : Int) - 2 = (W2 : Int) := by omega
    have iH : (H : Int) - 2 = (H2 : Int) := by omega
    have FH := Lib.hid (fun w => fHas_any (X + 1) (Y + 1) W2 H2 x y w (by omega) (by omega) (by omega) (by omega) (by omega) (by omega) (by omega) (by omega))
    have RH := Lib.hid (fun w => rInside1_any x y (X + 1) (Y + 1) W2 H2 w (by omega) (by omega) (by omega) (by omega) (by omega) (by omega) (by omega) (by omega))
    cases hb : hasB (X + 1) (Y + 1) W2 H2 x y with
    | false =>
      rw [hb] at FH RH
      refine ⟨5, 0, 0, 0, fun w hc => ?_, fun w hc => ?_⟩
      · have hlt : b < w.heap.size := World.block_lt_of_cell? w _ (hc 0 h1)
        have IN := Lib.hid (fun W' (hb : Below w.heap.size w W') => inner_any X Y W H n b cap v W' h0 hn (flAt_congr hc (hb.block _ hlt)) hh)
        rw [hi, iW, iH] at IN
        simp only [if_true] at IN
        unfold NorPost
        clear h0 hn hnn hcap hcp hc hh eW eH b1 b2 b3 b4 b5 b6 b7 b8 b9 iW iH hi h1 h3 h4 hb RH
        go_enter Try.func35, Try.ntmps35
        go_wp2_with (first | (go_at_call 91; refine (IN.out _ (by repeat (first | exact Below.refl _ _ | refine Below.alloc ?_ (by first | omega | (simp; done) | (simp; omega)) _ | refine Below.setCell ?_ (by first | omega | (simp; done) | (simp; omega)) _ | refine Below.drew ?_))).mono ?_; rintro e w2 ⟨rfl, hb2⟩; have hB2 : Below w.heap.size w w2 := Below.trans (by repeat (first | exact Below.refl _ _ | refine Below.alloc ?_ (by first | omega | (simp; done) | (simp; omega)) _ | refine Below.setCell ?_ (by first | omega | (simp; done) | (simp; omega)) _ | refine Below.drew ?_)) (Below.mono hb2 (by first | omega | (simp; done) | (simp; omega))); clear hb2) | (go_at_call 97; refine (FH.out _).mono ?_; rintro e w3 ⟨rfl, hb3⟩; have hB3 : Below w.heap.size w w3 := Below.trans (hB2.alloc hB2.size _) (Below.mono hb3 (by have := hB2.size; simp; omega)); clear hb3))
        refine bodyPost_ret (v := .tuple #[.float .f32 0, .float .f32 0, .float .f32 0, .int .i64 5]) (by simp [results, Try.results35, go_sem]) rfl ?_
        exact ⟨rfl, hB3⟩
      · have IN := Lib.hid (fun W' => rinner_any X Y W H n b cap W' h0)
        rw [hi, iW, iH] at IN
        simp only [if_true] at IN
        unfold NorPost
        clear h0 hn hnn hcap hcp hc hh eW eH b1 b2 b3 b4 b5 b6 b7 b8 b9 iW iH hi h1 h3 h4 hb FH
        go_enter Try.func36, Try.ntmps36
        go_wp2_with (first | (go_at_call 82; refine (IN.out _).mono ?_; rintro e w2 ⟨rfl, hb2⟩; have hB2 : Below w.heap.size w w2 := Below.trans (by repeat (first | exact Below.refl _ _ | refine Below.alloc ?_ (by first | omega | (simp; done) | (simp; omega)) _ | refine Below.setCell ?_ (by first | omega | (simp; done) | (simp; omega)) _ | refine Below.drew ?_)) (Below.mono hb2 (by first | omega | (simp; done) | (simp; omega))); clear hb2) | (go_at_call 46; refine (RH.out _).mono ?_; rintro e w3 ⟨rfl, hb3⟩; have hB3 : Below w.heap.size w w3 := Below.trans (hB2.alloc hB2.size _) (Below.mono hb3 (by have := hB2.size; simp; omega)); clear hb3))
        refine bodyPost_ret (v := .tuple #[.float .f32 0, .float .f32 0, .float .f32 0, .int .i64 5]) (by simp [results, Try.results36, go_sem]) rfl ?_
        exact ⟨rfl, hB3⟩
    | true =>
      have hq := of_decide_eq_true (show decide (X + 1 ≤ x ∧ Y + 1 ≤ y ∧ x ≤ X + 1 + (W2 : Int) - 1 ∧ y ≤ Y + 1 + (H2 : Int) - 1) = true from hb)
      obtain ⟨p1, p2, p3, p4⟩ := hq
      rw [hb] at FH RH
      obtain ⟨i, hii⟩ : ∃ i : Nat, (i : Int) = (y - Y) * W + (x - X) := by
        obtain ⟨a, ha⟩ := Int.eq_ofNat_of_zero_le (show 0 ≤ x - X by omega)
        obtain ⟨c, hc⟩ := Int.eq_ofNat_of_zero_le (show 0 ≤ y - Y by omega)
        exact ⟨c * W + a, by rw [ha, hc]; simp⟩
      have I := in_cell hnn p1 (show x + 1 < X + W by omega) p2 (show y + 1 < Y + H by omega) hii
      obtain ⟨_, r1, A⟩ := rise_parts (allB_iff.1 hh _ I.a3) (allB_iff.1 hh _ I.a4)
      obtain ⟨_, r2, B⟩ := rise_parts (allB_iff.1 hh _ I.a2) (allB_iff.1 hh _ I.a1)
      have bx : Bd 21 (riseW (v (i + 1)) (v (i - 1))) := by rw [A.w]; exact A.bd
      have by' : Bd 21 (riseW (v (i + W)) (v (i - W))) := by rw [B.w]; exact B.bd
      have lx' : riseW (v (i + 1)) (v (i - 1)) < 4294967296 := by rw [A.w]; exact A.lt
      have ly' : riseW (v (i + W)) (v (i - W)) < 4294967296 := by rw [B.w]; exact B.lt
      obtain ⟨p, q, u, m, a, X', Z, c, N⟩ := nrm_parts bx by'
      have hM : LenOk 1065353216 := ⟨_, vS_one, Int.le_refl _⟩
      obtain ⟨nx, ny, nz, e, f, s, d, t, r, L⟩ := lit_parts (lx := 0) (ly := 0) (lz := 0) bx by' lx' ly' N.w N.rt.val N.c1 hM (by decide) (by decide) (by decide)
      refine ⟨0, nx, ny, nz, fun w hc => ?_, fun w hc => ?_⟩
      · have hlt : b < w.heap.size := World.block_lt_of_cell? w _ (hc 0 h1)
        have IN := Lib.hid (fun W' (hb : Below w.heap.size w W') => inner_any X Y W H n b cap v W' h0 hn (flAt_congr hc (hb.block _ hlt)) hh)
        rw [hi, iW, iH] at IN
        simp only [if_true] at IN
        have CA := Lib.hid (fun W' (hb : Below w.heap.size w W') => crossAt_any X Y W H n b cap i v x y W' h0 hnn hcap hcp (flAt_congr hc (hb.block _ hlt)) I.h1 I.h2 I.h3 I.h4 I.hi)
        have NO := Lib.hid (fun w => normal_any (v i) (v (i - W)) (v (i - 1)) (v (i + 1)) (v (i + W)) w (allB_iff.1 hh _ I.a1) (allB_iff.1 hh _ I.a4) (allB_iff.1 hh _ I.a3) (allB_iff.1 hh _ I.a2) N L.nx1 L.ny1 L.nz1)
        unfold NorPost
        clear h0 hn hnn hcap hcp hc hh eW eH b1 b2 b3 b4 b5 b6 b7 b8 b9 iW iH hi h1 h3 h4 hb RH I A B bx by' lx' ly' N hM L hii p1 p2 p3 p4
        go_enter Try.func35, Try.ntmps35
        go_wp2_with (first | (go_at_call 91; refine (IN.out _ (by repeat (first | exact Below.refl _ _ | refine Below.alloc ?_ (by first | omega | (simp; done) | (simp; omega)) _ | refine Below.setCell ?_ (by first | omega | (simp; done) | (simp; omega)) _ | refine Below.drew ?_))).mono ?_; rintro e w2 ⟨rfl, hb2⟩; have HF2 := Lib.hid (blkStay (b := w.heap.size) (o := fldO X Y W H (.slice (some ⟨b, 0, none⟩) n cap)) (by (first | (rw [heap_alloc_get, if_pos rfl]; done) | ((simp only [heap_alloc_get, heap_size_alloc, if_true]) <;> ((repeat' split) <;> first | rfl | omega)))) hb2); have hB2 : Below w.heap.size w w2 := Below.trans (by repeat (first | exact Below.refl _ _ | refine Below.alloc ?_ (by first | omega | (simp; done) | (simp; omega)) _ | refine Below.setCell ?_ (by first | omega | (simp; done) | (simp; omega)) _ | refine Below.drew ?_)) (Below.mono hb2 (by first | omega | (simp; done) | (simp; omega))); have z2 := hB2.size; have zF := (blkC HF2.out).2.2; clear hb2) | (go_at_call 97; refine (FH.out _).mono ?_; rintro e w3 ⟨rfl, hb3⟩; have hb23 : Below w2.heap.size w2 w3 := Below.trans ((Below.refl _ _).alloc (Nat.le_refl _) _) (Below.mono hb3 (by simp)); have HF3 := Lib.hid (blkStay HF2.out hb23); have hB3 : Below w.heap.size w w3 := hB2.trans (hb23.mono z2); clear hb3 hb23; obtain ⟨cF, fF, zF3⟩ := blkC HF3.out) | (go_at_call 94; refine (CA.out _ hB3).mono ?_; rintro e w4 ⟨rfl, hb4⟩; have hB4 := hB3.trans (hb4.mono hB3.size); clear hb4) | (go_at_call 98; refine (NO.out _).mono ?_; rintro e w5 ⟨rfl, hb5⟩; have hB5 := hB4.trans (hb5.mono hB4.size); clear hb5))
        refine bodyPost_ret (v := .tuple #[.float .f32 nx, .float .f32 ny, .float .f32 nz, .int .i64 0]) (by simp [results, Try.results35, go_sem]) rfl ?_
        exact ⟨rfl, hB5⟩
      · have hlt : b < w.heap.size := World.block_lt_of_cell? w _ (hc 0 h1)
        have IN := Lib.hid (fun W' => rinner_any X Y W H n b cap W' h0)
        rw [hi, iW, iH] at IN
        simp only [if_true] at IN
        have NO := Lib.hid (fun W' (hb : Below w.heap.size w W') => rnormal_any X Y W H n b cap i v x y W' h0 hnn (flAt_congr hc (hb.block _ hlt)) hh I N L.nx1 L.nx2 L.ny1 L.ny2 L.nz1 L.nz2)
        unfold NorPost
        clear h0 hn hnn hcap hcp hc hh eW eH b1 b2 b3 b4 b5 b6 b7 b8 b9 iW iH hi h1 h3 h4 hb FH I A B bx by' lx' ly' N hM L hii p1 p2 p3 p4
        go_enter Try.func36, Try.ntmps36
        go_wp2_with (first | (go_at_call 82; refine (IN.out _).mono ?_; rintro e w2 ⟨rfl, hb2⟩; have HF2 := Lib.hid (blkStay (b := w.heap.size) (o := fldO X Y W H (.slice (some ⟨b, 0, none⟩) n cap)) (by (first | (rw [heap_alloc_get, if_pos rfl]; done) | ((simp only [heap_alloc_get, heap_size_alloc, if_true]) <;> ((repeat' split) <;> first | rfl | omega)))) hb2); have hB2 : Below w.heap.size w w2 := Below.trans (by repeat (first | exact Below.refl _ _ | refine Below.alloc ?_ (by first | omega | (simp; done) | (simp; omega)) _ | refine Below.setCell ?_ (by first | omega | (simp; done) | (simp; omega)) _ | refine Below.drew ?_)) (Below.mono hb2 (by first | omega | (simp; done) | (simp; omega))); have z2 := hB2.size; have zF := (blkC HF2.out).2.2; clear hb2) | (go_at_call 46; refine (RH.out _).mono ?_; rintro e w3 ⟨rfl, hb3⟩; have hb23 : Below w2.heap.size w2 w3 := Below.trans ((Below.refl _ _).alloc (Nat.le_refl _) _) (Below.mono hb3 (by simp)); have HF3 := Lib.hid (blkStay HF2.out hb23); have hB3 : Below w.heap.size w w3 := hB2.trans (hb23.mono z2); clear hb3 hb23; obtain ⟨cF, fF, zF3⟩ := blkC HF3.out) | (go_at_call 99; refine (NO.out _ hB3).mono ?_; rintro e w4 ⟨rfl, hb4⟩; have hB4 := hB3.trans (hb4.mono hB3.size); clear hb4))
        refine bodyPost_ret (v := .tuple #[.float .f32 nx, .float .f32 ny, .float .f32 nz, .int .i64 0]) (by simp [results, Try.results36, go_sem]) rfl ?_
        exact ⟨rfl, hB4⟩
end Go.Proofs.Ytdbponidkodmfaa

/- Contracts: shape's ease and fade, the closures of Select and Terrace; selected and terraced of the reference. -/
namespace Go.Proofs.Ytdbponidkodmfaa
open Go.RowKit Fl
set_option linter.unusedVariables false

set_option maxHeartbeats 400000 in
theorem sease_any (t p q r v : Nat) (E : EaseAt t p q r v) (h : wiE t 0 1065353216 = 0) (w : World) :
    Calls Try.prog 127 #[.float .f32 t] w fun e w' => e = .returned (.float .f32 (easeW t)) ∧ w = w' := by
  have EX := Lib.hid (fun w => easeX_ok t p q r v E h w)
  clear E h
  go_enter Try.func127, Try.ntmps127
  go_wp2_with (first | (go_at_call 158; refine (EX.out _).mono ?_; rintro e w' ⟨rfl, rfl⟩))
  go_ret
  exact ⟨rfl, rfl⟩

set_option maxHeartbeats 1000000 in
theorem rfade_tail (d so : Nat) (a b : Int) (hd : vS d = some a) (hs : vS so = some b) (a0 : 0 ≤ a) (hc : ltB d so = true) :
    ∃ q e r, (∀ w, Calls Try.prog 130 #[.float .f32 d, .float .f32 so] w fun e w' => e = .returned (.float .f32 q) ∧ w = w') ∧ (∀ w, Calls Try.prog 132 #[.float .f32 q] w fun e' w' => e' = .returned (.float .f32 e) ∧ w = w') ∧
      (∀ w, Calls Try.prog 90 #[.float .f32 1065353216, .float .f32 e] w fun e w' => e = .returned (.float .f32 r) ∧ w = w') ∧ fadeW d so = r := by
  have hab : a < b := by unfold ltB at hc; rw [f32f, lss_val hd hs] at hc; simpa using hc
  obtain ⟨q, p1, q1, r1, e, r, A⟩ := fade_parts hd hs a0 hab
  refine ⟨q, e, r, fun w => refDiv_any 0 d so q A.q2' A.q1' w, fun w => ?_, fun w => refSub_any 4 1065353216 e r A.r2' A.r1' w, by unfold fadeW; rw [if_pos hc, A.w]⟩
  have := refEase_any q p1 q1 r1 e A.ea w
  rw [A.ea.w] at this
  exact this

end Go.Proofs.Ytdbponidkodmfaa

/- Contracts: remade, whatever function of a value and its place it is given. -/
namespace Go.Proofs.Ytdbponidkodmfaa
open Go.RowKit Fl
set_option linter.unusedVariables false

theorem enters_remade1 : Enters 157 := by intro args W; simp [callFunc, Try.func157, Try.f157]

/-- A function of a value and its place, as a closure: over the cells of a field with the values v it answers f. -/
def Clos3 (g : Nat) (caps : Array Value) (X Y W H : Int) (v f : Nat → Nat) (w : World) : Prop :=
  ∀ (x y : Int) (i : Nat) (W' : World), X ≤ x → x < X + W → Y ≤ y → y < Y + H → (i : Int) = (y - Y) * W + (x - X) → Below w.heap.size w W' →
    Calls Try.prog g (#[.float .f32 (v i), .int .i64 x, .int .i64 y] ++ caps) W' fun e W'' => e = .returned (.float .f32 (f i)) ∧ Below W'.heap.size W' W''
theorem Clos3.stay {g : Nat} {caps : Array Value} {X Y W H : Int} {v f : Nat → Nat} {w w' : World} (h : Clos3 g caps X Y W H v f w) (hb : Below w.heap.size w w') : Clos3 g caps X Y W H v f w' :=
  fun x y i W' h1 h2 h3 h4 h5 hb' => h x y i W' h1 h2 h3 h4 h5 (hb.trans (hb'.mono hb.size))

/-- Such a function value in a box. -/
abbrev fn3Obj (g : Nat) (caps : Array Value) : Obj := .cells #[.func (.func g) #[] caps] 133

set_option maxHeartbeats 4000000 in
set_option maxRecDepth 100000 in
theorem remade1_any (X Y : Int) (W H n b cap : Nat) (v f : Nat → Nat) (g : Nat) (caps : Array Value) (p q : Nat) (w : World) (hcall : Enters g) (hcl : Clos3 g caps X Y W H v f w)
    (hp : w.heap[p]? = some (fldO X Y W H (.slice (some ⟨b, 0, none⟩) n cap))) (hq : w.heap[q]? = some (fn3Obj g caps)) (hc : FlAt w b 0 n v) (hn : n ≤ 65536)
    (hX1 : -16777216 ≤ X) (hX2 : X ≤ 16777216) (hY1 : -16777216 ≤ Y) (hY2 : Y ≤ 16777216) (hW1 : 1 ≤ W) (hW2 : W ≤ 512) (hH2 : H ≤ 512) (hnn : n = H * W) :
    Clos2 157 #[.pointer (some ⟨q, 0, none⟩), .pointer (some ⟨p, 0, none⟩)] X Y W H f w := by
  intro x y i w2 h1 h2 h3 h4 h5 hb
  have hi : i < n := num_lt hW1 h1 h2 h4 h5 hnn
  have CC := Lib.hid (fun W' (hB : Below w2.heap.size w2 W') => hcl x y i W' h1 h2 h3 h4 h5 (hb.trans (hB.mono hb.size)))
  have IX := Lib.hid (fun w => index_any X Y W H i x y w hX1 hX2 hY1 hY2 hW1 hW2 hH2 h1 h2 h3 h4 h5 (by omega))
  have P := blkStay hp hb
  have Q := blkStay hq hb
  have hcell : w2.cell? ⟨b, i, none⟩ = some (.float .f32 (v i)) := by
    have := flAt_congr hc (hb.block b (World.block_lt_of_cell? w _ (hc i hi))) i hi
    rwa [Nat.zero_add] at this
  have zb : b < w2.heap.size := World.block_lt_of_cell? w2 _ hcell
  have HC := Lib.hid hcell
  have HP := Lib.hid P
  have HQ := Lib.hid Q
  obtain ⟨cP, fP, zP⟩ := blkC P
  obtain ⟨cQ, fQ, zQ⟩ := blkC Q
  unfold Enters at hcall
  have hi2 : (i : Int) < (n : Int) := by omega
  have hi3 : (0 : Int) ≤ (i : Int) := by omega
  clear hp hq P Q hb h1 h2 h3 h4 h5 hX1 hX2 hY1 hY2 hW1 hW2 hH2 hnn hcl hc hi hn
  go_enter Try.func157, Try.ntmps157
  go_wp2
  go_region_held3 (fun w' => (∀ o, w'.cell? ⟨p, o, none⟩ = #[.int .i64 X, .int .i64 Y, .int .i64 W, .int .i64 H, .slice (some ⟨b, 0, none⟩) n cap][o]?) ∧ (∀ o, w'.cell? ⟨q, o, none⟩ = #[.func (.func g) #[] caps][o]?) ∧ w'.cell? ⟨b, i, none⟩ = some (.float .f32 (v i)) ∧ Below w2.heap.size w2 w') (first | exact ⟨(blkC (blkStay HP.out hb9)).1, (blkC (blkStay HQ.out hb9)).1, (Below.cell (p := ⟨b, i, none⟩) (w := w2) (B := w2.heap.size) hb9 zb).trans HC.out, hb9⟩ | exact ⟨(blkC (blkStay HP.out (by repeat (first | exact Below.refl _ _ | refine Below.alloc ?_ (by first | omega | (simp; done) | (simp; omega)) _ | refine Below.setCell ?_ (by first | omega | (simp; done) | (simp; omega)) _ | refine Below.drew ?_)))).1, (blkC (blkStay HQ.out (by repeat (first | exact Below.refl _ _ | refine Below.alloc ?_ (by first | omega | (simp; done) | (simp; omega)) _ | refine Below.setCell ?_ (by first | omega | (simp; done) | (simp; omega)) _ | refine Below.drew ?_)))).1, (Below.cell (p := ⟨b, i, none⟩) (w := w2) (B := w2.heap.size) (by repeat (first | exact Below.refl _ _ | refine Below.alloc ?_ (by first | omega | (simp; done) | (simp; omega)) _ | refine Below.setCell ?_ (by first | omega | (simp; done) | (simp; omega)) _ | refine Below.drew ?_)) zb).trans HC.out, (by repeat (first | exact Below.refl _ _ | refine Below.alloc ?_ (by first | omega | (simp; done) | (simp; omega)) _ | refine Below.setCell ?_ (by first | omega | (simp; done) | (simp; omega)) _ | refine Below.drew ?_))⟩) (first | (go_at_call 114; (with_reducible refine Calls.mono (IX.out _) ?_); rintro e w' ⟨rfl, rfl⟩) | (go_simp; (with_reducible refine Calls.mono (CC.out _ ?_) ?_); exact (by repeat (first | exact Below.refl _ _ | refine Below.alloc ?_ (by first | omega | (simp; done) | (simp; omega)) _ | refine Below.setCell ?_ (by first | omega | (simp; done) | (simp; omega)) _ | refine Below.drew ?_)); rintro e w' ⟨rfl, hb8⟩; have hb9 : Below w2.heap.size w2 w' := Below.trans (by repeat (first | exact Below.refl _ _ | refine Below.alloc ?_ (by first | omega | (simp; done) | (simp; omega)) _ | refine Below.setCell ?_ (by first | omega | (simp; done) | (simp; omega)) _ | refine Below.drew ?_)) (Below.mono hb8 (by first | exact Nat.le_refl _ | (simp; done) | (simp; omega))); clear hb8))
  rename_i hHeld
  go_wp2
  go_ret
  exact ⟨rfl, hHeld.2.2.2⟩

set_option maxHeartbeats 2000000 in
theorem remade_any (X Y : Int) (W H n b cap : Nat) (v f : Nat → Nat) (g : Nat) (caps : Array Value) (w : World) (hcall : Enters g) (hcl : Clos3 g caps X Y W H v f w) (h0 : checkR X Y W H = 0) (hnn : n = H * W) (hc : FlAt w b 0 n v) :
    Calls Try.prog 124 #[fldV X Y W H (.slice (some ⟨b, 0, none⟩) n cap), .func (.func g) #[] caps] w (MadePost w X Y W H n f) := by
  obtain ⟨b1, b2, b3, b4, b5, b6, b7, b8, b9⟩ := checkR_zero h0
  have hn2 : n ≤ 65536 := by
    have : ((W : Int) * (H : Int)) = (n : Int) := by rw [hnn, Nat.mul_comm]; simp
    omega
  have n1 : 1 ≤ n := by rw [hnn]; exact Nat.mul_pos (by omega) (by omega)
  have hlt : b < w.heap.size := World.block_lt_of_cell? w _ (hc 0 n1)
  have hB : Below w.heap.size w (((w.alloc (fldO X Y W H (.slice (some ⟨b, 0, none⟩) n cap))).alloc (fn3Obj g caps)).alloc (fldO 0 0 0 0 (.slice none 0 0))) := (by repeat (first | exact Below.refl _ _ | refine Below.alloc ?_ (by first | omega | (simp; done) | (simp; omega)) _ | refine Below.setCell ?_ (by first | omega | (simp; done) | (simp; omega)) _ | refine Below.drew ?_))
  have MK := Lib.hid (make_ok X Y W H n 157 #[.pointer (some ⟨w.heap.size + 1, 0, none⟩), .pointer (some ⟨w.heap.size, 0, none⟩)] f (((w.alloc (fldO X Y W H (.slice (some ⟨b, 0, none⟩) n cap))).alloc (fn3Obj g caps)).alloc (fldO 0 0 0 0 (.slice none 0 0))) enters_remade1
    (remade1_any X Y W H n b cap v f g caps w.heap.size (w.heap.size + 1) _ hcall (hcl.stay hB) (by ((simp only [heap_alloc_get, heap_size_alloc, if_true]) <;> ((repeat' split) <;> first | rfl | omega))) (by ((simp only [heap_alloc_get, heap_size_alloc, if_true]) <;> ((repeat' split) <;> first | rfl | omega))) (flAt_congr hc (hB.block b hlt)) hn2 (by omega) (by omega) (by omega) (by omega) (by omega) (by omega) (by omega) hnn) h0 hnn)
  clear hcl hcall hc h0 b1 b2 b3 b4 b5 b6 b7 b8 b9 hnn hn2 n1 hlt hB
  go_enter Try.func124, Try.ntmps124
  go_wp2_with fail
  refine MK.out.mono ?_
  intro e w4 hmade
  rcases hmade with ⟨hall, b', cap', rfl, hb', hlt', hrow, hbel⟩ | ⟨hall, rfl, hbel⟩
  · have hS := Lib.hid (blkStay (b := w.heap.size + 1 + 1) (o := fldO 0 0 0 0 (.slice none 0 0)) (by ((simp only [heap_alloc_get, heap_size_alloc, if_true]) <;> ((repeat' split) <;> first | rfl | omega))) hbel)
    have hB : Below w.heap.size w w4 := Below.trans (by repeat (first | exact Below.refl _ _ | refine Below.alloc ?_ (by first | omega | (simp; done) | (simp; omega)) _ | refine Below.setCell ?_ (by first | omega | (simp; done) | (simp; omega)) _ | refine Below.drew ?_)) (Below.mono hbel (by simp; omega))
    obtain ⟨cS, fS, zS⟩ := blkC hS.out
    have HB := Lib.hid hb'
    clear hb'
    go_wp2
    refine bodyPost_ret (v := .tuple #[fldV X Y W H (.slice (some ⟨b', 0, none⟩) n cap'), .int .i64 0]) (by simp [results, Try.results124, go_sem, cS]) rfl ?_
    have hb' := HB.out
    simp only [heap_size_alloc] at hb'
    exact .inl ⟨hall, b', cap', rfl, by omega, by rw [set5_size]; exact hlt', flAt_congr hrow (set5_heap w4 _ _ _ _ _ _ _ (by omega)), set5_below hB _ _ _ _ _ _ (by omega)⟩
  · have hS := Lib.hid (blkStay (b := w.heap.size + 1 + 1) (o := fldO 0 0 0 0 (.slice none 0 0)) (by ((simp only [heap_alloc_get, heap_size_alloc, if_true]) <;> ((repeat' split) <;> first | rfl | omega))) hbel)
    have hB : Below w.heap.size w w4 := Below.trans (by repeat (first | exact Below.refl _ _ | refine Below.alloc ?_ (by first | omega | (simp; done) | (simp; omega)) _ | refine Below.setCell ?_ (by first | omega | (simp; done) | (simp; omega)) _ | refine Below.drew ?_)) (Below.mono hbel (by simp; omega))
    obtain ⟨cS, fS, zS⟩ := blkC hS.out
    go_wp2
    refine bodyPost_ret (v := .tuple #[fldV 0 0 0 0 (.slice none 0 0), .int .i64 3]) (by simp [results, Try.results124, go_sem, cS]) rfl ?_
    exact .inr ⟨hall, rfl, set5_below hB _ _ _ _ _ _ (by omega)⟩
end Go.Proofs.Ytdbponidkodmfaa

/- Select of both sides, of a right field. -/
namespace Go.Proofs.Ytdbponidkodmfaa
open Go.RowKit Fl
set_option linter.unusedVariables false

/-- Three singles, as a list. -/
def three (a b c : Nat) (i : Nat) : Nat := if i = 0 then a else if i = 1 then b else c
theorem flAt_three {w : World} {k a b c : Nat} (h : w.heap[k]? = some (.cells #[.float .f32 a, .float .f32 b, .float .f32 c] 34)) : FlAt w k 0 3 (three a b c) := by
  intro i hi
  rw [Nat.zero_add, (blkC h).1 i]
  have : i = 0 ∨ i = 1 ∨ i = 2 := by omega
  rcases this with rfl | rfl | rfl <;> rfl
theorem three_hgt {a b c : Nat} (h : fldE 3 (three a b c) = 0) : hgtB a = true ∧ hgtB b = true ∧ hgtB c = true := by
  have := allB_iff.1 (fldE_zero.1 h)
  exact ⟨this 0 (by omega), this 1 (by omega), this 2 (by omega)⟩
theorem three_wf {a b c : Nat} (ha : a < 4294967296) (hb : b < 4294967296) (hc : c < 4294967296) : wf32 3 (three a b c) := by
  intro i hi
  have : i = 0 ∨ i = 1 ∨ i = 2 := by omega
  rcases this with rfl | rfl | rfl <;> assumption

/-- The error of Select's singles. -/
def selE (lo hi so : Nat) : Int := if fldE 3 (three lo hi so) = 0 then (if (FloatKind.f32.format.order lo hi == some .gt) = true then 8 else if (FloatKind.f32.format.order so 0 == some .lt) = true then 3 else 0) else fldE 3 (three lo hi so)

end Go.Proofs.Ytdbponidkodmfaa

/- Select of the reference, of a right field. -/
namespace Go.Proofs.Ytdbponidkodmfaa
open Go.RowKit Fl
set_option linter.unusedVariables false

end Go.Proofs.Ytdbponidkodmfaa

/- Terrace of the program, of a right field. -/
namespace Go.Proofs.Ytdbponidkodmfaa
open Go.RowKit Fl
set_option linter.unusedVariables false

/-- The tests of Terrace's singles: what is wrong. -/
def terB (st sh : Nat) : Bool := (FloatKind.f32.format.order st 981467136 == some .lt) || ((FloatKind.f32.format.order st 1149239296 == some .gt) || ((FloatKind.f32.format.order sh 0 == some .lt) || (FloatKind.f32.format.order sh 1065353216 == some .gt || FloatKind.f32.format.order sh 1065353216 == some .eq)))
/-- The error of Terrace's singles. -/
def terE (st sh : Nat) : Int := if fldE 2 (two st sh) = 0 then (if terB st sh = true then 3 else 0) else fldE 2 (two st sh)

theorem two_wf {a b : Nat} (ha : a < 4294967296) (hb : b < 4294967296) : wf32 2 (two a b) := by
  intro i hi
  have : i = 0 ∨ i = 1 := by omega
  rcases this with rfl | rfl <;> assumption

theorem ter_ok {st sh : Nat} (h : hgtB st = true) (h' : hgtB sh = true) (c1 : (FloatKind.f32.format.order st 981467136 == some .lt) = false) (c2 : (FloatKind.f32.format.order st 1149239296 == some .gt) = false) (c3 : (FloatKind.f32.format.order sh 0 == some .lt) = false)
    (c4 : (FloatKind.f32.format.order sh 1065353216 == some .gt || FloatKind.f32.format.order sh 1065353216 == some .eq) = false) : StepOk st ∧ ShOk sh := by
  constructor
  · exact step_ok (by unfold wiE; rw [if_neg (by rw [hgt_fin h]; simp), if_neg (by rw [c1, c2]; simp)])
  · obtain ⟨b, hb, _⟩ := hgt_val h'
    rw [f32f, lss_val hb vS_zero] at c3
    rw [f32f, geq_val hb vS_one] at c4
    exact ⟨b, hb, by simpa using c3, by simpa using c4⟩

end Go.Proofs.Ytdbponidkodmfaa

/- Terrace of the reference, of a right field. -/
namespace Go.Proofs.Ytdbponidkodmfaa
open Go.RowKit Fl
set_option linter.unusedVariables false

theorem al_below (w : World) (o : Obj) : Below w.heap.size w (w.alloc o) := (Below.refl _ _).alloc (Nat.le_refl _) o
theorem ter_lt {v st sh : Nat} (hv : hgtB v = true) (hs : StepOk st) (hsh : ShOk sh) : terW v st sh < 4294967296 := by
  obtain ⟨q, d, c, u, x, y, j, r, T⟩ := ter_parts hv hs hsh
  rw [T.w]; exact T.lt

end Go.Proofs.Ytdbponidkodmfaa

/- Contracts of the regions' functions, continued: the reference's Grow; Common, Inside. -/
namespace Go.Proofs.Ytdbponidkodmfaa
open Go.RowKit

set_option maxHeartbeats 1000000 in
theorem landed_any (w : World) : Calls Try.prog 9 #[] w fun e w' => e = .returned (.bool true) ∧ Below w.heap.size w w' := by
  go_enter Try.func9, Try.ntmps9
  go_wp2
  go_ret
  exact ⟨rfl, (by repeat (first | exact Below.refl _ _ | refine Below.alloc ?_ (by first | omega | (simp; done) | (simp; omega)) _ | refine Below.setCell ?_ (by first | omega | (simp; done) | (simp; omega)) _ | refine Below.drew ?_))⟩

def insideB (x y w h x' y' w' h' : Int) : Bool := decide (x' ≤ x) && decide (y' ≤ y) && decide (x + w ≤ x' + w') && decide (y + h ≤ y' + h')
theorem insideB_iff {x y w h x' y' w' h' : Int} : insideB x y w h x' y' w' h' = true ↔ x' ≤ x ∧ y' ≤ y ∧ x + w ≤ x' + w' ∧ y + h ≤ y' + h' := by simp [insideB]; omega

set_option maxHeartbeats 1000000 in
theorem inside_any (x y ww hh x' y' ww' hh' : Int) (w : World) (a1 : -1073741824 ≤ x) (a2 : x ≤ 1073741824) (a3 : -1073741824 ≤ y) (a4 : y ≤ 1073741824) (a5 : 1 ≤ ww) (a6 : ww ≤ 1073741824) (a7 : 1 ≤ hh) (a8 : hh ≤ 1073741824)
    (b1 : -1073741824 ≤ x') (b2 : x' ≤ 1073741824) (b3 : -1073741824 ≤ y') (b4 : y' ≤ 1073741824) (b5 : 1 ≤ ww') (b6 : ww' ≤ 1073741824) (b7 : 1 ≤ hh') (b8 : hh' ≤ 1073741824) :
    Calls Try.prog 111 #[reg x y ww hh, reg x' y' ww' hh'] w fun e w' => e = .returned (.bool (insideB x y ww hh x' y' ww' hh')) ∧ Below w.heap.size w w' := by
  go_enter Try.func111, Try.ntmps111
  go_wp2
  all_goals go_ret
  all_goals refine ⟨ret_bool ?_, (by repeat (first | exact Below.refl _ _ | refine Below.alloc ?_ (by first | omega | (simp; done) | (simp; omega)) _ | refine Below.setCell ?_ (by first | omega | (simp; done) | (simp; omega)) _ | refine Below.drew ?_))⟩
  all_goals simp [insideB, *]
  all_goals omega

end Go.Proofs.Ytdbponidkodmfaa

/- SelectsMatch: Select and Terrace answer as the references do, for every field that fit makes, and any three singles. -/
namespace Go.Proofs.Ytdbponidkodmfaa
open Go.RowKit Fl
set_option linter.unusedVariables false

end Go.Proofs.Ytdbponidkodmfaa

/- Contracts of the regions' functions, continued: the reference's Inside; Common. -/
namespace Go.Proofs.Ytdbponidkodmfaa
open Go.RowKit

set_option maxHeartbeats 1000000 in
theorem refInside_any (x y ww hh x' y' ww' hh' : Int) (w : World) (_ : -1073741824 ≤ x) (_ : x ≤ 1073741824) (_ : -1073741824 ≤ y) (_ : y ≤ 1073741824) (a5 : 1 ≤ ww) (a6 : ww ≤ 1073741824) (a7 : 1 ≤ hh) (a8 : hh ≤ 1073741824)
    (b1 : -1073741824 ≤ x') (b2 : x' ≤ 1073741824) (b3 : -1073741824 ≤ y') (b4 : y' ≤ 1073741824) (b5 : 1 ≤ ww') (b6 : ww' ≤ 1073741824) (b7 : 1 ≤ hh') (b8 : hh' ≤ 1073741824) :
    Calls Try.prog 46 #[reg x y ww hh, reg x' y' ww' hh'] w fun e w' => e = .returned (.bool (insideB x y ww hh x' y' ww' hh')) ∧ Below w.heap.size w w' := by
  go_enter Try.func46, Try.ntmps46
  go_wp2
  all_goals go_ret
  all_goals refine ⟨ret_bool ?_, (by repeat (first | exact Below.refl _ _ | refine Below.alloc ?_ (by first | omega | (simp; done) | (simp; omega)) _ | refine Below.setCell ?_ (by first | omega | (simp; done) | (simp; omega)) _ | refine Below.drew ?_))⟩
  all_goals (rw [Bool.eq_iff_iff, insideB_iff]; simp; omega)


def maxI (a b : Int) : Int := if a < b then b else a
def minI (a b : Int) : Int := if b < a then b else a
theorem maxI_le (a b : Int) : a ≤ maxI a b ∧ b ≤ maxI a b ∧ (maxI a b = a ∨ maxI a b = b) := by unfold maxI; split <;> omega
theorem minI_le (a b : Int) : minI a b ≤ a ∧ minI a b ≤ b ∧ (minI a b = a ∨ minI a b = b) := by unfold minI; split <;> omega

/-- What Common answers. -/
def comB (x y w h x' y' w' h' : Int) : Bool := decide (1 ≤ minI (x + w) (x' + w') - maxI x x') && decide (1 ≤ minI (y + h) (y' + h') - maxI y y')
def comR (x y w h x' y' w' h' : Int) : Value :=
  if comB x y w h x' y' w' h' then reg (maxI x x') (maxI y y') (minI (x + w) (x' + w') - maxI x x') (minI (y + h) (y' + h') - maxI y y') else reg 0 0 0 0
theorem comB_iff {x y w h x' y' w' h' : Int} : comB x y w h x' y' w' h' = true ↔ 1 ≤ minI (x + w) (x' + w') - maxI x x' ∧ 1 ≤ minI (y + h) (y' + h') - maxI y y' := by simp [comB]
theorem comB_no {x y w h x' y' w' h' : Int} : comB x y w h x' y' w' h' = false ↔ minI (x + w) (x' + w') - maxI x x' < 1 ∨ minI (y + h) (y' + h') - maxI y y' < 1 := by
  rw [← Bool.not_eq_true, comB_iff]; omega

set_option maxHeartbeats 1000000 in
theorem common_any (x y ww hh x' y' ww' hh' : Int) (w : World) (a1 : -1073741824 ≤ x) (a2 : x ≤ 1073741824) (a3 : -1073741824 ≤ y) (a4 : y ≤ 1073741824) (a5 : 1 ≤ ww) (a6 : ww ≤ 1073741824) (a7 : 1 ≤ hh) (a8 : hh ≤ 1073741824)
    (b1 : -1073741824 ≤ x') (b2 : x' ≤ 1073741824) (b3 : -1073741824 ≤ y') (b4 : y' ≤ 1073741824) (b5 : 1 ≤ ww') (b6 : ww' ≤ 1073741824) (b7 : 1 ≤ hh') (b8 : hh' ≤ 1073741824) :
    Calls Try.prog 118 #[reg x y ww hh, reg x' y' ww' hh'] w fun e w' => e = .returned (.tuple #[comR x y ww hh x' y' ww' hh', .bool (comB x y ww hh x' y' ww' hh')]) ∧ Below w.heap.size w w' := by
  have hx : (if x < x' then x' else x) = maxI x x' := rfl
  have hy : (if y < y' then y' else y) = maxI y y' := rfl
  have ex : (if x' + ww' < x + ww then x' + ww' else x + ww) = minI (x + ww) (x' + ww') := rfl
  have ey : (if y' + hh' < y + hh then y' + hh' else y + hh) = minI (y + hh) (y' + hh') := rfl
  obtain ⟨x1, x2, x3⟩ := maxI_le x x'
  obtain ⟨y1, y2, y3⟩ := maxI_le y y'
  obtain ⟨x4, x5, x6⟩ := minI_le (x + ww) (x' + ww')
  obtain ⟨y4, y5, y6⟩ := minI_le (y + hh) (y' + hh')
  have x7 : -1073741824 ≤ maxI x x' ∧ maxI x x' ≤ 1073741824 ∧ -1073741824 ≤ minI (x + ww) (x' + ww') ∧ minI (x + ww) (x' + ww') ≤ 2147483648 := by omega
  have y7 : -1073741824 ≤ maxI y y' ∧ maxI y y' ≤ 1073741824 ∧ -1073741824 ≤ minI (y + hh) (y' + hh') ∧ minI (y + hh) (y' + hh') ≤ 2147483648 := by omega
  clear x3 y3 x6 y6
  obtain ⟨x7, x8, x9, xa⟩ := x7
  obtain ⟨y7, y8, y9, ya⟩ := y7
  rcases (show (1 ≤ minI (x + ww) (x' + ww') - maxI x x' ∧ 1 ≤ minI (y + hh) (y' + hh') - maxI y y') ∨ (1 ≤ minI (x + ww) (x' + ww') - maxI x x' ∧ minI (y + hh) (y' + hh') - maxI y y' < 1) ∨ minI (x + ww) (x' + ww') - maxI x x' < 1 by omega) with ⟨t1, t2⟩ | ⟨t1, t2⟩ | t1
  · have hb : comB x y ww hh x' y' ww' hh' = true := comB_iff.2 ⟨t1, t2⟩
    have hr : comR x y ww hh x' y' ww' hh' = reg (maxI x x') (maxI y y') (minI (x + ww) (x' + ww') - maxI x x') (minI (y + hh) (y' + hh') - maxI y y') := by unfold comR; rw [if_pos hb]
    rw [hb, hr]
    clear hb hr
    go_enter Try.func118, Try.ntmps118
    go_wp2
    go_region
    go_wp2
    exact bodyPost_ret (v := .tuple #[reg (maxI x x') (maxI y y') (minI (x + ww) (x' + ww') - maxI x x') (minI (y + hh) (y' + hh') - maxI y y'), .bool true]) (by simp [results, Try.results118, go_sem]) rfl ⟨rfl, (by repeat (first | exact Below.refl _ _ | refine Below.alloc ?_ (by first | omega | (simp; done) | (simp; omega)) _ | refine Below.setCell ?_ (by first | omega | (simp; done) | (simp; omega)) _ | refine Below.drew ?_))⟩
  all_goals
    have hb : comB x y ww hh x' y' ww' hh' = false := comB_no.2 (by omega)
    have hr : comR x y ww hh x' y' ww' hh' = reg 0 0 0 0 := by unfold comR; rw [hb]; rfl
    rw [hb, hr]
    clear hb hr
    go_enter Try.func118, Try.ntmps118
    go_wp2
    go_region
    go_wp2
    exact bodyPost_ret (v := .tuple #[reg 0 0 0 0, .bool false]) (by simp [results, Try.results118, go_sem]) rfl ⟨rfl, (by repeat (first | exact Below.refl _ _ | refine Below.alloc ?_ (by first | omega | (simp; done) | (simp; omega)) _ | refine Below.setCell ?_ (by first | omega | (simp; done) | (simp; omega)) _ | refine Below.drew ?_))⟩

set_option maxHeartbeats 1000000 in
theorem refCommon_any (x y ww hh x' y' ww' hh' : Int) (w : World) (a1 : -1073741824 ≤ x) (a2 : x ≤ 1073741824) (a3 : -1073741824 ≤ y) (a4 : y ≤ 1073741824) (a5 : 1 ≤ ww) (a6 : ww ≤ 1073741824) (a7 : 1 ≤ hh) (a8 : hh ≤ 1073741824)
    (b1 : -1073741824 ≤ x') (b2 : x' ≤ 1073741824) (b3 : -1073741824 ≤ y') (b4 : y' ≤ 1073741824) (b5 : 1 ≤ ww') (b6 : ww' ≤ 1073741824) (b7 : 1 ≤ hh') (b8 : hh' ≤ 1073741824) :
    Calls Try.prog 50 #[reg x y ww hh, reg x' y' ww' hh'] w fun e w' => e = .returned (.tuple #[comR x y ww hh x' y' ww' hh', .bool (comB x y ww hh x' y' ww' hh')]) ∧ Below w.heap.size w w' := by
  have hx : (if x < x' then x' else x) = maxI x x' := rfl
  have hy : (if y < y' then y' else y) = maxI y y' := rfl
  have ex : (if x' + ww' < x + ww then x' + ww' else x + ww) = minI (x + ww) (x' + ww') := rfl
  have ey : (if y' + hh' < y + hh then y' + hh' else y + hh) = minI (y + hh) (y' + hh') := rfl
  obtain ⟨x1, x2, x3⟩ := maxI_le x x'
  obtain ⟨y1, y2, y3⟩ := maxI_le y y'
  obtain ⟨x4, x5, x6⟩ := minI_le (x + ww) (x' + ww')
  obtain ⟨y4, y5, y6⟩ := minI_le (y + hh) (y' + hh')
  have x7 : -1073741824 ≤ maxI x x' ∧ maxI x x' ≤ 1073741824 ∧ -1073741824 ≤ minI (x + ww) (x' + ww') ∧ minI (x + ww) (x' + ww') ≤ 2147483648 := by omega
  have y7 : -1073741824 ≤ maxI y y' ∧ maxI y y' ≤ 1073741824 ∧ -1073741824 ≤ minI (y + hh) (y' + hh') ∧ minI (y + hh) (y' + hh') ≤ 2147483648 := by omega
  clear x3 y3 x6 y6
  obtain ⟨x7, x8, x9, xa⟩ := x7
  obtain ⟨y7, y8, y9, ya⟩ := y7
  rcases (show (1 ≤ minI (x + ww) (x' + ww') - maxI x x' ∧ 1 ≤ minI (y + hh) (y' + hh') - maxI y y') ∨ (1 ≤ minI (x + ww) (x' + ww') - maxI x x' ∧ minI (y + hh) (y' + hh') - maxI y y' < 1) ∨ minI (x + ww) (x' + ww') - maxI x x' < 1 by omega) with ⟨t1, t2⟩ | ⟨t1, t2⟩ | t1
  · have hb : comB x y ww hh x' y' ww' hh' = true := comB_iff.2 ⟨t1, t2⟩
    have hr : comR x y ww hh x' y' ww' hh' = reg (maxI x x') (maxI y y') (minI (x + ww) (x' + ww') - maxI x x') (minI (y + hh) (y' + hh') - maxI y y') := by unfold comR; rw [if_pos hb]
    rw [hb, hr]
    clear hb hr
    go_enter Try.func50, Try.ntmps50
    go_wp2
    go_region
    go_wp2
    exact bodyPost_ret (v := .tuple #[reg (maxI x x') (maxI y y') (minI (x + ww) (x' + ww') - maxI x x') (minI (y + hh) (y' + hh') - maxI y y'), .bool true]) (by simp [results, Try.results50, go_sem]) rfl ⟨rfl, (by repeat (first | exact Below.refl _ _ | refine Below.alloc ?_ (by first | omega | (simp; done) | (simp; omega)) _ | refine Below.setCell ?_ (by first | omega | (simp; done) | (simp; omega)) _ | refine Below.drew ?_))⟩
  all_goals
    have hb : comB x y ww hh x' y' ww' hh' = false := comB_no.2 (by omega)
    have hr : comR x y ww hh x' y' ww' hh' = reg 0 0 0 0 := by unfold comR; rw [hb]; rfl
    rw [hb, hr]
    clear hb hr
    go_enter Try.func50, Try.ntmps50
    go_wp2
    go_region
    go_wp2
    exact bodyPost_ret (v := .tuple #[reg 0 0 0 0, .bool false]) (by simp [results, Try.results50, go_sem]) rfl ⟨rfl, (by repeat (first | exact Below.refl _ _ | refine Below.alloc ?_ (by first | omega | (simp; done) | (simp; omega)) _ | refine Below.setCell ?_ (by first | omega | (simp; done) | (simp; omega)) _ | refine Below.drew ?_))⟩

end Go.Proofs.Ytdbponidkodmfaa

/- HashesMatch: Hash, Unit and Signed answer as the references do; units are from 0 to below 1, signed ones from -1. -/
namespace Go.Proofs.Ytdbponidkodmfaa
open Go.RowKit Fl
set_option linter.unusedVariables false

theorem unit_cmp {h : Int} (h0 : 0 ≤ h) (h1 : h < 4294967296) : (FloatKind.f32.format.order (unitW h) 0 == some .gt || FloatKind.f32.format.order (unitW h) 0 == some .eq) = true ∧ (FloatKind.f32.format.order (unitW h) 1065353216 == some .lt) = true := by
  obtain ⟨a, v, a0, a1⟩ := unit_in h0 h1
  rw [show FloatKind.f32.format = Ieee.single from rfl]
  exact ⟨by rw [geq_val v vS_zero]; simpa using a0, by rw [lss_val v vS_one]; simpa using a1⟩
theorem sgn_cmp {h : Int} (h0 : 0 ≤ h) (h1 : h < 4294967296) : (FloatKind.f32.format.order (sgnW h) 3212836864 == some .gt || FloatKind.f32.format.order (sgnW h) 3212836864 == some .eq) = true ∧ (FloatKind.f32.format.order (sgnW h) 1065353216 == some .lt) = true := by
  obtain ⟨a, v, a0, a1⟩ := sgn_in h0 h1
  rw [show FloatKind.f32.format = Ieee.single from rfl]
  exact ⟨by rw [geq_val v vS_mone]; simpa using a0, by rw [lss_val v vS_one]; simpa using a1⟩

set_option maxHeartbeats 400000 in
theorem bits_self (x : Nat) (w : World) :
    Calls Try.prog 37 #[.float .f32 x, .float .f32 x] w fun e w' => e = .returned (.bool true) ∧ w = w' := by
  have h1 := f32bits
  go_enter Try.func37, Try.ntmps37
  go_wp2
  go_ret
  exact ⟨rfl, rfl⟩

end Go.Proofs.Ytdbponidkodmfaa

/- EaseMatches: Ease answers as the reference does, and from 0 to 1. -/
namespace Go.Proofs.Ytdbponidkodmfaa
open Go.RowKit Fl
set_option linter.unusedVariables false

set_option maxHeartbeats 400000 in
theorem one_ok (x : Nat) (w : World) :
    Calls Try.prog 16 #[.float .f32 x, .int .i64 0, .float .f32 x, .int .i64 0] w fun e w' => e = .returned (.bool true) ∧ w = w' := by
  go_enter Try.func16, Try.ntmps16
  go_wp2_with (go_at_call 37; refine (bits_self _ _).mono ?_; rintro e w' ⟨rfl, rfl⟩)
  go_ret
  exact ⟨rfl, rfl⟩

set_option maxHeartbeats 400000 in
theorem one_err (b : Nat) (k : Int) (hk : k = 2 ∨ k = 3 ∨ k = 4 ∨ k = 5) (w : World) :
    Calls Try.prog 16 #[.float .f32 0, .int .i64 k, .float .f32 b, .int .i64 k] w fun e w' => e = .returned (.bool true) ∧ w = w' := by
  rcases hk with rfl | rfl | rfl | rfl
  all_goals go_enter Try.func16, Try.ntmps16
  all_goals go_wp2_with (go_at_call 37; refine (bits_self _ _).mono ?_; rintro e w' ⟨rfl, rfl⟩)
  all_goals go_ret
  all_goals exact ⟨rfl, rfl⟩

theorem zero_geq : (FloatKind.f32.format.order 0 0 == some .gt || FloatKind.f32.format.order 0 0 == some .eq) = true := by rw [f32f, geq_val vS_zero vS_zero]; simp
theorem zero_leq : (FloatKind.f32.format.order 0 1065353216 == some .lt || FloatKind.f32.format.order 0 1065353216 == some .eq) = true := by
  rw [f32f, leq_val vS_zero vS_one]; simp
end Go.Proofs.Ytdbponidkodmfaa

/- SlopesMatch: Slope, Curve, Aspect and Normal answer as the references do, for every field that fit makes, and every place. -/
namespace Go.Proofs.Ytdbponidkodmfaa
open Go.RowKit Fl
set_option linter.unusedVariables false

/-- A list of n aspects: none, or known cell by cell. -/
def AspSl (w : World) (lo n : Nat) (f : Nat → Int) (a : Option Addr) (l c : Nat) : Prop :=
  (n = 0 ∧ a = none ∧ l = 0 ∧ c = 0) ∨ (1 ≤ n ∧ l = n ∧ ∃ g, a = some ⟨g, 0, none⟩ ∧ lo ≤ g ∧ g < w.heap.size ∧ ∀ i, i < n → w.cell? ⟨g, i, none⟩ = some (.int .i64 (f i)))
theorem AspSl.stay {w w' : World} {lo n : Nat} {f : Nat → Int} {a : Option Addr} {l c : Nat} (h : AspSl w lo n f a l c) (hb : Below w.heap.size w w') : AspSl w' lo n f a l c :=
  h.imp id fun ⟨h1, h2, g, h3, h4, h5, h6⟩ => ⟨h1, h2, g, h3, h4, Nat.lt_of_lt_of_le h5 hb.size, fun i hi => (Below.cell (p := ⟨g, i, none⟩) hb h5).trans (h6 i hi)⟩
/-- What Aspect answers. -/
def AspRes (w : World) (n : Nat) (f : Nat → Int) (r1 r2 r3 r4 er : Int) (e : Ending) (w' : World) : Prop :=
  ∃ a l c, e = .returned (.tuple #[.slice a l c, reg r1 r2 r3 r4, .int .i64 er]) ∧ AspSl w' w.heap.size n f a l c ∧ Below w.heap.size w w'

theorem asp_both (X Y : Int) (W H n b cap : Nat) (v : Nat → Nat) (h0 : checkR X Y W H = 0) (hn : n = W * H) (hcap : n ≤ cap) (hcp : cap ≤ 9223372036854775807) (hh : allB n (fun i => hgtB (v i)) = true) :
    ∃ (n' : Nat) (f : Nat → Int) (r1 r2 r3 r4 er : Int), n' ≤ 65536 ∧
      (∀ w, FlAt w b 0 n v → Calls Try.prog 32 #[fldV X Y W H (.slice (some ⟨b, 0, none⟩) n cap)] w (AspRes w n' f r1 r2 r3 r4 er)) ∧
      (∀ w, FlAt w b 0 n v → Calls Try.prog 33 #[fldV X Y W H (.slice (some ⟨b, 0, none⟩) n cap)] w (AspRes w n' f r1 r2 r3 r4 er)) := by
  cases hi : innB W H with
  | false =>
    exact ⟨0, fun _ => 0, 0, 0, 0, 0, 10, by omega,
      fun w hc => (aspect_no X Y W H n b cap v w h0 hn hc hh hi).mono fun e w' h => ⟨none, 0, 0, h.1, .inl ⟨rfl, rfl, rfl, rfl⟩, h.2⟩,
      fun w hc => (raspect_no X Y W H n b cap w h0 hi).mono fun e w' h => ⟨none, 0, 0, h.1, .inl ⟨rfl, rfl, rfl, rfl⟩, h.2⟩⟩
  | true =>
    have h3 : 3 ≤ (W : Int) ∧ 3 ≤ (H : Int) := by unfold innB at hi; exact of_decide_eq_true hi
    obtain ⟨h3, h4⟩ := h3
    obtain ⟨W2, eW⟩ : ∃ W2 : Nat, W = W2 + 2 := ⟨W - 2, by omega⟩
    obtain ⟨H2, eH⟩ : ∃ H2 : Nat, H = H2 + 2 := ⟨H - 2, by omega⟩
    have w1 : 1 ≤ W2 := by omega
    have g1 : 1 ≤ H2 := by omega
    obtain ⟨_, _, _, _, c5, _⟩ := checkR_zero (rim_check h0 eW eH w1 g1)
    have hz : ((H2 * W2 : Nat) : Int) ≤ 65536 := by rw [Nat.mul_comm]; simpa using c5
    have hp : 1 ≤ H2 * W2 := Nat.mul_pos (by omega) (by omega)
    have post : ∀ w e w', AspPost w (X + 1) (Y + 1) W2 H2 (H2 * W2) (aspR v W) e w' → AspRes w (H2 * W2) (aspR v W) (X + 1) (Y + 1) W2 H2 0 e w' := fun w e w' ⟨g, cap', he, hc, hg, hgl, hb⟩ => ⟨_, _, _, he, .inr ⟨hp, rfl, g, rfl, hg, hgl, hc⟩, hb⟩
    exact ⟨H2 * W2, aspR v W, X + 1, Y + 1, W2, H2, 0, by omega,
      fun w hc => (aspect_ok X Y W H n b cap W2 H2 v w h0 hn hcap hcp hc hh eW eH w1 g1).mono fun e w' h => post w e w' h,
      fun w hc => (raspect_ok X Y W H n b cap W2 H2 v w h0 hn hc hh eW eH w1 g1).mono fun e w' h => post w e w' h⟩

set_option maxHeartbeats 1000000 in
theorem equalZ_nil (w : World) :
    Calls Try.prog 34 #[.slice none 0 0, .slice none 0 0] w fun e w' => e = .returned (.bool true) ∧ Below w.heap.size w w' := by
  go_enter Try.func34, Try.ntmps34
  go_wp2
  go_loopw [13] (fun i wr => i = .int .i64 0 ∧ Below w.heap.size w wr) (fun i _ => 0)
  case atStart => exact ⟨rfl, Below.refl _ _⟩
  case round =>
    obtain ⟨rfl, hb⟩ := hrel
    go_wp2
    go_ret
    exact ⟨rfl, hb⟩

theorem equal_sl {w : World} {lo lo' n : Nat} {f : Nat → Int} {a a' : Option Addr} {l c l' c' : Nat} (hn : n ≤ 65536) (h : AspSl w lo n f a l c) (h' : AspSl w lo' n f a' l' c') :
    Calls Try.prog 34 #[.slice a l c, .slice a' l' c'] w fun e w' => e = .returned (.bool true) ∧ Below w.heap.size w w' := by
  rcases h with ⟨z, rfl, rfl, rfl⟩ | ⟨h1, rfl, g, rfl, _, _, hc⟩
  · rcases h' with ⟨_, rfl, rfl, rfl⟩ | ⟨h1, _⟩
    · exact equalZ_nil w
    · omega
  · rcases h' with ⟨z, _⟩ | ⟨_, rfl, g', rfl, _, _, hc'⟩
    · omega
    · exact equalZ_any g g' c c' _ f hn w hc hc'

set_option maxHeartbeats 4000000 in
theorem slopesMatch_any (X0 Y0 W0 H0 : Int) (sl : Value) (px py : Int) (w : World)
    (hfit : ∀ W', Below w.heap.size w W' → Calls Try.prog 10 #[fldV X0 Y0 W0 H0 sl] W' (FitPost W')) :
    Calls Try.prog 6 #[fldV X0 Y0 W0 H0 sl, .int .i64 px, .int .i64 py] w fun e w' => e = .returned (.bool true) ∧ Below w.heap.size w w' := by
  have HF := Lib.hid hfit
  clear hfit
  go_enter Try.func6, Try.ntmps6
  go_wp2_with (first | (go_at_call 9; refine (landed_any _).mono ?_; rintro e w1 ⟨rfl, hb1⟩; have HA1 := Lib.hid (blkStay (b := w.heap.size) (o := fldO X0 Y0 W0 H0 sl) (heap_alloc_new w _) hb1); have hB1 : Below w.heap.size w w1 := Below.trans (by repeat (first | exact Below.refl _ _ | refine Below.alloc ?_ (by first | omega | (simp; done) | (simp; omega)) _ | refine Below.setCell ?_ (by first | omega | (simp; done) | (simp; omega)) _ | refine Below.drew ?_)) (Below.mono hb1 (by first | omega | (simp; done) | (simp; omega))); obtain ⟨cA, fA, zA⟩ := blkC HA1.out; clear hb1))
  refine (HF.out w1 hB1).mono ?_
  rintro e w2 ⟨X, Y, W', H', b, n, rfl, x1, x2, y1, y2, u1, u2, h1, h2, hn, hn1, hn2, hlo, hrow, hb2⟩
  obtain ⟨W, rfl⟩ : ∃ W : Nat, W' = W := ⟨W'.toNat, by omega⟩
  obtain ⟨H, rfl⟩ : ∃ H : Nat, H' = H := ⟨H'.toNat, by omega⟩
  obtain ⟨v, fv, wv, hv, bv⟩ := fit_fn hrow
  have h0 := fit_check x1 x2 y1 y2 u1 u2 h1 h2 hn hn2
  have hnn : n = W * H := by
    have : (n : Int) = ((W * H : Nat) : Int) := by rw [hn]; simp
    omega
  have HA2 := Lib.hid (blkStay HA1.out hb2)
  have hB2 : Below w.heap.size w w2 := hB1.trans (hb2.mono hB1.size)
  obtain ⟨cA, fA, zA⟩ := blkC HA2.out
  have hm : n ≤ 9223372036854775807 := by omega
  obtain ⟨sX, sY, sW, sH, sn, sf, se, sn1, sn2, sP, sR⟩ := slope_both X Y W H n b n v h0 hnn (Nat.le_refl _) hm hv
  obtain ⟨cX, cY, cW, cH, cn, cf, ce, cn1, cn2, cP, cR⟩ := curve_both X Y W H n b n v h0 hnn (Nat.le_refl _) hm hv
  obtain ⟨an, af, r1', r2', r3', r4', ae, an2, aP, aR⟩ := asp_both X Y W H n b n v h0 hnn (Nat.le_refl _) hm hv
  obtain ⟨ne, nx, ny, nz, nP, nR⟩ := norm_both X Y W H n b n v px py h0 hnn (Nat.le_refl _) hm hv
  have S1 := Lib.hid sP
  have S2 := Lib.hid sR
  have C1 := Lib.hid cP
  have C2 := Lib.hid cR
  have A1 := Lib.hid aP
  have A2 := Lib.hid aR
  have N1 := Lib.hid nP
  have N2 := Lib.hid nR
  have BS := Lib.hid (fun x w => bits_self x w)
  clear sP sR cP cR aP aR nP nR hm
  clear x1 x2 y1 y2 u1 u2 h1 h2 hn h0 hnn hrow hv wv
  have hbp : b ≠ w.heap.size := by have := hB1.size; omega
  have HA3 := Lib.hid (set5_self (.int .i64 X) (.int .i64 Y) (.int .i64 W) (.int .i64 H) (.slice (some ⟨b, 0, none⟩) n n) HA2.out)
  have F3 := Lib.hid (flAt_congr fv (set5_heap w2 w.heap.size b (.int .i64 X) (.int .i64 Y) (.int .i64 W) (.int .i64 H) (.slice (some ⟨b, 0, none⟩) n n) hbp))
  have hB3 := set5_below hB2 w.heap.size (.int .i64 X) (.int .i64 Y) (.int .i64 W) (.int .i64 H) (.slice (some ⟨b, 0, none⟩) n n) (Nat.le_refl _)
  clear hb2
  go_wp2_with fail
  refine (S1.out _ F3.out).mono ?_
  intro e w4 hp
  obtain ⟨x1, y1, u1, h1, p1, l1, q1, k1, rfl, r1, hb4⟩ := made_res hp
  have hx := set5_size w2 w.heap.size (.int .i64 X) (.int .i64 Y) (.int .i64 W) (.int .i64 H) (.slice (some ⟨b, 0, none⟩) n n)
  have F4 := Lib.hid (flAt_congr F3.out (hb4.block b (by rw [hx]; exact bv)))
  have HA4 := Lib.hid (blkStay HA3.out hb4)
  have hB4 := hB3.trans (hb4.mono hB3.size)
  have bv4 : b < w4.heap.size := by have := hb4.size; rw [hx] at this; omega
  clear hp
  rw [hx] at r1
  clear hb4 HA3 F3 hB3 hx cA fA zA HA2 hB2 hlo fv bv
  obtain ⟨cA, fA, zA⟩ := blkC HA4.out
  -- the reference's Select
  have hb5 := al_below w4 (fldO x1 y1 u1 h1 (.slice p1 l1 q1))
  have F5 := Lib.hid (flAt_congr F4.out (heap_alloc_old w4 (fldO x1 y1 u1 h1 (.slice p1 l1 q1)) bv4))
  have HA5 := Lib.hid ((heap_alloc_old w4 (fldO x1 y1 u1 h1 (.slice p1 l1 q1)) zA).trans HA4.out)
  have HQ5 := Lib.hid (heap_alloc_new w4 (fldO x1 y1 u1 h1 (.slice p1 l1 q1)))
  have R5 := Lib.hid (r1.stay hb5)
  go_wp2_with fail
  refine (S2.out _ F5.out).mono ?_
  intro e w6 hp
  obtain ⟨x2, y2, u2, h2, p2, l2, q2, k2, rfl, r2, hb6⟩ := made_res hp
  have hb46 := hb5.trans (hb6.mono hb5.size)
  have F6 := Lib.hid (flAt_congr F5.out (hb6.block b (by have := hb5.size; omega)))
  have HA6 := Lib.hid (blkStay HA5.out hb6)
  have HQ6 := Lib.hid (blkStay HQ5.out hb6)
  have R6 := Lib.hid (R5.out.stay hb6)
  have hB6 := hB4.trans (hb46.mono hB4.size)
  have bv6 : b < w6.heap.size := by have := hb46.size; omega
  clear r1 R5 HQ5 HA5 F5 hb5 hb46 hp F4 HA4 hb6 cA fA
  obtain ⟨cA, fA, zA6⟩ := blkC HA6.out
  obtain ⟨cQ, fQ, zQ6⟩ := blkC HQ6.out
  -- same
  have hb7 := al_below w6 (fldO x2 y2 u2 h2 (.slice p2 l2 q2))
  have F7 := Lib.hid (flAt_congr F6.out (heap_alloc_old w6 (fldO x2 y2 u2 h2 (.slice p2 l2 q2)) bv6))
  have HA7 := Lib.hid ((heap_alloc_old w6 (fldO x2 y2 u2 h2 (.slice p2 l2 q2)) zA6).trans HA6.out)
  have HQ7 := Lib.hid ((heap_alloc_old w6 (fldO x2 y2 u2 h2 (.slice p2 l2 q2)) zQ6).trans HQ6.out)
  have HR7 := Lib.hid (heap_alloc_new w6 (fldO x2 y2 u2 h2 (.slice p2 l2 q2)))
  have R7 := Lib.hid (R6.out.stay hb7)
  have T7 := Lib.hid (r2.stay hb7)
  go_wp2_with fail
  refine (same_res sn1 (by omega) R7.out T7.out).mono ?_
  rintro e w8 ⟨rfl, hb8⟩
  have hb68 := hb7.trans (hb8.mono hb7.size)
  have F8 := Lib.hid (flAt_congr F7.out (hb8.block b (by have := hb7.size; omega)))
  have HA8 := Lib.hid (blkStay HA7.out hb8)
  have HQ8 := Lib.hid (blkStay HQ7.out hb8)
  have HR8 := Lib.hid (blkStay HR7.out hb8)
  have hB8 := hB6.trans (hb68.mono hB6.size)
  have bv8 : b < w8.heap.size := by have := hb68.size; omega
  clear R6 r2 R7 T7 HR7 HQ7 HA7 F7 hb7 hb8 hb68 HQ6 HA6 F6 cA fA cQ fQ
  obtain ⟨cA, fA, zA8⟩ := blkC HA8.out
  obtain ⟨cQ, fQ, zQ8⟩ := blkC HQ8.out
  obtain ⟨cR, fR, zR8⟩ := blkC HR8.out
  go_wp2_with fail
  refine (C1.out _ F8.out).mono ?_
  intro e w9 hp
  obtain ⟨x3, y3, u3, h3, p3, l3, q3, k3, rfl, r3, hb9⟩ := made_res hp
  have F9 := Lib.hid (flAt_congr F8.out (hb9.block b bv8))
  have HA9 := Lib.hid (blkStay HA8.out hb9)
  have HQ9 := Lib.hid (blkStay HQ8.out hb9)
  have HR9 := Lib.hid (blkStay HR8.out hb9)
  have hB9 := hB8.trans (hb9.mono hB8.size)
  have bv9 : b < w9.heap.size := by have := hb9.size; omega
  clear cA fA cQ fQ cR fR hp F8 HA8 HQ8 HR8
  obtain ⟨cA, fA, zA9⟩ := blkC HA9.out
  obtain ⟨cQ, fQ, zQ9⟩ := blkC HQ9.out
  obtain ⟨cR, fR, zR9⟩ := blkC HR9.out
  -- the reference's Terrace
  have hx := set5_size w9 w4.heap.size (.int .i64 x3) (.int .i64 y3) (.int .i64 u3) (.int .i64 h3) (.slice p3 l3 q3)
  have F10 := Lib.hid (flAt_congr F9.out (set5_heap w9 w4.heap.size b (.int .i64 x3) (.int .i64 y3) (.int .i64 u3) (.int .i64 h3) (.slice p3 l3 q3) (by omega)))
  have HQ10 := Lib.hid (set5_self (.int .i64 x3) (.int .i64 y3) (.int .i64 u3) (.int .i64 h3) (.slice p3 l3 q3) HQ9.out)
  have HR10 := Lib.hid ((set5_heap w9 w4.heap.size w6.heap.size (.int .i64 x3) (.int .i64 y3) (.int .i64 u3) (.int .i64 h3) (.slice p3 l3 q3) (by omega)).trans HR9.out)
  have R10 := Lib.hid (r3.heap (w' := set5 w9 w4.heap.size (.int .i64 x3) (.int .i64 y3) (.int .i64 u3) (.int .i64 h3) (.slice p3 l3 q3)) (p := w4.heap.size) (by rw [hx]; exact Nat.le_refl _) (by omega) (fun k hk _ => set5_heap w9 w4.heap.size k (.int .i64 x3) (.int .i64 y3) (.int .i64 u3) (.int .i64 h3) (.slice p3 l3 q3) hk))
  have hB10 := set5_below hB9 w4.heap.size (.int .i64 x3) (.int .i64 y3) (.int .i64 u3) (.int .i64 h3) (.slice p3 l3 q3) (by omega)
  go_wp2_with fail
  refine (C2.out _ F10.out).mono ?_
  intro e w11 hp
  obtain ⟨x4, y4, u4, h4, p4, l4, q4, k4, rfl, r4, hb11⟩ := made_res hp
  rw [hx] at r4
  have HA10 := Lib.hid ((set5_heap w9 w4.heap.size w.heap.size (.int .i64 x3) (.int .i64 y3) (.int .i64 u3) (.int .i64 h3) (.slice p3 l3 q3) (by have := hB4.size; omega)).trans HA9.out)
  have HA11 := Lib.hid (blkStay HA10.out hb11)
  have F11 := Lib.hid (flAt_congr F10.out (hb11.block b (by rw [hx]; exact bv9)))
  have HQ11 := Lib.hid (blkStay HQ10.out hb11)
  have HR11 := Lib.hid (blkStay HR10.out hb11)
  have R11 := Lib.hid (R10.out.stay hb11)
  have hB11 := hB10.trans (hb11.mono hB10.size)
  have z11 : w9.heap.size ≤ w11.heap.size := by have := hb11.size; rw [hx] at this; exact this
  have z98 := hb9.size
  clear cA fA cQ fQ cR fR hp F10 HQ10 HR10 R10 r3 hb11 hb9
  obtain ⟨cQ, fQ, zQ11⟩ := blkC HQ11.out
  obtain ⟨cR, fR, zR11⟩ := blkC HR11.out
  have hx2 := set5_size w11 w6.heap.size (.int .i64 x4) (.int .i64 y4) (.int .i64 u4) (.int .i64 h4) (.slice p4 l4 q4)
  have R12 := Lib.hid (R11.out.heap (w' := set5 w11 w6.heap.size (.int .i64 x4) (.int .i64 y4) (.int .i64 u4) (.int .i64 h4) (.slice p4 l4 q4)) (p := w6.heap.size) (by rw [hx2]; exact Nat.le_refl _) (by omega) (fun k hk _ => set5_heap w11 w6.heap.size k (.int .i64 x4) (.int .i64 y4) (.int .i64 u4) (.int .i64 h4) (.slice p4 l4 q4) hk))
  have T12 := Lib.hid (r4.heap (w' := set5 w11 w6.heap.size (.int .i64 x4) (.int .i64 y4) (.int .i64 u4) (.int .i64 h4) (.slice p4 l4 q4)) (p := w6.heap.size) (by rw [hx2]; exact Nat.le_refl _) (by omega) (fun k hk _ => set5_heap w11 w6.heap.size k (.int .i64 x4) (.int .i64 y4) (.int .i64 u4) (.int .i64 h4) (.slice p4 l4 q4) hk))
  have hB12 := set5_below hB11 w6.heap.size (.int .i64 x4) (.int .i64 y4) (.int .i64 u4) (.int .i64 h4) (.slice p4 l4 q4) (by omega)
  have F12 := Lib.hid (flAt_congr F11.out (set5_heap w11 w6.heap.size b (.int .i64 x4) (.int .i64 y4) (.int .i64 u4) (.int .i64 h4) (.slice p4 l4 q4) (by omega)))
  have HA12 := Lib.hid ((set5_heap w11 w6.heap.size w.heap.size (.int .i64 x4) (.int .i64 y4) (.int .i64 u4) (.int .i64 h4) (.slice p4 l4 q4) (by omega)).trans HA11.out)
  have bv12 : b < (set5 w11 w6.heap.size (.int .i64 x4) (.int .i64 y4) (.int .i64 u4) (.int .i64 h4) (.slice p4 l4 q4)).heap.size := by rw [hx2]; omega
  go_wp2_with fail
  refine (same_res cn1 (by omega) R12.out T12.out).mono ?_
  rintro e w13 ⟨rfl, hb13⟩
  have hB13 := hB12.trans (hb13.mono hB12.size)
  have F13 := Lib.hid (flAt_congr F12.out (hb13.block b bv12))
  have HA13 := Lib.hid (blkStay HA12.out hb13)
  have bv13 : b < w13.heap.size := Nat.lt_of_lt_of_le bv12 hb13.size
  clear cQ fQ zQ11 cR fR zR11 R12 T12 R11 r4 HQ11 HR11 HA12 F12 HA11 F11 HA10 hb13 hB12 hx2 hB11 z11 z98 bv12
  obtain ⟨cA, fA, zA13⟩ := blkC HA13.out
  have z13 := hB13.size
  go_wp2_with fail
  refine (A1.out _ F13.out).mono ?_
  rintro e w14 ⟨a, l, c, rfl, s14, hb14⟩
  have hx14 := al_below w14 (regObj r1' r2' r3' r4')
  have hb15 := hb14.trans (hx14.mono hb14.size)
  have F15 := Lib.hid (flAt_congr F13.out (hb15.block b bv13))
  have HA15 := Lib.hid (blkStay HA13.out hb15)
  have S15 := Lib.hid (s14.stay hx14)
  have HT15 := Lib.hid (heap_alloc_new w14 (regObj r1' r2' r3' r4'))
  have HB15 := Lib.hid (hB13.trans (hb15.mono z13))
  have bv15 : b < (w14.alloc (regObj r1' r2' r3' r4')).heap.size := Nat.lt_of_lt_of_le bv13 hb15.size
  have zAk : w.heap.size < w14.heap.size := Nat.lt_of_lt_of_le zA13 hb14.size
  clear cA fA zA13 F13 HA13 hB13 bv13
  obtain ⟨cA, fA, zA14⟩ := blkC (((heap_alloc_old w14 (regObj r1' r2' r3' r4') zAk).symm).trans HA15.out)
  clear s14 hb14 hx14 hb15
  go_wp2_with fail
  refine (A2.out _ F15.out).mono ?_
  rintro e w16 ⟨a', l', c', rfl, s16, hb16⟩
  have hx16 := al_below w16 (regObj r1' r2' r3' r4')
  have hb17 := hb16.trans (hx16.mono hb16.size)
  have F17 := Lib.hid (flAt_congr F15.out (hb17.block b bv15))
  have HA16 := Lib.hid (blkStay HA15.out hb16)
  have HT16 := Lib.hid (blkStay HT15.out hb16)
  have HA17 := Lib.hid (blkStay HA15.out hb17)
  have S17 := Lib.hid (S15.out.stay hb17)
  have T17 := Lib.hid (s16.stay hx16)
  have HB17 := Lib.hid (HB15.out.trans (hb17.mono HB15.out.size))
  have bv17 : b < (w16.alloc (regObj r1' r2' r3' r4')).heap.size := Nat.lt_of_lt_of_le bv15 hb17.size
  clear cA fA zA14 F15 HA15 HT15 S15 HB15 bv15
  obtain ⟨cA, fA, zA16⟩ := blkC HA16.out
  obtain ⟨cT, fT, zT16⟩ := blkC HT16.out
  clear s16 hb16 hx16 hb17
  go_wp2_with fail
  refine (equal_sl an2 S17.out T17.out).mono ?_
  rintro e w18 ⟨rfl, hb18⟩
  have F18 := Lib.hid (flAt_congr F17.out (hb18.block b bv17))
  have HA18 := Lib.hid (blkStay HA17.out hb18)
  have HB18 := Lib.hid (HB17.out.trans (hb18.mono HB17.out.size))
  have bv18 : b < w18.heap.size := Nat.lt_of_lt_of_le bv17 hb18.size
  clear cA fA zA16 cT fT zT16 hb18 F17 HA17 HB17 bv17 S17 T17 HA16 HT16
  obtain ⟨cA, fA, zA18⟩ := blkC HA18.out
  go_wp2_with fail
  refine (N1.out _ F18.out).mono ?_
  rintro e w19 ⟨rfl, hb19⟩
  have F19 := Lib.hid (flAt_congr F18.out (hb19.block b bv18))
  have HA19 := Lib.hid (blkStay HA18.out hb19)
  have HB19 := Lib.hid (HB18.out.trans (hb19.mono HB18.out.size))
  clear cA fA zA18 hb19 F18 HA18 HB18
  obtain ⟨cA, fA, zA19⟩ := blkC HA19.out
  go_wp2_with fail
  refine (N2.out _ F19.out).mono ?_
  rintro e w20 ⟨rfl, hb20⟩
  have HB20 := Lib.hid (HB19.out.trans (hb20.mono HB19.out.size))
  clear cA fA zA19 hb20 F19 HA19 HB19
  go_wp2_with (first | (go_at_call 37; refine (BS.out _ _).mono ?_; rintro e w' ⟨rfl, rfl⟩))
  go_ret
  exact ⟨rfl, HB20.out⟩
end Go.Proofs.Ytdbponidkodmfaa

/- A field that came in, opened: four integers, and a slice of singles that is empty or known cell by cell. -/
namespace Go.Proofs.Ytdbponidkodmfaa
open Go.ChangeShapes Go.WideShapes Go.ChangeAt Go.RowKit Go.Joins Fl

section
variable {H : Type} {enc : TypeId × Value → H} {w : World} {base : Nat} {spare : Nat → Bool} {held : Bool}

theorem trod_f32 {P : Program} {t : TypeId} {fuel : Nat} {v : Value} {y : DataW H × List MemPlace} (ht : P.underlying t = some (.float .f32)) (h : DataW.trod enc P w base spare held fuel t [v] = some y) : ∃ b, v = .float .f32 b ∧ b < 4294967296 := by
  cases fuel with
  | zero => simp [DataW.trod] at h
  | succ n =>
    unfold DataW.trod at h
    rw [ht] at h
    cases v <;> simp at h
    rename_i k b
    obtain ⟨⟨rfl, hw⟩, _⟩ := h
    exact ⟨b, rfl, by simpa [Lit.wf] using hw⟩

theorem array5 {α : Type} {cs : Array α} (h : cs.size = 5) : ∃ c0 c1 c2 c3 c4, cs = #[c0, c1, c2, c3, c4] := by
  obtain ⟨l⟩ := cs
  match l, h with
  | [c0, c1, c2, c3, c4], _ => exact ⟨c0, c1, c2, c3, c4, rfl⟩

theorem flAt_congr' {w w' : World} {b off n : Nat} {f : Nat → Nat} (h : FlAt w b off n f) (e : w'.heap[b]? = w.heap[b]?) : FlAt w' b off n f := fun i hi => by
  rw [← h i hi]; exact World.cell?_of_block (w := w) (a := ⟨b, off + i, none⟩) e

/-- What a slice of singles is: empty, or known cell by cell. -/
def SlF (w : World) (s : Value) : Prop :=
  (∃ a cap, s = .slice a 0 cap) ∨ ∃ b off len cap x, s = .slice (some ⟨b, off, none⟩) len cap ∧ 0 < len ∧ len ≤ 9223372036854775807 ∧ FlAt w b off len x ∧ wf32 len x

theorem open_singles {t e : TypeId} {fuel : Nat} {cs : List Value} {y : DataW H × List MemPlace} (ht : Try.prog.underlying t = some (.slice e)) (he : Try.prog.underlying e = some (.float .f32)) (hc : Try.prog.cellsOf e = 1)
    (h : DataW.trod enc Try.prog w base spare held fuel t cs = some y) : ∃ s, cs = [s] ∧ SlF w s := by
  rcases Go.Deep.open_slice1 ht hc h with ⟨rfl, _⟩ | ⟨a, len, cap, m, n, V, D, Pl, rfl, hb, hl, hm, hmm, _, hx⟩
  · exact ⟨_, rfl, .inl ⟨none, 0, rfl⟩⟩
  · refine ⟨_, rfl, ?_⟩
    rcases Nat.eq_zero_or_pos len with z | z
    · subst z; exact .inl ⟨_, _, rfl⟩
    · have hlm : len ≤ m := by rw [hmm]; split <;> omega
      have h0 := (hx 0 (by omega)).1
      obtain ⟨b, off, spot⟩ := a
      have hspot : spot = none := by simpa [Addr.add] using World.cell?_spot h0
      subst hspot
      have hv : ∀ i, i < len → ∃ x, V i = .float .f32 x ∧ x < 4294967296 := fun i hi => trod_f32 he (hx i (by omega)).2
      refine .inr ⟨b, off, len, cap, fun i => match V i with | .float _ x => x | _ => 0, rfl, z, ?_, fun i hi => ?_, fun i hi => ?_⟩
      · exact Nat.le_trans hl (Nat.le_trans hm (by decide))
      · have h1 := (hx i (by omega)).1
        obtain ⟨x, e1, _⟩ := hv i hi
        rw [← Go.WideShapes.add_plain, h1]
        simp only [e1]
      · obtain ⟨x, e1, e2⟩ := hv i hi
        simp only [e1]; exact e2

theorem cellsF : Try.prog.cellsOf 27 = 5 := by kernel_rfl
theorem cellsR : Try.prog.cellsOf 24 = 4 := by kernel_rfl
theorem cellsS : Try.prog.cellsOf 25 = 1 := by kernel_rfl
theorem cells1 : Try.prog.cellsOf 34 = 1 := by kernel_rfl
theorem cellsI : Try.prog.cellsOf 3 = 1 := by kernel_rfl

set_option maxRecDepth 100000 in
theorem open_field {r : Reach} {b0 : Nat} {v : Value} {d : DataW H} {p : List MemPlace} (hv : Value.okWide Try.prog w r b0 27 v) (h : DataW.Trod enc Try.prog w base spare held 27 v d p) :
    ∃ X Y W' H' : Int, ∃ s, v = fldV X Y W' H' s ∧ SlF w s := by
  obtain ⟨cs, rfl, hsz⟩ := okWide_struct Try.underlying27 hv
  obtain ⟨c0, c1, c2, c3, c4, rfl⟩ := array5 (hsz.trans cellsF)
  obtain ⟨fuel, hf⟩ := h
  obtain ⟨y0, y1, n, _, _, h0, h1⟩ := trod_struct2 Try.underlying27 hf
  rw [cellsR] at h0
  rw [cellsS] at h1
  obtain ⟨s, e4, hs⟩ := open_singles Try.underlying25 Try.underlying34 cells1 h1
  obtain ⟨z0, z1, z2, z3, n2, _, _, g0, g1, g2, g3⟩ := trod_struct4 Try.underlying24 h0
  rw [cellsI] at g0 g1 g2 g3
  obtain ⟨x0, e0, _, _⟩ := DataW.trod_int Try.underlying3 g0
  obtain ⟨x1, e1, _, _⟩ := DataW.trod_int Try.underlying3 g1
  obtain ⟨x2, e2, _, _⟩ := DataW.trod_int Try.underlying3 g2
  obtain ⟨x3, e3, _, _⟩ := DataW.trod_int Try.underlying3 g3
  simp [Value.cells] at e0 e1 e2 e3 e4
  subst e0 e1 e2 e3 e4
  exact ⟨x0, x1, x2, x3, _, rfl, hs⟩
end

theorem SlF.stay {w w' : World} {s : Value} (h : SlF w s) (hb : Below w.heap.size w w') : SlF w' s := by
  rcases h with h | ⟨b, off, len, cap, x, rfl, h1, h2, h3, h4⟩
  · exact .inl h
  · exact .inr ⟨b, off, len, cap, x, rfl, h1, h2, flAt_congr' h3 (hb.block _ (World.block_lt_of_cell? w _ (h3 0 h1))), h4⟩

/-- fit, of whatever slice. -/
theorem fit_any {X Y W H : Int} {s : Value} {w : World} (h : SlF w s) : Calls Try.prog 10 #[fldV X Y W H s] w (FitPost w) := by
  rcases h with ⟨a, cap, rfl⟩ | ⟨b, off, len, cap, x, rfl, h1, h2, h3, h4⟩
  · exact fit_none X Y W H a cap w
  · exact fit_some X Y W H b off len cap x w h1 h2 h3 h4

theorem laidOut : laidOutB Try.prog = true := by kernel_rfl
end Go.Proofs.Ytdbponidkodmfaa

/- SlopesMatch, for every field and every place: Slope, Curve, Aspect and Normal answer as the references do, bit by bit. No condition. -/
namespace Go.Proofs.Ytdbponidkodmfaa.slopesMatch
open Go.ChangeShapes Go.WideShapes Go.ChangeAt Go.RowKit Go.Joins
set_option linter.unusedVariables false

theorem own : ownKnob Try.prog.godebug = none := by kernel_rfl

set_option maxRecDepth 100000 in
theorem lifted (os : Os) (started : os.Started) (H : Type) (enc : TypeId × Value → H) :
    ReturnsInHanded {} Try.checked os 6 .any (Rows.slopesMatchSpec.pre6 enc Try.prog Try.f6 Rows.slopesMatchRow.domain false) (Rows.slopesMatchSpec.post enc Try.prog Try.f6 false true false false) := by
  refine returnsInHanded_of_change (C := Try.checked) own started (by kernel_rfl) Try.func6
    (ChangeSpec.witness6 (enc := enc) (C := Try.checked) false ⟨#[], #[fldV 0 0 0 0 (.slice none 0 0), .int .i64 0, .int .i64 0], []⟩ 8 (by kernel_rfl) (by kernel_rfl) (by kernel_rfl) (by kernel_rfl)) ?_
  intro W base args ds gs before hval0 hW hcnd _
  have hval : ∀ (j : Nat) t v, Try.f6.params[j]? = some t → args[j]? = some v → Value.okWide Try.prog W .any base t v := hval0
  have hW' := hW
  have hplt : ∀ x ∈ before, x.block < W.heap.size := fun x hx => by simpa using hW'.lt x hx
  obtain ⟨p, q, hA0, hV, rfl, hfz, hnd⟩ := hW
  have hA : DataW.TrodAll enc Try.prog W 0 (fun _ => true) true Try.f6.params.toList args.toList ds p := hA0
  rw [Try.params6] at hA hval
  obtain ⟨v0, vs0, d0, ds0, p0, q0, hargs, rfl, rfl, h0, r0⟩ := trodAll_cons hA
  obtain ⟨v1, vs1, d1, ds1, p1, q1, rfl, rfl, rfl, h1, r1⟩ := trodAll_cons r0
  obtain ⟨v2, vs2, d2, ds2, p2, q2, rfl, rfl, rfl, h2, r2⟩ := trodAll_cons r1
  obtain ⟨rfl, rfl, rfl⟩ := trodAll_nil r2
  obtain rfl : args = #[v0, v1, v2] := by cases args; simp_all
  obtain ⟨rfl, rfl⟩ := trodVars_none hV
  obtain ⟨X, Y, W0, H0, s, rfl, hs⟩ := open_field (hval 0 27 v0 rfl rfl) h0
  obtain ⟨x, rfl, rfl, rfl, wx⟩ := open_int Try.underlying3 (hval 1 3 v1 rfl rfl) h1
  obtain ⟨y, rfl, rfl, rfl, wy⟩ := open_int Try.underlying3 (hval 2 3 v2 rfl rfl) h2
  have hlt : ∀ x ∈ p0, x.block < W.heap.size := fun x hx => hplt x (by simp [hx])
  clear hA0 hval0 hplt
  simp only [List.append_nil] at hW'
  refine (slopesMatch_any X Y W0 H0 s x y W (fun W' hb => fit_any (hs.stay hb))).mono fun e W' ⟨he, hb⟩ => ?_
  subst he
  exact ⟨_, rfl, _, _, _, [], _, [], hW', trodAll_cons_mk (shut_bool Try.underlying4 _) trodAll_mk0, trodAll_cons_mk (Below.trod laidOut (by kernel_rfl) (of_decide_eq_true (by kernel_rfl)) h0 hb hlt) (trodAll_cons_mk (shut_int Try.underlying3 wx) (trodAll_cons_mk (shut_int Try.underlying3 wy) trodAll_mk0)), rfl, hb.frame _, fun h => by cases h⟩

theorem over : Rows.slopesMatchRow.holds Try.pinned (OpenSpec.ofChange Rows.slopesMatchSpec) :=
  OpenClaim.holds_of_wide 6 Try.f6 rfl rfl rfl rfl rfl rfl rfl ⟨rfl, rfl, rfl, rfl, rfl⟩ rfl rfl rfl rfl rfl (by kernel_rfl) Try.func6 (by kernel_rfl)
    (of_decide_eq_true (by kernel_rfl)) (by unfold Func.isWrapper; rw [if_neg (of_decide_eq_false (by kernel_rfl))]; exact ⟨rfl, rfl⟩)
    (fun os started H enc _ => lifted os started H enc)

theorem proved : Rows.SlopesMatchSaid :=
  over
#print axioms proved
end Go.Proofs.Ytdbponidkodmfaa.slopesMatch
