/- Lemmas and contracts for the proof that the last text of this claim holds. -/
import Derived.Test.YtkcehbnmcdppkaaScgJB
import Derived.Lib.Hide
import Derived.RegionTactic
import Derived.ChangeAlike
import Derived.StillTailTactics
import Derived.Deep.RegionHeld3

/- The level of any single that is no NaN (pure). -/
namespace Go.Proofs.Ytkcehbnmcdppkaa.Fl
open Ieee

/-- What a level takes: the double of the single, its floor, this as a single; whether it is below 0, or beyond; the level. -/
structure LvD (x : Nat) (most : Int) (X F r : Nat) (n h : Bool) (k : Int) : Prop where
  c1 : Go.floatToFloatBits .f32 x .f64 = some X
  c2 : double.write ((double.read X).integral .down) = F
  c3 : Go.floatToFloatBits .f64 F .f32 = some r
  c4 : ∃ s, (∃ M I, double.read X = .number s M I) ∨ double.read X = .infinity s
  p1 : (single.order r 0 == some .lt) = n
  p2 : n = false → (single.order r (Go.floatOfInt .f32 most) == some .gt) = h
  p3 : n = false → h = false → Go.floatToIntVal .f32 r .i64 = some k
  q1 : (single.order x 0 == some .lt) = n
  q2 : n = false → (double.order X (Go.floatOfInt .f64 (most + 1)) == some .gt || double.order X (Go.floatOfInt .f64 (most + 1)) == some .eq) = h
  q3 : n = false → h = false → Go.floatToIntVal .f32 x .i64 = some k
  kk : n = false → h = false → 0 ≤ k ∧ k ≤ most

/-- A magnitude of a single has a rung. -/
theorem rung_fit {m j : Nat} (hm : m < 16777216) (hj : j ≤ 1178) (hc : 925 ≤ j) : rungOf single 925 (m * 2 ^ j) < single.infRung := by
  rw [infS']
  rcases Nat.eq_zero_or_pos m with z | z
  · subst z; rw [Nat.zero_mul, rungOf_zero]; omega
  obtain ⟨V, hV⟩ : ∃ V, V = m * 2 ^ j := ⟨_, rfl⟩
  have hV0 : 0 < V := by rw [hV]; exact Nat.mul_pos z (Nat.two_pow_pos _)
  have hl : V.log2 = m.log2 + j := by rw [hV]; exact log2_mul_pow z j
  have hm2 : m.log2 < 24 := (Nat.log2_lt (by omega)).2 hm
  have e1 : lastOf single 925 V = max (V.log2 - 23) 925 := rfl
  have hle : lastOf single 925 V ≤ j := by rw [e1, hl]; omega
  have hge : V.log2 < lastOf single 925 V + 24 := by rw [e1]; omega
  rw [← hV]
  unfold rungOf
  rw [binS']
  generalize lastOf single 925 V = l at *
  have hq : V = m * 2 ^ (j - l) * 2 ^ l := by rw [hV, Nat.mul_assoc, ← Nat.pow_add, Nat.sub_add_cancel hle]
  have hlt : V < 2 ^ (24 + l) := Nat.lt_of_lt_of_le (Nat.lt_log2_self) (Nat.pow_le_pow_right (by omega) (by omega))
  have hq2 : m * 2 ^ (j - l) < 16777216 := by
    rw [hq, Nat.pow_add] at hlt
    exact Nat.lt_of_mul_lt_mul_right hlt
  rw [hq, rnq_mul _ _ (Nat.two_pow_pos _)]
  have := Nat.mul_le_mul_right 8388608 (show l - 925 ≤ 253 by omega)
  omega
theorem back_sgl {F : Nat} {s : Bool} {M : Nat} {I : Int} (h : double.read F = .number s M I) (h2 : ∃ m p, single.read (single.nearest s M I) = .number s m p) :
    Go.floatToFloatBits .f64 F .f32 = some (single.nearest s M I) := by
  unfold Go.floatToFloatBits
  rw [if_neg (by decide)]
  have d : Go.FloatKind.f64.decode F = .number s M I := h
  simp only [d]
  have w : Go.FloatKind.f32.encode (.number s M I) = single.nearest s M I := rfl
  rw [w]
  obtain ⟨m, p, e⟩ := h2
  have d2 : Go.FloatKind.f32.decode (single.nearest s M I) = .number s m p := e
  rw [d2]; rfl
theorem conv_infS {x : Nat} {s : Bool} (h : single.read x = .infinity s) : Go.floatToFloatBits .f32 x .f64 = some (double.word s double.infRung) := by
  unfold Go.floatToFloatBits
  rw [if_neg (by decide)]
  have d : Go.FloatKind.f32.decode x = .infinity s := h
  simp only [d]
  have w : Go.FloatKind.f64.encode (.infinity s) = double.word s double.infRung := rfl
  rw [w]
theorem back_inf (s : Bool) : Go.floatToFloatBits .f64 (double.word s double.infRung) .f32 = some (single.word s single.infRung) := by
  cases s <;> decide

theorem order_inf {x y : Nat} {s : Bool} {b : Int} (h : single.read x = .infinity s) (hb : vS y = some b) : single.order x y = some (if s then .lt else .gt) := by
  obtain ⟨t, n, j, h2, -⟩ := vS_some hb
  unfold Format.order
  rw [h, h2]; rfl
theorem order_infD {x y : Nat} {s : Bool} {b : Int} (h : double.read x = .infinity s) (hb : vD y = some b) : double.order x y = some (if s then .lt else .gt) := by
  obtain ⟨t, n, j, h2, -⟩ := vD_some hb
  unfold Format.order
  rw [h, h2]; rfl

theorem most_val {most : Nat} (h2 : most < 16777216) : vS (Go.floatOfInt .f32 (most : Int)) = some ((most : Int) * (one : Int)) := (int_val (n := (most : Int)) (by omega)).1
theorem most_valD {most : Nat} (h2 : most < 16777216) : vD (Go.floatOfInt .f64 ((most : Int) + 1)) = some (((most + 1) * one : Nat) : Int) := by
  have e : (2 : Nat) ^ 53 = 9007199254740992 := by decide
  exact int_valD (n := most + 1) (by rw [e]; omega)

theorem lvd_small {x : Nat} {a : Int} (ha : vS x = some a) (hb : Bd 120 x) {most : Nat} (h2 : most < 16777216) : ∃ X F r n h k, LvD x (most : Int) X F r n h k := by
  obtain ⟨X, s, M, I, F, c1, c2, c3, c4, c5⟩ := floor_parts2 ha hb (by omega)
  have hp : (0 : Int) < (one : Int) := Int.natCast_pos.2 one_pos
  have e1 : a / (one : Int) * (one : Int) ≤ a := Int.ediv_mul_le a (Int.ne_of_gt hp)
  have e2 : 0 ≤ a / (one : Int) ↔ 0 ≤ a := Int.ediv_nonneg_iff_of_pos hp
  have e3 : ((most : Int) + 1 ≤ a / (one : Int)) ↔ ((most : Int) + 1) * (one : Int) ≤ a := Int.le_ediv_iff_mul_le hp
  obtain ⟨X', d1, d2⟩ := toD_val ha
  rw [c1] at d1; cases d1
  have c5' : vS (flW x) = some (a / (one : Int) * (one : Int)) := c5
  obtain ⟨g, hg⟩ : ∃ g, g = a / (one : Int) := ⟨_, rfl⟩
  have c1' := c1
  refine ⟨X, F, flW x, decide (a < 0), decide ((most : Int) < g), g, c1, c3, c4, ⟨s, .inl ⟨M, I, c2⟩⟩, ?_, ?_, ?_, ?_, ?_, ?_, ?_⟩
  · rw [lss_val c5' vS_zero, decide_eq_decide, ← hg]
    rw [← hg] at e2
    constructor
    · intro q
      rcases Int.lt_or_le g 0 with l | l
      · omega
      · have := Int.mul_nonneg l (Int.le_of_lt hp); omega
    · intro q
      exact Int.mul_neg_of_neg_of_pos (by omega) hp
  · intro _
    rw [gtr_val c5' (most_val h2), decide_eq_decide, ← hg]
    exact ⟨fun q => Int.lt_of_mul_lt_mul_right q (Int.le_of_lt hp), fun q => Int.mul_lt_mul_of_pos_right q hp⟩
  · intro q1 q2
    have q1' : ¬ a < 0 := of_decide_eq_false q1
    have q2' : ¬ (most : Int) < g := of_decide_eq_false q2
    rw [← hg] at c5' e2
    exact toInt_whole c5' (by omega) (by omega)
  · rw [lss_val ha vS_zero]
  · intro _
    rw [geq_valD d2 (most_valD h2), decide_eq_decide, hg, Int.natCast_mul, Int.natCast_add]
    constructor
    · intro q; have := e3.2 (by simpa using q); omega
    · intro q; have := e3.1 (by omega); simpa using this
  · intro q1 q2
    have q1' : ¬ a < 0 := of_decide_eq_false q1
    have q2' : ¬ (most : Int) < g := of_decide_eq_false q2
    rw [hg]
    exact toInt_floor ha (by omega) (by omega)
  · intro q1 q2
    have q1' : ¬ a < 0 := of_decide_eq_false q1
    have q2' : ¬ (most : Int) < g := of_decide_eq_false q2
    rw [← hg] at e2
    omega

theorem lvd_big {x : Nat} {s : Bool} {m : Nat} {p : Int} (e : single.read x = .number s m p) (hA : 2 ^ (1074 + 120) < m * 2 ^ (p + 1074).toNat) {most : Nat} (h2 : most < 16777216) : ∃ X F r n h k, LvD x (most : Int) X F r n h k := by
  obtain ⟨X, M, I, c1, c2, c3, c4, _⟩ := toD e
  have g := read_single e
  have g1 := g.small
  have g3 := g.high
  have ha := vS_num e
  rw [vOf_mag] at ha
  obtain ⟨X', d1, d2⟩ := toD_val ha
  rw [c1] at d1; cases d1
  obtain ⟨J, hJ⟩ : ∃ J : Nat, J = 1074 := ⟨_, rfl⟩
  rw [← hJ] at hA
  have hj : J ≤ (p + 1074).toNat := by
    rcases Nat.lt_or_ge (p + 1074).toNat J with q | q
    · exfalso
      have b1 : 2 ^ (p + 1074).toNat ≤ 2 ^ J := Nat.pow_le_pow_right (by omega) (by omega)
      have b2 : m * 2 ^ (p + 1074).toNat ≤ 16777216 * 2 ^ J := Nat.mul_le_mul (by omega) b1
      have b3 : 2 ^ (J + 120) = 2 ^ 96 * 16777216 * 2 ^ J := by rw [Nat.add_comm, Nat.pow_add]
      have p1 : 0 < 2 ^ J := Nat.two_pow_pos _
      have b4 : 16777216 * 2 ^ J ≤ 2 ^ 96 * 16777216 * 2 ^ J := Nat.mul_le_mul_right _ (by decide)
      omega
    · exact q
  obtain ⟨j, hj2⟩ : ∃ j, j = (p + 1074).toNat := ⟨_, rfl⟩
  have hjl : j ≤ 1178 := by omega
  rw [← hj2] at hj hA c4 ha d2
  obtain ⟨A, hAe⟩ : ∃ A, A = m * 2 ^ j := ⟨_, rfl⟩
  have hdv : A = m * 2 ^ (j - J) * one := by rw [hAe, one_pow hJ, Nat.mul_assoc, ← Nat.pow_add, Nat.sub_add_cancel hj]
  have hi := integral_down (s := s) c3 c4
  rw [← hAe, hdv, Nat.mul_mod_left, Nat.mul_div_cancel _ one_pos] at hi
  simp only [ne_eq, not_true_eq_false, decide_false, Bool.and_false, Bool.toNat_false, Nat.add_zero] at hi
  have hw : double.write ((double.read X).integral .down) = wordAt double 0 s A := by
    rw [c2, hi]
    show double.nearest s _ 0 = _
    rw [nearest_val double s (-1074) 0 leastD _ (p := 0) (by omega), show ((0 : Int) - (-1074)).toNat = J by omega, ← one_pow hJ, ← hdv]
  obtain ⟨B, hB⟩ : ∃ B : Nat, B = 1203 := ⟨_, rfl⟩
  have hlt : A < 2 ^ B := by
    rw [hAe]
    calc m * 2 ^ j < 16777216 * 2 ^ j := Nat.mul_lt_mul_of_pos_right g1 (Nat.two_pow_pos _)
      _ = 2 ^ (24 + j) := by rw [Nat.pow_add]
      _ ≤ 2 ^ B := Nat.pow_le_pow_right (by omega) (by omega)
  obtain ⟨M2, I2, r1, r2, r3⟩ := read_val double s (-1074) 0 leastD A (rungD_lt hlt (by omega))
  have hrd : rd double 0 A = A := by rw [hAe]; exact rd_exact double 0 m j (by rw [fbD]; exact Nat.lt_of_lt_of_le g1 (by decide)) (by omega)
  rw [hrd] at r3
  have hlp : double.leastPlace = -1074 := by decide
  rw [hlp] at r2
  have hn := nearest_val single s (-1074) 925 leastS M2 (p := I2) r2
  rw [r3] at hn
  obtain ⟨M3, I3, t1, t2, t3⟩ := read_val single s (-1074) 925 leastS A (by rw [hAe]; exact rung_fit g1 hjl (by omega))
  have hb := back_sgl r1 ⟨M3, I3, by rw [hn]; exact t1⟩
  rw [hn] at hb
  -- the value of the word, or an infinity
  have hA0 : most * one < A ∧ (most + 1) * one < A := by
    have b3 : 2 ^ (J + 120) = 2 ^ 96 * 16777216 * one := by rw [Nat.add_comm, Nat.pow_add, one_pow hJ]
    have b4 : (most + 1) * one ≤ 2 ^ 96 * 16777216 * one := Nat.mul_le_mul_right _ (Nat.le_trans h2 (by decide))
    have b5 : most * one ≤ (most + 1) * one := Nat.mul_le_mul_right _ (by omega)
    rw [← hAe] at hA
    omega
  obtain ⟨hA1, hA2⟩ := hA0
  rw [← hAe] at ha d2
  have q : vS (wordAt single 925 s A) = some ((if s then -1 else 1) * ((A : Nat) : Int)) := by
    rw [vS_num t1, vOf_mag, show (I3 + 1074).toNat = (I3 - (-1074)).toNat by omega, t3]
    rw [hAe, rd_exact single 925 m j (by rw [fbS]; exact g1) (by omega)]
  have hmo : ((most : Int) * (one : Int)) = ((most * one : Nat) : Int) := by rw [Int.natCast_mul]
  have hAp : 0 < A := by omega
  refine ⟨X, _, _, s, !s, 0, c1, hw, hb, ⟨s, .inl ⟨M, I, c2⟩⟩, ?_, ?_, ?_, ?_, ?_, ?_, ?_⟩
  · rw [lss_val q vS_zero]
    cases s
    · simp
    · simp; omega
  · intro hs
    subst hs
    rw [gtr_val q (most_val h2), hmo]
    simp only [Bool.false_eq_true, if_false, Bool.not_false, decide_eq_true_eq]
    omega
  · intro a b; rw [a] at b; cases b
  · rw [lss_val ha vS_zero]
    cases s
    · simp
    · simp; omega
  · intro hs
    subst hs
    rw [geq_valD d2 (most_valD h2)]
    simp only [Bool.false_eq_true, if_false, Bool.not_false, decide_eq_true_eq]
    omega
  · intro a b; rw [a] at b; cases b
  · intro a b; rw [a] at b; cases b

theorem lvd {x : Nat} (hx : Sgl' x) {mo : Int} (h0 : 0 ≤ mo) (h2' : mo < 16777216) : ∃ X F r n h k, LvD x mo X F r n h k := by
  obtain ⟨most, rfl⟩ := Int.eq_ofNat_of_zero_le h0
  have h2 : most < 16777216 := by omega
  obtain ⟨s, ⟨m, p, e⟩ | e⟩ := hx
  · rcases Nat.lt_or_ge (2 ^ (1074 + 120)) (m * 2 ^ (p + 1074).toNat) with c | c
    · exact lvd_big e c h2
    · exact lvd_small (vS_num e) ⟨s, m, p, e, c⟩ h2
  · refine ⟨_, _, _, s, !s, 0, conv_infS e, ?_, back_inf s, ⟨s, .inr (read_infD s)⟩, ?_, ?_, ?_, ?_, ?_, ?_, ?_⟩
    · rw [read_infD]; rfl
    · rw [order_inf (read_inf s) vS_zero]; cases s <;> rfl
    · intro hs
      rw [order_inf (read_inf s) (most_val h2), hs]; rfl
    · intro a b; rw [a] at b; cases b
    · rw [order_inf e vS_zero]; cases s <;> rfl
    · intro hs
      rw [order_infD (read_infD s) (most_valD h2), hs]; rfl
    · intro a b; rw [a] at b; cases b
    · intro a b; rw [a] at b; cases b
end Go.Proofs.Ytkcehbnmcdppkaa.Fl

/- Two words of one value that is not nought are one word. -/
namespace Go.Proofs.Ytkcehbnmcdppkaa.Fl
open Ieee

theorem binS : single.binade = 8388608 := by decide
theorem infS : single.infRung = 2139095040 := by decide
theorem lpS : single.leastPlace = -149 := by decide

/-- The digits and the place of a rung. -/
def rgM (r : Nat) : Nat := if r < 8388608 then r else 8388608 + r % 8388608
def rgE (r : Nat) : Nat := if r < 8388608 then 925 else 924 + r / 8388608
theorem rgM_lt (r : Nat) : rgM r < 16777216 := by unfold rgM; split <;> omega
theorem rgE_le (r : Nat) : 925 ≤ rgE r := by unfold rgE; split <;> omega
theorem rgM_ge {r : Nat} (h : 925 < rgE r) : 8388608 ≤ rgM r := by
  unfold rgE at h
  unfold rgM
  split at h
  · omega
  · rename_i q; rw [if_neg q]; omega
theorem rg_inj {r t : Nat} (h : rgM r * 2 ^ rgE r = rgM t * 2 ^ rgE t) : r = t := by
  have key : ∀ r t, rgE r < rgE t → rgM r * 2 ^ rgE r = rgM t * 2 ^ rgE t → False := by
    intro r t hlt h
    have e : 2 ^ rgE t = 2 ^ (rgE t - rgE r - 1) * 2 * 2 ^ rgE r := by rw [← Nat.pow_succ, ← Nat.pow_add]; congr 1; omega
    have p := Nat.two_pow_pos (rgE r)
    have p2 := Nat.two_pow_pos (rgE t - rgE r - 1)
    rw [e, ← Nat.mul_assoc] at h
    have h2 := Nat.eq_of_mul_eq_mul_right p h
    have mt := rgM_ge (show 925 < rgE t by have := rgE_le r; omega)
    have mr := rgM_lt r
    have : 8388608 * 2 ≤ rgM t * (2 ^ (rgE t - rgE r - 1) * 2) := Nat.mul_le_mul mt (by omega)
    omega
  rcases Nat.lt_trichotomy (rgE r) (rgE t) with c | c | c
  · exact (key r t c h).elim
  · rw [c] at h
    have h2 := Nat.eq_of_mul_eq_mul_right (Nat.two_pow_pos _) h
    unfold rgM at h2
    unfold rgE at c
    split at h2 <;> split at h2 <;> simp_all <;> omega
  · exact (key t r c h.symm).elim

theorem read_rung {x : Nat} {a : Int} (hx : x < 4294967296) (h : vS x = some a) : ∃ (s : Bool) (r : Nat), x = s.toNat * 2147483648 + r ∧ a = (if s then -1 else 1) * ((rgM r * 2 ^ rgE r : Nat) : Int) := by
  obtain ⟨s, m, p, e, rfl⟩ := vS_some h
  refine ⟨x / 2147483648 % 2 == 1, x % 2147483648, ?_, ?_⟩
  · have : x / 2147483648 < 2 := by omega
    have q : x / 2147483648 = 0 ∨ x / 2147483648 = 1 := by omega
    rcases q with q | q <;> rw [q] <;> simp <;> omega
  · unfold Format.read at e
    simp only [swS, binS, infS, lpS] at e
    rw [vOf_mag]
    split at e
    · rename_i c
      cases e
      have h1 : rgM (x % 2147483648) = x % 2147483648 := by unfold rgM; rw [if_pos c]
      have h2 : rgE (x % 2147483648) = (-149 + 1074 : Int).toNat := by unfold rgE; rw [if_pos c]; decide
      rw [h1, h2]
    · rename_i c
      split at e
      · cases e
        unfold rgM rgE
        rw [if_neg c, if_neg c]
        congr 4
        omega
      · split at e <;> cases e

/-- One value that is not 0, one word. -/
theorem word_inj {x y : Nat} {a : Int} (hx : x < 4294967296) (hy : y < 4294967296) (vx : vS x = some a) (vy : vS y = some a) (ha : a ≠ 0) : x = y := by
  obtain ⟨s, r, rfl, e1⟩ := read_rung hx vx
  obtain ⟨t, q, rfl, e2⟩ := read_rung hy vy
  rw [e1] at e2
  generalize hR : rgM r * 2 ^ rgE r = R at *
  generalize hQ : rgM q * 2 ^ rgE q = Q at *
  have hst : s = t ∧ R = Q := by
    cases s <;> cases t <;> simp at e1 e2 ⊢ <;> omega
  obtain ⟨rfl, h⟩ := hst
  rw [rg_inj (hR.trans (h.trans hQ.symm))]
end Go.Proofs.Ytkcehbnmcdppkaa.Fl

/- Singles by their words; halves and shorts of them (pure). -/
namespace Go.Proofs.Ytkcehbnmcdppkaa.Fl
open Ieee

/-- The magnitude of a rung. -/
def rv (r : Nat) : Nat := rgM r * 2 ^ rgE r

theorem read_rungs (s : Bool) {r : Nat} (h : r < 2139095040) : single.read (s.toNat * 2147483648 + r) = .number s (rgM r) ((rgE r : Int) - 1074) := by
  have e1 : ((s.toNat * 2147483648 + r) / 2147483648 % 2 == 1) = s := by
    cases s with
    | false => simp; omega
    | true => simp; omega
  have e2 : (s.toNat * 2147483648 + r) % 2147483648 = r := by
    cases s with
    | false => simp; omega
    | true => simp; omega
  unfold Format.read
  simp only [swS, binS, infS, lpS, e1, e2]
  unfold rgM rgE
  split
  · rfl
  · congr 1
    omega
theorem vS_rung (s : Bool) {r : Nat} (h : r < 2139095040) : vS (s.toNat * 2147483648 + r) = some ((if s then -1 else 1) * ((rv r : Nat) : Int)) := by
  rw [vS_num (read_rungs s h), vOf_mag, show (((rgE r : Nat) : Int) - 1074 + 1074).toNat = rgE r by omega]
  rfl
theorem vS_pos {r : Nat} (h : r < 2139095040) : vS r = some ((rv r : Nat) : Int) := by
  have := vS_rung false h
  simpa using this

theorem rv_lt {r q : Nat} (h : r < q) : rv r < rv q := by
  unfold rv
  have p := Nat.two_pow_pos (rgE r)
  rcases Nat.lt_trichotomy (rgE r) (rgE q) with c | c | c
  · have mq := rgM_ge (show 925 < rgE q by have := rgE_le r; omega)
    have mr := rgM_lt r
    have e : 2 ^ rgE q = 2 ^ (rgE q - rgE r - 1) * 2 * 2 ^ rgE r := by rw [← Nat.pow_succ, ← Nat.pow_add]; congr 1; omega
    have p2 := Nat.two_pow_pos (rgE q - rgE r - 1)
    rw [e, ← Nat.mul_assoc]
    refine Nat.mul_lt_mul_of_pos_right ?_ p
    have : 8388608 * 2 ≤ rgM q * (2 ^ (rgE q - rgE r - 1) * 2) := Nat.mul_le_mul mq (by omega)
    omega
  · rw [c]
    refine Nat.mul_lt_mul_of_pos_right ?_ (Nat.two_pow_pos _)
    unfold rgM
    unfold rgE at c
    repeat' split at c
    all_goals (repeat' split)
    all_goals omega
  · exfalso
    unfold rgE at c
    repeat' split at c
    all_goals omega
theorem rv_le {r q : Nat} : rv r ≤ rv q ↔ r ≤ q := by
  constructor
  · intro h
    rcases Nat.lt_or_ge q r with c | c
    · have := rv_lt c; omega
    · exact c
  · intro h
    rcases Nat.lt_or_eq_of_le h with c | c
    · exact Nat.le_of_lt (rv_lt c)
    · rw [c]; exact Nat.le_refl _
theorem rv_lt' {r q : Nat} : rv r < rv q ↔ r < q := by
  have := @rv_le q r
  omega

/-- 2 ^ -24. -/
def u24 : Nat := 2 ^ (1050 : Int).toNat
theorem u24_pow {j : Nat} (h : j = 1050) : u24 = 2 ^ j := by unfold u24; exact congrArg (2 ^ ·) (by omega)
theorem u24_pos : 0 < u24 := Nat.two_pow_pos _
theorem one_u24 : one = 16777216 * u24 := by
  obtain ⟨j, hj⟩ : ∃ j : Nat, j = 1050 := ⟨_, rfl⟩
  rw [one_pow (j := 24 + j) (by omega), Nat.pow_add, u24_pow hj]
/-- The value of a half that is no infinity. -/
def hvM (r : Nat) : Nat := if r < 1024 then r * u24 else (1024 + r % 1024) * 2 ^ (1049 + r / 1024)
/-- The word of a half's magnitude. -/
def whW (r : Nat) : Nat := (Go.floatBits .mul .f32 (r * 8192) 2004877312).getD 0

theorem near_word (s : Bool) (m : Nat) (p : Int) : ∃ q, q ≤ single.infRung ∧ single.nearest s m p = single.word s q := by
  unfold Format.nearest
  split
  · exact ⟨0, by omega, rfl⟩
  · exact ⟨_, Nat.min_le_right _ _, rfl⟩

theorem mul_pos_word {x y : Nat} {a b : Nat} (ha : vS x = some (a : Int)) (hb : vS y = some (b : Int)) (hx : x < 2147483648) (hy : y < 2147483648) : ∃ r, Go.floatBits .mul .f32 x y = some r ∧ r ≤ 2139095040 := by
  obtain ⟨s, m, i, h1, -⟩ := vS_some ha
  obtain ⟨t, n, j, h2, -⟩ := vS_some hb
  have hs : ∀ {x : Nat} {s : Bool} {m : Nat} {i : Int}, x < 2147483648 → single.read x = .number s m i → s = false := by
    intro x s m i hx h
    unfold Format.read at h
    simp only [swS] at h
    have : (x / 2147483648 % 2 == 1) = false := by rw [Nat.div_eq_of_lt hx]; rfl
    rw [this] at h
    split at h
    · cases h; rfl
    · split at h
      · cases h; rfl
      · split at h <;> cases h
  obtain rfl := hs hx h1
  obtain rfl := hs hy h2
  obtain ⟨q, q1, q2⟩ := near_word (false ^^ false) (m * n) (i + j)
  refine ⟨q, ?_, by rw [infS] at q1; exact q1⟩
  show ((single.read x).product (single.read y)).map single.write = _
  rw [h1, h2]
  show some (single.nearest (false ^^ false) (m * n) (i + j)) = _
  rw [q2]; rfl

theorem vS_big {j : Nat} (hj : j = 1186) : vS 2004877312 = some ((2 ^ j : Nat) : Int) := by
  have h : single.read 2004877312 = .number false 8388608 89 := by decide
  rw [vS_num h, vOf_mag, show ((89 : Int) + 1074).toNat = j - 23 by omega]
  simp only [Bool.false_eq_true, if_false, Int.one_mul]
  congr 1
  have : (8388608 : Nat) = 2 ^ 23 := by decide
  rw [this, ← Nat.pow_add]
  congr 2
  omega

theorem whole_val {r : Nat} {e : Nat} (he : e = rgE (r * 8192)) (h : r < 31744) : rgM (r * 8192) * 2 ^ (e + 112) = hvM r := by
  rw [he]
  unfold hvM rgM rgE
  obtain ⟨K, hK⟩ : ∃ K : Nat, K = 1050 := ⟨_, rfl⟩
  by_cases c : r < 1024
  · rw [if_pos (show r * 8192 < 8388608 by omega), if_pos (show r * 8192 < 8388608 by omega), if_pos c, show 925 + 112 = K - 13 by omega, Nat.mul_assoc, u24_pow hK, show (8192 : Nat) = 2 ^ 13 by decide, ← Nat.pow_add]
    congr 2
    omega
  · rw [if_neg (show ¬ r * 8192 < 8388608 by omega), if_neg (show ¬ r * 8192 < 8388608 by omega), if_neg c]
    have e1 : 8388608 + r * 8192 % 8388608 = (1024 + r % 1024) * 2 ^ 13 := by omega
    have e2 : r * 8192 / 8388608 = r / 1024 := by omega
    rw [e1, e2, Nat.mul_assoc, ← Nat.pow_add]
    congr 2
    omega
theorem whole_word {r : Nat} (h : r < 31744) : Go.floatBits .mul .f32 (r * 8192) 2004877312 = some (whW r) ∧ whW r < 2139095040 ∧ vS (whW r) = some ((hvM r : Nat) : Int) := by
  obtain ⟨J, hJ⟩ : ∃ J : Nat, J = 1074 := ⟨_, rfl⟩
  have h1 : vS (r * 8192) = some ((rv (r * 8192) : Nat) : Int) := vS_pos (by omega)
  obtain ⟨U, hU⟩ : ∃ U : Nat, U = 1186 := ⟨_, rfl⟩
  have h2 := vS_big hU
  obtain ⟨q, q1, q2⟩ := mul_pos_word h1 h2 (by omega) (by omega)
  have hw : whW r = q := by unfold whW; rw [q1]; rfl
  rw [hw]
  obtain ⟨e, he⟩ : ∃ e, e = rgE (r * 8192) := ⟨_, rfl⟩
  have he2 : e ≤ 955 := by
    rw [he]; unfold rgE
    split <;> omega
  have hm := rgM_lt (r * 8192)
  have hc : ((rv (r * 8192) : Nat) : Int) * ((2 ^ U : Nat) : Int) = ((rgM (r * 8192) * 2 ^ (e + 112) : Nat) : Int) * (one : Int) := by
    unfold rv
    rw [← he, one_pow hJ, ← Int.natCast_mul, ← Int.natCast_mul]
    refine congrArg (fun z : Nat => (z : Int)) ?_
    rw [Nat.mul_assoc, Nat.mul_assoc, ← Nat.pow_add, ← Nat.pow_add, show e + U = e + 112 + J by omega]
  obtain ⟨B, hB⟩ : ∃ B : Nat, B = 1100 := ⟨_, rfl⟩
  have hlt : rgM (r * 8192) * 2 ^ (e + 112) < 2 ^ B := by
    calc rgM (r * 8192) * 2 ^ (e + 112) < 16777216 * 2 ^ (e + 112) := Nat.mul_lt_mul_of_pos_right hm (Nat.two_pow_pos _)
      _ = 2 ^ (24 + (e + 112)) := (Nat.pow_add 2 24 (e + 112)).symm
      _ ≤ 2 ^ B := Nat.pow_le_pow_right (by omega) (by omega)
  have hv := vS_mul (B := B) q1 h1 h2 hc (by rw [Int.natAbs_natCast]; exact hlt) (by omega)
  rw [rdS_exact ((rgM (r * 8192) : Nat) : Int) (e + 112) (by rw [Int.natAbs_natCast]; exact hm) (by have := rgE_le (r * 8192); omega) (by rw [Int.natCast_mul])] at hv
  have hval := whole_val he h
  rw [hval] at hv
  refine ⟨q1, ?_, hv⟩
  rcases Nat.lt_or_eq_of_le q2 with c | c
  · exact c
  · exfalso
    subst c
    have : single.read 2139095040 = .infinity false := by decide
    unfold vS at hv
    rw [this] at hv
    cases hv

/-- The word of a half that is not small. -/
theorem whW_big {r : Nat} (h : r < 31744) (h0 : 1024 ≤ r) : whW r = r * 8192 + 939524096 := by
  obtain ⟨-, h2, h3⟩ := whole_word h
  have hv : vS (r * 8192 + 939524096) = some ((hvM r : Nat) : Int) := by
    rw [vS_pos (by omega)]
    unfold rv rgM rgE hvM
    rw [if_neg (by omega), if_neg (by omega), if_neg (by omega)]
    have e1 : 8388608 + (r * 8192 + 939524096) % 8388608 = (1024 + r % 1024) * 2 ^ 13 := by omega
    have e2 : (r * 8192 + 939524096) / 8388608 = r / 1024 + 112 := by omega
    rw [e1, e2, Nat.mul_assoc, ← Nat.pow_add, show 13 + (924 + (r / 1024 + 112)) = 1049 + r / 1024 by omega]
  refine word_inj (by omega) (by omega) h3 hv ?_
  unfold hvM
  rw [if_neg (by omega)]
  have : 0 < (1024 + r % 1024) * 2 ^ (1049 + r / 1024) := Nat.mul_pos (by omega) (Nat.two_pow_pos _)
  omega

theorem rv_m14 : rv 947912704 = 1024 * u24 := by
  obtain ⟨j, hj⟩ : ∃ j : Nat, j = 1037 := ⟨_, rfl⟩
  unfold rv
  rw [show rgM 947912704 = 2 ^ 23 by decide, show rgE 947912704 = j by rw [hj]; decide, ← Nat.pow_add, u24_pow (j := 13 + j) (by omega), Nat.pow_add, Nat.pow_add, ← Nat.mul_assoc]

/-- The nearest half of a magnitude below 2 ^ -14, as the program has it. -/
theorem small_sum {r : Nat} (h : r < 947912704) : Go.floatBits .add .f32 r 1056964608 = some (1056964608 + rnq (rv r) u24) ∧ rnq (rv r) u24 ≤ 1024 := by
  have h1 := read_rungs false (r := r) (by omega)
  simp only [Bool.toNat_false, Nat.zero_mul, Nat.zero_add] at h1
  have h2 : single.read 1056964608 = .number false 8388608 (-24) := by decide
  obtain ⟨K, hK⟩ : ∃ K : Nat, K = 1050 := ⟨_, rfl⟩
  have hU := u24_pow hK
  have p1 := u24_pos
  obtain ⟨p, q, q1, q2, q3⟩ := sum_val (s := false) (t := false) (m := rgM r) (n := 8388608) (i := (rgE r : Int) - 1074) (j := -24) (by have := rgE_le r; omega) (by omega)
  have hrv : rv r < 1024 * u24 := by rw [← rv_m14]; exact rv_lt h
  have hv : vOf false (rgM r) ((rgE r : Int) - 1074) + vOf false 8388608 (-24) = ((8388608 * u24 + rv r : Nat) : Int) := by
    rw [vOf_mag, vOf_mag, show (((rgE r : Nat) : Int) - 1074 + 1074).toNat = rgE r by omega, show ((-24 : Int) + 1074).toNat = K by omega, ← hU]
    unfold rv
    simp only [Bool.false_eq_true, if_false, Int.one_mul]
    rw [← Int.natCast_add, Nat.add_comm]
  rw [hv] at q1 q3
  rw [Int.natAbs_natCast] at q3
  have e23 : 8388608 * u24 = 2 ^ (23 + K) := by rw [hU, Nat.pow_add]
  have hlog : (8388608 * u24 + rv r).log2 = 23 + K := by
    rw [Nat.log2_eq_iff (by omega)]
    refine ⟨by omega, ?_⟩
    rw [Nat.pow_succ, ← e23]
    omega
  have hrq : rnq (8388608 * u24 + rv r) u24 = 8388608 + rnq (rv r) u24 := by
    unfold rnq
    generalize u24 = P at *
    have d1 : (8388608 * P + rv r) / P = 8388608 + rv r / P := by rw [Nat.mul_comm, Nat.mul_add_div p1]
    have d2 : (8388608 * P + rv r) % P = rv r % P := by rw [Nat.mul_comm, Nat.mul_add_mod]
    rw [d1, d2]
    have d3 : (8388608 + rv r / P) % 2 = rv r / P % 2 := by omega
    rw [d3]
    omega
  have hsmall : rnq (rv r) u24 ≤ 1024 := by
    have := rnq_mono p1 (Nat.le_of_lt hrv)
    rwa [rnq_mul _ _ p1] at this
  have hrung : rungOf single 925 (8388608 * u24 + rv r) = 1056964608 + rnq (rv r) u24 := by
    have hlast : lastOf single 925 (8388608 * u24 + rv r) = K := by unfold lastOf; rw [hlog, fbS]; omega
    unfold rungOf
    rw [hlast, ← hU, hrq, binS]
    omega
  refine ⟨?_, hsmall⟩
  show ((single.read r).sum (single.read 1056964608)).map single.write = _
  rw [h1, h2, q1]
  show some (single.nearest _ p q) = _
  rw [nearest_val single _ (-1074) 925 leastS p (p := q) q2, show (q - (-1074)).toNat = (q + 1074).toNat by omega, q3]
  unfold wordAt
  rw [hrung, infS, Nat.min_eq_left (by omega)]
  have hp : ¬ (((8388608 * u24 + rv r : Nat) : Int) = 0) := by omega
  have hp2 : ¬ (((8388608 * u24 + rv r : Nat) : Int) < 0) := by omega
  rw [if_neg hp]
  simp only [hp2, decide_false]
  rfl
end Go.Proofs.Ytkcehbnmcdppkaa.Fl

/- Contracts: levels of heights, both sides. -/
namespace Go.Proofs.Ytkcehbnmcdppkaa
open Go.RowKit Fl
set_option linter.unusedVariables false

/-- mo + 1 is 2 to the bits. -/
def Pw (bi mo : Int) : Prop := 1 ≤ bi ∧ bi ≤ 24 ∧ mo + 1 = 2 ^ bi.toNat
theorem pw_of {bi : Int} (h1 : 1 ≤ bi) (h2 : bi ≤ 24) : ∃ mo, Pw bi mo := ⟨2 ^ bi.toNat - 1, h1, h2, by omega⟩
theorem Pw.bd {bi mo : Int} (h : Pw bi mo) : 1 ≤ mo ∧ mo < 16777216 := by
  obtain ⟨h1, h2, h3⟩ := h
  have : bi = 1 ∨ bi = 2 ∨ bi = 3 ∨ bi = 4 ∨ bi = 5 ∨ bi = 6 ∨ bi = 7 ∨ bi = 8 ∨ bi = 9 ∨ bi = 10 ∨ bi = 11 ∨ bi = 12 ∨ bi = 13 ∨ bi = 14 ∨ bi = 15 ∨ bi = 16 ∨ bi = 17 ∨ bi = 18 ∨ bi = 19 ∨ bi = 20 ∨ bi = 21 ∨ bi = 22 ∨ bi = 23 ∨ bi = 24 := by omega
  rcases this with rfl | rfl | rfl | rfl | rfl | rfl | rfl | rfl | rfl | rfl | rfl | rfl | rfl | rfl | rfl | rfl | rfl | rfl | rfl | rfl | rfl | rfl | rfl | rfl <;> simp at h3 <;> omega
theorem run_shl_one {bi mo : Int} (h : Pw bi mo) (w : World) : (Op.shift .shl .i64 1 .i64 bi).run Try.prog w = .ok (.int .i64 (mo + 1)) w := by
  obtain ⟨h1, h2, h3⟩ := h
  rw [h3]
  clear h3
  have : bi = 1 ∨ bi = 2 ∨ bi = 3 ∨ bi = 4 ∨ bi = 5 ∨ bi = 6 ∨ bi = 7 ∨ bi = 8 ∨ bi = 9 ∨ bi = 10 ∨ bi = 11 ∨ bi = 12 ∨ bi = 13 ∨ bi = 14 ∨ bi = 15 ∨ bi = 16 ∨ bi = 17 ∨ bi = 18 ∨ bi = 19 ∨ bi = 20 ∨ bi = 21 ∨ bi = 22 ∨ bi = 23 ∨ bi = 24 := by omega
  clear h1 h2
  rcases this with rfl | rfl | rfl | rfl | rfl | rfl | rfl | rfl | rfl | rfl | rfl | rfl | rfl | rfl | rfl | rfl | rfl | rfl | rfl | rfl | rfl | rfl | rfl | rfl <;> rfl

theorem greatest_any {bi mo : Int} (h : Pw bi mo) (w : World) : Calls Try.prog 78 #[.int .i64 bi] w fun e w' => e = .returned (.int .i64 mo) ∧ w = w' := by
  have b := h.bd
  have s1 := fun W => run_shl_one h W
  clear h
  go_enter Try.func78, Try.ntmps78
  go_wp2
  go_ret
  exact ⟨by go_num, rfl⟩

theorem toIntegral_sgl (X : Nat) (h : ∃ s, (∃ M I, Ieee.double.read X = .number s M I) ∨ Ieee.double.read X = .infinity s) :
    Extern.MathFloor.toIntegral "math.archFloor" .down #[.float .f64 X] = pure (.float .f64 (Ieee.double.write ((Ieee.double.read X).integral .down))) := by
  obtain ⟨s, ⟨M, I, h⟩ | h⟩ := h
  · exact toIntegral_num X _ rfl ⟨s, M, I, h⟩
  · have h' : FloatKind.f64.decode X = .infinity s := h
    conv => lhs; whnf
    rw [h', h]
    rfl
theorem archFloor_sgl (X : Nat) (h : ∃ s, (∃ M I, Ieee.double.read X = .number s M I) ∨ Ieee.double.read X = .infinity s) (w : World) :
    (callFunc 186 #[.float .f64 X]).run Try.prog w = .ok (.value (.float .f64 (Ieee.double.write ((Ieee.double.read X).integral .down)))) w := by
  rw [run_callFunc_extern Try.func186 (by kernel_rfl) (by kernel_rfl) (by kernel_rfl) (e := Extern.MathFloor.toIntegral "math.archFloor" .down) (by kernel_rfl), toIntegral_sgl X h]
  rfl
set_option maxHeartbeats 400000 in
set_option maxRecDepth 100000 in
theorem mathFloor_sgl (X F : Nat) (h : ∃ s, (∃ M I, Ieee.double.read X = .number s M I) ∨ Ieee.double.read X = .infinity s) (hF : Ieee.double.write ((Ieee.double.read X).integral .down) = F) (w : World) :
    Calls Try.prog 171 #[.float .f64 X] w fun e w' => e = .returned (.float .f64 F) ∧ w = w' := by
  have a1 := archFloor_sgl X h w
  rw [hF] at a1
  clear h hF
  go_enter Try.func171, Try.ntmps171
  go_wp2
  go_ret
  exact ⟨rfl, rfl⟩
set_option maxHeartbeats 400000 in
theorem floor_sgl {x X F r : Nat} (c1 : floatToFloatBits .f32 x .f64 = some X) (c2 : Ieee.double.write ((Ieee.double.read X).integral .down) = F) (c3 : floatToFloatBits .f64 F .f32 = some r)
    (c4 : ∃ s, (∃ M I, Ieee.double.read X = .number s M I) ∨ Ieee.double.read X = .infinity s) (w : World) :
    Calls Try.prog 137 #[.float .f32 x] w fun e w' => e = .returned (.float .f32 r) ∧ w = w' := by
  have d1 := fun (W : World) => run_convert_float_float (P := Try.prog) W 22 32 .f32 .f64 x X (by kernel_rfl) Try.underlying32 c1
  have d2 := fun (W : World) => run_convert_float_float (P := Try.prog) W 32 22 .f64 .f32 F r (by kernel_rfl) Try.underlying22 c3
  have MF := Lib.hid (fun w => mathFloor_sgl X F c4 c2 w)
  clear c1 c2 c3 c4
  go_enter Try.func137, Try.ntmps137
  go_wp2_with (go_at_call 171; refine (MF.out _).mono ?_; rintro e w' ⟨rfl, rfl⟩)
  go_ret
  exact ⟨rfl, rfl⟩

/-- A level, and whether it was within the bounds. -/
def lvK (n h : Bool) (mo k : Int) : Int := if n then 0 else if h then mo else k
def lvB (n h : Bool) : Bool := !n && !h

set_option maxHeartbeats 400000 in
theorem clipped_any {x X F r : Nat} {mo k : Int} {n h : Bool} (L : LvD x mo X F r n h k) (w : World) :
    Calls Try.prog 77 #[.float .f32 x, .int .i64 mo] w fun e w' => e = .returned (.tuple #[.int .i64 (lvK n h mo k), .bool (lvB n h)]) ∧ w = w' := by
  have FL := Lib.hid (fun w => floor_sgl L.c1 L.c2 L.c3 L.c4 w)
  have p1 := L.p1
  have p2 := L.p2
  have p3 := L.p3
  clear L
  rw [← f32f] at p1 p2
  cases n
  · have p2' := p2 rfl
    have p3' := p3 rfl
    clear p2 p3
    cases h
    · have d1 := fun (W : World) => run_convert_float_int (P := Try.prog) W 22 3 .f32 .i64 r k (by kernel_rfl) Try.underlying3 (p3' rfl)
      clear p3'
      go_enter Try.func77, Try.ntmps77
      go_wp2_with (go_at_call 137; refine (FL.out _).mono ?_; rintro e w' ⟨rfl, rfl⟩)
      go_ret2
      exact ⟨rfl, rfl⟩
    · clear p3'
      go_enter Try.func77, Try.ntmps77
      go_wp2_with (go_at_call 137; refine (FL.out _).mono ?_; rintro e w' ⟨rfl, rfl⟩)
      go_ret2
      exact ⟨rfl, rfl⟩
  · clear p2 p3
    go_enter Try.func77, Try.ntmps77
    go_wp2_with (go_at_call 137; refine (FL.out _).mono ?_; rintro e w' ⟨rfl, rfl⟩)
    go_ret2
    exact ⟨rfl, rfl⟩
end Go.Proofs.Ytkcehbnmcdppkaa

/- Contracts: Index; byPlace and Make, whatever function they are given. -/
namespace Go.Proofs.Ytkcehbnmcdppkaa
open Go.RowKit Fl
set_option linter.unusedVariables false

theorem enters_place1 : Enters 173 := by intro args W; simp [callFunc, Try.func173, Try.f173]

set_option maxHeartbeats 1000000 in
theorem index_any (X Y : Int) (W H : Nat) (i : Nat) (x y : Int) (w : World) (hX1 : -16777216 ≤ X) (hX2 : X ≤ 16777216) (hY1 : -16777216 ≤ Y) (hY2 : Y ≤ 16777216) (hW1 : 1 ≤ W) (hW2 : W ≤ 512) (hH2 : H ≤ 512)
    (h1 : X ≤ x) (h2 : x < X + W) (h3 : Y ≤ y) (h4 : y < Y + H) (hi : (i : Int) = (y - Y) * W + (x - X)) (hn : i ≤ 65536) :
    Calls Try.prog 112 #[reg X Y W H, .int .i64 x, .int .i64 y] w fun e w' => e = .returned (.int .i64 (i : Int)) ∧ w.alloc (regObj X Y W H) = w' := by
  have hq : 0 ≤ (y - Y) * W := Int.mul_nonneg (by omega) (by omega)
  have e2 : wrap64 ((y - Y) * W) = (y - Y) * W := IntWalk.wrap64_in _ ⟨by omega, by omega⟩
  have e3 : wrap64 ((y - Y) * W + x) = (y - Y) * W + x := IntWalk.wrap64_in _ ⟨by omega, by omega⟩
  have e4 : wrap64 ((y - Y) * W + x - X) = (i : Int) := by rw [IntWalk.wrap64_in _ ⟨by omega, by omega⟩]; omega
  clear hi hq
  go_enter Try.func112, Try.ntmps112
  go_wp2
  go_ret
  exact ⟨ret_int e4, rfl⟩

/-- A function value in a box. -/
abbrev fnObj (g : Nat) (caps : Array Value) : Obj := .cells #[.func (.func g) #[] caps] 123

set_option maxHeartbeats 2000000 in
theorem place1_any (X Y : Int) (W H n : Nat) (g : Nat) (caps : Array Value) (f : Nat → Nat) (p q : Nat) (w : World) (hcall : Enters g) (hcl : Clos2 g caps X Y W H f w)
    (hp : w.heap[p]? = some (fnObj g caps)) (hq : w.heap[q]? = some (regObj X Y W H)) (hX1 : -16777216 ≤ X) (hX2 : X ≤ 16777216) (hY1 : -16777216 ≤ Y) (hY2 : Y ≤ 16777216) (hW1 : 1 ≤ W) (hW2 : W ≤ 512) (hH2 : H ≤ 512) (hn : n = H * W) :
    Clos1 173 #[.pointer (some ⟨p, 0, none⟩), .pointer (some ⟨q, 0, none⟩)] n f w := by
  intro i w2 hi hb
  have hdm := Nat.div_add_mod i W
  have hml := Nat.mod_lt i (show 0 < W by omega)
  have hdl : i / W < H := Nat.div_lt_of_lt_mul (by rw [Nat.mul_comm]; omega)
  obtain ⟨a, ha⟩ : ∃ a : Nat, a = i % W := ⟨_, rfl⟩
  obtain ⟨b, hb'⟩ : ∃ b : Nat, b = i / W := ⟨_, rfl⟩
  rw [← ha, ← hb'] at hdm
  rw [← ha] at hml
  rw [← hb'] at hdl
  have ei : (i : Int) = ((Y + b) - Y) * W + ((X + a) - X) := by
    rw [show Y + (b : Int) - Y = b by omega, show X + (a : Int) - X = a by omega, ← hdm]; simp [Int.mul_comm]
  have CC := Lib.hid (fun W' (hB : Below w2.heap.size w2 W') => hcl (X + a) (Y + b) i W' (by omega) (by omega) (by omega) (by omega) ei (hb.trans (hB.mono hb.size)))
  have P := blkStay hp hb
  have Q := blkStay hq hb
  have HP := Lib.hid P
  have HQ := Lib.hid Q
  obtain ⟨cP, fP, zP⟩ := blkC P
  obtain ⟨cQ, fQ, zQ⟩ := blkC Q
  unfold Enters at hcall
  have t1 : (i : Int).tmod (W : Int) = (a : Int) := by rw [ha]; rw [Int.tmod_eq_emod_of_nonneg (by omega)]; simp
  have t2 : (i : Int).tdiv (W : Int) = (b : Int) := by rw [hb']; rw [Int.tdiv_eq_ediv_of_nonneg (by omega)]; simp
  have t3 : (i : Int) % (W : Int) = (a : Int) := by rw [ha]; simp
  have t4 : (i : Int) / (W : Int) = (b : Int) := by rw [hb']; simp
  have u1 : IntKind.i64.wrap (X + (a : Int)) = X + a := IntWalk.i64_in _ (by omega)
  have u2 : IntKind.i64.wrap (Y + (b : Int)) = Y + b := IntWalk.i64_in _ (by omega)
  have u3 : IntKind.i64.wrap (b : Int) = b := IntWalk.i64_in _ (by omega)
  have w0 : ¬ ((W : Int) = 0) := by omega
  have w0' : ¬ (W = 0) := by omega
  have t5 : ((i : Int) % (W : Int)) = (a : Int) := t3
  have t6 : i % W = a := ha.symm
  have t7 : i / W = b := hb'.symm
  have w1 : (1 : Int) ≤ (W : Int) := by omega
  have i0 : (0 : Int) ≤ (i : Int) := by omega
  have b1 : (a : Int) < 512 := by omega
  have b2 : (b : Int) < 512 := by omega
  clear hp hq P Q hb ei hdm hml hdl ha hb' hcl
  go_enter Try.func173, Try.ntmps173
  go_wp2
  go_region_held3 (fun w' => (∀ o, w'.cell? ⟨q, o, none⟩ = #[.int .i64 X, .int .i64 Y, .int .i64 W, .int .i64 H][o]?) ∧ (∀ o, w'.cell? ⟨p, o, none⟩ = #[.func (.func g) #[] caps][o]?) ∧ Below w2.heap.size w2 w') (first | exact ⟨(blkC (blkStay HQ.out hb9)).1, (blkC (blkStay HP.out hb9)).1, hb9⟩ | exact ⟨(blkC (blkStay HQ.out (by repeat (first | exact Below.refl _ _ | refine Below.alloc ?_ (by first | omega | (simp; done) | (simp; omega)) _ | refine Below.setCell ?_ (by first | omega | (simp; done) | (simp; omega)) _ | refine Below.drew ?_)))).1, (blkC (blkStay HP.out (by repeat (first | exact Below.refl _ _ | refine Below.alloc ?_ (by first | omega | (simp; done) | (simp; omega)) _ | refine Below.setCell ?_ (by first | omega | (simp; done) | (simp; omega)) _ | refine Below.drew ?_)))).1, (by repeat (first | exact Below.refl _ _ | refine Below.alloc ?_ (by first | omega | (simp; done) | (simp; omega)) _ | refine Below.setCell ?_ (by first | omega | (simp; done) | (simp; omega)) _ | refine Below.drew ?_))⟩) (first | (go_simp; (with_reducible refine Calls.mono (CC.out _ ?_) ?_); exact (by repeat (first | exact Below.refl _ _ | refine Below.alloc ?_ (by first | omega | (simp; done) | (simp; omega)) _ | refine Below.setCell ?_ (by first | omega | (simp; done) | (simp; omega)) _ | refine Below.drew ?_)); rintro e w' ⟨rfl, hb8⟩; have hb9 : Below w2.heap.size w2 w' := ⟨hb8.os, hb8.tape, hb8.output, hb8.size, hb8.block⟩; clear hb8))
  rename_i hHeld
  go_wp2
  go_ret
  exact ⟨rfl, hHeld.2.2⟩

set_option maxHeartbeats 2000000 in
theorem byPlace_any (X Y : Int) (W H n : Nat) (g : Nat) (caps : Array Value) (f : Nat → Nat) (w : World) (hcall : Enters g) (hcl : Clos2 g caps X Y W H f w)
    (hX1 : -16777216 ≤ X) (hX2 : X ≤ 16777216) (hY1 : -16777216 ≤ Y) (hY2 : Y ≤ 16777216) (hW1 : 1 ≤ W) (hW2 : W ≤ 512) (hH1 : 1 ≤ H) (hH2 : H ≤ 512) (hn : n = H * W) (hn2 : n ≤ 65536) :
    Calls Try.prog 144 #[reg X Y W H, .func (.func g) #[] caps] w (MadePost w X Y W H n f) := by
  have en : (n : Int) = (W : Int) * (H : Int) := by rw [hn, Nat.mul_comm]; simp
  have n1 : 1 ≤ n := by rw [hn]; exact Nat.mul_pos hH1 hW1
  have BC := Lib.hid (byCell_any X Y W H n 173 #[.pointer (some ⟨w.heap.size + 1, 0, none⟩), .pointer (some ⟨w.heap.size, 0, none⟩)] f (((w.alloc (regObj X Y W H)).alloc (fnObj g caps)).alloc (fldO 0 0 0 0 (.slice none 0 0))) enters_place1
    (place1_any X Y W H n g caps f (w.heap.size + 1) w.heap.size _ hcall (fun x y i W' h1 h2 h3 h4 h5 hb => hcl x y i W' h1 h2 h3 h4 h5 (Below.trans (by repeat (first | exact Below.refl _ _ | refine Below.alloc ?_ (by first | omega | (simp; done) | (simp; omega)) _ | refine Below.setCell ?_ (by first | omega | (simp; done) | (simp; omega)) _ | refine Below.drew ?_)) (hb.mono (by simp; omega)))) (by ((simp only [heap_alloc_get, heap_size_alloc, if_true]) <;> ((repeat' split) <;> first | rfl | omega))) (by ((simp only [heap_alloc_get, heap_size_alloc, if_true]) <;> ((repeat' split) <;> first | rfl | omega))) hX1 hX2 hY1 hY2 hW1 hW2 hH2 hn) en n1 hn2)
  clear hcl hcall hn en
  go_enter Try.func144, Try.ntmps144
  go_wp2_with fail
  refine BC.out.mono ?_
  intro e w4 hmade
  rcases hmade with ⟨hall, b', cap', rfl, hb', hlt', hrow, hbel⟩ | ⟨hall, rfl, hbel⟩
  · have hS := Lib.hid (blkStay (b := w.heap.size + 1 + 1) (o := fldO 0 0 0 0 (.slice none 0 0)) (by ((simp only [heap_alloc_get, heap_size_alloc, if_true]) <;> ((repeat' split) <;> first | rfl | omega))) hbel)
    have hB : Below w.heap.size w w4 := Below.trans (by repeat (first | exact Below.refl _ _ | refine Below.alloc ?_ (by first | omega | (simp; done) | (simp; omega)) _ | refine Below.setCell ?_ (by first | omega | (simp; done) | (simp; omega)) _ | refine Below.drew ?_)) (Below.mono hbel (by simp; omega))
    obtain ⟨cS, fS, zS⟩ := blkC hS.out
    have HB := Lib.hid hb'
    clear hb'
    go_wp2
    refine bodyPost_ret (v := .tuple #[fldV X Y W H (.slice (some ⟨b', 0, none⟩) n cap'), .int .i64 0]) (by simp [results, Try.results144, go_sem, cS]) rfl ?_
    have hb' := HB.out
    simp only [heap_size_alloc] at hb'
    exact .inl ⟨hall, b', cap', rfl, by omega, by rw [set5_size]; exact hlt', flAt_congr hrow (set5_heap w4 _ _ _ _ _ _ _ (by omega)), set5_below hB _ _ _ _ _ _ (by omega)⟩
  · have hS := Lib.hid (blkStay (b := w.heap.size + 1 + 1) (o := fldO 0 0 0 0 (.slice none 0 0)) (by ((simp only [heap_alloc_get, heap_size_alloc, if_true]) <;> ((repeat' split) <;> first | rfl | omega))) hbel)
    have hB : Below w.heap.size w w4 := Below.trans (by repeat (first | exact Below.refl _ _ | refine Below.alloc ?_ (by first | omega | (simp; done) | (simp; omega)) _ | refine Below.setCell ?_ (by first | omega | (simp; done) | (simp; omega)) _ | refine Below.drew ?_)) (Below.mono hbel (by simp; omega))
    obtain ⟨cS, fS, zS⟩ := blkC hS.out
    go_wp2
    refine bodyPost_ret (v := .tuple #[fldV 0 0 0 0 (.slice none 0 0), .int .i64 3]) (by simp [results, Try.results144, go_sem, cS]) rfl ?_
    exact .inr ⟨hall, rfl, set5_below hB _ _ _ _ _ _ (by omega)⟩

/-- What Make answers. -/
def MakePost (w : World) (X Y W H : Int) (n : Nat) (f : Nat → Nat) (e : Ending) (w' : World) : Prop :=
  (checkR X Y W H ≠ 0 ∧ e = .returned (.tuple #[fldV 0 0 0 0 (.slice none 0 0), .int .i64 (checkR X Y W H)]) ∧ Below w.heap.size w w') ∨ (checkR X Y W H = 0 ∧ MadePost w X Y W H n f e w')

set_option maxHeartbeats 2000000 in
theorem make_ok (X Y : Int) (W H n : Nat) (g : Nat) (caps : Array Value) (f : Nat → Nat) (w : World) (hcall : Enters g) (hcl : Clos2 g caps X Y W H f w) (h0 : checkR X Y W H = 0) (hn : n = H * W) :
    Calls Try.prog 109 #[reg X Y W H, .func (.func g) #[] caps] w (MadePost w X Y W H n f) := by
  obtain ⟨b1, b2, b3, b4, b5, b6, b7, b8, b9⟩ := checkR_zero h0
  have hn2 : n ≤ 65536 := by
    have : ((W : Int) * (H : Int)) = (n : Int) := by rw [hn, Nat.mul_comm]; simp
    omega
  have RC := Lib.hid (fun w => checkRegion_any X Y W H w)
  rw [h0] at RC
  have BP := Lib.hid (fun W' (hb : Below w.heap.size w W') => byPlace_any X Y W H n g caps f W' hcall (fun x y i W'' h1 h2 h3 h4 h5 hb' => hcl x y i W'' h1 h2 h3 h4 h5 (hb.trans (hb'.mono hb.size))) (by omega) (by omega) (by omega) (by omega) (by omega) (by omega) (by omega) (by omega) hn hn2)
  clear hcl hcall h0 b1 b2 b3 b4 b5 b6 b7 b8 b9 hn hn2
  go_enter Try.func109, Try.ntmps109
  go_wp2_with (first | (go_at_call 84; refine (RC.out _).mono ?_; rintro e w' ⟨rfl, rfl⟩))
  refine (BP.out _ (by repeat (first | exact Below.refl _ _ | refine Below.alloc ?_ (by first | omega | (simp; done) | (simp; omega)) _ | refine Below.setCell ?_ (by first | omega | (simp; done) | (simp; omega)) _ | refine Below.drew ?_))).mono ?_
  intro e w4 hmade
  rcases hmade with ⟨hall, b', cap', rfl, hb', hlt', hrow, hbel⟩ | ⟨hall, rfl, hbel⟩
  · have hS := Lib.hid (blkStay (b := w.heap.size + 1) (o := fldO 0 0 0 0 (.slice none 0 0)) (by ((simp only [heap_alloc_get, heap_size_alloc, if_true]) <;> ((repeat' split) <;> first | rfl | omega))) hbel)
    have hB : Below w.heap.size w w4 := Below.trans (by repeat (first | exact Below.refl _ _ | refine Below.alloc ?_ (by first | omega | (simp; done) | (simp; omega)) _ | refine Below.setCell ?_ (by first | omega | (simp; done) | (simp; omega)) _ | refine Below.drew ?_)) (Below.mono hbel (by simp; omega))
    obtain ⟨cS, fS, zS⟩ := blkC hS.out
    have HB := Lib.hid hb'
    clear hb'
    go_wp2
    refine bodyPost_ret (v := .tuple #[fldV X Y W H (.slice (some ⟨b', 0, none⟩) n cap'), .int .i64 0]) (by simp [results, Try.results109, go_sem, cS]) rfl ?_
    have hb' := HB.out
    simp only [heap_size_alloc] at hb'
    exact .inl ⟨hall, b', cap', rfl, by omega, by rw [set5_size]; exact hlt', flAt_congr hrow (set5_heap w4 _ _ _ _ _ _ _ (by omega)), set5_below hB _ _ _ _ _ _ (by omega)⟩
  · have hS := Lib.hid (blkStay (b := w.heap.size + 1) (o := fldO 0 0 0 0 (.slice none 0 0)) (by ((simp only [heap_alloc_get, heap_size_alloc, if_true]) <;> ((repeat' split) <;> first | rfl | omega))) hbel)
    have hB : Below w.heap.size w w4 := Below.trans (by repeat (first | exact Below.refl _ _ | refine Below.alloc ?_ (by first | omega | (simp; done) | (simp; omega)) _ | refine Below.setCell ?_ (by first | omega | (simp; done) | (simp; omega)) _ | refine Below.drew ?_)) (Below.mono hbel (by simp; omega))
    obtain ⟨cS, fS, zS⟩ := blkC hS.out
    go_wp2
    refine bodyPost_ret (v := .tuple #[fldV 0 0 0 0 (.slice none 0 0), .int .i64 3]) (by simp [results, Try.results109, go_sem, cS]) rfl ?_
    exact .inr ⟨hall, rfl, set5_below hB _ _ _ _ _ _ (by omega)⟩

set_option maxHeartbeats 2000000 in
theorem make_no (X Y W H : Int) (v : Value) (k : Int) (w : World) (hv : ∃ g caps, v = .func (.func g) #[] caps) (h0 : checkR X Y W H = k) (hk : k = 3 ∨ k = 4 ∨ k = 5) :
    Calls Try.prog 109 #[reg X Y W H, v] w fun e w' => e = .returned (.tuple #[fldV 0 0 0 0 (.slice none 0 0), .int .i64 k]) ∧ Below w.heap.size w w' := by
  obtain ⟨g, caps, rfl⟩ := hv
  have RC := Lib.hid (fun w => checkRegion_any X Y W H w)
  rw [h0] at RC
  clear h0
  rcases hk with rfl | rfl | rfl
  all_goals go_enter Try.func109, Try.ntmps109
  all_goals go_wp2_with (first | (go_at_call 84; refine (RC.out _).mono ?_; rintro e w' ⟨rfl, rfl⟩))
  · refine bodyPost_ret (v := .tuple #[fldV 0 0 0 0 (.slice none 0 0), .int .i64 3]) (by simp [results, Try.results109, go_sem]) rfl ⟨rfl, ?_⟩
    exact (by repeat (first | exact Below.refl _ _ | refine Below.alloc ?_ (by first | omega | (simp; done) | (simp; omega)) _ | refine Below.setCell ?_ (by first | omega | (simp; done) | (simp; omega)) _ | refine Below.drew ?_))
  · refine bodyPost_ret (v := .tuple #[fldV 0 0 0 0 (.slice none 0 0), .int .i64 4]) (by simp [results, Try.results109, go_sem]) rfl ⟨rfl, ?_⟩
    exact (by repeat (first | exact Below.refl _ _ | refine Below.alloc ?_ (by first | omega | (simp; done) | (simp; omega)) _ | refine Below.setCell ?_ (by first | omega | (simp; done) | (simp; omega)) _ | refine Below.drew ?_))
  · refine bodyPost_ret (v := .tuple #[fldV 0 0 0 0 (.slice none 0 0), .int .i64 5]) (by simp [results, Try.results109, go_sem]) rfl ⟨rfl, ?_⟩
    exact (by repeat (first | exact Below.refl _ _ | refine Below.alloc ?_ (by first | omega | (simp; done) | (simp; omega)) _ | refine Below.setCell ?_ (by first | omega | (simp; done) | (simp; omega)) _ | refine Below.drew ?_))
end Go.Proofs.Ytkcehbnmcdppkaa

/- Contracts: Hash, Unit, Signed of both sides. -/
namespace Go.Proofs.Ytkcehbnmcdppkaa
open Go.RowKit Fl
set_option linter.unusedVariables false

/-- Exclusive or of two words of 32 bits. -/
def xorU (a b : Int) : Int := bits .xor .u32 a b
theorem xorU_in (a b : Int) : 0 ≤ xorU a b ∧ xorU a b < 4294967296 := by
  unfold xorU bits; simp only [IntKind.wrap_u32]; omega
def stA (h : Int) : Int := xorU h (h / 65536) * 2246822507 % 4294967296
def stB (h : Int) : Int := xorU h (h / 8192) * 3266489909 % 4294967296
def stC (h : Int) : Int := xorU h (h / 65536)
/-- Stirred once. -/
def stirI (h : Int) : Int := stC (stB (stA h))
theorem stirI_in (h : Int) : 0 ≤ stirI h ∧ stirI h < 4294967296 := xorU_in _ _
/-- The state behind one more whole number. -/
def stepI (h n : Int) : Int := stirI (xorU h (n % 4294967296))
theorem stepI_in (h n : Int) : 0 ≤ stepI h n ∧ stepI h n < 4294967296 := stirI_in _
def hashI (s x y n : Int) : Int := stepI (stepI (stepI s x) y) n
theorem hashI_in (s x y n : Int) : 0 ≤ hashI s x y n ∧ hashI s x y n < 4294967296 := stepI_in _ _

set_option maxHeartbeats 400000 in
theorem refConv_any (n : Int) (w : World) :
    Calls Try.prog 102 #[.int .i64 n] w fun e w' => e = .returned (.float .f32 (floatOfInt .f32 n)) ∧ w = w' := by
  go_enter Try.func102, Try.ntmps102
  go_wp2
  go_ret
  exact ⟨rfl, rfl⟩

/-- The reference's rounds: the place and the state. -/
inductive HashAt (s x y n : Int) : Value → Value → Prop where
  | z : HashAt s x y n (.int .u32 s) (.int .i64 0)
  | a : HashAt s x y n (.int .u32 (stepI s x)) (.int .i64 1)
  | b : HashAt s x y n (.int .u32 (stepI (stepI s x) y)) (.int .i64 2)
  | c : HashAt s x y n (.int .u32 (hashI s x y n)) (.int .i64 3)

end Go.Proofs.Ytkcehbnmcdppkaa

/- Contracts: CheckWithin; Ease of both sides; the reference's operations of any words at all. -/
namespace Go.Proofs.Ytkcehbnmcdppkaa
open Go.RowKit Fl
set_option linter.unusedVariables false

/-- The error of a single that should be from a to b. -/
def wiE (x a b : Nat) : Int := if finB x = false then 2 else if (FloatKind.f32.format.order x a == some .lt) = true ∨ (FloatKind.f32.format.order x b == some .gt) = true then 3 else 0

set_option maxHeartbeats 400000 in
theorem checkWithin_any (x a b : Nat) (w : World) :
    Calls Try.prog 127 #[.float .f32 x, .float .f32 a, .float .f32 b] w fun e w' => e = .returned (.int .i64 (wiE x a b)) ∧ w = w' := by
  have IH := Lib.hid (fun w => isFinite_any x w)
  unfold wiE
  cases hf : finB x with
  | false =>
    rw [hf] at IH
    clear hf
    go_enter Try.func127, Try.ntmps127
    go_wp2_with (go_at_call 135; refine (IH.out _).mono ?_; rintro e w' ⟨rfl, rfl⟩)
    go_ret
    exact ⟨ret_int rfl, rfl⟩
  | true =>
    rw [hf] at IH
    clear hf
    cases h1 : (FloatKind.f32.format.order x a == some .lt) with
    | true =>
      go_enter Try.func127, Try.ntmps127
      go_wp2_with (go_at_call 135; refine (IH.out _).mono ?_; rintro e w' ⟨rfl, rfl⟩)
      go_ret
      exact ⟨ret_int rfl, rfl⟩
    | false =>
      cases h2 : (FloatKind.f32.format.order x b == some .gt) with
      | true =>
        go_enter Try.func127, Try.ntmps127
        go_wp2_with (go_at_call 135; refine (IH.out _).mono ?_; rintro e w' ⟨rfl, rfl⟩)
        go_ret
        exact ⟨ret_int rfl, rfl⟩
      | false =>
        go_enter Try.func127, Try.ntmps127
        go_wp2_with (go_at_call 135; refine (IH.out _).mono ?_; rintro e w' ⟨rfl, rfl⟩)
        go_ret
        exact ⟨ret_int rfl, rfl⟩

theorem choose_loose (q : Question) (k : FloatKind) (w : World) : ∃ r n, ((do pure (Value.float k (← choose q))) : Sem Value).run Try.prog w = .ok (.float k r) (w.drewN n) := by
  by_cases h : q.forced = true
  · exact ⟨0, 0, by simp [h, World.drewN]⟩
  · exact ⟨q.cut (w.tape w.drawn q), 1, by simp [h]; rfl⟩

theorem conv_loose (src dst : TypeId) (s k : FloatKind) (b : Nat) (hs : (Try.prog.underlying src).isSome = true) (hd : Try.prog.underlying dst = some (.float k)) (w : World) :
    ∃ r n, (convert src dst (.float s b)).run Try.prog w = .ok (.float k r) (w.drewN n) := by
  obtain ⟨u, hs'⟩ := Option.isSome_iff_exists.1 hs
  have key : ∃ r n, (Conv.floatToFloat s b k).run Try.prog w = .ok (.float k r) (w.drewN n) := by
    unfold Conv.floatToFloat
    by_cases e : s = k
    · exact ⟨b, 0, by simp [e, World.drewN]⟩
    · rw [if_neg e]
      cases hd : s.decode b with
      | nan g f => exact choose_loose _ k w
      | infinity g => exact ⟨_, 0, rfl⟩
      | number g m i =>
        simp only
        split
        · exact choose_loose _ k w
        · exact ⟨_, 0, rfl⟩
  obtain ⟨r, n, h⟩ := key
  refine ⟨r, n, ?_⟩
  rw [← h]
  cases u <;> simp [convert, run_underlying hs', run_underlying hd]

theorem arith_loose (op : BinOp) (t : TypeId) (k : FloatKind) (x y : Nat) (ho : op = .add ∨ op = .sub ∨ op = .mul) (w : World) :
    ∃ r n, (binOp op t (.float k x) (.float k y)).run Try.prog w = .ok (.float k r) (w.drewN n) := by
  cases h : floatBits op k x y with
  | some r => exact ⟨r, 0, run_float_arith w op t k x y r h⟩
  | none =>
    obtain ⟨r, n, c⟩ := choose_loose (.nanBits k x y) k w
    refine ⟨r, n, ?_⟩
    rw [← c]
    unfold floatBits at h
    rcases ho with rfl | rfl | rfl
    all_goals simp only at h
    all_goals simp [binOp, Op.floatArith, h]

/-- Some single; the world has drawn at most. -/
def LooseF (w : World) (e : Ending) (w' : World) : Prop := ∃ r n, e = .returned (.float .f32 r) ∧ w' = w.drewN n

theorem drewN_two (w : World) (a b : Nat) : (w.drewN a).drewN b = w.drewN (a + b) := by simp [World.drewN, Nat.add_assoc]

set_option maxHeartbeats 400000 in
theorem refMul_loose (x y : Nat) (w : World) : Calls Try.prog 94 #[.float .f32 x, .float .f32 y] w (LooseF w) := by
  obtain ⟨X, n1, c1⟩ := conv_loose 22 32 .f32 .f64 x (by kernel_rfl) Try.underlying32 w
  obtain ⟨Y, n2, c2⟩ := conv_loose 22 32 .f32 .f64 y (by kernel_rfl) Try.underlying32 (w.drewN n1)
  obtain ⟨Z, n3, c3⟩ := arith_loose .mul 32 .f64 X Y (by simp) (w.drewN (n1 + n2))
  obtain ⟨r, n4, c4⟩ := conv_loose 32 22 .f64 .f32 Z (by kernel_rfl) Try.underlying22 (w.drewN (n1 + n2 + n3))
  go_enter Try.func94, Try.ntmps94
  go_wp2
  go_ret
  exact ⟨r, n1 + n2 + n3 + n4, rfl, rfl⟩

end Go.Proofs.Ytkcehbnmcdppkaa

/- Dither and Speckle of one cell, as words; what the steps come to. -/
namespace Go.Proofs.Ytkcehbnmcdppkaa
open Go.RowKit Fl
set_option linter.unusedVariables false

theorem div_val {x y k : Nat} {a b : Int} (hx : vS x = some a) (hy : vS y = some b) (hb : b ≠ 0) (hk : k ≤ 120) (h : a.natAbs ≤ b.natAbs * 2 ^ k) : Same2 .quo k x y := by
  obtain ⟨s, m, i, e1, rfl⟩ := vS_some hx
  obtain ⟨t, n, j, e2, rfl⟩ := vS_some hy
  have n1 : (vOf s m i).natAbs = m * 2 ^ (i + 1074).toNat := by unfold vOf; rw [signed_eq, Int.natAbs_mul, Int.natAbs_natCast]; cases s <;> simp
  have n2 : (vOf t n j).natAbs = n * 2 ^ (j + 1074).toNat := by unfold vOf; rw [signed_eq, Int.natAbs_mul, Int.natAbs_natCast]; cases t <;> simp
  refine div_same hk e1 e2 ?_ (by rw [← n1, ← n2]; exact h)
  rcases Nat.eq_zero_or_pos n with z | z
  · exfalso; apply hb; subst z
    have : (vOf t 0 j).natAbs = 0 := by rw [n2]; simp
    omega
  · exact z

theorem vS_lo {j : Nat} (hj : j = 1064) : vS 981467136 = some ((2 ^ j : Nat) : Int) := by
  have h : Ieee.single.read 981467136 = .number false 8388608 (-33) := by decide
  rw [vS_lit (t := 1) (k := 23) (j := j) h (by decide) (by rw [hj]; decide)]; simp
theorem vS_hi {j : Nat} (hj : j = 1084) : vS 1149239296 = some ((2 ^ j : Nat) : Int) := by
  have h : Ieee.single.read 1149239296 = .number false 8388608 (-13) := by decide
  rw [vS_lit (t := 1) (k := 23) (j := j) h (by decide) (by rw [hj]; decide)]; simp

/-- A right step: its value is from 2 ^ -10 to 2 ^ 10. -/
def StepOk (st : Nat) : Prop := ∃ b, vS st = some b ∧ (one : Int) ≤ 1024 * b ∧ b ≤ 1024 * (one : Int)
theorem step_ok {st : Nat} (h : wiE st 981467136 1149239296 = 0) : StepOk st := by
  unfold wiE at h
  by_cases hf : finB st = false
  · rw [if_pos hf] at h; cases h
  · rw [if_neg hf] at h
    split at h
    · cases h
    · rename_i c
      obtain ⟨a, ha⟩ := Option.isSome_iff_exists.1 (show (vS st).isSome = true by simpa [finB, Option.isSome_iff_ne_none] using hf)
      obtain ⟨j, hj⟩ : ∃ j : Nat, j = 1064 := ⟨_, rfl⟩
      have hj' : j + 20 = 1084 := by omega
      rw [show FloatKind.f32.format = Ieee.single from rfl, lss_val ha (vS_lo hj), gtr_val ha (vS_hi hj')] at c
      refine ⟨a, ha, ?_⟩
      have e1 : one = 1024 * 2 ^ j := by rw [one_split (a := 10) (j := j) (by omega)]
      have e2 : 2 ^ (j + 20) = 1048576 * 2 ^ j := by rw [Nat.pow_add, Nat.mul_comm]
      rw [e2] at c
      rw [e1]
      generalize 2 ^ j = U at *
      simp at c
      omega
theorem step_bd {st : Nat} (h : StepOk st) : Bd 11 st := by
  obtain ⟨b, hb, h1, h2⟩ := h
  obtain ⟨J, hJ⟩ : ∃ J : Nat, J = 1074 := ⟨_, rfl⟩
  refine bd_val' (j := 11 + J) hb (by omega) ?_
  have e : 2 ^ (11 + J) = 2048 * one := by rw [one_pow hJ, Nat.pow_add]
  have := one_pos
  rw [e]
  generalize one = O at *
  omega

theorem hgt_val {x : Nat} (h : hgtB x = true) : ∃ a, vS x = some a ∧ a.natAbs ≤ 1048576 * one := by
  obtain ⟨a, ha, hb⟩ := val_bd (hgt_bd h)
  refine ⟨a, ha, ?_⟩
  obtain ⟨J, hJ⟩ : ∃ J : Nat, J = 1074 := ⟨_, rfl⟩
  have e : 2 ^ (1074 + 20) = 1048576 * one := by
    rw [one_pow hJ, show 1074 + 20 = 20 + J by omega, Nat.pow_add]
  rwa [e] at hb

theorem flV_near (a : Int) : flV a ≤ a ∧ a < flV a + (one : Int) := by
  have hp : (0 : Int) < (one : Int) := Int.natCast_pos.2 one_pos
  unfold flV
  have h1 := Int.ediv_mul_le a (Int.ne_of_gt hp)
  have h2 := Int.lt_ediv_add_one_mul_self a hp
  rw [Int.add_mul, Int.one_mul] at h2
  exact ⟨h1, h2⟩

/-- The quotient that Dither makes. -/
def dthQ (v st : Nat) : Nat := (floatBits .quo .f32 v st).getD 0
/-- What Dither makes of a cell, by the word of its hash. -/
def dthW (v st : Nat) (h : Int) : Nat :=
  (floatBits .mul .f32 (if (FloatKind.f32.format.order (unitW h) ((floatBits .sub .f32 (dthQ v st) (flW (dthQ v st))).getD 0) == some .lt) = true then (floatBits .add .f32 (flW (dthQ v st)) 1065353216).getD 0 else flW (dthQ v st)) st).getD 0

structure DthAt (v st : Nat) (h : Int) (q d : Nat) (c : Bool) (j r : Nat) : Prop where
  q1 : floatBits .quo .f32 v st = some q
  q2 : Same2 .quo 30 v st
  fq : ∃ a, vS q = some a
  bq : Bd 30 q
  d1 : floatBits .sub .f32 q (flW q) = some d
  d2 : Same2 .sub 32 q (flW q)
  c1 : (FloatKind.f32.format.order (unitW h) d == some .lt) = c
  j1 : c = true → floatBits .add .f32 (flW q) 1065353216 = some j
  j2 : c = true → Same2 .add 32 (flW q) 1065353216
  j3 : c = false → j = flW q
  r1 : floatBits .mul .f32 j st = some r
  r2 : Same2 .mul 43 j st
  w : dthW v st h = r
  lt : r < 4294967296

theorem fl_bd {q k : Nat} (h : Bd k q) (hk : k ≤ 50) : Bd (k + 1) (flW q) := by
  obtain ⟨a, ha, hb⟩ := val_bd h
  obtain ⟨_, _, _, _, _, _, _, _, _, hv⟩ := floor_parts ha h hk
  refine bd_val hv ?_
  obtain ⟨h1, h2⟩ := flV_near a
  obtain ⟨J, hJ⟩ : ∃ J : Nat, J = 1074 := ⟨_, rfl⟩
  have e : one ≤ 2 ^ (1074 + k) := by rw [one_pow hJ]; exact Nat.pow_le_pow_right (by omega) (by omega)
  rw [show 1074 + (k + 1) = 1074 + k + 1 by omega, Nat.pow_succ]
  generalize 2 ^ (1074 + k) = T at *
  generalize one = O at *
  omega

theorem bd_one (k : Nat) : Bd k 1065353216 := by
  obtain ⟨J, hJ⟩ : ∃ J : Nat, J = 1074 := ⟨_, rfl⟩
  refine bd_val vS_one ?_
  rw [Int.natAbs_natCast, one_pow hJ]; exact Nat.pow_le_pow_right (by omega) (by omega)

theorem dth_parts {v st : Nat} (h : Int) (hv : hgtB v = true) (hs : StepOk st) : ∃ q d c j r, DthAt v st h q d c j r := by
  obtain ⟨a, ha, hab⟩ := hgt_val hv
  have hs' := hs
  obtain ⟨b, hb, hb1, hb2⟩ := hs'
  have op := one_pos
  have q2 : Same2 .quo 30 v st := by
    refine div_val ha hb ?_ (by omega) ?_
    · generalize one = O at *; omega
    · rw [show (2 : Nat) ^ 30 = 1073741824 by decide]; generalize one = O at *; omega
  obtain ⟨_, _, _, q, _, _, _, _, q1, bq⟩ := q2.ex
  obtain ⟨aq, haq, _⟩ := val_bd bq
  have bf := fl_bd bq (by omega)
  have d2 : Same2 .sub 32 q (flW q) := sub_same (k := 31) (by omega) (bd_up bq (by omega)) bf
  obtain ⟨_, _, _, d, _, _, _, _, d1, _⟩ := d2.ex
  have j2 : Same2 .add 32 (flW q) 1065353216 := add_same (k := 31) (by omega) bf (bd_one 31)
  obtain ⟨_, _, _, j, _, _, _, _, j1, bj⟩ := j2.ex
  have eq : dthQ v st = q := by unfold dthQ; rw [q1]; rfl
  cases hc : (FloatKind.f32.format.order (unitW h) d == some .lt) with
  | true =>
    have r2 : Same2 .mul (32 + 11) j st := mul_same (by omega) bj (step_bd hs)
    obtain ⟨_, _, _, r, _, _, _, _, r1, _⟩ := r2.ex
    refine ⟨q, d, true, j, r, q1, q2, ⟨aq, haq⟩, bq, d1, d2, hc, fun _ => j1, fun _ => j2, (fun h => by cases h), r1, r2, ?_, opt_lt (d := (Ieee.single.read j).product (Ieee.single.read st)) r1⟩
    unfold dthW
    rw [eq, d1]
    show (floatBits .mul .f32 (if (FloatKind.f32.format.order (unitW h) d == some .lt) = true then (floatBits .add .f32 (flW q) 1065353216).getD 0 else flW q) st).getD 0 = r
    rw [if_pos hc, j1]
    show (floatBits .mul .f32 j st).getD 0 = r
    rw [r1]; rfl
  | false =>
    have r2 : Same2 .mul (32 + 11) (flW q) st := mul_same (by omega) (bd_up bf (by omega)) (step_bd hs)
    obtain ⟨_, _, _, r, _, _, _, _, r1, _⟩ := r2.ex
    refine ⟨q, d, false, flW q, r, q1, q2, ⟨aq, haq⟩, bq, d1, d2, hc, (fun h => by cases h), (fun h => by cases h), fun _ => rfl, r1, r2, ?_, opt_lt (d := (Ieee.single.read (flW q)).product (Ieee.single.read st)) r1⟩
    unfold dthW
    rw [eq, d1]
    show (floatBits .mul .f32 (if (FloatKind.f32.format.order (unitW h) d == some .lt) = true then (floatBits .add .f32 (flW q) 1065353216).getD 0 else flW q) st).getD 0 = r
    rw [if_neg (by rw [hc]; simp), r1]; rfl

/-- What Speckle makes of a cell. -/
def spkW (st : Nat) (h : Int) : Nat := if (FloatKind.f32.format.order (unitW h) st == some .lt) = true then 1065353216 else 0

/-- The place of a cell by its number. -/
theorem place_of {X Y x y : Int} {W i : Nat} (hW : 1 ≤ W) (h1 : X ≤ x) (h2 : x < X + W) (h3 : Y ≤ y) (hi : (i : Int) = (y - Y) * W + (x - X)) : X + ((i % W : Nat) : Int) = x ∧ Y + ((i / W : Nat) : Int) = y := by
  obtain ⟨a, ha⟩ := Int.eq_ofNat_of_zero_le (show 0 ≤ x - X by omega)
  obtain ⟨b, hb⟩ := Int.eq_ofNat_of_zero_le (show 0 ≤ y - Y by omega)
  rw [ha, hb, ← Int.natCast_mul, ← Int.natCast_add] at hi
  have hi' : i = b * W + a := Int.ofNat.inj hi
  have ha' : a < W := by omega
  have e1 : i % W = a := by rw [hi', Nat.mul_comm, Nat.mul_add_mod, Nat.mod_eq_of_lt ha']
  have e2 : i / W = b := by rw [hi', Nat.mul_comm, Nat.mul_add_div (by omega), Nat.div_eq_of_lt ha']; rfl
  rw [e1, e2]; omega

set_option maxHeartbeats 400000 in
theorem refDiv_any (k x y r : Nat) (h : Same2 .quo k x y) (hr : floatBits .quo .f32 x y = some r) (w : World) :
    Calls Try.prog 101 #[.float .f32 x, .float .f32 y] w fun e w' => e = .returned (.float .f32 r) ∧ w = w' := by
  obtain ⟨X, Y, Z, r', h1, h2, h3, h4, h5, _⟩ := h.ex
  rw [hr] at h5
  have h5 := Option.some.inj h5
  subst h5
  have c1 := fun (W : World) => run_convert_float_float (P := Try.prog) W 22 32 .f32 .f64 x X (by kernel_rfl) Try.underlying32 h1
  have c2 := fun (W : World) => run_convert_float_float (P := Try.prog) W 22 32 .f32 .f64 y Y (by kernel_rfl) Try.underlying32 h2
  have c3 := fun (W : World) => run_float_arith (P := Try.prog) W .quo 32 .f64 X Y Z h3
  have c4 := fun (W : World) => run_convert_float_float (P := Try.prog) W 32 22 .f64 .f32 Z r (by kernel_rfl) Try.underlying22 h4
  clear h1 h2 h3 h4 hr h
  go_enter Try.func101, Try.ntmps101
  go_wp2
  go_ret
  exact ⟨rfl, rfl⟩

end Go.Proofs.Ytkcehbnmcdppkaa

/- The error of a single that should lie between two others, by the tests of the reference. -/
namespace Go.Proofs.Ytkcehbnmcdppkaa
open Go.RowKit Fl
set_option linter.unusedVariables false

/-- The error of a single that should be from lo to hi, told by the reference's tests. -/
def WithinCases (st lo hi : Nat) : Prop :=
    ((fldE 1 (fun _ => st) = 2 ∨ fldE 1 (fun _ => st) = 3) ∧ wiE st lo hi = fldE 1 (fun _ => st)) ∨
    (fldE 1 (fun _ => st) = 0 ∧ wiE st lo hi = 3 ∧ (FloatKind.f32.format.order st lo == some .lt) = true) ∨
    (fldE 1 (fun _ => st) = 0 ∧ wiE st lo hi = 3 ∧ (FloatKind.f32.format.order st lo == some .lt) = false ∧ (FloatKind.f32.format.order st hi == some .gt) = true) ∨
    (fldE 1 (fun _ => st) = 0 ∧ wiE st lo hi = 0 ∧ (FloatKind.f32.format.order st lo == some .lt) = false ∧ (FloatKind.f32.format.order st hi == some .gt) = false)
theorem within_cases {st lo hi : Nat} {l h : Int} (hl : vS lo = some l) (hh : vS hi = some h) (l1 : -vTop ≤ l) (h1 : h ≤ vTop) : WithinCases st lo hi := by
  unfold WithinCases
  cases hf : finB st with
  | false =>
    have e : fldE 1 (fun _ => st) = 2 := by simp [fldE, allB, List.range_succ, hf]
    exact .inl ⟨.inl e, by rw [e]; unfold wiE; rw [if_pos hf]⟩
  | true =>
    obtain ⟨a, ha⟩ := Option.isSome_iff_exists.1 (show (vS st).isSome = true from hf)
    have l0 := lss_val ha hl
    have g1 := gtr_val ha hh
    rw [← f32f] at l0 g1
    have hw : ((FloatKind.f32.format.order st lo == some .lt) = true ∨ (FloatKind.f32.format.order st hi == some .gt) = true) → wiE st lo hi = 3 := fun c => by
      unfold wiE; rw [if_neg (by rw [hf]; simp), if_pos c]
    cases hgt : hgtB st with
    | false =>
      have e : fldE 1 (fun _ => st) = 3 := by simp [fldE, hgtE, allB, List.range_succ, hf, hgt]
      refine .inl ⟨.inr e, ?_⟩
      rw [e]
      refine hw ?_
      unfold hgtB at hgt
      rw [ha] at hgt
      rw [l0, g1]
      simp at hgt ⊢
      omega
    | true =>
      have e : fldE 1 (fun _ => st) = 0 := fldE_one_ok hgt
      cases c1 : (FloatKind.f32.format.order st lo == some .lt) with
      | true => exact .inr (.inl ⟨e, hw (.inl c1), rfl⟩)
      | false =>
        cases c2 : (FloatKind.f32.format.order st hi == some .gt) with
        | true => exact .inr (.inr (.inl ⟨e, hw (.inr c2), rfl, rfl⟩))
        | false => exact .inr (.inr (.inr ⟨e, by unfold wiE; rw [if_neg (by rw [hf]; simp), if_neg (by rw [c1, c2]; simp)], rfl, rfl⟩))

theorem vTop_one : vTop = 1048576 * (one : Int) := by
  obtain ⟨J, hJ⟩ : ∃ J : Nat, J = 1074 := ⟨_, rfl⟩
  unfold vTop
  rw [one_pow hJ, Nat.one_mul, show ((20 : Int) + 1074).toNat = 20 + J by omega, Nat.pow_add, Int.natCast_mul]; rfl
theorem step_cases (st : Nat) : WithinCases st 981467136 1149239296 := by
  obtain ⟨j, hj⟩ : ∃ j : Nat, j = 1064 := ⟨_, rfl⟩
  have hj' : j + 20 = 1084 := by omega
  have e1 : one = 1024 * 2 ^ j := by rw [one_split (a := 10) (j := j) (by omega)]
  have e2 : 2 ^ (j + 20) = 1048576 * 2 ^ j := by rw [Nat.pow_add, Nat.mul_comm]
  have hp := Nat.two_pow_pos j
  exact within_cases (st := st) (vS_lo hj) (vS_hi hj') (by rw [vTop_one, e1]; generalize 2 ^ j = U at *; omega) (by rw [vTop_one, e1, e2]; generalize 2 ^ j = U at *; omega)

theorem flAt_one_of {w : World} {b x : Nat} (h : w.heap[b]? = some (flObj x)) : FlAt w b 0 1 (fun _ => x) := by
  intro i hi
  have : i = 0 := by omega
  subst this
  exact (blkC h).1 0
theorem refHeight_of (x : Nat) (hx : x < 4294967296) (bb : Nat) (w : World) (h : w.heap[bb]? = some (flObj x)) :
    Calls Try.prog 85 #[.slice (some ⟨bb, 0, none⟩) 1 1] w fun e w' => e = .returned (.int .i64 (fldE 1 (fun _ => x))) ∧ w = w' :=
  refHeight_row bb 0 1 1 (fun _ => x) (by omega) w (flAt_one_of h) (fun _ _ => hx)

end Go.Proofs.Ytkcehbnmcdppkaa

/- Contracts: the laws' within, when, first (of two, of three). -/
namespace Go.Proofs.Ytkcehbnmcdppkaa
open Go.RowKit
set_option linter.unusedVariables false

set_option maxHeartbeats 400000 in
theorem mWithin_any (n a b : Int) (w : World) :
    Calls Try.prog 29 #[.int .i64 n, .int .i64 a, .int .i64 b] w fun e w' => e = .returned (.bool (withinB n a b)) ∧ w = w' := by
  go_enter Try.func29, Try.ntmps29
  go_wp2
  all_goals go_ret
  all_goals exact ⟨ret_bool (by rw [Bool.eq_iff_iff, withinB_iff]; simp; omega), rfl⟩

def whenE (c : Bool) (k : Int) : Int := if c = true then k else 0
set_option maxHeartbeats 400000 in
theorem when_any (c : Bool) (k : Int) (w : World) :
    Calls Try.prog 28 #[.bool c, .int .i64 k] w fun e w' => e = .returned (.int .i64 (whenE c k)) ∧ w = w' := by
  unfold whenE
  cases c
  all_goals
    go_enter Try.func28, Try.ntmps28
    go_wp2
    go_ret
    exact ⟨rfl, rfl⟩

inductive FirstAt (a b : Int) : Value → Prop where
  | z : FirstAt a b (.int .i64 0)
  | a (h : a = 0) : FirstAt a b (.int .i64 1)
  | b (h : a = 0) (h' : b = 0) : FirstAt a b (.int .i64 2)
def firstE (a b : Int) : Int := if a = 0 then b else a
set_option maxHeartbeats 1000000 in
theorem first2_any (a b : Int) (p : Nat) (w : World) (h : w.heap[p]? = some (.cells #[.int .i64 a, .int .i64 b] 25)) :
    Calls Try.prog 22 #[.slice (some ⟨p, 0, none⟩) 2 2] w fun e w' => e = .returned (.int .i64 (firstE a b)) ∧ w = w' := by
  unfold firstE
  obtain ⟨c, f, z⟩ := blkC h
  clear h
  go_enter Try.func22, Try.ntmps22
  go_wp2
  go_loop [7] (fun i => FirstAt a b i) (fun i => 2 - (intOf i).toNat)
  case atStart => exact .z
  case round =>
    rcases hrel with _ | ha | ⟨ha, hb⟩
    · by_cases h0 : a = 0
      · subst h0
        go_wp2
        go_round
        case rel => exact .a rfl
        case measure => simp [intOf]
      · go_wp2
        go_ret
        exact ⟨by simp, rfl⟩
    · subst ha
      by_cases h0 : b = 0
      · subst h0
        go_wp2
        go_round
        case rel => exact .b rfl rfl
        case measure => simp [intOf]
      · go_wp2
        go_ret
        exact ⟨rfl, rfl⟩
    · subst ha hb
      go_wp2
      go_ret
      exact ⟨rfl, rfl⟩

theorem firstE_zero {a b : Int} (h : firstE a b = 0) : a = 0 ∧ b = 0 := by
  unfold firstE at h
  by_cases q : a = 0
  · rw [if_pos q] at h; exact ⟨q, h⟩
  · rw [if_neg q] at h; exact absurd h q
theorem whenE_zero {c : Bool} {k : Int} (hk : k ≠ 0) (h : whenE c k = 0) : c = false := by
  unfold whenE at h
  cases c with
  | false => rfl
  | true => rw [if_pos rfl] at h; exact absurd h hk

inductive First3At (a b c : Int) : Value → Prop where
  | z : First3At a b c (.int .i64 0)
  | a (h : a = 0) : First3At a b c (.int .i64 1)
  | b (h : a = 0) (h' : b = 0) : First3At a b c (.int .i64 2)
  | c (h : a = 0) (h' : b = 0) (h'' : c = 0) : First3At a b c (.int .i64 3)
set_option maxHeartbeats 1000000 in
theorem first3_any (a b c : Int) (p : Nat) (w : World) (h : w.heap[p]? = some (.cells #[.int .i64 a, .int .i64 b, .int .i64 c] 25)) :
    Calls Try.prog 22 #[.slice (some ⟨p, 0, none⟩) 3 3] w fun e w' => e = .returned (.int .i64 (firstE (firstE a b) c)) ∧ w = w' := by
  unfold firstE
  obtain ⟨cc, f, z⟩ := blkC h
  clear h
  go_enter Try.func22, Try.ntmps22
  go_wp2
  go_loop [7] (fun i => First3At a b c i) (fun i => 3 - (intOf i).toNat)
  case atStart => exact .z
  case round =>
    rcases hrel with _ | ha | ⟨ha, hb⟩ | ⟨ha, hb, hc⟩
    · by_cases h0 : a = 0
      · subst h0
        go_wp2
        go_round
        case rel => exact .a rfl
        case measure => simp [intOf]
      · go_wp2
        go_ret
        exact ⟨by first | (simp; done) | simp [h0], rfl⟩
    · subst ha
      by_cases h0 : b = 0
      · subst h0
        go_wp2
        go_round
        case rel => exact .b rfl rfl
        case measure => simp [intOf]
      · go_wp2
        go_ret
        exact ⟨by first | (simp; done) | simp [h0], rfl⟩
    · subst ha hb
      by_cases h0 : c = 0
      · subst h0
        go_wp2
        go_round
        case rel => exact .c rfl rfl rfl
        case measure => simp [intOf]
      · go_wp2
        go_ret
        exact ⟨by first | (simp; done) | simp [h0], rfl⟩
    · subst ha hb hc
      go_wp2
      go_ret
      exact ⟨rfl, rfl⟩
end Go.Proofs.Ytkcehbnmcdppkaa

/- Contracts: Level and LevelOf. -/
namespace Go.Proofs.Ytkcehbnmcdppkaa
open Go.RowKit Fl
set_option linter.unusedVariables false

theorem f64f' : FloatKind.f64.format = Ieee.double := rfl

/-- What a level of the height v is reckoned from. -/
structure LvP (lo st v d q x : Nat) : Prop where
  e1 : floatBits .sub .f32 v lo = some d
  e2 : floatBits .quo .f32 d st = some q
  e3 : floatBits .add .f32 q 1056964608 = some x
theorem lvp {lo st v : Nat} {a b c : Int} (h1 : vS lo = some a) (h2 : vS st = some b) (h3 : vS v = some c) (hb : 0 < b) : ∃ d q x, LvP lo st v d q x ∧ Sgl' x := by
  obtain ⟨d, d1, d2⟩ := sub_sgl h3 h1
  obtain ⟨q, q1, q2⟩ := quo_sgl d2 h2 (by omega)
  have hh : vS 1056964608 = some ((rv 1056964608 : Nat) : Int) := vS_pos (by omega)
  obtain ⟨x, x1, x2⟩ := add_sgl q2 hh
  exact ⟨d, q, x, ⟨d1, q1, x1⟩, x2⟩

set_option maxHeartbeats 1000000 in
set_option maxRecDepth 100000 in
theorem levelOf_any {lo st v d q x X F r : Nat} {bi mo k : Int} {n h : Bool} (V : LvP lo st v d q x) (P : Pw bi mo) (L : LvD x mo X F r n h k) (w : World) :
    Calls Try.prog 26 #[scV lo st bi, .float .f32 v] w fun e w' => e = .returned (.tuple #[.int .i64 (lvK n h mo k), .bool (lvB n h)]) ∧ Below w.heap.size w w' := by
  have b := P.bd
  have s1 := fun W => run_shl_one P W
  have a1 := fun (W : World) => run_float_arith (P := Try.prog) W .sub 22 .f32 _ _ _ V.e1
  have a2 := fun (W : World) => run_float_arith (P := Try.prog) W .quo 22 .f32 _ _ _ V.e2
  have a3 := fun (W : World) => run_float_arith (P := Try.prog) W .add 22 .f32 _ _ _ V.e3
  have d1 := fun (W : World) => run_convert_float_float (P := Try.prog) W 22 32 .f32 .f64 x X (by kernel_rfl) Try.underlying32 L.c1
  have q1 := L.q1
  have q2 := L.q2
  have q3 := L.q3
  clear L V P
  rw [← f32f] at q1
  rw [← f64f'] at q2
  cases n
  · have q2' := q2 rfl
    have q3' := q3 rfl
    clear q2 q3
    cases h
    · have d2 := fun (W : World) => run_convert_float_int (P := Try.prog) W 22 3 .f32 .i64 x k (by kernel_rfl) Try.underlying3 (q3' rfl)
      clear q3'
      go_enter Try.func26, Try.ntmps26
      go_wp2
      go_ret2
      exact ⟨rfl, (by repeat (first | exact Below.refl _ _ | refine Below.alloc ?_ (by first | omega | (simp; done) | (simp; omega)) _ | refine Below.setCell ?_ (by first | omega | (simp; done) | (simp; omega)) _ | refine Below.drew ?_))⟩
    · clear q3'
      go_enter Try.func26, Try.ntmps26
      go_wp2
      go_ret2
      exact ⟨rfl, (by repeat (first | exact Below.refl _ _ | refine Below.alloc ?_ (by first | omega | (simp; done) | (simp; omega)) _ | refine Below.setCell ?_ (by first | omega | (simp; done) | (simp; omega)) _ | refine Below.drew ?_))⟩
  · clear q2 q3
    go_enter Try.func26, Try.ntmps26
    go_wp2
    go_ret2
    exact ⟨rfl, (by repeat (first | exact Below.refl _ _ | refine Below.alloc ?_ (by first | omega | (simp; done) | (simp; omega)) _ | refine Below.setCell ?_ (by first | omega | (simp; done) | (simp; omega)) _ | refine Below.drew ?_))⟩

set_option maxHeartbeats 1000000 in
set_option maxRecDepth 100000 in
theorem level_ok {lo st v d q x X F r : Nat} {bi mo k : Int} {n h : Bool} (hS : sclE lo st bi = 0) (hv : fldE 1 (fun _ => v) = 0) (V : LvP lo st v d q x) (P : Pw bi mo) (L : LvD x mo X F r n h k) (w : World) :
    Calls Try.prog 21 #[scV lo st bi, .float .f32 v] w fun e w' => e = .returned (.tuple #[.int .i64 (lvK n h mo k), .bool (lvB n h), .int .i64 0]) ∧ Below w.heap.size w w' := by
  have CS := Lib.hid (fun w => checkScale_any lo st bi w)
  rw [hS] at CS
  have CH := Lib.hid (fun p w (hh : w.heap[p]? = some (flObj v)) => CheckHeights_row p 0 1 1 (fun _ => v) (by omega) w (flAt_one_of hh))
  rw [hv] at CH
  have GR := Lib.hid (fun w => greatest_any P w)
  have CL := Lib.hid (fun w => clipped_any L w)
  have a1 := fun (W : World) => run_float_arith (P := Try.prog) W .sub 22 .f32 _ _ _ V.e1
  have a2 := fun (W : World) => run_float_arith (P := Try.prog) W .quo 22 .f32 _ _ _ V.e2
  have a3 := fun (W : World) => run_float_arith (P := Try.prog) W .add 22 .f32 _ _ _ V.e3
  generalize lvK n h mo k = kk at *
  generalize lvB n h = bb at *
  clear hS hv V P L
  go_enter Try.func21, Try.ntmps21
  go_wp2_with (first
    | (go_at_call 25; go_loud ((with_reducible refine (CS.out _).mono ?_); rintro en w2 ⟨rfl, hb2⟩; have HS2 := Lib.hid (blkStay (b := w.heap.size) (o := .cells #[.float .f32 lo, .float .f32 st, .int .i64 bi] 36) (by (first | (rw [heap_alloc_get, if_pos rfl]; done) | ((simp only [heap_alloc_get, heap_size_alloc, if_true]) <;> ((repeat' split) <;> first | rfl | omega)))) hb2); have HB2 := Lib.hid (show Below w.heap.size w w2 from Below.trans (by repeat (first | exact Below.refl _ _ | refine Below.alloc ?_ (by first | omega | (simp; done) | (simp; omega)) _ | refine Below.setCell ?_ (by first | omega | (simp; done) | (simp; omega)) _ | refine Below.drew ?_)) (Below.mono hb2 (by first | omega | (simp; done) | (simp; omega)))); clear hb2; obtain ⟨cC, fC, zC⟩ := blkC HS2.out))
    | (go_at_call 76; go_loud (refine (CH.out _ _ (by (first | (rw [heap_alloc_get, if_pos rfl]; done) | ((simp only [heap_alloc_get, heap_size_alloc, if_true]) <;> ((repeat' split) <;> first | rfl | omega))))).mono ?_; rintro e w2 ⟨rfl, rfl⟩))
    )
  have HS3 := Lib.hid ((heap_alloc_old w2 (flObj v) (blkC HS2.out).2.2).trans HS2.out)
  have HB3 := Lib.hid (HB2.out.alloc HB2.out.size (flObj v))
  clear cC fC zC HS2 HB2
  unfold flObj at HS3 HB3
  generalize w2.alloc _ = w3 at *
  obtain ⟨cC, fC, zC⟩ := blkC HS3.out
  go_region_held3 (fun w' => (∀ o, w'.cell? ⟨w.heap.size, o, none⟩ = #[.float .f32 lo, .float .f32 st, .int .i64 bi][o]?) ∧ Below w3.heap.size w3 w')
    (first | exact ⟨cC, Below.refl _ _⟩ | exact ⟨cC, (by repeat (first | exact Below.refl _ _ | refine Below.alloc ?_ (by first | omega | (simp; done) | (simp; omega)) _ | refine Below.setCell ?_ (by first | omega | (simp; done) | (simp; omega)) _ | refine Below.drew ?_))⟩)
    (first | (go_at_call 78; (with_reducible refine Calls.mono (GR.out _) ?_); rintro e w' ⟨rfl, rfl⟩) | (go_at_call 77; (with_reducible refine Calls.mono (CL.out _) ?_); rintro e w' ⟨rfl, rfl⟩))
  rename_i wh hHeld
  go_wp2
  go_ret3
  exact ⟨rfl, HB3.out.trans (hHeld.2.mono HB3.out.size)⟩

set_option maxHeartbeats 1000000 in
set_option maxRecDepth 100000 in
theorem level_no {lo st v : Nat} {bi er : Int} (hE : firstE (sclE lo st bi) (fldE 1 (fun _ => v)) = er) (h0 : er ≠ 0) (w : World) :
    Calls Try.prog 21 #[scV lo st bi, .float .f32 v] w fun e w' => e = .returned (.tuple #[.int .i64 0, .bool false, .int .i64 er]) ∧ Below w.heap.size w w' := by
  have CS := Lib.hid (fun w => checkScale_any lo st bi w)
  have CH := Lib.hid (fun p w (hh : w.heap[p]? = some (flObj v)) => CheckHeights_row p 0 1 1 (fun _ => v) (by omega) w (flAt_one_of hh))
  have h1 : (er != 0) = true := by simpa using h0
  unfold firstE at hE
  by_cases c : sclE lo st bi = 0
  · rw [if_pos c] at hE
    rw [c] at CS
    rw [hE] at CH
    clear hE c h0
    go_enter Try.func21, Try.ntmps21
    go_wp2_with (first
      | (go_at_call 25; go_loud ((with_reducible refine (CS.out _).mono ?_); rintro en w2 ⟨rfl, hb2⟩; have HB2 := Lib.hid (show Below w.heap.size w w2 from Below.trans (by repeat (first | exact Below.refl _ _ | refine Below.alloc ?_ (by first | omega | (simp; done) | (simp; omega)) _ | refine Below.setCell ?_ (by first | omega | (simp; done) | (simp; omega)) _ | refine Below.drew ?_)) (Below.mono hb2 (by first | omega | (simp; done) | (simp; omega)))); clear hb2))
      | (go_at_call 76; go_loud (refine (CH.out _ _ (by (first | (rw [heap_alloc_get, if_pos rfl]; done) | ((simp only [heap_alloc_get, heap_size_alloc, if_true]) <;> ((repeat' split) <;> first | rfl | omega))))).mono ?_; rintro e w2 ⟨rfl, rfl⟩)))
    go_ret3
    exact ⟨rfl, HB2.out.alloc HB2.out.size _⟩
  · rw [if_neg c] at hE
    rw [hE] at CS
    clear hE c h0 CH
    go_enter Try.func21, Try.ntmps21
    go_wp2_with (first
      | (go_at_call 25; go_loud ((with_reducible refine (CS.out _).mono ?_); rintro en w2 ⟨rfl, hb2⟩; have HB2 := Lib.hid (show Below w.heap.size w w2 from Below.trans (by repeat (first | exact Below.refl _ _ | refine Below.alloc ?_ (by first | omega | (simp; done) | (simp; omega)) _ | refine Below.setCell ?_ (by first | omega | (simp; done) | (simp; omega)) _ | refine Below.drew ?_)) (Below.mono hb2 (by first | omega | (simp; done) | (simp; omega)))); clear hb2)))
    go_ret3
    exact ⟨rfl, HB2.out⟩
end Go.Proofs.Ytkcehbnmcdppkaa

/- Contracts: heights of levels, both sides. -/
namespace Go.Proofs.Ytkcehbnmcdppkaa
open Go.RowKit Fl
set_option linter.unusedVariables false

/-- What the height of the level n is reckoned from. -/
structure VlP (lo st : Nat) (n : Int) (p x : Nat) : Prop where
  e1 : floatBits .mul .f32 (floatOfInt .f32 n) st = some p
  e2 : floatBits .add .f32 lo p = some x
  bd : Bd 45 x
theorem vlp {lo st : Nat} {n : Int} (h1 : hgtB lo = true) (h2 : hgtB st = true) (h3 : 0 ≤ n) (h4 : n < 16777216) : ∃ p x, VlP lo st n p x := by
  obtain ⟨_, b⟩ := int_val (n := n) (by omega)
  obtain ⟨_, _, _, p, -, -, -, -, p1, p2⟩ := (mul_same (a := 24) (b := 20) (by omega) b (hgt_bd h2)).ex
  obtain ⟨_, _, _, x, -, -, -, -, x1, x2⟩ := (add_same (k := 44) (by omega) (bd_up (hgt_bd h1) (by omega)) p2).ex
  exact ⟨p, x, p1, x1, x2⟩

set_option maxHeartbeats 1000000 in
set_option maxRecDepth 100000 in
theorem ofLevel_any {lo st p x : Nat} {n bi : Int} (V : VlP lo st n p x) (w : World) :
    Calls Try.prog 80 #[scV lo st bi, .int .i64 n] w fun e w' => e = .returned (.float .f32 x) ∧ Below w.heap.size w w' := by
  have a1 := fun (W : World) => run_float_arith (P := Try.prog) W .mul 22 .f32 _ _ _ V.e1
  have a2 := fun (W : World) => run_float_arith (P := Try.prog) W .add 22 .f32 _ _ _ V.e2
  clear V
  go_enter Try.func80, Try.ntmps80
  go_wp2
  go_ret
  exact ⟨rfl, (by repeat (first | exact Below.refl _ _ | refine Below.alloc ?_ (by first | omega | (simp; done) | (simp; omega)) _ | refine Below.setCell ?_ (by first | omega | (simp; done) | (simp; omega)) _ | refine Below.drew ?_))⟩
set_option maxHeartbeats 1000000 in
set_option maxRecDepth 100000 in
theorem valueOf_any {lo st p x : Nat} {n bi : Int} (V : VlP lo st n p x) (w : World) :
    Calls Try.prog 30 #[scV lo st bi, .int .i64 n] w fun e w' => e = .returned (.float .f32 x) ∧ Below w.heap.size w w' := by
  have a1 := fun (W : World) => run_float_arith (P := Try.prog) W .mul 22 .f32 _ _ _ V.e1
  have a2 := fun (W : World) => run_float_arith (P := Try.prog) W .add 22 .f32 _ _ _ V.e2
  clear V
  go_enter Try.func30, Try.ntmps30
  go_wp2
  go_ret
  exact ⟨rfl, (by repeat (first | exact Below.refl _ _ | refine Below.alloc ?_ (by first | omega | (simp; done) | (simp; omega)) _ | refine Below.setCell ?_ (by first | omega | (simp; done) | (simp; omega)) _ | refine Below.drew ?_))⟩

set_option maxHeartbeats 1000000 in
set_option maxRecDepth 100000 in
theorem value_no {lo st : Nat} {bi n : Int} (h0 : sclE lo st bi ≠ 0) (w : World) :
    Calls Try.prog 27 #[scV lo st bi, .int .i64 n] w fun e w' => e = .returned (.tuple #[.float .f32 0, .int .i64 (sclE lo st bi)]) ∧ Below w.heap.size w w' := by
  have CS := Lib.hid (fun w => checkScale_any lo st bi w)
  have h1 : (sclE lo st bi != 0) = true := by simpa using h0
  generalize sclE lo st bi = er at *
  clear h0
  go_enter Try.func27, Try.ntmps27
  go_wp2_with (first
    | (go_at_call 25; go_loud ((with_reducible refine (CS.out _).mono ?_); rintro en w2 ⟨rfl, hb2⟩; have HB2 := Lib.hid (show Below w.heap.size w w2 from Below.trans (by repeat (first | exact Below.refl _ _ | refine Below.alloc ?_ (by first | omega | (simp; done) | (simp; omega)) _ | refine Below.setCell ?_ (by first | omega | (simp; done) | (simp; omega)) _ | refine Below.drew ?_)) (Below.mono hb2 (by first | omega | (simp; done) | (simp; omega)))); clear hb2)))
  go_ret2
  exact ⟨rfl, HB2.out⟩
set_option maxHeartbeats 1000000 in
set_option maxRecDepth 100000 in
theorem value_far {lo st : Nat} {bi mo n : Int} (h0 : sclE lo st bi = 0) (P : Pw bi mo) (hn : withinB n 0 mo = false) (w : World) :
    Calls Try.prog 27 #[scV lo st bi, .int .i64 n] w fun e w' => e = .returned (.tuple #[.float .f32 0, .int .i64 3]) ∧ Below w.heap.size w w' := by
  have CS := Lib.hid (fun w => checkScale_any lo st bi w)
  rw [h0] at CS
  have GR := Lib.hid (fun w => greatest_any P w)
  have WI := Lib.hid (fun w => within_any n 0 mo w)
  rw [hn] at WI
  clear h0 hn P
  go_enter Try.func27, Try.ntmps27
  go_wp2_with (first
    | (go_at_call 25; go_loud ((with_reducible refine (CS.out _).mono ?_); rintro en w2 ⟨rfl, hb2⟩; have HS2 := Lib.hid (blkStay (b := w.heap.size) (o := .cells #[.float .f32 lo, .float .f32 st, .int .i64 bi] 36) (by (first | (rw [heap_alloc_get, if_pos rfl]; done) | ((simp only [heap_alloc_get, heap_size_alloc, if_true]) <;> ((repeat' split) <;> first | rfl | omega)))) hb2); have HB2 := Lib.hid (show Below w.heap.size w w2 from Below.trans (by repeat (first | exact Below.refl _ _ | refine Below.alloc ?_ (by first | omega | (simp; done) | (simp; omega)) _ | refine Below.setCell ?_ (by first | omega | (simp; done) | (simp; omega)) _ | refine Below.drew ?_)) (Below.mono hb2 (by first | omega | (simp; done) | (simp; omega)))); clear hb2; obtain ⟨cC, fC, zC⟩ := blkC HS2.out))
    | (go_at_call 78; (with_reducible refine Calls.mono (GR.out _) ?_); rintro e w' ⟨rfl, rfl⟩)
    | (go_at_call 79; (with_reducible refine Calls.mono (WI.out _) ?_); rintro e w' ⟨rfl, rfl⟩))
  go_ret2
  exact ⟨rfl, HB2.out⟩
set_option maxHeartbeats 1000000 in
set_option maxRecDepth 100000 in
theorem value_in {lo st p x : Nat} {bi mo n : Int} (h0 : sclE lo st bi = 0) (P : Pw bi mo) (hn : withinB n 0 mo = true) (V : VlP lo st n p x) (z : Nat) (er : Int) (hz : er = fldE 1 (fun _ => x)) (hz2 : z = if er = 0 then x else 0) (w : World) :
    Calls Try.prog 27 #[scV lo st bi, .int .i64 n] w fun e w' => e = .returned (.tuple #[.float .f32 z, .int .i64 er]) ∧ Below w.heap.size w w' := by
  have CS := Lib.hid (fun w => checkScale_any lo st bi w)
  rw [h0] at CS
  have GR := Lib.hid (fun w => greatest_any P w)
  have WI := Lib.hid (fun w => within_any n 0 mo w)
  have OL := Lib.hid (fun w => ofLevel_any (bi := bi) V w)
  have CH := Lib.hid (fun p w (hh : w.heap[p]? = some (flObj x)) => CheckHeights_row p 0 1 1 (fun _ => x) (by omega) w (flAt_one_of hh))
  rw [hn] at WI
  rw [← hz] at CH
  clear h0 hn P V hz
  by_cases c : er = 0
  · rw [if_pos c] at hz2
    subst hz2 c
    go_enter Try.func27, Try.ntmps27
    go_wp2_with (first
      | (go_at_call 25; go_loud ((with_reducible refine (CS.out _).mono ?_); rintro en w2 ⟨rfl, hb2⟩; have HS2 := Lib.hid (blkStay (b := w.heap.size) (o := .cells #[.float .f32 lo, .float .f32 st, .int .i64 bi] 36) (by (first | (rw [heap_alloc_get, if_pos rfl]; done) | ((simp only [heap_alloc_get, heap_size_alloc, if_true]) <;> ((repeat' split) <;> first | rfl | omega)))) hb2); have HB2 := Lib.hid (show Below w.heap.size w w2 from Below.trans (by repeat (first | exact Below.refl _ _ | refine Below.alloc ?_ (by first | omega | (simp; done) | (simp; omega)) _ | refine Below.setCell ?_ (by first | omega | (simp; done) | (simp; omega)) _ | refine Below.drew ?_)) (Below.mono hb2 (by first | omega | (simp; done) | (simp; omega)))); clear hb2; obtain ⟨cC, fC, zC⟩ := blkC HS2.out))
      | (go_at_call 78; (with_reducible refine Calls.mono (GR.out _) ?_); rintro e w' ⟨rfl, rfl⟩)
      | (go_at_call 79; (with_reducible refine Calls.mono (WI.out _) ?_); rintro e w' ⟨rfl, rfl⟩)
      | (go_at_call 80; (with_reducible refine Calls.mono (OL.out _) ?_); rintro e w3 ⟨rfl, hb3⟩; have HB3 := Lib.hid (HB2.out.trans (hb3.mono HB2.out.size)); clear hb3)
      | (go_at_call 76; go_loud (refine (CH.out _ _ (by (first | (rw [heap_alloc_get, if_pos rfl]; done) | ((simp only [heap_alloc_get, heap_size_alloc, if_true]) <;> ((repeat' split) <;> first | rfl | omega))))).mono ?_; rintro e w2 ⟨rfl, rfl⟩)))
    go_ret2
    exact ⟨rfl, HB3.out.alloc HB3.out.size _⟩
  · rw [if_neg c] at hz2
    subst hz2
    have c1 : (er != 0) = true := by simpa using c
    clear c
    go_enter Try.func27, Try.ntmps27
    go_wp2_with (first
      | (go_at_call 25; go_loud ((with_reducible refine (CS.out _).mono ?_); rintro en w2 ⟨rfl, hb2⟩; have HS2 := Lib.hid (blkStay (b := w.heap.size) (o := .cells #[.float .f32 lo, .float .f32 st, .int .i64 bi] 36) (by (first | (rw [heap_alloc_get, if_pos rfl]; done) | ((simp only [heap_alloc_get, heap_size_alloc, if_true]) <;> ((repeat' split) <;> first | rfl | omega)))) hb2); have HB2 := Lib.hid (show Below w.heap.size w w2 from Below.trans (by repeat (first | exact Below.refl _ _ | refine Below.alloc ?_ (by first | omega | (simp; done) | (simp; omega)) _ | refine Below.setCell ?_ (by first | omega | (simp; done) | (simp; omega)) _ | refine Below.drew ?_)) (Below.mono hb2 (by first | omega | (simp; done) | (simp; omega)))); clear hb2; obtain ⟨cC, fC, zC⟩ := blkC HS2.out))
      | (go_at_call 78; (with_reducible refine Calls.mono (GR.out _) ?_); rintro e w' ⟨rfl, rfl⟩)
      | (go_at_call 79; (with_reducible refine Calls.mono (WI.out _) ?_); rintro e w' ⟨rfl, rfl⟩)
      | (go_at_call 80; (with_reducible refine Calls.mono (OL.out _) ?_); rintro e w3 ⟨rfl, hb3⟩; have HB3 := Lib.hid (HB2.out.trans (hb3.mono HB2.out.size)); clear hb3)
      | (go_at_call 76; go_loud (refine (CH.out _ _ (by (first | (rw [heap_alloc_get, if_pos rfl]; done) | ((simp only [heap_alloc_get, heap_size_alloc, if_true]) <;> ((repeat' split) <;> first | rfl | omega))))).mono ?_; rintro e w2 ⟨rfl, rfl⟩)))
    go_ret2
    exact ⟨rfl, HB3.out.alloc HB3.out.size _⟩
end Go.Proofs.Ytkcehbnmcdppkaa

/- min and max of singles that have values. -/
namespace Go.Proofs.Ytkcehbnmcdppkaa
open Go.RowKit Fl
set_option linter.unusedVariables false

theorem max2_val {x y : Nat} {a b : Int} (hx : vS x = some a) (hy : vS y = some b) : ∃ r, Builtin.max2 (.float .f32 x) (.float .f32 y) = pure (.float .f32 r) ∧ vS r = some (if a < b then b else a) ∧ (b < a → r = x) ∧ (a < b → r = y) ∧ (r = x ∨ r = y) := by
  have o : FloatKind.f32.format.order x y = some (compare a b) := order_val hx hy
  unfold Builtin.max2
  dsimp only
  rw [o]
  rcases h : compare a b with _ | _ | _
  · have : a < b := Int.compare_eq_lt.1 h
    exact ⟨y, rfl, by rw [if_pos this]; exact hy, fun q => by omega, fun _ => rfl, .inr rfl⟩
  · have : a = b := Int.compare_eq_eq.1 h
    subst this
    dsimp only
    split
    · exact ⟨y, rfl, by rw [if_neg (by omega)]; exact hy, fun q => by omega, fun q => by omega, .inr rfl⟩
    · exact ⟨x, rfl, by rw [if_neg (by omega)]; exact hx, fun q => by omega, fun q => by omega, .inl rfl⟩
  · have : b < a := Int.compare_eq_gt.1 h
    exact ⟨x, rfl, by rw [if_neg (by omega)]; exact hx, fun _ => rfl, fun q => by omega, .inl rfl⟩
theorem min2_val {x y : Nat} {a b : Int} (hx : vS x = some a) (hy : vS y = some b) : ∃ r, Builtin.min2 (.float .f32 x) (.float .f32 y) = pure (.float .f32 r) ∧ vS r = some (if b < a then b else a) := by
  have o : FloatKind.f32.format.order x y = some (compare a b) := order_val hx hy
  unfold Builtin.min2
  dsimp only
  rw [o]
  rcases h : compare a b with _ | _ | _
  · have : a < b := Int.compare_eq_lt.1 h
    exact ⟨x, rfl, by rw [if_neg (by omega)]; exact hx⟩
  · have : a = b := Int.compare_eq_eq.1 h
    subst this
    dsimp only
    split
    · exact ⟨x, rfl, by rw [if_neg (by omega)]; exact hx⟩
    · exact ⟨y, rfl, by rw [if_neg (by omega)]; exact hy⟩
  · have : b < a := Int.compare_eq_gt.1 h
    exact ⟨y, rfl, by rw [if_pos this]; exact hy⟩

/-- The builtin max of two. -/
theorem run_max_two (ts : Array TypeId) (t : TypeId) {x y : Nat} {a b : Int} (hx : vS x = some a) (hy : vS y = some b) : ∃ r, (∀ w : World, (Builtin.max_ ts t #[.float .f32 x, .float .f32 y]).run Try.prog w = .ok (.float .f32 r) w) ∧ vS r = some (if a < b then b else a) ∧ (b < a → r = x) ∧ (a < b → r = y) ∧ (r = x ∨ r = y) := by
  obtain ⟨r, m, v⟩ := max2_val hx hy
  refine ⟨r, fun w => ?_, v⟩
  show (([Value.float .f32 y]).foldlM Builtin.max2 (Value.float .f32 x)).run Try.prog w = _
  simp only [List.foldlM]
  rw [m]
  rfl

theorem min_fold : ∀ (l : List (Nat × Int)) (x : Nat) (a : Int), vS x = some a → (∀ q ∈ l, vS q.1 = some q.2) → ∃ r m, (∀ w : World, ((l.map fun q => Value.float .f32 q.1).foldlM Builtin.min2 (Value.float .f32 x)).run Try.prog w = .ok (.float .f32 r) w) ∧ vS r = some m ∧ (m < 0 ↔ a < 0 ∨ ∃ q ∈ l, q.2 < 0)
  | [], x, a, hx, _ => ⟨x, a, fun w => rfl, hx, by simp⟩
  | q :: l, x, a, hx, hl => by
    obtain ⟨r, m, v⟩ := min2_val hx (hl q (by simp))
    obtain ⟨r', m', h1, h2, h3⟩ := min_fold l r _ v (fun p hp => hl p (by simp [hp]))
    refine ⟨r', m', fun w => ?_, h2, ?_⟩
    · simp only [List.map_cons, List.foldlM]
      rw [m]
      exact h1 w
    · rw [h3]
      simp only [List.mem_cons, exists_eq_or_imp]
      split <;> constructor
      · rintro (h | h)
        · exact .inr (.inl h)
        · exact .inr (.inr h)
      · rintro (h | h | h)
        · exact .inl (by omega)
        · exact .inl h
        · exact .inr h
      · rintro (h | h)
        · exact .inl h
        · exact .inr (.inr h)
      · rintro (h | h | h)
        · exact .inl h
        · exact .inl (by omega)
        · exact .inr h

/-- The builtin min of seven. -/
theorem run_min_seven (ts : Array TypeId) (t : TypeId) {x1 x2 x3 x4 x5 x6 x7 : Nat} {a1 a2 a3 a4 a5 a6 a7 : Int} (h1 : vS x1 = some a1) (h2 : vS x2 = some a2) (h3 : vS x3 = some a3) (h4 : vS x4 = some a4) (h5 : vS x5 = some a5) (h6 : vS x6 = some a6) (h7 : vS x7 = some a7) :
    ∃ r m, (∀ w : World, (Builtin.min_ ts t #[.float .f32 x1, .float .f32 x2, .float .f32 x3, .float .f32 x4, .float .f32 x5, .float .f32 x6, .float .f32 x7]).run Try.prog w = .ok (.float .f32 r) w) ∧ vS r = some m ∧ (m < 0 ↔ a1 < 0 ∨ a2 < 0 ∨ a3 < 0 ∨ a4 < 0 ∨ a5 < 0 ∨ a6 < 0 ∨ a7 < 0) := by
  obtain ⟨r, m, e, v, i⟩ := min_fold [(x2, a2), (x3, a3), (x4, a4), (x5, a5), (x6, a6), (x7, a7)] x1 a1 h1 (by
    intro q hq
    simp only [List.mem_cons, List.not_mem_nil, or_false] at hq
    rcases hq with rfl | rfl | rfl | rfl | rfl | rfl <;> assumption)
  exact ⟨r, m, fun w => e w, v, by rw [i]; simp⟩
end Go.Proofs.Ytkcehbnmcdppkaa

/- The least and the greatest value of some cells: what is known of a word that holds it. -/
namespace Go.Proofs.Ytkcehbnmcdppkaa
open Go.RowKit Fl
set_option linter.unusedVariables false

/-- The least value of the cells P. -/
def LoIn (v : Nat → Nat) (P : Nat → Prop) (x : Nat) : Prop := ∃ A : Int, vS x = some A ∧ (∃ i, P i ∧ vS (v i) = some A) ∧ ∀ i a, P i → vS (v i) = some a → A ≤ a
/-- The greatest value of the cells P. -/
def HiIn (v : Nat → Nat) (P : Nat → Prop) (x : Nat) : Prop := ∃ A : Int, vS x = some A ∧ (∃ i, P i ∧ vS (v i) = some A) ∧ ∀ i a, P i → vS (v i) = some a → a ≤ A
theorem LoIn.same {v : Nat → Nat} {P : Nat → Prop} {x y : Nat} (hx : LoIn v P x) (hy : LoIn v P y) : ∃ A, vS x = some A ∧ vS y = some A := by
  obtain ⟨A, h1, ⟨i, p1, p2⟩, h3⟩ := hx
  obtain ⟨B, g1, ⟨j, q1, q2⟩, g3⟩ := hy
  have := h3 j B q1 q2
  have := g3 i A p1 p2
  obtain rfl : A = B := by omega
  exact ⟨A, h1, g1⟩
theorem HiIn.same {v : Nat → Nat} {P : Nat → Prop} {x y : Nat} (hx : HiIn v P x) (hy : HiIn v P y) : ∃ A, vS x = some A ∧ vS y = some A := by
  obtain ⟨A, h1, ⟨i, p1, p2⟩, h3⟩ := hx
  obtain ⟨B, g1, ⟨j, q1, q2⟩, g3⟩ := hy
  have := h3 j B q1 q2
  have := g3 i A p1 p2
  obtain rfl : A = B := by omega
  exact ⟨A, h1, g1⟩
theorem LoIn.congr {v : Nat → Nat} {P Q : Nat → Prop} {x : Nat} (h : LoIn v P x) (e : ∀ i, P i ↔ Q i) : LoIn v Q x := by
  obtain ⟨A, h1, ⟨i, p1, p2⟩, h3⟩ := h
  exact ⟨A, h1, ⟨i, (e i).1 p1, p2⟩, fun j a q => h3 j a ((e j).2 q)⟩
theorem HiIn.congr {v : Nat → Nat} {P Q : Nat → Prop} {x : Nat} (h : HiIn v P x) (e : ∀ i, P i ↔ Q i) : HiIn v Q x := by
  obtain ⟨A, h1, ⟨i, p1, p2⟩, h3⟩ := h
  exact ⟨A, h1, ⟨i, (e i).1 p1, p2⟩, fun j a q => h3 j a ((e j).2 q)⟩
theorem LoIn.one {v : Nat → Nat} {k : Nat} (h : hgtB (v k) = true) : LoIn v (fun i => i = k) (v k) := by
  obtain ⟨a, ha, _⟩ := hgt_val h
  exact ⟨a, ha, ⟨k, rfl, ha⟩, fun i b e hb => by subst e; rw [ha] at hb; cases hb; omega⟩
theorem HiIn.one {v : Nat → Nat} {k : Nat} (h : hgtB (v k) = true) : HiIn v (fun i => i = k) (v k) := by
  obtain ⟨a, ha, _⟩ := hgt_val h
  exact ⟨a, ha, ⟨k, rfl, ha⟩, fun i b e hb => by subst e; rw [ha] at hb; cases hb; omega⟩
theorem LoIn.step {v : Nat → Nat} {P : Nat → Prop} {x k : Nat} (h : LoIn v P x) (hk : hgtB (v k) = true) : LoIn v (fun i => P i ∨ i = k) (lesW x (v k)) := by
  obtain ⟨A, h1, ⟨i, p1, p2⟩, h3⟩ := h
  obtain ⟨a, ha, _⟩ := hgt_val hk
  unfold lesW
  rw [f32f, lss_val ha h1]
  by_cases c : a < A
  · rw [decide_eq_true c, if_pos rfl]
    exact ⟨a, ha, ⟨k, .inr rfl, ha⟩, fun j b q hb => by
      rcases q with q | q
      · have := h3 j b q hb; omega
      · subst q; rw [ha] at hb; cases hb; omega⟩
  · rw [decide_eq_false c, if_neg (by decide)]
    exact ⟨A, h1, ⟨i, .inl p1, p2⟩, fun j b q hb => by
      rcases q with q | q
      · exact h3 j b q hb
      · subst q; rw [ha] at hb; cases hb; omega⟩
theorem HiIn.step {v : Nat → Nat} {P : Nat → Prop} {x k : Nat} (h : HiIn v P x) (hk : hgtB (v k) = true) : HiIn v (fun i => P i ∨ i = k) (grtW x (v k)) := by
  obtain ⟨A, h1, ⟨i, p1, p2⟩, h3⟩ := h
  obtain ⟨a, ha, _⟩ := hgt_val hk
  unfold grtW
  rw [f32f, gtr_val ha h1]
  by_cases c : A < a
  · rw [decide_eq_true c, if_pos rfl]
    exact ⟨a, ha, ⟨k, .inr rfl, ha⟩, fun j b q hb => by
      rcases q with q | q
      · have := h3 j b q hb; omega
      · subst q; rw [ha] at hb; cases hb; omega⟩
  · rw [decide_eq_false c, if_neg (by decide)]
    exact ⟨A, h1, ⟨i, .inl p1, p2⟩, fun j b q hb => by
      rcases q with q | q
      · exact h3 j b q hb
      · subst q; rw [ha] at hb; cases hb; omega⟩

theorem LoIn.min {v : Nat → Nat} {P : Nat → Prop} {x k r : Nat} (h : LoIn v P x) (hk : hgtB (v k) = true) (hr : ∀ a b, vS x = some a → vS (v k) = some b → vS r = some (if b < a then b else a)) : LoIn v (fun i => P i ∨ i = k) r := by
  obtain ⟨A, h1, ⟨i, p1, p2⟩, h3⟩ := h
  obtain ⟨a, ha, _⟩ := hgt_val hk
  have e := hr A a h1 ha
  by_cases c : a < A
  · rw [if_pos c] at e
    exact ⟨a, e, ⟨k, .inr rfl, ha⟩, fun j b q hb => by
      rcases q with q | q
      · have := h3 j b q hb; omega
      · subst q; rw [ha] at hb; cases hb; omega⟩
  · rw [if_neg c] at e
    exact ⟨A, e, ⟨i, .inl p1, p2⟩, fun j b q hb => by
      rcases q with q | q
      · exact h3 j b q hb
      · subst q; rw [ha] at hb; cases hb; omega⟩
theorem HiIn.max {v : Nat → Nat} {P : Nat → Prop} {x k r : Nat} (h : HiIn v P x) (hk : hgtB (v k) = true) (hr : ∀ a b, vS x = some a → vS (v k) = some b → vS r = some (if a < b then b else a)) : HiIn v (fun i => P i ∨ i = k) r := by
  obtain ⟨A, h1, ⟨i, p1, p2⟩, h3⟩ := h
  obtain ⟨a, ha, _⟩ := hgt_val hk
  have e := hr A a h1 ha
  by_cases c : A < a
  · rw [if_pos c] at e
    exact ⟨a, e, ⟨k, .inr rfl, ha⟩, fun j b q hb => by
      rcases q with q | q
      · have := h3 j b q hb; omega
      · subst q; rw [ha] at hb; cases hb; omega⟩
  · rw [if_neg c] at e
    exact ⟨A, e, ⟨i, .inl p1, p2⟩, fun j b q hb => by
      rcases q with q | q
      · exact h3 j b q hb
      · subst q; rw [ha] at hb; cases hb; omega⟩
theorem LoIn.val {v : Nat → Nat} {P : Nat → Prop} {x : Nat} (h : LoIn v P x) : ∃ A, vS x = some A := by
  obtain ⟨A, h1, _⟩ := h; exact ⟨A, h1⟩
theorem HiIn.val {v : Nat → Nat} {P : Nat → Prop} {x : Nat} (h : HiIn v P x) : ∃ A, vS x = some A := by
  obtain ⟨A, h1, _⟩ := h; exact ⟨A, h1⟩
theorem run_min_two (ts : Array TypeId) (t : TypeId) {x y : Nat} {a b : Int} (hx : vS x = some a) (hy : vS y = some b) : ∃ r, (∀ w : World, (Builtin.min_ ts t #[.float .f32 x, .float .f32 y]).run Try.prog w = .ok (.float .f32 r) w) ∧ vS r = some (if b < a then b else a) := by
  obtain ⟨r, m, v⟩ := min2_val hx hy
  refine ⟨r, fun w => ?_, v⟩
  show (([Value.float .f32 y]).foldlM Builtin.min2 (Value.float .f32 x)).run Try.prog w = _
  simp only [List.foldlM]
  rw [m]
  rfl
end Go.Proofs.Ytkcehbnmcdppkaa

/- Plain mathematics of binary heaps: what one exchange on the way up or down leaves. -/
namespace Go.Proofs.Ytkcehbnmcdppkaa
set_option linter.unusedVariables false

/-- Two places exchanged. -/
def swp (c : Nat → Nat) (i j : Nat) : Nat → Nat := fun k => if k = i then c j else if k = j then c i else c k
theorem swp_i (c : Nat → Nat) (i j : Nat) : swp c i j i = c j := by unfold swp; rw [if_pos rfl]
theorem swp_j (c : Nat → Nat) (i j : Nat) : swp c i j j = c i := by
  unfold swp
  by_cases h : j = i
  · rw [if_pos h, h]
  · rw [if_neg h, if_pos rfl]
theorem swp_o (c : Nat → Nat) {i j k : Nat} (h1 : k ≠ i) (h2 : k ≠ j) : swp c i j k = c k := by unfold swp; rw [if_neg h1, if_neg h2]

/-- The same cells at the first m places. -/
def SameSet (m : Nat) (c d : Nat → Nat) : Prop := ∀ x, (∃ i, i < m ∧ c i = x) ↔ (∃ i, i < m ∧ d i = x)
theorem SameSet.rfl' {m : Nat} {c : Nat → Nat} : SameSet m c c := fun _ => Iff.rfl
theorem SameSet.trans {m : Nat} {a b c : Nat → Nat} (h : SameSet m a b) (g : SameSet m b c) : SameSet m a c := fun x => (h x).trans (g x)
theorem same_swp {m i j : Nat} {c : Nat → Nat} (hi : i < m) (hj : j < m) : SameSet m c (swp c i j) := by
  intro x
  constructor
  · rintro ⟨k, hk, rfl⟩
    by_cases h1 : k = i
    · exact ⟨j, hj, by rw [swp_j, h1]⟩
    · by_cases h2 : k = j
      · exact ⟨i, hi, by rw [swp_i, h2]⟩
      · exact ⟨k, hk, swp_o c h1 h2⟩
  · rintro ⟨k, hk, rfl⟩
    by_cases h1 : k = i
    · exact ⟨j, hj, by rw [h1, swp_i]⟩
    · by_cases h2 : k = j
      · exact ⟨i, hi, by rw [h2, swp_j]⟩
      · exact ⟨k, hk, (swp_o c h1 h2).symm⟩
theorem SameSet.all {m : Nat} {c d : Nat → Nat} {P : Nat → Prop} (h : SameSet m c d) (hp : ∀ i, i < m → P (c i)) : ∀ i, i < m → P (d i) := fun i hi => by
  obtain ⟨k, hk, e⟩ := (h (d i)).2 ⟨i, hi, rfl⟩
  rw [← e]; exact hp k hk

/-- A heap of m places. -/
def Heap (m : Nat) (K : Nat → Int) (c : Nat → Nat) : Prop := ∀ i, 0 < i → i < m → K (c ((i - 1) / 2)) ≤ K (c i)
/-- A heap but for the place j, which may be too low. -/
def HeapUp (m : Nat) (K : Nat → Int) (c : Nat → Nat) (j : Nat) : Prop :=
  (∀ i, 0 < i → i < m → i ≠ j → K (c ((i - 1) / 2)) ≤ K (c i)) ∧ ∀ i, 0 < i → i < m → (i - 1) / 2 = j → 0 < j → K (c ((j - 1) / 2)) ≤ K (c i)

theorem up_start {m : Nat} {K : Nat → Int} {c d : Nat → Nat} (h : Heap m K c) (e : ∀ i, i < m → d i = c i) : HeapUp (m + 1) K d m :=
  ⟨fun i h0 h1 h2 => by rw [e i (by omega), e _ (by omega)]; exact h i h0 (by omega), fun i h0 h1 h2 => by omega⟩
theorem up_done {m : Nat} {K : Nat → Int} {c : Nat → Nat} {j : Nat} (h : HeapUp m K c j) (hd : j = 0 ∨ ¬ K (c j) < K (c ((j - 1) / 2))) : Heap m K c := by
  intro i h0 h1
  by_cases e : i = j
  · subst e
    rcases hd with hd | hd <;> omega
  · exact h.1 i h0 h1 e
theorem up_swap {m : Nat} {K : Nat → Int} {c : Nat → Nat} {j : Nat} (h : HeapUp m K c j) (h0 : 0 < j) (hl : K (c j) < K (c ((j - 1) / 2))) : HeapUp m K (swp c ((j - 1) / 2) j) ((j - 1) / 2) := by
  obtain ⟨p, hp⟩ : ∃ p, (j - 1) / 2 = p := ⟨_, rfl⟩
  rw [hp] at hl ⊢
  constructor
  · intro i i0 i1 i2
    by_cases e1 : i = j
    · subst e1; rw [hp, swp_i, swp_j]; omega
    · rw [swp_o c i2 e1]
      by_cases e2 : (i - 1) / 2 = p
      · rw [e2, swp_i]
        have := h.1 i i0 i1 e1
        rw [e2] at this; omega
      · by_cases e3 : (i - 1) / 2 = j
        · rw [e3, swp_j]
          have := h.2 i i0 i1 e3 h0
          rwa [hp] at this
        · rw [swp_o c e2 e3]; exact h.1 i i0 i1 e1
  · intro i i0 i1 i2 p0
    have q1 : (p - 1) / 2 ≠ p := by omega
    have q2 : (p - 1) / 2 ≠ j := by omega
    rw [swp_o c q1 q2]
    have a := h.1 p p0 (by omega) (by omega)
    by_cases e1 : i = j
    · subst e1; rw [swp_j]; exact a
    · have e2 : i ≠ p := by omega
      rw [swp_o c e2 e1]
      have b := h.1 i i0 i1 e1
      rw [i2] at b; omega

/-- A heap from the place L on. -/
def HeapFrom (L n : Nat) (K : Nat → Int) (c : Nat → Nat) : Prop := ∀ i, 0 < i → i < n → L ≤ (i - 1) / 2 → K (c ((i - 1) / 2)) ≤ K (c i)
/-- A heap from L on but for the place j, which may be too high. -/
def HeapDown (L n : Nat) (K : Nat → Int) (c : Nat → Nat) (j : Nat) : Prop :=
  (∀ i, 0 < i → i < n → L ≤ (i - 1) / 2 → (i - 1) / 2 ≠ j → K (c ((i - 1) / 2)) ≤ K (c i)) ∧ ∀ i, 0 < i → i < n → (i - 1) / 2 = j → 0 < j → L ≤ (j - 1) / 2 → K (c ((j - 1) / 2)) ≤ K (c i)

theorem down_start {L n : Nat} {K : Nat → Int} {c : Nat → Nat} (h : HeapFrom (L + 1) n K c) : HeapDown L n K c L :=
  ⟨fun i h0 h1 h2 h3 => h i h0 h1 (by omega), fun i _ _ _ _ _ => by omega⟩
theorem down_swap {L n : Nat} {K : Nat → Int} {c : Nat → Nat} {p j : Nat} (h : HeapDown L n K c p) (hL : L ≤ p) (hj0 : 0 < j) (hj : j < n) (hp : (j - 1) / 2 = p) (hl : K (c j) < K (c p))
    (hs : ∀ i, 0 < i → i < n → (i - 1) / 2 = p → K (c j) ≤ K (c i)) : HeapDown L n K (swp c p j) j := by
  have pj : p ≠ j := by omega
  constructor
  · intro i i0 i1 i2 i3
    by_cases e1 : i = j
    · subst e1; rw [hp, swp_i, swp_j]; omega
    · by_cases e2 : (i - 1) / 2 = p
      · have e3 : i ≠ p := by omega
        rw [e2, swp_i, swp_o c e3 e1]; exact hs i i0 i1 e2
      · rw [swp_o c e2 i3]
        by_cases e4 : i = p
        · subst e4
          rw [swp_i]
          exact h.2 j hj0 hj hp (by omega) i2
        · rw [swp_o c e4 e1]; exact h.1 i i0 i1 i2 e2
  · intro i i0 i1 i2 j0 i3
    have e1 : i ≠ j := by omega
    have e2 : i ≠ p := by omega
    rw [hp, swp_i, swp_o c e2 e1]
    have := h.1 i i0 i1 (by omega) (by omega)
    rwa [i2] at this
theorem down_done {L n : Nat} {K : Nat → Int} {c : Nat → Nat} {p : Nat} (h : HeapDown L n K c p) (hs : ∀ i, 0 < i → i < n → (i - 1) / 2 = p → K (c p) ≤ K (c i)) : HeapFrom L n K c := by
  intro i i0 i1 i2
  by_cases e : (i - 1) / 2 = p
  · rw [e]; exact hs i i0 i1 e
  · exact h.1 i i0 i1 i2 e
theorem heap_from {n : Nat} {K : Nat → Int} {c : Nat → Nat} (h : HeapFrom 0 n K c) : Heap n K c := fun i a b => h i a b (Nat.zero_le _)
theorem heap_all {n : Nat} {K : Nat → Int} {c : Nat → Nat} : HeapFrom (n / 2) n K c := fun i a b h => by omega
/-- The children of a place: the lesser one of them is at most as high as both. -/
theorem kids {n p j : Nat} {K : Nat → Int} {c : Nat → Nat} (hj : j = 2 * p + 1 ∨ j = 2 * p + 2) (h1 : j = 2 * p + 1 → 2 * p + 2 < n → K (c (2 * p + 1)) ≤ K (c (2 * p + 2))) (h2 : j = 2 * p + 2 → K (c (2 * p + 2)) ≤ K (c (2 * p + 1))) :
    ∀ i, 0 < i → i < n → (i - 1) / 2 = p → K (c j) ≤ K (c i) := by
  intro i i0 i1 i2
  have hi : i = 2 * p + 1 ∨ i = 2 * p + 2 := by omega
  rcases hj with rfl | rfl <;> rcases hi with rfl | rfl
  · exact Int.le_refl _
  · exact h1 rfl i1
  · exact h2 rfl
  · exact Int.le_refl _
theorem heap_min {m : Nat} {K : Nat → Int} {c : Nat → Nat} (h : Heap m K c) : ∀ i, i < m → K (c 0) ≤ K (c i) := by
  intro i
  induction i using Nat.strongRecOn with
  | ind i ih =>
    intro hi
    by_cases e : i = 0
    · subst e; exact Int.le_refl _
    · have a := h i (by omega) hi
      have b := ih ((i - 1) / 2) (by omega) (by omega)
      omega
/-- The root exchanged with the last place: a heap from 1 on, of one place less. -/
theorem pop_start {m : Nat} {K : Nat → Int} {c : Nat → Nat} (h : Heap (m + 1) K c) : HeapFrom 1 m K (swp c 0 m) := by
  intro i i0 i1 i2
  rw [swp_o c (show i ≠ 0 by omega) (show i ≠ m by omega), swp_o c (show (i - 1) / 2 ≠ 0 by omega) (show (i - 1) / 2 ≠ m by omega)]
  exact h i i0 (by omega)
end Go.Proofs.Ytkcehbnmcdppkaa

/- Plain mathematics of filling: a spill, one step farther; what is known while the lowest cell that has been reached is taken, and goes on. -/
namespace Go.Proofs.Ytkcehbnmcdppkaa
open Go.RowKit Fl
set_option linter.unusedVariables false

/-- The value of a word, 0 where it has none. -/
def vI (x : Nat) : Int := (vS x).getD 0
theorem vI_of {x : Nat} {a : Int} (h : vS x = some a) : vI x = a := by unfold vI; rw [h]; rfl
theorem f32f' : FloatKind.f32.format = Ieee.single := rfl
theorem top_one : vTop = 1048576 * (one : Int) := by
  obtain ⟨J, hJ⟩ : ∃ J : Nat, J = 1074 := ⟨_, rfl⟩
  unfold vTop
  rw [one_pow hJ, Nat.one_mul, show (20 + 1074 : Int).toNat = 20 + J by omega, Nat.pow_add]
  simp

/-- A spill of the rank q. -/
def OkW (q x : Nat) : Prop := ∃ a, vS x = some a ∧ -vTop ≤ a ∧ a ≤ ((4096 * (256 + q) : Nat) : Int) * (one : Int)
/-- A slope. -/
def SlW (sl : Nat) : Prop := ∃ v, vS sl = some v ∧ 0 ≤ v ∧ v ≤ 1024 * (one : Int)
/-- The spill at a cell of the height h, from a spill. -/
def stepW (sl a h : Nat) : Nat := grtW h (addW a sl)

theorem OkW.mono {q r x : Nat} (h : OkW q x) (hq : q ≤ r) : OkW r x := by
  obtain ⟨a, h1, h2, h3⟩ := h
  refine ⟨a, h1, h2, Int.le_trans h3 (Int.mul_le_mul_of_nonneg_right (by omega) (Int.natCast_nonneg _))⟩
theorem OkW.val {q x : Nat} (h : OkW q x) : vS x = some (vI x) := by
  obtain ⟨a, h1, _⟩ := h
  rw [vI_of h1, h1]
theorem hgt_vT {x : Nat} (h : hgtB x = true) : ∃ a, vS x = some a ∧ -vTop ≤ a ∧ a ≤ vTop := by
  unfold hgtB at h
  split at h
  · rename_i a ha
    simp at h
    exact ⟨a, ha, h.1, h.2⟩
  · cases h
theorem hgt_ok {x : Nat} (h : hgtB x = true) : OkW 0 x := by
  obtain ⟨a, ha, h1, h2⟩ := hgt_vT h
  refine ⟨a, ha, h1, Int.le_trans h2 (Int.le_of_eq ?_)⟩
  rw [top_one]; simp
theorem OkW.bd {q x : Nat} (h : OkW q x) (hq : q ≤ 1048576) : Bd 33 x := by
  obtain ⟨a, ha, h1, h2⟩ := h
  obtain ⟨J, hJ⟩ : ∃ J : Nat, J = 1074 := ⟨_, rfl⟩
  refine bd_val' (j := 1074 + 33) ha rfl ?_
  rw [top_one, one_pow hJ] at h1
  rw [one_pow hJ] at h2
  rw [show 1074 + 33 = J + 33 by omega, Nat.pow_add]
  have h3 : ((4096 * (256 + q) : Nat) : Int) * ((2 ^ J : Nat) : Int) ≤ 8589934592 * ((2 ^ J : Nat) : Int) := Int.mul_le_mul_of_nonneg_right (by omega) (Int.natCast_nonneg _)
  generalize 2 ^ J = T at *
  omega
theorem SlW.bd {sl : Nat} (h : SlW sl) : Bd 33 sl := by
  obtain ⟨a, ha, h1, h2⟩ := h
  obtain ⟨J, hJ⟩ : ∃ J : Nat, J = 1074 := ⟨_, rfl⟩
  refine bd_val' (j := 1074 + 33) ha rfl ?_
  rw [one_pow hJ] at h2
  rw [show 1074 + 33 = J + 33 by omega, Nat.pow_add]
  generalize 2 ^ J = T at *
  omega

theorem step_parts {sl a h q : Nat} (ha : OkW q a) (hs : SlW sl) (hh : hgtB h = true) (hq : q ≤ 1048576) :
    ∃ r, floatBits .add .f32 a sl = some r ∧ addW a sl = r ∧ Same2 .add 34 a sl ∧ vS r = some (rdS (vI a + vI sl)) ∧ OkW (q + 1) (stepW sl a h) ∧
      vI h ≤ vI (stepW sl a h) ∧ rdS (vI a + vI sl) ≤ vI (stepW sl a h) ∧ (vI (stepW sl a h) = vI h ∨ vI (stepW sl a h) = rdS (vI a + vI sl)) ∧ vI a ≤ vI (stepW sl a h) := by
  have r2 : Same2 .add (33 + 1) a sl := add_same (by omega) (ha.bd hq) hs.bd
  obtain ⟨r, r1, br⟩ := same_ex r2
  have hw : addW a sl = r := by unfold addW; rw [r1]; rfl
  obtain ⟨av, va, a1, a2⟩ := ha
  obtain ⟨sv, vs, s1, s2⟩ := hs
  obtain ⟨hv, vh, h1, h2⟩ := hgt_vT hh
  obtain ⟨J, hJ⟩ : ∃ J : Nat, J = 1074 := ⟨_, rfl⟩
  have up : av + sv ≤ ((4096 * (256 + (q + 1)) : Nat) : Int) * (one : Int) := by
    have e : ((4096 * (256 + (q + 1)) : Nat) : Int) * (one : Int) = ((4096 * (256 + q) : Nat) : Int) * (one : Int) + 4096 * (one : Int) := by
      rw [← Int.add_mul]; exact congrArg (· * (one : Int)) (by omega)
    rw [e]; omega
  have nb : (av + sv).natAbs < 2 ^ (J + 34) := by
    rw [top_one] at a1
    have h3 : ((4096 * (256 + (q + 1)) : Nat) : Int) * (one : Int) ≤ 8589934592 * (one : Int) := Int.mul_le_mul_of_nonneg_right (by omega) (Int.natCast_nonneg _)
    rw [one_pow hJ] at *
    rw [Nat.pow_add]
    have := Nat.two_pow_pos J
    generalize 2 ^ J = T at *
    omega
  have vr := vS_add (B := J + 34) r1 va vs nb (by omega)
  have rup : rdS (av + sv) ≤ ((4096 * (256 + (q + 1)) : Nat) : Int) * (one : Int) := by
    have h := rdS_mono up
    have e : rdS (((4096 * (256 + (q + 1)) : Nat) : Int) * (one : Int)) = ((4096 * (256 + (q + 1)) : Nat) : Int) * (one : Int) := by
      refine rdS_exact (((256 + (q + 1) : Nat)) : Int) (J + 12) (by omega) (by omega) ?_
      rw [one_pow hJ, Nat.pow_add, show (2 : Nat) ^ 12 = 4096 from rfl]
      generalize 2 ^ J = T
      generalize 256 + (q + 1) = z
      simp only [Int.natCast_mul]
      grind
    rwa [e] at h
  have rlo : av ≤ rdS (av + sv) := by
    have := rdS_mono (show av ≤ av + sv by omega)
    rwa [rdS_self va] at this
  have hup : hv ≤ ((4096 * (256 + (q + 1)) : Nat) : Int) * (one : Int) := by
    refine Int.le_trans h2 ?_
    rw [top_one]
    exact Int.mul_le_mul_of_nonneg_right (by omega) (Int.natCast_nonneg _)
  refine ⟨r, r1, hw, r2, by rw [vI_of va, vI_of vs]; exact vr, ?_⟩
  rw [vI_of va, vI_of vs, vI_of vh]
  unfold stepW grtW
  rw [hw, f32f', gtr_val vr vh]
  by_cases c : hv < rdS (av + sv)
  · rw [if_pos (by simpa using c), vI_of vr]
    exact ⟨⟨_, vr, by omega, rup⟩, by omega, by omega, .inr rfl, by omega⟩
  · rw [if_neg (by simpa using c), vI_of vh]
    exact ⟨⟨_, vh, h1, hup⟩, by omega, by omega, .inl rfl, by omega⟩
/-- A greater spill comes to no lesser one. -/
theorem step_mono {sl a b h q : Nat} (ha : OkW q a) (hb : OkW q b) (hs : SlW sl) (hh : hgtB h = true) (hq : q ≤ 1048576) (hab : vI a ≤ vI b) : vI (stepW sl a h) ≤ vI (stepW sl b h) := by
  obtain ⟨_, _, _, _, _, _, a1, a2, a3, _⟩ := step_parts ha hs hh hq
  obtain ⟨_, _, _, _, _, _, b1, b2, b3, _⟩ := step_parts hb hs hh hq
  have := rdS_mono (show vI a + vI sl ≤ vI b + vI sl by omega)
  omega

/-- How many cells have not been reached. -/
def unr (n : Nat) (R : Nat → Bool) : Nat := ((List.range n).filter fun k => !R k).length
def updB (R : Nat → Bool) (k : Nat) : Nat → Bool := fun i => if i = k then true else R i
def updW (s : Nat → Nat) (k x : Nat) : Nat → Nat := fun i => if i = k then x else s i
theorem updB_same (R : Nat → Bool) (k : Nat) : updB R k k = true := by unfold updB; rw [if_pos rfl]
theorem updB_other (R : Nat → Bool) {i k : Nat} (h : i ≠ k) : updB R k i = R i := by unfold updB; rw [if_neg h]
theorem updW_same (s : Nat → Nat) (k x : Nat) : updW s k x k = x := by unfold updW; rw [if_pos rfl]
theorem updW_other (s : Nat → Nat) {i k x : Nat} (h : i ≠ k) : updW s k x i = s i := by unfold updW; rw [if_neg h]
theorem updB_mono {R : Nat → Bool} {i k : Nat} (h : R i = true) : updB R k i = true := by unfold updB; split <;> first | rfl | exact h
theorem unr_upd {n : Nat} {R : Nat → Bool} {k : Nat} (hk : k < n) (h : R k = false) : unr n (updB R k) + 1 = unr n R := by
  unfold unr
  induction n with
  | zero => omega
  | succ n ih =>
    rw [List.range_succ, List.filter_append, List.filter_append, List.length_append, List.length_append]
    by_cases e : k = n
    · subst e
      have e1 : ((List.range k).filter fun i => !updB R k i) = ((List.range k).filter fun i => !R i) := by
        apply List.filter_congr
        intro i hi
        rw [updB_other R (by have := List.mem_range.1 hi; omega)]
      rw [e1]
      simp [updB_same, h]
    · have := ih (by omega)
      have e2 : ([n].filter fun i => !updB R k i) = ([n].filter fun i => !R i) := by
        apply List.filter_congr
        intro i hi
        rw [updB_other R (by simp at hi; omega)]
      rw [e2]
      omega
theorem unr_le (n : Nat) (R : Nat → Bool) : unr n R ≤ n := by
  unfold unr
  exact Nat.le_trans (List.length_filter_le _ _) (by simp)
end Go.Proofs.Ytkcehbnmcdppkaa

/- Plain mathematics of filling: what is known at each head of the loop, and behind it. -/
namespace Go.Proofs.Ytkcehbnmcdppkaa
open Go.RowKit Fl
set_option linter.unusedVariables false

/-- Where the cells lie: the neighbour in a direction, the border, the heights, the slope. -/
structure Gnd where
  n : Nat
  nb : Nat → Nat → Option Nat
  bd : Nat → Bool
  h : Nat → Nat
  sl : Nat
/-- What holds of the ground. -/
structure GndOk (g : Gnd) : Prop where
  n1 : 1 ≤ g.n
  n2 : g.n ≤ 65536
  lt : ∀ x d k, g.nb x d = some k → k < g.n
  hgt : ∀ k, k < g.n → hgtB (g.h k) = true
  slo : SlW g.sl
  back : ∀ x d k, x < g.n → d < 8 → g.nb x d = some k → ∃ e, e < 8 ∧ g.nb k e = some x

def gnb (g : Gnd) (x k : Nat) : Prop := ∃ d, d < 8 ∧ g.nb x d = some k

/-- The lowest cells first: s spills, R reached, c the heap of m places; D: done, E: done or being done; rk: ranks, t: how many were reached on the way. -/
structure Fil (g : Gnd) (s : Nat → Nat) (R : Nat → Bool) (c : Nat → Nat) (m : Nat) (D E : Nat → Prop) (rk : Nat → Nat) (t : Nat) : Prop where
  cells : ∀ i, i < m → c i < g.n ∧ R (c i) = true
  bor : ∀ k, k < g.n → g.bd k = true → R k = true ∧ s k = g.h k
  fin : ∀ k, k < g.n → R k = true → OkW (rk k) (s k) ∧ rk k ≤ t
  par : ∀ k, k < g.n → R k = true → g.bd k = false → ∃ p, p < g.n ∧ gnb g p k ∧ E p ∧ rk p < rk k ∧ s k = stepW g.sl (s p) (g.h k)
  reach : ∀ x, x < g.n → E x → R x = true
  don : ∀ x, x < g.n → D x → ∀ k, gnb g x k → R k = true ∧ (g.bd k = false → vI (s k) ≤ vI (stepW g.sl (s x) (g.h k)))
  seen : ∀ x, x < g.n → R x = true → E x ∨ ∃ i, i < m ∧ c i = x
  low : ∀ x, x < g.n → E x → ∀ i, i < m → vI (s x) ≤ vI (s (c i))
  heap : Heap m (fun x => vI (s x)) c
  cnt : t + unr g.n R ≤ g.n

/-- The cell x is being done: its directions of P are. -/
structure Doing (g : Gnd) (s : Nat → Nat) (R : Nat → Bool) (c : Nat → Nat) (m : Nat) (D : Nat → Prop) (rk : Nat → Nat) (t x : Nat) (P : Nat → Prop) : Prop where
  f : Fil g s R c m D (fun y => D y ∨ y = x) rk t
  x1 : x < g.n
  x2 : ∀ y, y < g.n → D y → vI (s y) ≤ vI (s x)
  upto : ∀ e, P e → ∀ k, g.nb x e = some k → R k = true ∧ (g.bd k = false → vI (s k) ≤ vI (stepW g.sl (s x) (g.h k)))

theorem Fil.okc {g : Gnd} {s : Nat → Nat} {R : Nat → Bool} {c : Nat → Nat} {m : Nat} {D E : Nat → Prop} {rk : Nat → Nat} {t : Nat} (F : Fil g s R c m D E rk t) : ∀ i, i < m → c i < g.n ∧ vS (s (c i)) = some (vI (s (c i))) := fun i hi => by
  obtain ⟨a, b⟩ := F.cells i hi
  exact ⟨a, (F.fin _ a b).1.val⟩

/-- The lowest cell is taken. -/
theorem fil_pop {g : Gnd} {s : Nat → Nat} {R : Nat → Bool} {c c' : Nat → Nat} {m : Nat} {D : Nat → Prop} {rk : Nat → Nat} {t : Nat} (F : Fil g s R c (m + 1) D D rk t)
    (hs : SameSet m (swp c 0 m) c') (hh : Heap m (fun x => vI (s x)) c') : Doing g s R c' m D rk t (c 0) (fun _ => False) := by
  have mem : ∀ i, i < m → ∃ j, j < m + 1 ∧ c j = c' i := fun i hi => by
    obtain ⟨j, hj, e⟩ := (hs (c' i)).2 ⟨i, hi, rfl⟩
    by_cases e0 : j = 0
    · subst e0; rw [swp_i] at e; exact ⟨m, by omega, e⟩
    · rw [swp_o c e0 (by omega)] at e; exact ⟨j, by omega, e⟩
  have mem' : ∀ j, j < m + 1 → c j = c 0 ∨ ∃ i, i < m ∧ c' i = c j := fun j hj => by
    by_cases e0 : j = 0
    · left; rw [e0]
    · right
      by_cases e1 : j = m
      · subst e1; exact (hs (c j)).1 ⟨0, by omega, swp_i c 0 j⟩
      · exact (hs (c j)).1 ⟨j, by omega, swp_o c e0 e1⟩
  have x1 := (F.cells 0 (by omega)).1
  refine ⟨⟨fun i hi => ?_, F.bor, F.fin, fun k h1 h2 h3 => ?_, fun x h1 h2 => ?_, F.don, fun x h1 h2 => ?_, fun x h1 h2 i hi => ?_, hh, F.cnt⟩, x1, fun y h1 h2 => F.low y h1 h2 0 (by omega), fun e he => he.elim⟩
  · obtain ⟨j, hj, e⟩ := mem i hi; rw [← e]; exact F.cells j hj
  · obtain ⟨p, a, b, c0, d, e⟩ := F.par k h1 h2 h3; exact ⟨p, a, b, .inl c0, d, e⟩
  · rcases h2 with h2 | rfl
    · exact F.reach x h1 h2
    · exact (F.cells 0 (by omega)).2
  · rcases F.seen x h1 h2 with a | ⟨j, hj, e⟩
    · exact .inl (.inl a)
    · rcases mem' j hj with q | ⟨i, hi, q⟩
      · exact .inl (.inr (by rw [← e]; exact q))
      · exact .inr ⟨i, hi, by rw [q]; exact e⟩
  · obtain ⟨j, hj, e⟩ := mem i hi
    rw [← e]
    rcases h2 with h2 | rfl
    · exact F.low x h1 h2 j hj
    · exact heap_min F.heap j hj

theorem rk_le {g : Gnd} (G : GndOk g) {s : Nat → Nat} {R : Nat → Bool} {c : Nat → Nat} {m : Nat} {D E : Nat → Prop} {rk : Nat → Nat} {t : Nat} (F : Fil g s R c m D E rk t) {k : Nat} (h1 : k < g.n) (h2 : R k = true) : rk k ≤ 1048575 := by
  have := (F.fin k h1 h2).2; have := F.cnt; have := G.n2; omega
/-- A neighbour that has been reached already. -/
theorem doing_old {g : Gnd} (G : GndOk g) {s : Nat → Nat} {R : Nat → Bool} {c : Nat → Nat} {m : Nat} {D : Nat → Prop} {rk : Nat → Nat} {t x d k : Nat} {P : Nat → Prop} (F : Doing g s R c m D rk t x P) (h : g.nb x d = some k) (hr : R k = true) : Doing g s R c m D rk t x (fun e => P e ∨ e = d) :=
  ⟨F.f, F.x1, F.x2, fun e he k' hk => by
    by_cases q : e = d
    · subst q
      rw [h] at hk
      have := Option.some.inj hk
      subst this
      have k1 := G.lt _ _ _ h
      refine ⟨hr, fun hb => ?_⟩
      obtain ⟨p, p1, p2, p3, p4, p5⟩ := F.f.par k k1 hr hb
      rw [p5]
      have xr : R x = true := F.f.reach x F.x1 (.inr rfl)
      have pr : R p = true := F.f.reach p p1 p3
      have hv : vI (s p) ≤ vI (s x) := by
        rcases p3 with p3 | rfl
        · exact F.x2 p p1 p3
        · exact Int.le_refl _
      exact step_mono (q := 1048576) ((F.f.fin p p1 pr).1.mono (by have := rk_le G F.f p1 pr; omega)) ((F.f.fin x F.x1 xr).1.mono (by have := rk_le G F.f F.x1 xr; omega)) G.slo (G.hgt k k1) (by omega) hv
    · exact F.upto e (he.resolve_right q) k' hk⟩

/-- A neighbour that is reached now. -/
theorem doing_new {g : Gnd} (G : GndOk g) {s : Nat → Nat} {R : Nat → Bool} {c c' : Nat → Nat} {m : Nat} {D : Nat → Prop} {rk : Nat → Nat} {t x d k : Nat} {P : Nat → Prop} (F : Doing g s R c m D rk t x P) (hd : d < 8) (h : g.nb x d = some k) (hr : R k = false)
    (hs : SameSet (m + 1) (updW c m k) c') (hh : Heap (m + 1) (fun y => vI (updW s k (stepW g.sl (s x) (g.h k)) y)) c') :
    Doing g (updW s k (stepW g.sl (s x) (g.h k))) (updB R k) c' (m + 1) D (updW rk k (rk x + 1)) (t + 1) x (fun e => P e ∨ e = d) := by
  have k1 := G.lt _ _ _ h
  have xr : R x = true := F.f.reach x F.x1 (.inr rfl)
  have xk : x ≠ k := fun e => by subst e; rw [hr] at xr; cases xr
  have ne : ∀ {y}, R y = true → y ≠ k := fun hy e => by subst e; rw [hr] at hy; cases hy
  have hb : g.bd k = false := by
    cases e : g.bd k with
    | false => rfl
    | true => have := (F.f.bor k k1 e).1; rw [hr] at this; cases this
  have rx := rk_le G F.f F.x1 xr
  obtain ⟨_, _, _, _, _, okN, n1, n2, n3, n4⟩ := step_parts (F.f.fin x F.x1 xr).1 G.slo (G.hgt k k1) (by omega : rk x ≤ 1048576)
  obtain ⟨N, hN⟩ : ∃ N, stepW g.sl (s x) (g.h k) = N := ⟨_, rfl⟩
  have mem : ∀ i, i < m + 1 → c' i = k ∨ ∃ j, j < m ∧ c j = c' i := fun i hi => by
    obtain ⟨j, hj, e⟩ := (hs (c' i)).2 ⟨i, hi, rfl⟩
    by_cases e0 : j = m
    · subst e0; rw [updW_same] at e; exact .inl e.symm
    · rw [updW_other c e0] at e; exact .inr ⟨j, by omega, e⟩
  have keep : ∀ y, y < g.n → (y ≠ k) → updB R k y = true → R y = true := fun y _ h1 h2 => by rwa [updB_other R h1] at h2
  have up : ∀ x', x' < g.n → R x' = true → ∀ k', R k' = true ∧ (g.bd k' = false → vI (s k') ≤ vI (stepW g.sl (s x') (g.h k'))) →
      updB R k k' = true ∧ (g.bd k' = false → vI (updW s k (stepW g.sl (s x) (g.h k)) k') ≤ vI (stepW g.sl (updW s k (stepW g.sl (s x) (g.h k)) x') (g.h k'))) := fun x' _ hx' k' q => by
    refine ⟨updB_mono q.1, fun hb' => ?_⟩
    rw [updW_other s (ne q.1), updW_other s (ne hx')]
    exact q.2 hb'
  refine ⟨⟨fun i hi => ?_, fun y h1 h2 => ?_, fun y h1 h2 => ?_, fun y h1 h2 h3 => ?_, fun y h1 h2 => updB_mono (F.f.reach y h1 h2), fun y h1 h2 k' hk => ?_, fun y h1 h2 => ?_, fun y h1 h2 i hi => ?_, hh, ?_⟩, F.x1, fun y h1 h2 => ?_, fun e he k' hk => ?_⟩
  · rcases mem i hi with e | ⟨j, hj, e⟩
    · rw [e]; exact ⟨k1, updB_same R k⟩
    · rw [← e]; exact ⟨(F.f.cells j hj).1, updB_mono (F.f.cells j hj).2⟩
  · obtain ⟨a, b⟩ := F.f.bor y h1 h2
    exact ⟨updB_mono a, by rw [updW_other s (ne a)]; exact b⟩
  · by_cases e : y = k
    · subst e
      rw [updW_same, updW_same]
      exact ⟨okN, by have := (F.f.fin x F.x1 xr).2; omega⟩
    · have a := keep y h1 e h2
      rw [updW_other s e, updW_other rk e]
      exact ⟨(F.f.fin y h1 a).1, by have := (F.f.fin y h1 a).2; omega⟩
  · by_cases e : y = k
    · subst e
      exact ⟨x, F.x1, ⟨d, hd, h⟩, .inr rfl, by rw [updW_same, updW_other rk xk]; omega, by rw [updW_same, updW_other s xk]⟩
    · obtain ⟨p, p1, p2, p3, p4, p5⟩ := F.f.par y h1 (keep y h1 e h2) h3
      have pr := F.f.reach p p1 p3
      exact ⟨p, p1, p2, p3, by rw [updW_other rk e, updW_other rk (ne pr)]; exact p4, by rw [updW_other s e, updW_other s (ne pr)]; exact p5⟩
  · exact up y h1 (F.f.reach y h1 (.inl h2)) k' (F.f.don y h1 h2 k' hk)
  · by_cases e : y = k
    · subst e
      right
      exact (hs y).1 ⟨m, by omega, updW_same c m y⟩
    · rcases F.f.seen y h1 (keep y h1 e h2) with a | ⟨j, hj, q⟩
      · exact .inl a
      · right
        obtain ⟨i, hi, w⟩ := (hs (c j)).1 ⟨j, by omega, updW_other c (by omega)⟩
        exact ⟨i, hi, by rw [w]; exact q⟩
  · have yr := F.f.reach y h1 h2
    rw [updW_other s (ne yr)]
    have yx : vI (s y) ≤ vI (s x) := by
      rcases h2 with h2 | rfl
      · exact F.x2 y h1 h2
      · exact Int.le_refl _
    rcases mem i hi with e | ⟨j, hj, e⟩
    · rw [e, updW_same]; omega
    · rw [← e, updW_other s (ne (F.f.cells j hj).2)]
      exact F.f.low y h1 h2 j hj
  · have a := unr_upd k1 hr
    have b := F.f.cnt
    omega
  · rw [updW_other s (ne (F.f.reach y h1 (.inl h2))), updW_other s xk]; exact F.x2 y h1 h2
  · by_cases q : e = d
    · subst q
      rw [h] at hk
      have := Option.some.inj hk
      subst this
      exact ⟨updB_same R k, fun _ => by rw [updW_same, updW_other s xk]; exact Int.le_refl _⟩
    · exact up x F.x1 xr k' (F.upto e (he.resolve_right q) k' hk)

/-- A cell that has been done. -/
theorem doing_done {g : Gnd} {s : Nat → Nat} {R : Nat → Bool} {c : Nat → Nat} {m : Nat} {D : Nat → Prop} {rk : Nat → Nat} {t x : Nat} {P : Nat → Prop} (F : Doing g s R c m D rk t x P) (hP : ∀ e, e < 8 → ∀ k, g.nb x e = some k → P e) : Fil g s R c m (fun y => D y ∨ y = x) (fun y => D y ∨ y = x) rk t :=
  ⟨F.f.cells, F.f.bor, F.f.fin, F.f.par, F.f.reach, fun y h1 h2 k hk => by
    rcases h2 with h2 | rfl
    · exact F.f.don y h1 h2 k hk
    · obtain ⟨d, hd, e⟩ := hk
      exact F.upto d (hP d hd k e) k e, F.f.seen, F.f.low, F.f.heap, F.f.cnt⟩

/-- What filling comes to. -/
structure Spills (g : Gnd) (s : Nat → Nat) : Prop where
  bor : ∀ k, k < g.n → g.bd k = true → s k = g.h k
  fin : ∀ k, k < g.n → OkW 65536 (s k)
  par : ∃ rk : Nat → Nat, ∀ k, k < g.n → g.bd k = false → ∃ p, p < g.n ∧ gnb g p k ∧ rk p < rk k ∧ s k = stepW g.sl (s p) (g.h k)
  least : ∀ x, x < g.n → ∀ k, gnb g x k → g.bd k = false → vI (s k) ≤ vI (stepW g.sl (s x) (g.h k))

/-- From each cell a way leads to the border. -/
def Joined (g : Gnd) : Prop := ∃ far : Nat → Nat, ∀ k, k < g.n → g.bd k = false → ∃ p, p < g.n ∧ gnb g p k ∧ far p < far k

theorem fil_end {g : Gnd} (G : GndOk g) (J : Joined g) {s : Nat → Nat} {R : Nat → Bool} {c : Nat → Nat} {D : Nat → Prop} {rk : Nat → Nat} {t : Nat} (F : Fil g s R c 0 D D rk t) : Spills g s := by
  obtain ⟨far, hf⟩ := J
  have all : ∀ f k, k < g.n → far k ≤ f → R k = true := by
    intro f
    induction f with
    | zero =>
      intro k hk h0
      cases e : g.bd k with
      | true => exact (F.bor k hk e).1
      | false => obtain ⟨p, _, _, p3⟩ := hf k hk e; omega
    | succ f ih =>
      intro k hk h0
      cases e : g.bd k with
      | true => exact (F.bor k hk e).1
      | false =>
        obtain ⟨p, p1, p2, p3⟩ := hf k hk e
        have pr := ih p p1 (by omega)
        rcases F.seen p p1 pr with a | ⟨i, hi, _⟩
        · exact (F.don p p1 a k p2).1
        · omega
  have allD : ∀ k, k < g.n → D k := fun k hk => by
    rcases F.seen k hk (all _ k hk (Nat.le_refl _)) with a | ⟨i, hi, _⟩
    · exact a
    · omega
  refine ⟨fun k h1 h2 => (F.bor k h1 h2).2, fun k h1 => ?_, ⟨rk, fun k h1 h2 => ?_⟩, fun x h1 k h2 h3 => (F.don x h1 (allD x h1) k h2).2 h3⟩
  · obtain ⟨a, b⟩ := F.fin k h1 (all _ k h1 (Nat.le_refl _))
    exact a.mono (by have := F.cnt; have := G.n2; omega)
  · obtain ⟨p, p1, p2, _, p4, p5⟩ := F.par k h1 (all _ k h1 (Nat.le_refl _)) h2
    exact ⟨p, p1, p2, p4, p5⟩
end Go.Proofs.Ytkcehbnmcdppkaa

/- Plain mathematics of a region's cells: numbers, directions, neighbours, the border. -/
namespace Go.Proofs.Ytkcehbnmcdppkaa
open Go.RowKit Fl
set_option linter.unusedVariables false

/-- The step of a direction. -/
def dxI (d : Nat) : Int := if d = 0 ∨ d = 1 ∨ d = 7 then 1 else if d = 3 ∨ d = 4 ∨ d = 5 then -1 else 0
def dyI (d : Nat) : Int := if d = 1 ∨ d = 2 ∨ d = 3 then 1 else if d = 5 ∨ d = 6 ∨ d = 7 then -1 else 0
theorem dx_in (d : Nat) : -1 ≤ dxI d ∧ dxI d ≤ 1 := by unfold dxI; split <;> (try split) <;> omega
theorem dy_in (d : Nat) : -1 ≤ dyI d ∧ dyI d ≤ 1 := by unfold dyI; split <;> (try split) <;> omega

/-- The neighbour of the cell k in the direction d. -/
def nbI (W H : Nat) (k d : Nat) : Option Nat :=
  if 0 ≤ ((k % W : Nat) : Int) + dxI d ∧ ((k % W : Nat) : Int) + dxI d < W ∧ 0 ≤ ((k / W : Nat) : Int) + dyI d ∧ ((k / W : Nat) : Int) + dyI d < H
  then some ((((k / W : Nat) : Int) + dyI d) * W + (((k % W : Nat) : Int) + dxI d)).toNat else none
def bdB (W H : Nat) (k : Nat) : Bool := decide (k % W = 0 ∨ k / W = 0 ∨ k % W + 1 = W ∨ k / W + 1 = H)

theorem cell_parts {W H k : Nat} (hk : k < W * H) : 1 ≤ W ∧ k % W < W ∧ k / W < H ∧ k = k / W * W + k % W := by
  have hW : 0 < W := by
    rcases Nat.eq_zero_or_pos W with e | e
    · subst e; rw [Nat.zero_mul] at hk; omega
    · exact e
  refine ⟨hW, Nat.mod_lt _ hW, Nat.div_lt_of_lt_mul hk, ?_⟩
  have := Nat.div_add_mod k W
  rw [Nat.mul_comm] at this; omega
theorem cell_mk {W x y : Nat} (hx : x < W) : (y * W + x) % W = x ∧ (y * W + x) / W = y := by
  constructor
  · rw [Nat.mul_comm, Nat.mul_add_mod, Nat.mod_eq_of_lt hx]
  · rw [Nat.mul_comm, Nat.mul_add_div (by omega), Nat.div_eq_of_lt hx, Nat.add_zero]
theorem cell_lt {W H x y : Nat} (hx : x < W) (hy : y < H) : y * W + x < W * H := by
  have : (y + 1) * W ≤ H * W := Nat.mul_le_mul_right _ hy
  rw [Nat.succ_mul, Nat.mul_comm H W] at this; omega

/-- A neighbour, by its column and its row. -/
theorem nbI_some {W H k d m : Nat} (h : nbI W H k d = some m) : ∃ x y : Nat, (x : Int) = ((k % W : Nat) : Int) + dxI d ∧ (y : Int) = ((k / W : Nat) : Int) + dyI d ∧ x < W ∧ y < H ∧ m = y * W + x := by
  unfold nbI at h
  split at h
  · rename_i c
    obtain ⟨c1, c2, c3, c4⟩ := c
    have e := Option.some.inj h
    obtain ⟨x, hx⟩ : ∃ x : Nat, (x : Int) = ((k % W : Nat) : Int) + dxI d := ⟨_, Int.toNat_of_nonneg c1⟩
    obtain ⟨y, hy⟩ : ∃ y : Nat, (y : Int) = ((k / W : Nat) : Int) + dyI d := ⟨_, Int.toNat_of_nonneg c3⟩
    refine ⟨x, y, hx, hy, by omega, by omega, ?_⟩
    rw [← hx, ← hy] at e
    rw [← e, show ((y : Int) * (W : Int) + (x : Int)) = ((y * W + x : Nat) : Int) by simp]
    rfl
  · cases h
theorem nbI_mk {W H k d x y : Nat} (hx : (x : Int) = ((k % W : Nat) : Int) + dxI d) (hy : (y : Int) = ((k / W : Nat) : Int) + dyI d) (h1 : x < W) (h2 : y < H) : nbI W H k d = some (y * W + x) := by
  unfold nbI
  rw [← hx, ← hy, if_pos ⟨by omega, by omega, by omega, by omega⟩, show ((y : Int) * (W : Int) + (x : Int)) = ((y * W + x : Nat) : Int) by simp]
  rfl
theorem nbI_lt {W H k d m : Nat} (h : nbI W H k d = some m) : m < W * H := by
  obtain ⟨x, y, _, _, h1, h2, rfl⟩ := nbI_some h
  exact cell_lt h1 h2
theorem nbI_back {W H k d m : Nat} (hk : k < W * H) (hd : d < 8) (h : nbI W H k d = some m) : ∃ e, e < 8 ∧ nbI W H m e = some k := by
  obtain ⟨x, y, hx, hy, h1, h2, rfl⟩ := nbI_some h
  obtain ⟨_, a, b, c⟩ := cell_parts hk
  obtain ⟨q1, q2⟩ := cell_mk (y := y) h1
  have opp : ∃ e, e < 8 ∧ dxI e = - dxI d ∧ dyI e = - dyI d := by
    have : d = 0 ∨ d = 1 ∨ d = 2 ∨ d = 3 ∨ d = 4 ∨ d = 5 ∨ d = 6 ∨ d = 7 := by omega
    rcases this with rfl | rfl | rfl | rfl | rfl | rfl | rfl | rfl
    · exact ⟨4, by decide, by decide, by decide⟩
    · exact ⟨5, by decide, by decide, by decide⟩
    · exact ⟨6, by decide, by decide, by decide⟩
    · exact ⟨7, by decide, by decide, by decide⟩
    · exact ⟨0, by decide, by decide, by decide⟩
    · exact ⟨1, by decide, by decide, by decide⟩
    · exact ⟨2, by decide, by decide, by decide⟩
    · exact ⟨3, by decide, by decide, by decide⟩
  obtain ⟨e, e8, ex, ey⟩ := opp
  refine ⟨e, e8, ?_⟩
  have := nbI_mk (W := W) (H := H) (k := y * W + x) (d := e) (x := k % W) (y := k / W) (by rw [q1, ex]; omega) (by rw [q2, ey]; omega) a b
  rw [this, ← c]
theorem bdB_iff {W H k : Nat} : bdB W H k = true ↔ (k % W = 0 ∨ k / W = 0 ∨ k % W + 1 = W ∨ k / W + 1 = H) := by unfold bdB; simp
/-- A cell that is not of the border has all eight neighbours. -/
theorem nbI_inner {W H k d : Nat} (hk : k < W * H) (hb : bdB W H k = false) : ∃ m, nbI W H k d = some m := by
  obtain ⟨_, a, b, c⟩ := cell_parts hk
  have nb : ¬ (k % W = 0 ∨ k / W = 0 ∨ k % W + 1 = W ∨ k / W + 1 = H) := fun h => by rw [bdB_iff.2 h] at hb; cases hb
  obtain ⟨x1, x2⟩ := dx_in d
  obtain ⟨y1, y2⟩ := dy_in d
  have mk := fun x y => nbI_mk (W := W) (H := H) (k := k) (d := d) (x := x) (y := y)
  clear c
  generalize k % W = p at *
  generalize k / W = q at *
  exact ⟨_, mk ((p : Int) + dxI d).toNat ((q : Int) + dyI d).toNat (by omega) (by omega) (by omega) (by omega)⟩

/-- The ground of a field. -/
def gndOf (W H : Nat) (v : Nat → Nat) (sl : Nat) : Gnd := ⟨W * H, nbI W H, bdB W H, v, sl⟩
theorem gnd_ok {W H sl : Nat} {v : Nat → Nat} (h1 : 1 ≤ W * H) (h2 : W * H ≤ 65536) (hv : ∀ k, k < W * H → hgtB (v k) = true) (hs : SlW sl) : GndOk (gndOf W H v sl) :=
  ⟨h1, h2, fun _ _ _ h => nbI_lt h, hv, hs, fun _ _ _ hx hd h => nbI_back hx hd h⟩
theorem gnd_joined (W H sl : Nat) (v : Nat → Nat) : Joined (gndOf W H v sl) := by
  refine ⟨fun k => k % W, fun k hk hb => ?_⟩
  have hk' : k < W * H := hk
  obtain ⟨_, a, b, c⟩ := cell_parts hk'
  have nb : ¬ (k % W = 0 ∨ k / W = 0 ∨ k % W + 1 = W ∨ k / W + 1 = H) := fun h => by
    have : bdB W H k = true := bdB_iff.2 h
    have hb' : bdB W H k = false := hb
    rw [this] at hb'; cases hb'
  have hx : k % W - 1 < W := by omega
  obtain ⟨q1, q2⟩ := cell_mk (y := k / W) hx
  refine ⟨k / W * W + (k % W - 1), cell_lt hx b, ⟨0, by omega, ?_⟩, ?_⟩
  · show nbI W H (k / W * W + (k % W - 1)) 0 = some k
    rw [nbI_mk (x := k % W) (y := k / W) (by rw [q1]; have : dxI 0 = 1 := rfl; omega) (by rw [q2]; have : dyI 0 = 0 := rfl; omega) a b, ← c]
  · show (k / W * W + (k % W - 1)) % W < k % W
    rw [q1]; omega
end Go.Proofs.Ytkcehbnmcdppkaa

/- Contracts: the places and the neighbours of cells, as water reckons them. -/
namespace Go.Proofs.Ytkcehbnmcdppkaa
open Go.RowKit Fl
set_option linter.unusedVariables false

abbrev ptV (x y : Int) : Value := .agg #[.int .i64 x, .int .i64 y]
abbrev ptO (x y : Int) : Obj := .cells #[.int .i64 x, .int .i64 y] 73

set_option maxHeartbeats 1000000 in
theorem place_any (X Y : Int) (W H i : Nat) (w : World) (hX1 : -4194304 ≤ X) (hX2 : X ≤ 4194304) (hY1 : -4194304 ≤ Y) (hY2 : Y ≤ 4194304) (hW1 : 1 ≤ W) (hW2 : W ≤ 512) (hi : i < 65536) :
    Calls Try.prog 159 #[reg X Y W H, .int .i64 i] w fun e w' => e = .returned (ptV (X + ((i % W : Nat) : Int)) (Y + ((i / W : Nat) : Int))) ∧ Below w.heap.size w w' := by
  obtain ⟨a, ha⟩ : ∃ a : Nat, a = i % W := ⟨_, rfl⟩
  obtain ⟨b, hb'⟩ : ∃ b : Nat, b = i / W := ⟨_, rfl⟩
  have b1 : (a : Int) < 512 := by have := Nat.mod_lt i (show 0 < W by omega); omega
  have b2 : (b : Int) < 65536 := by have := Nat.div_le_self i W; omega
  have t1 : (i : Int).tmod (W : Int) = (a : Int) := by rw [ha]; rw [Int.tmod_eq_emod_of_nonneg (by omega)]; simp
  have t2 : (i : Int).tdiv (W : Int) = (b : Int) := by rw [hb']; rw [Int.tdiv_eq_ediv_of_nonneg (by omega)]; simp
  have t3 : (i : Int) % (W : Int) = (a : Int) := by rw [ha]; simp
  have t4 : (i : Int) / (W : Int) = (b : Int) := by rw [hb']; simp
  have u1 : IntKind.i64.wrap (X + (a : Int)) = X + a := IntWalk.i64_in _ (by omega)
  have u2 : IntKind.i64.wrap (Y + (b : Int)) = Y + b := IntWalk.i64_in _ (by omega)
  have u3 : IntKind.i64.wrap (b : Int) = b := IntWalk.i64_in _ (by omega)
  have w0 : ¬ ((W : Int) = 0) := by omega
  have w0' : ¬ (W = 0) := by omega
  have t6 : i % W = a := ha.symm
  have t7 : i / W = b := hb'.symm
  have w1 : (1 : Int) ≤ (W : Int) := by omega
  have i0 : (0 : Int) ≤ (i : Int) := by omega
  rw [t6, t7]
  clear ha hb'
  go_enter Try.func159, Try.ntmps159
  go_wp2
  go_region
  all_goals go_wp2
  all_goals refine bodyPost_ret (v := ptV (X + (a : Int)) (Y + (b : Int))) (by simp [results, Try.results159, go_sem]) rfl ?_
  all_goals exact ⟨rfl, by repeat (first | exact Below.refl _ _ | refine Below.drew ?_ | refine Below.alloc ?_ (by simp; try omega) _ | refine Below.setCell ?_ (by simp; try omega) _)⟩

/-- Whether a region has a place. -/
def hasB (X Y W H x y : Int) : Bool := withinB x X (X + W - 1) && withinB y Y (Y + H - 1)

set_option maxHeartbeats 1000000 in
theorem has_any (X Y W H x y : Int) (w : World) (hX1 : -16777216 ≤ X) (hX2 : X ≤ 16777216) (hY1 : -16777216 ≤ Y) (hY2 : Y ≤ 16777216) (hW1 : 0 ≤ W) (hW2 : W ≤ 512) (hH1 : 0 ≤ H) (hH2 : H ≤ 512) :
    Calls Try.prog 177 #[reg X Y W H, .int .i64 x, .int .i64 y] w fun e w' => e = .returned (.bool (hasB X Y W H x y)) ∧ w.alloc (regObj X Y W H) = w' := by
  unfold hasB
  have W1 := Lib.hid (fun w => within_any x X (X + W - 1) w)
  have W2 := Lib.hid (fun w => within_any y Y (Y + H - 1) w)
  generalize withinB x X (X + W - 1) = a at *
  generalize withinB y Y (Y + H - 1) = b at *
  cases a with
  | false =>
    go_enter Try.func177, Try.ntmps177
    go_wp2_with (first | (go_at_call 79; (with_reducible refine (W1.out _).mono ?_); rintro e w' ⟨rfl, rfl⟩) | (go_at_call 79; (with_reducible refine (W2.out _).mono ?_); rintro e w' ⟨rfl, rfl⟩))
    go_ret
    exact ⟨by simp, rfl⟩
  | true =>
    go_enter Try.func177, Try.ntmps177
    go_wp2_with (first | (go_at_call 79; (with_reducible refine (W1.out _).mono ?_); rintro e w' ⟨rfl, rfl⟩) | (go_at_call 79; (with_reducible refine (W2.out _).mono ?_); rintro e w' ⟨rfl, rfl⟩))
    go_ret
    exact ⟨by simp, rfl⟩

set_option maxHeartbeats 1000000 in
theorem indexI_any (X Y W H x y : Int) (w : World) (hX1 : -16777216 ≤ X) (hX2 : X ≤ 16777216) (hY1 : -16777216 ≤ Y) (hY2 : Y ≤ 16777216) (hW1 : 0 ≤ W) (hW2 : W ≤ 512)
    (h1 : -16777216 ≤ x) (h2 : x ≤ 16777216) (h3 : -16777216 ≤ y) (h4 : y ≤ 16777216) :
    Calls Try.prog 112 #[reg X Y W H, .int .i64 x, .int .i64 y] w fun e w' => e = .returned (.int .i64 ((y - Y) * W + (x - X))) ∧ w.alloc (regObj X Y W H) = w' := by
  have q1 : (y - Y) * W ≤ 33554432 * W := Int.mul_le_mul_of_nonneg_right (by omega) hW1
  have q2 : (-33554432) * W ≤ (y - Y) * W := Int.mul_le_mul_of_nonneg_right (by omega) hW1
  have e2 : wrap64 ((y - Y) * W) = (y - Y) * W := IntWalk.wrap64_in _ ⟨by omega, by omega⟩
  have e3 : wrap64 ((y - Y) * W + x) = (y - Y) * W + x := IntWalk.wrap64_in _ ⟨by omega, by omega⟩
  have e4 : wrap64 ((y - Y) * W + x - X) = (y - Y) * W + (x - X) := by rw [IntWalk.wrap64_in _ ⟨by omega, by omega⟩]; omega
  clear q1 q2
  go_enter Try.func112, Try.ntmps112
  go_wp2
  go_ret
  exact ⟨ret_int e4, rfl⟩

/-- A neighbour of the cell k, as water reckons it. -/
theorem bes_some {X Y : Int} {W H k d m : Nat} (hk : k < W * H) (h : nbI W H k d = some m) :
    (Y + ((k / W : Nat) : Int) + dyI d - Y) * (W : Int) + (X + ((k % W : Nat) : Int) + dxI d - X) = (m : Int) ∧ hasB X Y W H (X + ((k % W : Nat) : Int) + dxI d) (Y + ((k / W : Nat) : Int) + dyI d) = true := by
  obtain ⟨x, y, hx, hy, h1, h2, rfl⟩ := nbI_some h
  constructor
  · rw [show Y + ((k / W : Nat) : Int) + dyI d - Y = (y : Int) by omega, show X + ((k % W : Nat) : Int) + dxI d - X = (x : Int) by omega]; simp
  · unfold hasB; rw [Bool.and_eq_true, withinB_iff, withinB_iff]; omega
theorem bes_none {X Y : Int} {W H k d : Nat} (h : nbI W H k d = none) : hasB X Y W H (X + ((k % W : Nat) : Int) + dxI d) (Y + ((k / W : Nat) : Int) + dyI d) = false := by
  cases e : hasB X Y W H (X + ((k % W : Nat) : Int) + dxI d) (Y + ((k / W : Nat) : Int) + dyI d) with
  | false => rfl
  | true =>
    unfold hasB at e
    rw [Bool.and_eq_true, withinB_iff, withinB_iff] at e
    generalize hp : k % W = p at *
    generalize hq : k / W = q at *
    have := nbI_mk (W := W) (H := H) (k := k) (d := d) (x := ((p : Int) + dxI d).toNat) (y := ((q : Int) + dyI d).toNat) (by rw [hp]; omega) (by rw [hq]; omega) (by omega) (by omega)
    rw [h] at this; cases this
end Go.Proofs.Ytkcehbnmcdppkaa

/- Contracts: the reference's RegionError, Place, Mixed; the law's within, when, first (of two). -/
namespace Go.Proofs.Ytkcehbnmcdppkaa
open Go.RowKit Fl
set_option linter.unusedVariables false

set_option maxHeartbeats 400000 in
theorem qRegionError_any (x y ww hh : Int) (w : World) :
    Calls Try.prog 83 #[reg x y ww hh] w fun e w' => e = .returned (.int .i64 (checkR x y ww hh)) ∧ w' = w.alloc (regObj x y ww hh) := by
  go_enter Try.func83, Try.ntmps83
  go_wp2
  all_goals go_ret
  all_goals refine ⟨ret_int (Eq.symm ?_), rfl⟩
  all_goals first
    | exact checkR_range (by simp only [withinB_no]; omega)
    | exact checkR_large (by simp only [withinB_iff]; omega) (by simp only [withinB_iff]; omega) (by omega)
    | exact checkR_place (by simp only [withinB_iff]; omega) (by simp only [withinB_iff]; omega) (by omega) (by simp only [withinB_no]; omega)
    | exact checkR_ok (by simp only [withinB_iff]; omega) (by simp only [withinB_iff]; omega) (by omega) (by simp only [withinB_iff]; omega) (by simp only [withinB_iff]; omega)

end Go.Proofs.Ytkcehbnmcdppkaa
