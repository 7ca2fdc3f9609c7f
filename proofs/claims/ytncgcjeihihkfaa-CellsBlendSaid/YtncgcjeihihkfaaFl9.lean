/- Comparisons of singles, by their values; which words are finite, which are heights. -/
import Derived.Test.YtncgcjeihihkfaaFl8
namespace Go.Proofs.Ytncgcjeihihkfaa.Fl
open Ieee

/-- The value of a finite single in units of 2 ^ -1074; none: an infinity or a NaN. -/
def vS (x : Nat) : Option Int := match single.read x with | .number s m p => some (vOf s m p) | _ => none

theorem vS_num {x : Nat} {s : Bool} {m : Nat} {p : Int} (h : single.read x = .number s m p) : vS x = some (vOf s m p) := by unfold vS; rw [h]

theorem order_num {s t : Bool} {m n : Nat} {i j : Int} (hi : -1074 ≤ i) (hj : -1074 ≤ j) :
    Datum.order (.number s m i) (.number t n j) = some (compare (vOf s m i) (vOf t n j)) := by
  have e1 : vOf s m i = signed s m (i - min i j).toNat * ((2 ^ (min i j + 1074).toNat : Nat) : Int) := by
    unfold vOf; rw [← signed_scale]; congr 1; omega
  have e2 : vOf t n j = signed t n (j - min i j).toNat * ((2 ^ (min i j + 1074).toNat : Nat) : Int) := by
    unfold vOf; rw [← signed_scale]; congr 1; omega
  have hp : (0 : Int) < ((2 ^ (min i j + 1074).toNat : Nat) : Int) := Int.natCast_pos.2 (Nat.two_pow_pos _)
  simp only [Datum.order]
  congr 1
  generalize signed s m (i - min i j).toNat = a at *
  generalize signed t n (j - min i j).toNat = b at *
  rw [e1, e2]
  generalize ((2 ^ (min i j + 1074).toNat : Nat) : Int) = u at *
  have l : a * u < b * u ↔ a < b := ⟨fun h => Int.lt_of_mul_lt_mul_right h (Int.le_of_lt hp), fun h => Int.mul_lt_mul_of_pos_right h hp⟩
  have e : a * u = b * u ↔ a = b := ⟨fun h => Int.eq_of_mul_eq_mul_right (by omega) h, fun h => by rw [h]⟩
  show compareOfLessAndEq a b = compareOfLessAndEq (a * u) (b * u)
  unfold compareOfLessAndEq
  simp only [l, e]

theorem order_val {x y : Nat} {a b : Int} (hx : vS x = some a) (hy : vS y = some b) : single.order x y = some (compare a b) := by
  unfold vS at hx hy
  unfold Format.order
  split at hx
  · rename_i s m p h1
    split at hy
    · rename_i t n q h2
      cases hx; cases hy
      rw [h1, h2]
      have := (read_single h1).low
      have := (read_single h2).low
      exact order_num (by omega) (by omega)
    · cases hy
  · cases hx

theorem order_none {x y : Nat} (h : (single.read x).isNaN = true ∨ (single.read y).isNaN = true) : single.order x y = none := by
  unfold Format.order
  rcases h with h | h
  · cases hx : single.read x <;> simp_all [Datum.isNaN, Datum.order]
  · cases hx : single.read x <;> cases hy : single.read y <;> simp_all [Datum.isNaN, Datum.order]

theorem cmp_lt {a b : Int} : (compare a b == Ordering.lt) = decide (a < b) := by
  show (compareOfLessAndEq a b == Ordering.lt) = _
  unfold compareOfLessAndEq
  by_cases h : a < b
  · simp [h]
  · by_cases h' : a = b <;> simp [h, h']
theorem cmp_eq {a b : Int} : (compare a b == Ordering.eq) = decide (a = b) := by
  show (compareOfLessAndEq a b == Ordering.eq) = _
  unfold compareOfLessAndEq
  by_cases h : a < b
  · have : a ≠ b := by omega
    simp [h, this]
  · by_cases h' : a = b <;> simp [h, h']
theorem cmp_gt {a b : Int} : (compare a b == Ordering.gt) = decide (b < a) := by
  show (compareOfLessAndEq a b == Ordering.gt) = _
  unfold compareOfLessAndEq
  by_cases h : a < b
  · have : ¬ b < a := by omega
    simp [h, this]
  · by_cases h' : a = b
    · simp [h']
    · have : b < a := by omega
      simp [h, h', this]

theorem some_beq (a b : Ordering) : (some a == some b) = (a == b) := rfl

/-- '<=' on singles, by the values. -/
theorem leq_val {x y : Nat} {a b : Int} (hx : vS x = some a) (hy : vS y = some b) : (single.order x y == some .lt || single.order x y == some .eq) = decide (a ≤ b) := by
  rw [order_val hx hy, some_beq, some_beq, cmp_lt, cmp_eq, ← Bool.decide_or]
  exact decide_eq_decide.2 (by omega)
theorem lss_val {x y : Nat} {a b : Int} (hx : vS x = some a) (hy : vS y = some b) : (single.order x y == some .lt) = decide (a < b) := by
  rw [order_val hx hy, some_beq, cmp_lt]
theorem gtr_val {x y : Nat} {a b : Int} (hx : vS x = some a) (hy : vS y = some b) : (single.order x y == some .gt) = decide (b < a) := by
  rw [order_val hx hy, some_beq, cmp_gt]
theorem geq_val {x y : Nat} {a b : Int} (hx : vS x = some a) (hy : vS y = some b) : (single.order x y == some .gt || single.order x y == some .eq) = decide (b ≤ a) := by
  rw [order_val hx hy, some_beq, some_beq, cmp_gt, cmp_eq, ← Bool.decide_or]
  exact decide_eq_decide.2 (by omega)
theorem eql_val {x y : Nat} {a b : Int} (hx : vS x = some a) (hy : vS y = some b) : (single.order x y == some .eq) = decide (a = b) := by
  rw [order_val hx hy, some_beq, cmp_eq]

/-- The greatest single, and 2 ^ 20, in units. -/
def vMax : Int := ((16777215 * 2 ^ (104 + 1074 : Int).toNat : Nat) : Int)
def vTop : Int := ((1 * 2 ^ (20 + 1074 : Int).toNat : Nat) : Int)
theorem readMax : single.read 2139095039 = .number false 16777215 104 := by decide
theorem readMin : single.read 4286578687 = .number true 16777215 104 := by decide
theorem readTop : single.read 1233125376 = .number false 8388608 (-3) := by decide
theorem readBot : single.read 3380609024 = .number true 8388608 (-3) := by decide
theorem vS_max : vS 2139095039 = some vMax := by rw [vS_num readMax]; unfold vOf vMax; rw [signed_eq]; simp only [Bool.false_eq_true, if_false, Int.one_mul]
theorem vS_min : vS 4286578687 = some (-vMax) := by rw [vS_num readMin]; unfold vOf vMax; rw [signed_eq]; simp only [if_true, Int.neg_mul, Int.one_mul]
theorem top_eq : 8388608 * 2 ^ (-3 + 1074 : Int).toNat = 1 * 2 ^ (20 + 1074 : Int).toNat := by
  rw [show (8388608 : Nat) = 2 ^ 23 by decide, ← Nat.pow_add, Nat.one_mul]; exact congrArg (2 ^ ·) (by omega)
theorem vS_top : vS 1233125376 = some vTop := by rw [vS_num readTop]; unfold vOf vTop; rw [signed_eq, top_eq]; simp only [Bool.false_eq_true, if_false, Int.one_mul]
theorem vS_bot : vS 3380609024 = some (-vTop) := by rw [vS_num readBot]; unfold vOf vTop; rw [signed_eq, top_eq]; simp only [if_true, Int.neg_mul, Int.one_mul]

theorem vS_le {x : Nat} {a : Int} (h : vS x = some a) : -vMax ≤ a ∧ a ≤ vMax := by
  unfold vS at h
  split at h
  · rename_i s m p hx
    cases h
    obtain ⟨h1, h2, h3, _⟩ := read_single hx
    have : m * 2 ^ (p + 1074).toNat ≤ 16777215 * 2 ^ (104 + 1074 : Int).toNat := Nat.mul_le_mul (by omega) (two_le (by omega))
    unfold vOf vMax
    rw [signed_eq]
    generalize m * 2 ^ (p + 1074).toNat = A at *
    generalize 16777215 * 2 ^ (104 + 1074 : Int).toNat = B at *
    cases s <;> simp <;> omega
  · cases h

/-- Is x finite? Is x a height? -/
def finB (x : Nat) : Bool := (vS x).isSome
def hgtB (x : Nat) : Bool := match vS x with | some a => decide (-vTop ≤ a) && decide (a ≤ vTop) | none => false

theorem vS_none {x : Nat} (h : vS x = none) : (∃ s, single.read x = .infinity s) ∨ (single.read x).isNaN = true := by
  unfold vS at h
  cases hx : single.read x with
  | number s m p => rw [hx] at h; cases h
  | infinity s => exact .inl ⟨s, rfl⟩
  | nan s t => right; rfl

theorem between_none {x c d : Nat} {a b : Int} (h : vS x = none) (hc : vS c = some a) (hd : vS d = some b) :
    ((single.order c x == some .lt || single.order c x == some .eq) && (single.order x d == some .lt || single.order x d == some .eq)) = false := by
  have numOf : ∀ {y : Nat} {v : Int}, vS y = some v → ∃ s m p, single.read y = .number s m p := by
    intro y v hy
    unfold vS at hy
    split at hy
    · exact ⟨_, _, _, by assumption⟩
    · cases hy
  obtain ⟨s1, m1, p1, r1⟩ := numOf hc
  obtain ⟨s2, m2, p2, r2⟩ := numOf hd
  rcases vS_none h with ⟨s, hs⟩ | hn
  · unfold Format.order
    rw [hs, r1, r2]
    cases s <;> simp [Datum.order]
  · rw [order_none (.inr hn), order_none (.inl hn)]; rfl

theorem isFinite_eq (x : Nat) : ((single.order 4286578687 x == some .lt || single.order 4286578687 x == some .eq) && (single.order x 2139095039 == some .lt || single.order x 2139095039 == some .eq)) = finB x := by
  cases h : vS x with
  | none => rw [between_none h vS_min vS_max]; unfold finB; rw [h]; rfl
  | some a =>
    obtain ⟨h1, h2⟩ := vS_le h
    rw [leq_val vS_min h, leq_val h vS_max]
    unfold finB; rw [h]; simp [h1, h2]

theorem isHeight_eq (x : Nat) : ((single.order 3380609024 x == some .lt || single.order 3380609024 x == some .eq) && (single.order x 1233125376 == some .lt || single.order x 1233125376 == some .eq)) = hgtB x := by
  cases h : vS x with
  | none => rw [between_none h vS_bot vS_top]; unfold hgtB; rw [h]
  | some a => rw [leq_val vS_bot h, leq_val h vS_top]; unfold hgtB; rw [h]

theorem hgt_fin {x : Nat} (h : hgtB x = true) : finB x = true := by
  unfold hgtB at h; unfold finB
  cases hx : vS x with
  | none => rw [hx] at h; cases h
  | some a => rfl

theorem hgt_bd {x : Nat} (h : hgtB x = true) : Bd 20 x := by
  unfold hgtB at h
  cases hx : vS x with
  | none => rw [hx] at h; cases h
  | some a =>
    rw [hx] at h
    simp only [Bool.and_eq_true, decide_eq_true_eq] at h
    unfold vS at hx
    split at hx
    · rename_i s m p hr
      cases hx
      refine ⟨s, m, p, hr, ?_⟩
      unfold vOf vTop at h
      rw [signed_eq, Nat.one_mul] at h
      rw [show 1074 + 20 = (20 + 1074 : Int).toNat by omega]
      generalize m * 2 ^ (p + 1074).toNat = A at *
      generalize 2 ^ (20 + 1074 : Int).toNat = B at *
      cases s <;> simp at h <;> omega
    · cases hx

theorem bd_hgt {x : Nat} (h : Bd 20 x) : hgtB x = true := by
  obtain ⟨s, m, p, hr, hb⟩ := h
  unfold hgtB
  rw [vS_num hr]
  simp only [Bool.and_eq_true, decide_eq_true_eq]
  unfold vOf vTop
  rw [signed_eq, Nat.one_mul]
  rw [show 1074 + 20 = (20 + 1074 : Int).toNat by omega] at hb
  generalize m * 2 ^ (p + 1074).toNat = A at *
  generalize 2 ^ (20 + 1074 : Int).toNat = B at *
  cases s <;> simp <;> omega

theorem bd_up {j k x : Nat} (h : Bd j x) (hk : j ≤ k) : Bd k x := by
  obtain ⟨s, m, p, h1, h2⟩ := h
  exact ⟨s, m, p, h1, Nat.le_trans h2 (Nat.pow_le_pow_right (by omega) (by omega))⟩
end Go.Proofs.Ytncgcjeihihkfaa.Fl
