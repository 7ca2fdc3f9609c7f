/- Plain mathematics of filling: a spill, one step farther; what is known while the lowest cell that has been reached is taken, and goes on. -/
import Derived.Test.YtnbpapbpiknnnabDoorOps
import Derived.Test.YtnbpapbpiknnnabDoorFl13
import Derived.Test.YtnbpapbpiknnnabDoorHpM
namespace Go.Proofs.YtnbpapbpiknnnabDoor
open Go.RowKit Fl
set_option linter.unusedVariables false

/-- The value of a word, 0 where it has none. -/
def vI (x : Nat) : Int := (vS x).getD 0
theorem vI_of {x : Nat} {a : Int} (h : vS x = some a) : vI x = a := by unfold vI; rw [h]; rfl
theorem f32f' : FloatKind.f32.format = Ieee.single := rfl
theorem top_one : vTop = 1048576 * (one : Int) := by
  obtain ⟨J, hJ⟩ : ∃ J : Nat, J = 1074 := ⟨_, rfl⟩
  unfold vTop
  rw [one_pow hJ, Nat.one_mul, show (20 + 1074 : Int).toNat = 20 + J by omega, Nat.pow_add]
  simp

/-- A spill of the rank q. -/
def OkW (q x : Nat) : Prop := ∃ a, vS x = some a ∧ -vTop ≤ a ∧ a ≤ ((4096 * (256 + q) : Nat) : Int) * (one : Int)
/-- A slope. -/
def SlW (sl : Nat) : Prop := ∃ v, vS sl = some v ∧ 0 ≤ v ∧ v ≤ 1024 * (one : Int)
/-- The spill at a cell of the height h, from a spill. -/
def stepW (sl a h : Nat) : Nat := grtW h (addW a sl)

theorem OkW.mono {q r x : Nat} (h : OkW q x) (hq : q ≤ r) : OkW r x := by
  obtain ⟨a, h1, h2, h3⟩ := h
  refine ⟨a, h1, h2, Int.le_trans h3 (Int.mul_le_mul_of_nonneg_right (by omega) (Int.natCast_nonneg _))⟩
theorem OkW.val {q x : Nat} (h : OkW q x) : vS x = some (vI x) := by
  obtain ⟨a, h1, _⟩ := h
  rw [vI_of h1, h1]
theorem hgt_val {x : Nat} (h : hgtB x = true) : ∃ a, vS x = some a ∧ -vTop ≤ a ∧ a ≤ vTop := by
  unfold hgtB at h
  split at h
  · rename_i a ha
    simp at h
    exact ⟨a, ha, h.1, h.2⟩
  · cases h
theorem hgt_ok {x : Nat} (h : hgtB x = true) : OkW 0 x := by
  obtain ⟨a, ha, h1, h2⟩ := hgt_val h
  refine ⟨a, ha, h1, Int.le_trans h2 (Int.le_of_eq ?_)⟩
  rw [top_one]; simp
theorem OkW.bd {q x : Nat} (h : OkW q x) (hq : q ≤ 1048576) : Bd 33 x := by
  obtain ⟨a, ha, h1, h2⟩ := h
  obtain ⟨J, hJ⟩ : ∃ J : Nat, J = 1074 := ⟨_, rfl⟩
  refine bd_val' (j := 1074 + 33) ha rfl ?_
  rw [top_one, one_pow hJ] at h1
  rw [one_pow hJ] at h2
  rw [show 1074 + 33 = J + 33 by omega, Nat.pow_add]
  have h3 : ((4096 * (256 + q) : Nat) : Int) * ((2 ^ J : Nat) : Int) ≤ 8589934592 * ((2 ^ J : Nat) : Int) := Int.mul_le_mul_of_nonneg_right (by omega) (Int.natCast_nonneg _)
  generalize 2 ^ J = T at *
  omega
theorem SlW.bd {sl : Nat} (h : SlW sl) : Bd 33 sl := by
  obtain ⟨a, ha, h1, h2⟩ := h
  obtain ⟨J, hJ⟩ : ∃ J : Nat, J = 1074 := ⟨_, rfl⟩
  refine bd_val' (j := 1074 + 33) ha rfl ?_
  rw [one_pow hJ] at h2
  rw [show 1074 + 33 = J + 33 by omega, Nat.pow_add]
  generalize 2 ^ J = T at *
  omega

theorem step_parts {sl a h q : Nat} (ha : OkW q a) (hs : SlW sl) (hh : hgtB h = true) (hq : q ≤ 1048576) :
    ∃ r, floatBits .add .f32 a sl = some r ∧ addW a sl = r ∧ Same2 .add 34 a sl ∧ vS r = some (rdS (vI a + vI sl)) ∧ OkW (q + 1) (stepW sl a h) ∧
      vI h ≤ vI (stepW sl a h) ∧ rdS (vI a + vI sl) ≤ vI (stepW sl a h) ∧ (vI (stepW sl a h) = vI h ∨ vI (stepW sl a h) = rdS (vI a + vI sl)) ∧ vI a ≤ vI (stepW sl a h) := by
  have r2 : Same2 .add (33 + 1) a sl := add_same (by omega) (ha.bd hq) hs.bd
  obtain ⟨r, r1, br⟩ := same_ex r2
  have hw : addW a sl = r := by unfold addW; rw [r1]; rfl
  obtain ⟨av, va, a1, a2⟩ := ha
  obtain ⟨sv, vs, s1, s2⟩ := hs
  obtain ⟨hv, vh, h1, h2⟩ := hgt_val hh
  obtain ⟨J, hJ⟩ : ∃ J : Nat, J = 1074 := ⟨_, rfl⟩
  have up : av + sv ≤ ((4096 * (256 + (q + 1)) : Nat) : Int) * (one : Int) := by
    have e : ((4096 * (256 + (q + 1)) : Nat) : Int) * (one : Int) = ((4096 * (256 + q) : Nat) : Int) * (one : Int) + 4096 * (one : Int) := by
      rw [← Int.add_mul]; exact congrArg (· * (one : Int)) (by omega)
    rw [e]; omega
  have nb : (av + sv).natAbs < 2 ^ (J + 34) := by
    rw [top_one] at a1
    have h3 : ((4096 * (256 + (q + 1)) : Nat) : Int) * (one : Int) ≤ 8589934592 * (one : Int) := Int.mul_le_mul_of_nonneg_right (by omega) (Int.natCast_nonneg _)
    rw [one_pow hJ] at *
    rw [Nat.pow_add]
    have := Nat.two_pow_pos J
    generalize 2 ^ J = T at *
    omega
  have vr := vS_add (B := J + 34) r1 va vs nb (by omega)
  have rup : rdS (av + sv) ≤ ((4096 * (256 + (q + 1)) : Nat) : Int) * (one : Int) := by
    have h := rdS_mono up
    have e : rdS (((4096 * (256 + (q + 1)) : Nat) : Int) * (one : Int)) = ((4096 * (256 + (q + 1)) : Nat) : Int) * (one : Int) := by
      refine rdS_exact (((256 + (q + 1) : Nat)) : Int) (J + 12) (by omega) (by omega) ?_
      rw [one_pow hJ, Nat.pow_add, show (2 : Nat) ^ 12 = 4096 from rfl]
      generalize 2 ^ J = T
      generalize 256 + (q + 1) = z
      simp only [Int.natCast_mul]
      grind
    rwa [e] at h
  have rlo : av ≤ rdS (av + sv) := by
    have := rdS_mono (show av ≤ av + sv by omega)
    rwa [rdS_self va] at this
  have hup : hv ≤ ((4096 * (256 + (q + 1)) : Nat) : Int) * (one : Int) := by
    refine Int.le_trans h2 ?_
    rw [top_one]
    exact Int.mul_le_mul_of_nonneg_right (by omega) (Int.natCast_nonneg _)
  refine ⟨r, r1, hw, r2, by rw [vI_of va, vI_of vs]; exact vr, ?_⟩
  rw [vI_of va, vI_of vs, vI_of vh]
  unfold stepW grtW
  rw [hw, f32f', gtr_val vr vh]
  by_cases c : hv < rdS (av + sv)
  · rw [if_pos (by simpa using c), vI_of vr]
    exact ⟨⟨_, vr, by omega, rup⟩, by omega, by omega, .inr rfl, by omega⟩
  · rw [if_neg (by simpa using c), vI_of vh]
    exact ⟨⟨_, vh, h1, hup⟩, by omega, by omega, .inl rfl, by omega⟩
/-- A greater spill comes to no lesser one. -/
theorem step_mono {sl a b h q : Nat} (ha : OkW q a) (hb : OkW q b) (hs : SlW sl) (hh : hgtB h = true) (hq : q ≤ 1048576) (hab : vI a ≤ vI b) : vI (stepW sl a h) ≤ vI (stepW sl b h) := by
  obtain ⟨_, _, _, _, _, _, a1, a2, a3, _⟩ := step_parts ha hs hh hq
  obtain ⟨_, _, _, _, _, _, b1, b2, b3, _⟩ := step_parts hb hs hh hq
  have := rdS_mono (show vI a + vI sl ≤ vI b + vI sl by omega)
  omega

/-- How many cells have not been reached. -/
def unr (n : Nat) (R : Nat → Bool) : Nat := ((List.range n).filter fun k => !R k).length
def updB (R : Nat → Bool) (k : Nat) : Nat → Bool := fun i => if i = k then true else R i
def updW (s : Nat → Nat) (k x : Nat) : Nat → Nat := fun i => if i = k then x else s i
theorem updB_same (R : Nat → Bool) (k : Nat) : updB R k k = true := by unfold updB; rw [if_pos rfl]
theorem updB_other (R : Nat → Bool) {i k : Nat} (h : i ≠ k) : updB R k i = R i := by unfold updB; rw [if_neg h]
theorem updW_same (s : Nat → Nat) (k x : Nat) : updW s k x k = x := by unfold updW; rw [if_pos rfl]
theorem updW_other (s : Nat → Nat) {i k x : Nat} (h : i ≠ k) : updW s k x i = s i := by unfold updW; rw [if_neg h]
theorem updB_mono {R : Nat → Bool} {i k : Nat} (h : R i = true) : updB R k i = true := by unfold updB; split <;> first | rfl | exact h
theorem unr_upd {n : Nat} {R : Nat → Bool} {k : Nat} (hk : k < n) (h : R k = false) : unr n (updB R k) + 1 = unr n R := by
  unfold unr
  induction n with
  | zero => omega
  | succ n ih =>
    rw [List.range_succ, List.filter_append, List.filter_append, List.length_append, List.length_append]
    by_cases e : k = n
    · subst e
      have e1 : ((List.range k).filter fun i => !updB R k i) = ((List.range k).filter fun i => !R i) := by
        apply List.filter_congr
        intro i hi
        rw [updB_other R (by have := List.mem_range.1 hi; omega)]
      rw [e1]
      simp [updB_same, h]
    · have := ih (by omega)
      have e2 : ([n].filter fun i => !updB R k i) = ([n].filter fun i => !R i) := by
        apply List.filter_congr
        intro i hi
        rw [updB_other R (by simp at hi; omega)]
      rw [e2]
      omega
theorem unr_le (n : Nat) (R : Nat → Bool) : unr n R ≤ n := by
  unfold unr
  exact Nat.le_trans (List.length_filter_le _ _) (by simp)
end Go.Proofs.YtnbpapbpiknnnabDoor
