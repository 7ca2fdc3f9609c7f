/- Lemmas and contracts for the proof that the last text of this claim holds. -/
import Derived.Test.YtjjafjdjdjonfaaRows
import Derived.WalkKit
import Derived.WalkSpells
import Derived.WalkLawsBesides
import Derived.BigQuiet
import Derived.Deep.QuietTactic
import Derived.Lib.Hide
import Derived.Deep.RegionHeld3
import Ieee.Arith
import Derived.Laws.FloatArith
import Derived.Deep.DeepCutAuto
import Derived.Deep.AppendLies
import Derived.Deep.RegionLaw

/- Contracts of the regions' functions. -/
namespace Go.Proofs.Ytjjafjdjdjonfaa
open Go.RowKit

def withinB (n a b : Int) : Bool := decide (a ≤ n) && decide (n ≤ b)
theorem withinB_iff {n a b : Int} : withinB n a b = true ↔ a ≤ n ∧ n ≤ b := by simp [withinB]
theorem withinB_no {n a b : Int} : withinB n a b = false ↔ (n < a ∨ b < n) := by
  rw [← Bool.not_eq_true, withinB_iff]; omega

theorem ret_int {k : IntKind} {a b : Int} (h : a = b) : Ending.returned (.int k a) = .returned (.int k b) := by rw [h]
theorem ret_bool {a b : Bool} (h : a = b) : Ending.returned (.bool a) = .returned (.bool b) := by rw [h]

/-- What CheckRegion answers. -/
def checkR (x y w h : Int) : Int :=
  if w < 1 ∨ 512 < w ∨ h < 1 ∨ 512 < h then 3
  else if 65536 < w * h then 4
  else if x < -4194304 ∨ 4194304 - w < x ∨ y < -4194304 ∨ 4194304 - h < y then 5
  else 0

theorem mul_side {w h : Int} (a : 1 ≤ w) (b : w ≤ 512) (c : 1 ≤ h) (d : h ≤ 512) : 1 ≤ w * h ∧ w * h ≤ 262144 := by
  constructor
  · have := Int.mul_le_mul a c (by omega) (by omega : (0:Int) ≤ w); omega
  · have := Int.mul_le_mul b d (by omega : (0:Int) ≤ h) (by omega : (0:Int) ≤ 512); omega
theorem wrap_side {w h : Int} (a : 1 ≤ w) (b : w ≤ 512) (c : 1 ≤ h) (d : h ≤ 512) : wrap64 (w * h) = w * h := by
  obtain ⟨e, f⟩ := mul_side a b c d
  exact IntWalk.wrap64_in _ ⟨by omega, by omega⟩

theorem checkR_range {x y w h : Int} (a : withinB w 1 512 = false ∨ withinB h 1 512 = false) : checkR x y w h = 3 := by
  simp only [withinB_no] at a
  unfold checkR; rw [if_pos (by omega)]
theorem checkR_large {x y w h : Int} (a : withinB w 1 512 = true) (b : withinB h 1 512 = true) (c : 65536 < wrap64 (w * h)) : checkR x y w h = 4 := by
  simp only [withinB_iff] at a b
  rw [wrap_side a.1 a.2 b.1 b.2] at c
  unfold checkR; rw [if_neg (by omega), if_pos c]
theorem checkR_place {x y w h : Int} (a : withinB w 1 512 = true) (b : withinB h 1 512 = true) (c : wrap64 (w * h) ≤ 65536)
    (d : withinB x (-4194304) (4194304 - w) = false ∨ withinB y (-4194304) (4194304 - h) = false) : checkR x y w h = 5 := by
  simp only [withinB_iff] at a b
  simp only [withinB_no] at d
  rw [wrap_side a.1 a.2 b.1 b.2] at c
  unfold checkR; rw [if_neg (by omega), if_neg (by omega), if_pos (by omega)]
theorem checkR_ok {x y w h : Int} (a : withinB w 1 512 = true) (b : withinB h 1 512 = true) (c : wrap64 (w * h) ≤ 65536)
    (d : withinB x (-4194304) (4194304 - w) = true) (e : withinB y (-4194304) (4194304 - h) = true) : checkR x y w h = 0 := by
  simp only [withinB_iff] at a b d e
  rw [wrap_side a.1 a.2 b.1 b.2] at c
  unfold checkR; rw [if_neg (by omega), if_neg (by omega), if_neg (by omega)]

set_option maxHeartbeats 400000 in
theorem within_any (n a b : Int) (w : World) :
    Calls Try.prog 39 #[.int .i64 n, .int .i64 a, .int .i64 b] w fun e w' => e = .returned (.bool (withinB n a b)) ∧ w = w' := by
  go_enter Try.func39, Try.ntmps39
  go_wp2
  all_goals go_ret
  all_goals exact ⟨ret_bool (by rw [Bool.eq_iff_iff, withinB_iff]; simp; omega), rfl⟩

set_option maxHeartbeats 400000 in
theorem hasPlace_any (x l : Int) (w : World) (h1 : 0 ≤ l) (h2 : l ≤ 512) :
    Calls Try.prog 52 #[.int .i64 x, .int .i64 l] w fun e w' => e = .returned (.bool (withinB x (-4194304) (4194304 - l))) ∧ w = w' := by
  go_enter Try.func52, Try.ntmps52
  go_wp2_with (go_at_call 39; refine (within_any _ _ _ _).mono ?_; rintro e w' ⟨rfl, rfl⟩)
  go_ret
  exact ⟨rfl, rfl⟩

set_option maxHeartbeats 400000 in
theorem checkRegion_any (x y ww hh : Int) (w : World) :
    Calls Try.prog 36 #[.agg #[.int .i64 x, .int .i64 y, .int .i64 ww, .int .i64 hh]] w fun e w' => e = .returned (.int .i64 (checkR x y ww hh)) ∧ w' = w.alloc (.cells #[.int .i64 x, .int .i64 y, .int .i64 ww, .int .i64 hh] 23) := by
  go_enter Try.func36, Try.ntmps36
  go_wp2_with (first | (go_at_call 39; refine (within_any _ _ _ _).mono ?_; rintro e w' ⟨rfl, rfl⟩) | (go_at_call 52; refine (hasPlace_any _ _ _ ?_ ?_).mono ?_; rotate_left 2; rintro e w' ⟨rfl, rfl⟩))
  all_goals simp only [Bool.not_eq_true, Bool.not_eq_true', Bool.not_eq_false'] at *
  all_goals first
    | (simp only [withinB_iff] at *; omega)
    | (go_ret
       refine ⟨ret_int (Eq.symm ?_), rfl⟩
       first
         | exact checkR_range (.inl ‹_›)
         | exact checkR_range (.inr ‹_›)
         | exact checkR_large ‹_› ‹_› ‹_›
         | exact checkR_place ‹_› ‹_› ‹_› (.inl ‹_›)
         | exact checkR_place ‹_› ‹_› ‹_› (.inr ‹_›)
         | exact checkR_ok ‹_› ‹_› ‹_› ‹_› ‹_›)

/-- A region as a value; its cells. -/
abbrev reg (x y w h : Int) : Value := .agg #[.int .i64 x, .int .i64 y, .int .i64 w, .int .i64 h]
abbrev regObj (x y w h : Int) : Obj := .cells #[.int .i64 x, .int .i64 y, .int .i64 w, .int .i64 h] 23

end Go.Proofs.Ytjjafjdjdjonfaa

/- Contracts of the regions' functions, continued: Grow, Common, Inside. -/
namespace Go.Proofs.Ytjjafjdjdjonfaa
open Go.RowKit

/-- What Grow answers. -/
def growE (x y w h n : Int) : Int :=
  if checkR x y w h = 0 then if n < -512 ∨ 512 < n then 3 else checkR (x - n) (y - n) (w + 2 * n) (h + 2 * n) else checkR x y w h
def growR (x y w h n : Int) : Value := if growE x y w h n = 0 then reg (x - n) (y - n) (w + 2 * n) (h + 2 * n) else reg 0 0 0 0
theorem checkR_zero {x y w h : Int} (e : checkR x y w h = 0) : 1 ≤ w ∧ w ≤ 512 ∧ 1 ≤ h ∧ h ≤ 512 ∧ w * h ≤ 65536 ∧ -4194304 ≤ x ∧ x ≤ 4194304 - w ∧ -4194304 ≤ y ∧ y ≤ 4194304 - h := by
  unfold checkR at e
  split at e <;> omega

theorem bcell {W w1 : World} (hb : Below W.heap.size W w1) : (∀ b o, b < W.heap.size → w1.cell? ⟨b, o, none⟩ = W.cell? ⟨b, o, none⟩) ∧ (∀ b o, b < W.heap.size → w1.frozen? ⟨b, o, none⟩ = W.frozen? ⟨b, o, none⟩) :=
  ⟨fun b o h => hb.cell (p := ⟨b, o, none⟩) h, fun b o h => hb.frozen (p := ⟨b, o, none⟩) h⟩

theorem ret2 {a b : Value} {c d : Value} (h1 : a = b) (h2 : c = d) : Ending.returned (.tuple #[a, c]) = .returned (.tuple #[b, d]) := by rw [h1, h2]

end Go.Proofs.Ytjjafjdjdjonfaa

/- Contracts of the regions' functions, continued: the reference's Grow; Common, Inside. -/
namespace Go.Proofs.Ytjjafjdjdjonfaa
open Go.RowKit

def insideB (x y w h x' y' w' h' : Int) : Bool := decide (x' ≤ x) && decide (y' ≤ y) && decide (x + w ≤ x' + w') && decide (y + h ≤ y' + h')
theorem insideB_iff {x y w h x' y' w' h' : Int} : insideB x y w h x' y' w' h' = true ↔ x' ≤ x ∧ y' ≤ y ∧ x + w ≤ x' + w' ∧ y + h ≤ y' + h' := by simp [insideB]; omega

end Go.Proofs.Ytjjafjdjdjonfaa

/- Contracts of the regions' functions, continued: the reference's Inside; Common. -/
namespace Go.Proofs.Ytjjafjdjdjonfaa
open Go.RowKit

def maxI (a b : Int) : Int := if a < b then b else a
def minI (a b : Int) : Int := if b < a then b else a
theorem maxI_le (a b : Int) : a ≤ maxI a b ∧ b ≤ maxI a b ∧ (maxI a b = a ∨ maxI a b = b) := by unfold maxI; split <;> omega
theorem minI_le (a b : Int) : minI a b ≤ a ∧ minI a b ≤ b ∧ (minI a b = a ∨ minI a b = b) := by unfold minI; split <;> omega

/-- What Common answers. -/
def comB (x y w h x' y' w' h' : Int) : Bool := decide (1 ≤ minI (x + w) (x' + w') - maxI x x') && decide (1 ≤ minI (y + h) (y' + h') - maxI y y')
def comR (x y w h x' y' w' h' : Int) : Value :=
  if comB x y w h x' y' w' h' then reg (maxI x x') (maxI y y') (minI (x + w) (x' + w') - maxI x x') (minI (y + h) (y' + h') - maxI y y') else reg 0 0 0 0
theorem comB_iff {x y w h x' y' w' h' : Int} : comB x y w h x' y' w' h' = true ↔ 1 ≤ minI (x + w) (x' + w') - maxI x x' ∧ 1 ≤ minI (y + h) (y' + h') - maxI y y' := by simp [comB]
theorem comB_no {x y w h x' y' w' h' : Int} : comB x y w h x' y' w' h' = false ↔ minI (x + w) (x' + w') - maxI x x' < 1 ∨ minI (y + h) (y' + h') - maxI y y' < 1 := by
  rw [← Bool.not_eq_true, comB_iff]; omega

end Go.Proofs.Ytjjafjdjdjonfaa

/- The cells of a line, in numbers. -/
namespace Go.Proofs.Ytjjafjdjdjonfaa
open Go.RowKit

/-- The two numbers of a place. -/
structure Pnt where
  x : Int
  y : Int
/-- How far two places are from each other. -/
def farI (a c : Pnt) : Int := maxI (maxI (maxI (c.x - a.x) (a.x - c.x)) (c.y - a.y)) (a.y - c.y)
theorem farI_parts (a c : Pnt) : 0 ≤ farI a c ∧ -(farI a c) ≤ c.x - a.x ∧ c.x - a.x ≤ farI a c ∧ -(farI a c) ≤ c.y - a.y ∧ c.y - a.y ≤ farI a c := by
  obtain ⟨h1, h2, _⟩ := maxI_le (c.x - a.x) (a.x - c.x)
  obtain ⟨h3, h4, _⟩ := maxI_le (maxI (c.x - a.x) (a.x - c.x)) (c.y - a.y)
  obtain ⟨h5, h6, _⟩ := maxI_le (maxI (maxI (c.x - a.x) (a.x - c.x)) (c.y - a.y)) (a.y - c.y)
  unfold farI
  omega
/-- One coordinate of the cell number i of n on a line. -/
def lnC (p d n i : Int) : Int := p + (2 * i * d + n) / (2 * n)
def lnP (a c : Pnt) (i : Nat) : Pnt := ⟨lnC a.x (c.x - a.x) (farI a c) i, lnC a.y (c.y - a.y) (farI a c) i⟩
theorem lnC_zero (p d n : Int) (hn : 0 ≤ n) : lnC p d n 0 = p := by
  unfold lnC
  rw [show 2 * 0 * d + n = n by simp]
  have : n / (2 * n) = 0 := by
    rcases Int.lt_or_eq_of_le hn with h | h
    · exact Int.ediv_eq_zero_of_lt hn (by omega)
    · rw [← h]; rfl
  omega
theorem lnC_in {p d n i : Int} (hn : 1 ≤ n) (h0 : 0 ≤ i) (hi : i ≤ n) :
    (0 ≤ d → p ≤ lnC p d n i ∧ lnC p d n i ≤ p + d) ∧ (d ≤ 0 → p + d ≤ lnC p d n i ∧ lnC p d n i ≤ p) := by
  have hp : 0 < 2 * n := by omega
  unfold lnC
  constructor
  · intro hd
    have a1 : 0 ≤ 2 * i * d := Int.mul_nonneg (by omega) hd
    have a2 : 2 * i * d ≤ 2 * n * d := Int.mul_le_mul_of_nonneg_right (by omega) hd
    have b1 : 0 ≤ (2 * i * d + n) / (2 * n) := Int.ediv_nonneg (by omega) (by omega)
    have b2 : (2 * i * d + n) / (2 * n) < d + 1 := by
      apply Int.ediv_lt_of_lt_mul hp
      have : (d + 1) * (2 * n) = 2 * n * d + 2 * n := by rw [Int.add_mul, Int.one_mul, Int.mul_comm d]
      omega
    omega
  · intro hd
    have a1 : 2 * i * d ≤ 0 := Int.mul_nonpos_of_nonneg_of_nonpos (by omega) hd
    have a2 : 2 * n * d ≤ 2 * i * d := Int.mul_le_mul_of_nonpos_right (by omega) hd
    have b1 : d ≤ (2 * i * d + n) / (2 * n) := by
      rw [Int.le_ediv_iff_mul_le hp, Int.mul_comm d]
      omega
    have b2 : (2 * i * d + n) / (2 * n) < 1 := by
      apply Int.ediv_lt_of_lt_mul hp
      omega
    omega
theorem ln_bd {d n i : Int} (h0 : 0 ≤ i) (hi : i ≤ n) (hn : n ≤ 65536) (d1 : -n ≤ d) (d2 : d ≤ n) : -8589934592 ≤ 2 * i * d ∧ 2 * i * d ≤ 8589934592 := by
  have a1 : (-n) * (2 * i) ≤ d * (2 * i) := Int.mul_le_mul_of_nonneg_right d1 (by omega)
  have a2 : d * (2 * i) ≤ n * (2 * i) := Int.mul_le_mul_of_nonneg_right d2 (by omega)
  have a3 : n * (2 * i) ≤ 65536 * (2 * i) := Int.mul_le_mul_of_nonneg_right hn (by omega)
  rw [Int.neg_mul] at a1
  rw [Int.mul_comm d] at a1 a2
  omega
theorem lnP_in {a c : Pnt} {i : Nat} (hi : (i : Int) ≤ farI a c) {X Y W H : Int} (ha : X ≤ a.x ∧ a.x < X + W ∧ Y ≤ a.y ∧ a.y < Y + H) (hc : X ≤ c.x ∧ c.x < X + W ∧ Y ≤ c.y ∧ c.y < Y + H) :
    X ≤ (lnP a c i).x ∧ (lnP a c i).x < X + W ∧ Y ≤ (lnP a c i).y ∧ (lnP a c i).y < Y + H := by
  rcases Int.lt_or_le 0 (farI a c) with h | h
  · have p := lnC_in (p := a.x) (d := c.x - a.x) (n := farI a c) (i := i) (by omega) (by omega) hi
    have q := lnC_in (p := a.y) (d := c.y - a.y) (n := farI a c) (i := i) (by omega) (by omega) hi
    have p' : (0 ≤ c.x - a.x → a.x ≤ (lnP a c i).x ∧ (lnP a c i).x ≤ a.x + (c.x - a.x)) ∧ (c.x - a.x ≤ 0 → a.x + (c.x - a.x) ≤ (lnP a c i).x ∧ (lnP a c i).x ≤ a.x) := p
    have q' : (0 ≤ c.y - a.y → a.y ≤ (lnP a c i).y ∧ (lnP a c i).y ≤ a.y + (c.y - a.y)) ∧ (c.y - a.y ≤ 0 → a.y + (c.y - a.y) ≤ (lnP a c i).y ∧ (lnP a c i).y ≤ a.y) := q
    omega
  · obtain ⟨f0, _⟩ := farI_parts a c
    obtain rfl : i = 0 := by omega
    have e1 : (lnP a c 0).x = a.x := lnC_zero _ _ _ f0
    have e2 : (lnP a c 0).y = a.y := lnC_zero _ _ _ f0
    omega
end Go.Proofs.Ytjjafjdjdjonfaa

/- Plain arithmetic of rounding: no program in sight. 'rnq N M': N / M, rounded to the nearest whole number, between two to the even one; what Ieee.Format.nearest writes, said by it; rounding twice. -/
namespace Go.Proofs.Ytjjafjdjdjonfaa.Fl
open Ieee

/-- N / M rounded to the nearest whole number, between two to the even one. -/
def rnq (N M : Nat) : Nat := N / M + if M < 2 * (N % M) ∨ (2 * (N % M) = M ∧ N / M % 2 = 1) then 1 else 0

structure Near (N M k : Nat) : Prop where
  low : 2 * (k * M) ≤ 2 * N + M
  high : 2 * N ≤ 2 * (k * M) + M
  lowTie : 2 * (k * M) = 2 * N + M → k % 2 = 0
  highTie : 2 * N = 2 * (k * M) + M → k % 2 = 0

theorem rnq_near {N M : Nat} (hM : 0 < M) : Near N M (rnq N M) := by
  have h := Nat.div_add_mod N M
  have hr := Nat.mod_lt N hM
  unfold rnq
  generalize N / M = q at *
  generalize N % M = r at *
  have hq : M * q = q * M := Nat.mul_comm _ _
  have hq1 : (q + 1) * M = q * M + M := Nat.succ_mul _ _
  split
  · rename_i c
    exact ⟨by omega, by omega, by omega, by omega⟩
  · rename_i c
    simp only [Nat.add_zero]
    exact ⟨by omega, by omega, by omega, by omega⟩

theorem near_unique {N M k k' : Nat} (hM : 0 < M) (h : Near N M k) (h' : Near N M k') : k = k' := by
  rcases Nat.lt_trichotomy k k' with c | c | c
  · have e : (k + 1) * M ≤ k' * M := Nat.mul_le_mul_right _ c
    have e1 : (k + 1) * M = k * M + M := Nat.succ_mul _ _
    have a := h.high
    have b := h'.low
    have t1 := h.highTie (by omega)
    have t2 := h'.lowTie (by omega)
    have d : k' < k + 2 := by
      rcases Nat.lt_or_ge k' (k + 2) with x | x
      · exact x
      · have y : (k + 2) * M ≤ k' * M := Nat.mul_le_mul_right _ x
        have y1 : (k + 2) * M = k * M + 2 * M := Nat.add_mul _ _ _
        omega
    omega
  · exact c
  · have e : (k' + 1) * M ≤ k * M := Nat.mul_le_mul_right _ c
    have e1 : (k' + 1) * M = k' * M + M := Nat.succ_mul _ _
    have a := h'.high
    have b := h.low
    have t1 := h'.highTie (by omega)
    have t2 := h.lowTie (by omega)
    have d : k < k' + 2 := by
      rcases Nat.lt_or_ge k (k' + 2) with x | x
      · exact x
      · have y : (k' + 2) * M ≤ k * M := Nat.mul_le_mul_right _ x
        have y1 : (k' + 2) * M = k' * M + 2 * M := Nat.add_mul _ _ _
        omega
    omega

theorem rnq_eq {N M k : Nat} (hM : 0 < M) (h : Near N M k) : rnq N M = k := near_unique hM (rnq_near hM) h

theorem rnq_mul (k M : Nat) (hM : 0 < M) : rnq (k * M) M = k := rnq_eq hM ⟨by omega, by omega, by omega, by omega⟩
theorem rnq_one (k : Nat) : rnq k 1 = k := by have := rnq_mul k 1 (by omega); rwa [Nat.mul_one] at this

theorem rnq_scale (N M c : Nat) (hM : 0 < M) (hc : 0 < c) : rnq (N * c) (M * c) = rnq N M := by
  have h := rnq_near (N := N) hM
  generalize rnq N M = k at *
  refine rnq_eq (Nat.mul_pos hM hc) ⟨?_, ?_, ?_, ?_⟩
  · have := Nat.mul_le_mul_right c h.low
    have e1 : 2 * (k * M) * c = 2 * (k * (M * c)) := by simp only [Nat.mul_assoc]
    have e2 : (2 * N + M) * c = 2 * (N * c) + M * c := by simp only [Nat.add_mul, Nat.mul_assoc]
    omega
  · have := Nat.mul_le_mul_right c h.high
    have e1 : (2 * (k * M) + M) * c = 2 * (k * (M * c)) + M * c := by simp only [Nat.add_mul, Nat.mul_assoc]
    have e2 : 2 * N * c = 2 * (N * c) := by simp only [Nat.mul_assoc]
    omega
  · intro t
    refine h.lowTie (Nat.eq_of_mul_eq_mul_right hc ?_)
    simp only [Nat.add_mul, Nat.mul_assoc] at *
    omega
  · intro t
    refine h.highTie (Nat.eq_of_mul_eq_mul_right hc ?_)
    simp only [Nat.add_mul, Nat.mul_assoc] at *
    omega

/-- ROUNDING TWICE: first to units A, then to units A * C (C even): as at once, where N is no nearer than A / 2 to a midpoint of the second rounding, or on it. -/
theorem rnq_twice {N A C : Nat} (hA : 0 < A) (hC : 0 < C) (he : C % 2 = 0)
    (hm : ∀ q, 2 * N = (2 * q + 1) * (A * C) ∨ 2 * N + A < (2 * q + 1) * (A * C) ∨ (2 * q + 1) * (A * C) + A < 2 * N) :
    rnq (rnq N A) C = rnq N (A * C) := by
  have hB : 0 < A * C := Nat.mul_pos hA hC
  have h := rnq_near (N := N) hB
  have h1 := rnq_near (N := N) hA
  generalize hk : rnq N (A * C) = k at *
  generalize hk1 : rnq N A = k1 at *
  obtain ⟨H, rfl⟩ : ∃ H, C = 2 * H := ⟨C / 2, by omega⟩
  -- the sides in units of A
  have eB : ∀ q, (2 * q + 1) * (A * (2 * H)) = ((2 * q + 1) * (2 * H)) * A := fun q => by rw [Nat.mul_comm A (2 * H), Nat.mul_assoc (2 * q + 1)]
  have up : 2 * k1 ≤ (2 * k + 1) * (2 * H) ∧ (2 * k1 = (2 * k + 1) * (2 * H) → k % 2 = 0) := by
    have a := h.high
    have eK : (2 * k + 1) * (A * (2 * H)) = 2 * (k * (A * (2 * H))) + A * (2 * H) := by simp only [Nat.add_mul, Nat.one_mul, Nat.mul_assoc]
    rcases hm k with m | m | m
    · -- on the midpoint: exact
      have : 2 * N = 2 * (((2 * k + 1) * H) * A) := by rw [m, eB]; simp only [Nat.mul_assoc, Nat.mul_left_comm _ 2]
      have n : N = ((2 * k + 1) * H) * A := by omega
      have k1e : k1 = (2 * k + 1) * H := by rw [← hk1, n]; exact rnq_mul _ _ hA
      refine ⟨?_, fun _ => h.highTie (by omega)⟩
      rw [k1e]; simp only [Nat.mul_left_comm _ 2]; omega
    · have b := h1.low
      rw [eB] at m
      have : 2 * k1 * A < ((2 * k + 1) * (2 * H)) * A := by rw [Nat.mul_assoc]; omega
      have := Nat.lt_of_mul_lt_mul_right this
      exact ⟨by omega, by omega⟩
    · omega
  have dn : 2 * (k * (2 * H)) ≤ 2 * k1 + 2 * H ∧ (2 * (k * (2 * H)) = 2 * k1 + 2 * H → k % 2 = 0) := by
    have a := h.low
    rcases Nat.eq_zero_or_pos k with z | z
    · subst z; simp
    obtain ⟨j, rfl⟩ : ∃ j, k = j + 1 := ⟨k - 1, by omega⟩
    have eK : (2 * j + 1) * (A * (2 * H)) + A * (2 * H) = 2 * ((j + 1) * (A * (2 * H))) := by simp only [Nat.add_mul, Nat.one_mul, Nat.mul_assoc]; omega
    have eH : 2 * ((j + 1) * (2 * H)) = (2 * j + 1) * (2 * H) + 2 * H := by simp only [Nat.add_mul, Nat.one_mul, Nat.mul_assoc]; omega
    rcases hm j with m | m | m
    · have : 2 * N = 2 * (((2 * j + 1) * H) * A) := by rw [m, eB]; simp only [Nat.mul_assoc, Nat.mul_left_comm _ 2]
      have n : N = ((2 * j + 1) * H) * A := by omega
      have k1e : k1 = (2 * j + 1) * H := by rw [← hk1, n]; exact rnq_mul _ _ hA
      refine ⟨?_, fun _ => h.lowTie (by omega)⟩
      rw [eH, k1e]; simp only [Nat.mul_left_comm _ 2]; omega
    · omega
    · have b := h1.high
      rw [eB] at m
      have : ((2 * j + 1) * (2 * H)) * A < 2 * k1 * A := by rw [Nat.mul_assoc (2 : Nat) k1 A]; omega
      have := Nat.lt_of_mul_lt_mul_right this
      exact ⟨by omega, by omega⟩
  refine rnq_eq hC ⟨dn.1, ?_, dn.2, ?_⟩
  · have := up.1; simp only [Nat.add_mul, Nat.one_mul, Nat.mul_assoc] at this ⊢; omega
  · intro t; refine up.2 ?_; simp only [Nat.add_mul, Nat.one_mul, Nat.mul_assoc] at t ⊢; omega

/-- A STICKY DIGIT: the quotient's whole part and one digit more, which tells whether anything is left over, rounds as the quotient does, where at least two digits are dropped. -/
theorem rnq_sticky {A B M : Nat} (hB : 0 < B) (hM : 0 < M) (he : M % 2 = 0) : rnq (2 * (A / B) + (A % B != 0).toNat) (2 * M) = rnq A (B * M) := by
  have hd := Nat.div_add_mod A B
  have hr := Nat.mod_lt A hB
  have h := rnq_near (N := A) (Nat.mul_pos hB hM)
  generalize rnq A (B * M) = k at *
  obtain ⟨H, rfl⟩ : ∃ H, M = 2 * H := ⟨M / 2, by omega⟩
  generalize hq : A / B = q at *
  generalize hrr : A % B = r at *
  have key : ∀ t : Nat, (2 * (t * H) * B ≤ 2 * A → 2 * (t * H) ≤ 2 * q + (r != 0).toNat) ∧ (2 * A ≤ 2 * (t * H) * B → 2 * q + (r != 0).toNat ≤ 2 * (t * H)) ∧
      (2 * q + (r != 0).toNat = 2 * (t * H) → 2 * A = 2 * (t * H) * B) := by
    intro t
    generalize t * H = u
    have e1 : 2 * A = 2 * (q * B) + 2 * r := by rw [← hd, Nat.mul_comm B q]; omega
    have e2 : 2 * u * B = 2 * (u * B) := Nat.mul_assoc _ _ _
    rw [e1, e2]
    refine ⟨fun c => ?_, fun c => ?_, fun c => ?_⟩
    · have : u * B < (q + 1) * B := by rw [Nat.succ_mul]; omega
      have := Nat.lt_of_mul_lt_mul_right this
      rcases Nat.eq_zero_or_pos r with z | z
      · subst z; simp; omega
      · have : (r != 0) = true := by simp; omega
        rw [this]; simp; omega
    · rcases Nat.eq_zero_or_pos r with z | z
      · subst z
        have : q * B ≤ u * B := by omega
        have := Nat.le_of_mul_le_mul_right this hB
        simp; omega
      · have : q * B < u * B := by omega
        have := Nat.lt_of_mul_lt_mul_right this
        have : (r != 0) = true := by simp; omega
        rw [this]; simp; omega
    · rcases Nat.eq_zero_or_pos r with z | z
      · subst z
        have : q = u := by simp at c; omega
        rw [this]; omega
      · have : (r != 0) = true := by simp; omega
        rw [this] at c; simp at c; omega
  have e1 : k * (B * (2 * H)) = 2 * ((k * H) * B) := by simp only [Nat.mul_comm B, Nat.mul_assoc, Nat.mul_left_comm _ 2]
  have e2 : B * (2 * H) = 2 * (H * B) := by simp only [Nat.mul_comm B, Nat.mul_assoc]
  have e3 : k * (2 * (2 * H)) = 4 * (k * H) := by simp only [Nat.mul_left_comm _ 2]; omega
  obtain ⟨a1, a2, a3, a4⟩ := h
  rw [e1, e2] at a1 a2 a3 a4
  obtain ⟨u1, u2, u3⟩ := key (2 * k + 1)
  have f1 : 2 * ((2 * k + 1) * H) = 4 * (k * H) + 2 * H := by simp only [Nat.add_mul, Nat.one_mul, Nat.mul_assoc]; omega
  have f2 : (4 * (k * H) + 2 * H) * B = 4 * ((k * H) * B) + 2 * (H * B) := by simp only [Nat.add_mul, Nat.mul_assoc]
  rw [f1, f2] at u1 u2 u3
  rcases Nat.eq_zero_or_pos k with z | z
  · subst z
    simp only [Nat.zero_mul, Nat.mul_zero, Nat.zero_add] at *
    refine rnq_eq (by omega) ⟨by omega, by simp only [Nat.zero_mul, Nat.mul_zero]; omega, fun _ => rfl, fun _ => rfl⟩
  obtain ⟨j, rfl⟩ : ∃ j, k = j + 1 := ⟨k - 1, by omega⟩
  obtain ⟨v1, v2, v3⟩ := key (2 * j + 1)
  have g1 : 2 * ((2 * j + 1) * H) + 2 * H = 4 * ((j + 1) * H) := by simp only [Nat.add_mul, Nat.one_mul, Nat.mul_assoc]; omega
  have g2 : 2 * ((2 * j + 1) * H) * B + 2 * (H * B) = 4 * (((j + 1) * H) * B) := by simp only [Nat.add_mul, Nat.one_mul, Nat.mul_assoc]; omega
  generalize ((j + 1) * H) * B = P at *
  generalize 2 * ((2 * j + 1) * H) * B = Q at *
  generalize 2 * ((2 * j + 1) * H) = T at *
  refine rnq_eq (by omega) ⟨?_, ?_, ?_, ?_⟩
  · rw [e3]; omega
  · rw [e3]; omega
  · intro t; rw [e3] at t; exact a3 (by omega)
  · intro t; rw [e3] at t; exact a4 (by omega)

end Go.Proofs.Ytjjafjdjdjonfaa.Fl

/- What Ieee.Format.nearest writes, said by 'rnq' in units of 2 ^ K; what is read of it; that it hangs on the value alone. -/
namespace Go.Proofs.Ytjjafjdjdjonfaa.Fl
open Ieee

theorem cut_even (neg : Bool) (n drop : Nat) : Toward.even.cut neg n drop = rnq n (2 ^ drop) := by
  unfold Toward.cut rnq
  simp only [Nat.shiftLeft_eq, Nat.one_mul]
  rcases Nat.le_total drop (n.log2 + 2) with h | h
  · rw [Nat.min_eq_left h]
    congr 1
    by_cases c : 2 ^ drop < 2 * (n % 2 ^ drop) ∨ (2 * (n % 2 ^ drop) = 2 ^ drop ∧ n / 2 ^ drop % 2 = 1)
    · rw [if_pos c]
      have : (decide (2 ^ drop < 2 * (n % 2 ^ drop)) || (2 ^ drop == 2 * (n % 2 ^ drop) && n / 2 ^ drop % 2 == 1)) = true := by
        rcases c with c | ⟨c, d⟩
        · simp [c]
        · simp [c, d]
      rw [this]; rfl
    · rw [if_neg c]
      have : (decide (2 ^ drop < 2 * (n % 2 ^ drop)) || (2 ^ drop == 2 * (n % 2 ^ drop) && n / 2 ^ drop % 2 == 1)) = false := by
        rw [Bool.or_eq_false_iff]
        refine ⟨by simp; omega, ?_⟩
        rw [Bool.and_eq_false_iff]
        rcases Nat.decEq (2 ^ drop) (2 * (n % 2 ^ drop)) with e | e
        · left; simpa using e
        · right; simp only [beq_eq_false_iff_ne]; intro d; exact c (.inr ⟨e.symm, d⟩)
      rw [this]; rfl
  · rw [Nat.min_eq_right h]
    have l1 : n < 2 ^ (n.log2 + 1) := Nat.lt_log2_self
    have l2 : 2 ^ (n.log2 + 2) = 2 * 2 ^ (n.log2 + 1) := by rw [Nat.pow_succ 2 (n.log2 + 1)]; omega
    have l3 : 2 ^ (n.log2 + 2) ≤ 2 ^ drop := Nat.pow_le_pow_right (by omega) h
    rw [Nat.div_eq_of_lt (by omega), Nat.mod_eq_of_lt (by omega : n < 2 ^ (n.log2 + 2)), Nat.div_eq_of_lt (by omega), Nat.mod_eq_of_lt (by omega : n < 2 ^ drop)]
    rw [if_neg (by omega)]
    have : (decide (2 ^ (n.log2 + 2) < 2 * n) || (2 ^ (n.log2 + 2) == 2 * n && 0 % 2 == 1)) = false := by
      rw [Bool.or_eq_false_iff]
      exact ⟨by simp; omega, by simp⟩
    rw [this]; rfl

theorem log2_mul_pow {m : Nat} (hm : 0 < m) (j : Nat) : (m * 2 ^ j).log2 = m.log2 + j := by
  have h1 : 2 ^ m.log2 ≤ m := Nat.log2_self_le (by omega)
  have h2 : m < 2 ^ (m.log2 + 1) := Nat.lt_log2_self
  have hp : 0 < 2 ^ j := Nat.two_pow_pos j
  rw [Nat.log2_eq_iff (Nat.ne_of_gt (Nat.mul_pos hm hp))]
  refine ⟨?_, ?_⟩
  · rw [Nat.pow_add]; exact Nat.mul_le_mul_right _ h1
  · rw [Nat.add_right_comm, Nat.pow_add]; exact Nat.mul_lt_mul_of_pos_right h2 hp

/-- The place of the last digit that is kept of n, over the least place, in units of 2 ^ K ('c' is the least place over K). -/
def lastOf (f : Format) (c n : Nat) : Nat := max (n.log2 - f.fractionBits) c
/-- The rung of n * 2 ^ K. -/
def rungOf (f : Format) (c n : Nat) : Nat := (lastOf f c n - c) * f.binade + rnq n (2 ^ lastOf f c n)

theorem nearest_base (f : Format) (neg : Bool) (K : Int) (c : Nat) (hc : f.leastPlace = K + c) {m : Nat} (hm : 0 < m) (j : Nat) :
    f.nearest neg m (K + j) = f.word neg (min (rungOf f c (m * 2 ^ j)) f.infRung) := by
  have hp : 0 < 2 ^ j := Nat.two_pow_pos j
  unfold Format.nearest rungOf
  rw [if_neg (by omega)]
  have hl : max (K + (j : Int) + m.log2 - f.fractionBits) f.leastPlace = K + (lastOf f c (m * 2 ^ j) : Nat) := by
    unfold lastOf
    rw [log2_mul_pow hm, hc]
    omega
  simp only [hl]
  generalize lastOf f c (m * 2 ^ j) = l
  have e1 : (K + (l : Int) - f.leastPlace).toNat = l - c := by omega
  have e2 : (K + (j : Int) - (K + (l : Int))).toNat = j - l := by omega
  have e3 : (K + (l : Int) - (K + (j : Int))).toNat = l - j := by omega
  rw [e1, e2, e3, cut_even, Nat.shiftLeft_eq]
  congr 3
  rcases Nat.le_total l j with h | h
  · have : l - j = 0 := by omega
    rw [this, Nat.pow_zero, rnq_one]
    have : m * 2 ^ j = (m * 2 ^ (j - l)) * 2 ^ l := by rw [Nat.mul_assoc, ← Nat.pow_add]; congr 2; omega
    rw [this, rnq_mul _ _ (Nat.two_pow_pos l)]
  · have : j - l = 0 := by omega
    rw [this, Nat.pow_zero, Nat.mul_one]
    have : 2 ^ l = 2 ^ (l - j) * 2 ^ j := by rw [← Nat.pow_add]; congr 1; omega
    rw [this, rnq_scale _ _ _ (Nat.two_pow_pos _) hp]

/-- The word hangs on the value alone. -/
theorem nearest_congr (f : Format) (neg : Bool) (K : Int) (c : Nat) (hc : f.leastPlace = K + c) {m m' : Nat} {p p' : Int} (hm : 0 < m) (hp : K ≤ p) (hp' : K ≤ p')
    (h : m * 2 ^ (p - K).toNat = m' * 2 ^ (p' - K).toNat) : f.nearest neg m p = f.nearest neg m' p' := by
  have hm' : 0 < m' := by
    rcases Nat.eq_zero_or_pos m' with z | z
    · subst z; rw [Nat.zero_mul] at h; have := Nat.mul_pos hm (Nat.two_pow_pos (p - K).toNat); omega
    · exact z
  have e : p = K + ((p - K).toNat : Int) := by omega
  have e' : p' = K + ((p' - K).toNat : Int) := by omega
  rw [e, e', nearest_base f neg K c hc hm, nearest_base f neg K c hc hm', h]

theorem rnq_mono {N N' M : Nat} (hM : 0 < M) (h : N ≤ N') : rnq N M ≤ rnq N' M := by
  have a := rnq_near (N := N) hM
  have b := rnq_near (N := N') hM
  generalize rnq N M = k at *
  generalize rnq N' M = k' at *
  rcases Nat.lt_or_ge k' k with c | c
  · have e : (k' + 1) * M ≤ k * M := Nat.mul_le_mul_right _ c
    have e1 : (k' + 1) * M = k' * M + M := Nat.succ_mul _ _
    have a1 := a.low
    have b1 := b.high
    -- equality all along: both are ties, and k = k' + 1
    have t1 := a.lowTie (by omega)
    have t2 := b.highTie (by omega)
    have d : k < k' + 2 := by
      rcases Nat.lt_or_ge k (k' + 2) with x | x
      · exact x
      · have y : (k' + 2) * M ≤ k * M := Nat.mul_le_mul_right _ x
        have y1 : (k' + 2) * M = k' * M + 2 * M := Nat.add_mul _ _ _
        omega
    omega
  · exact c

/-- Any last place that fits gives the same rung. -/
theorem rungOf_eq (f : Format) (c n l : Nat) (hn : 0 < n) (hl : c ≤ l) (hhi : n ≤ 2 ^ (l + f.fractionBits + 1)) (hlo : l = c ∨ 2 ^ (l + f.fractionBits) ≤ n) :
    rungOf f c n = (l - c) * f.binade + rnq n (2 ^ l) := by
  have h1 : 2 ^ n.log2 ≤ n := Nat.log2_self_le (by omega)
  have h2 : n < 2 ^ (n.log2 + 1) := Nat.lt_log2_self
  unfold rungOf
  have hcase : lastOf f c n = l ∨ (n = 2 ^ (l + f.fractionBits + 1) ∧ lastOf f c n = l + 1) := by
    unfold lastOf
    rcases Nat.lt_or_ge n (2 ^ (l + f.fractionBits + 1)) with x | x
    · left
      have : n.log2 < l + f.fractionBits + 1 := (Nat.log2_lt (by omega)).2 x
      rcases hlo with e | e
      · subst e; omega
      · have : l + f.fractionBits ≤ n.log2 := (Nat.le_log2 (by omega)).2 e
        omega
    · right
      have e : n = 2 ^ (l + f.fractionBits + 1) := by omega
      refine ⟨e, ?_⟩
      rw [e, Nat.log2_two_pow]; omega
  rcases hcase with e | ⟨e, e'⟩
  · rw [e]
  · rw [e']
    have a : n = 2 ^ f.fractionBits * 2 ^ (l + 1) := by rw [e, ← Nat.pow_add]; congr 1; omega
    have b : n = 2 ^ (f.fractionBits + 1) * 2 ^ l := by rw [e, ← Nat.pow_add]; congr 1; omega
    have ra : rnq n (2 ^ (l + 1)) = 2 ^ f.fractionBits := by rw [a]; exact rnq_mul _ _ (Nat.two_pow_pos _)
    have rb : rnq n (2 ^ l) = 2 ^ (f.fractionBits + 1) := by rw [b]; exact rnq_mul _ _ (Nat.two_pow_pos _)
    rw [ra, rb, Nat.pow_succ]
    have : l + 1 - c = (l - c) + 1 := by omega
    rw [this, Nat.succ_mul]
    unfold Format.binade
    omega

theorem last_le (f : Format) (c n : Nat) (hn : 0 < n) : c ≤ lastOf f c n ∧ n < 2 ^ (lastOf f c n + f.fractionBits + 1) ∧ (lastOf f c n = c ∨ 2 ^ (lastOf f c n + f.fractionBits) ≤ n) := by
  have h1 : 2 ^ n.log2 ≤ n := Nat.log2_self_le (by omega)
  have h2 : n < 2 ^ (n.log2 + 1) := Nat.lt_log2_self
  refine ⟨by unfold lastOf; omega, ?_, ?_⟩
  · exact Nat.lt_of_lt_of_le h2 (Nat.pow_le_pow_right (by omega) (by unfold lastOf; omega))
  · by_cases h : c < n.log2 - f.fractionBits
    · right
      have : lastOf f c n + f.fractionBits = n.log2 := by unfold lastOf; omega
      rw [this]; exact h1
    · left; unfold lastOf; omega

/-- WHAT IS READ of the word of a number that is not too great: its value is the rounded one. -/
theorem read_nearest (f : Format) (neg : Bool) (K : Int) (c : Nat) (hc : f.leastPlace = K + c) {m : Nat} (hm : 0 < m) (j : Nat) (hinf : rungOf f c (m * 2 ^ j) < f.infRung) :
    ∃ m' e', f.read (f.nearest neg m (K + j)) = .number neg m' e' ∧ f.leastPlace ≤ e' ∧ m' * 2 ^ (e' - K).toNat = rnq (m * 2 ^ j) (2 ^ lastOf f c (m * 2 ^ j)) * 2 ^ lastOf f c (m * 2 ^ j) := by
  have hn : 0 < m * 2 ^ j := Nat.mul_pos hm (Nat.two_pow_pos j)
  rw [nearest_base f neg K c hc hm, Nat.min_eq_left (by omega)]
  generalize m * 2 ^ j = n at *
  obtain ⟨hl, hhi, hlo⟩ := last_le f c n hn
  generalize hL : lastOf f c n = l at *
  have hk : rnq n (2 ^ l) ≤ 2 * f.binade := by
    have : rnq n (2 ^ l) ≤ rnq (2 ^ (f.fractionBits + 1) * 2 ^ l) (2 ^ l) := by
      refine rnq_mono (Nat.two_pow_pos _) ?_
      rw [← Nat.pow_add]
      refine Nat.le_of_lt (Nat.lt_of_lt_of_le hhi (Nat.pow_le_pow_right (by omega) (by omega)))
    rw [rnq_mul _ _ (Nat.two_pow_pos _), Nat.pow_succ] at this
    unfold Format.binade; omega
  have hk2 : l = c ∨ f.binade ≤ rnq n (2 ^ l) := by
    rcases hlo with e | e
    · exact .inl e
    · right
      have : rnq (2 ^ f.fractionBits * 2 ^ l) (2 ^ l) ≤ rnq n (2 ^ l) := by
        refine rnq_mono (Nat.two_pow_pos _) ?_
        rw [← Nat.pow_add, Nat.add_comm]; exact e
      rw [rnq_mul _ _ (Nat.two_pow_pos _)] at this
      exact this
  have hR : rungOf f c n = (l - c) * f.binade + rnq n (2 ^ l) := by unfold rungOf; rw [hL]
  generalize rnq n (2 ^ l) = k at *
  have hb : 0 < f.binade := Nat.two_pow_pos _
  have hinfS : f.infRung < f.signWeight := by
    unfold Format.infRung Format.signWeight Format.binade
    rw [Nat.pow_add]
    exact Nat.mul_lt_mul_of_pos_right (by have := Nat.two_pow_pos f.exponentBits; omega) (Nat.two_pow_pos _)
  -- the word's sign and rung
  have hw1 : f.word neg (rungOf f c n) / f.signWeight % 2 = neg.toNat := by
    unfold Format.word
    cases neg with
    | false => simp only [Bool.false_eq_true, if_false]; rw [Nat.div_eq_of_lt (by omega)]; rfl
    | true =>
      simp only [if_true]
      rw [Nat.add_comm, Nat.add_div_right _ (by omega), Nat.div_eq_of_lt (by omega)]; rfl
  have hw2 : f.word neg (rungOf f c n) % f.signWeight = rungOf f c n := by
    unfold Format.word
    cases neg with
    | false => simp only [Bool.false_eq_true, if_false]; exact Nat.mod_eq_of_lt (by omega)
    | true => simp only [if_true]; rw [Nat.add_mod_left]; exact Nat.mod_eq_of_lt (by omega)
  unfold Format.read
  simp only [hw1, hw2]
  have hneg : (neg.toNat == 1) = neg := by cases neg <;> rfl
  rw [hneg]
  by_cases h0 : rungOf f c n < f.binade
  · rw [if_pos h0]
    have e : l = c := by
      rcases hk2 with e | e
      · exact e
      · omega
    subst e
    have : rungOf f l n = k := by rw [hR]; simp
    rw [this]
    refine ⟨k, f.leastPlace, rfl, by omega, ?_⟩
    congr 2; omega
  · rw [if_neg h0, if_pos hinf]
    refine ⟨_, _, rfl, by omega, ?_⟩
    have hdm := Nat.div_add_mod (rungOf f c n) f.binade
    have hmod := Nat.mod_lt (rungOf f c n) hb
    by_cases h1 : k < 2 * f.binade
    · have hkb : f.binade ≤ k := by
        rcases hk2 with e | e
        · subst e
          have : rungOf f l n = k := by rw [hR]; simp
          omega
        · exact e
      have d : rungOf f c n / f.binade = l - c + 1 := by
        rw [hR, Nat.add_comm, Nat.add_mul_div_right _ _ hb]
        rw [show k / f.binade = 1 by rw [Nat.div_eq_iff hb]; omega]; omega
      have r : rungOf f c n % f.binade = k - f.binade := by
        rw [hR, Nat.add_comm, Nat.add_mul_mod_self_right, Nat.mod_eq_sub_mod hkb, Nat.mod_eq_of_lt (by omega)]
      rw [d, r]
      congr 1
      · omega
      · congr 1; omega
    · have hk3 : k = 2 * f.binade := by omega
      have d : rungOf f c n / f.binade = l - c + 2 := by
        rw [hR, hk3, ← Nat.add_mul, Nat.mul_div_cancel _ hb]
      have r : rungOf f c n % f.binade = 0 := by
        rw [hR, hk3, ← Nat.add_mul, Nat.mul_mod_left]
      rw [d, r, hk3]
      have : (f.leastPlace + ((l - c + 2 - 1 : Nat) : Int) - K).toNat = l + 1 := by omega
      rw [this, Nat.pow_succ]
      simp only [Nat.add_zero, Nat.mul_assoc, Nat.mul_comm 2]

end Go.Proofs.Ytjjafjdjdjonfaa.Fl

/- Rounding to a double and then to a single is rounding to a single: of the values of sums, products and quotients of singles. Units: 2 ^ -1074; a single's least place is 925 above it. -/
namespace Go.Proofs.Ytjjafjdjdjonfaa.Fl
open Ieee

theorem rungOf_zero (f : Format) (c : Nat) : rungOf f c 0 = 0 := by
  have : lastOf f c 0 = c := by unfold lastOf; rw [show Nat.log2 0 = 0 from rfl]; omega
  unfold rungOf
  rw [this, show rnq 0 (2 ^ c) = 0 by
    have := rnq_mul 0 (2 ^ c) (Nat.two_pow_pos _); rwa [Nat.zero_mul] at this]
  simp

/-- The word of a sign and a magnitude in units of 2 ^ K. -/
def wordAt (f : Format) (c : Nat) (neg : Bool) (V : Nat) : Nat := f.word neg (min (rungOf f c V) f.infRung)

theorem nearest_val (f : Format) (neg : Bool) (K : Int) (c : Nat) (hc : f.leastPlace = K + c) (m : Nat) {p : Int} (hp : K ≤ p) :
    f.nearest neg m p = wordAt f c neg (m * 2 ^ (p - K).toNat) := by
  rcases Nat.eq_zero_or_pos m with z | z
  · subst z
    unfold wordAt Format.nearest
    rw [if_pos rfl, Nat.zero_mul, rungOf_zero, Nat.zero_min]
  · have := nearest_base f neg K c hc z (p - K).toNat
    rw [show K + ((p - K).toNat : Int) = p by omega] at this
    exact this

/-- The rounded value. -/
def rd (f : Format) (c V : Nat) : Nat := rnq V (2 ^ lastOf f c V) * 2 ^ lastOf f c V

theorem read_val (f : Format) (neg : Bool) (K : Int) (c : Nat) (hc : f.leastPlace = K + c) (V : Nat) (hinf : rungOf f c V < f.infRung) :
    ∃ m e, f.read (wordAt f c neg V) = .number neg m e ∧ f.leastPlace ≤ e ∧ m * 2 ^ (e - K).toNat = rd f c V := by
  rcases Nat.eq_zero_or_pos V with z | z
  · subst z
    refine ⟨0, f.leastPlace, ?_, by omega, ?_⟩
    · unfold wordAt
      rw [rungOf_zero, Nat.zero_min]
      have hb : 0 < f.binade := Nat.two_pow_pos _
      have hs : 0 < f.signWeight := Nat.two_pow_pos _
      unfold Format.read Format.word
      cases neg with
      | false => simp [hb]
      | true => simp [hb, Nat.div_self hs]
    · unfold rd
      have : rnq 0 (2 ^ lastOf f c 0) = 0 := by
        have := rnq_mul 0 (2 ^ lastOf f c 0) (Nat.two_pow_pos _); rwa [Nat.zero_mul] at this
      rw [this]; simp
  · have := read_nearest f neg K c hc z 0 (by rwa [Nat.pow_zero, Nat.mul_one])
    obtain ⟨m, e, h1, h2, h3⟩ := this
    rw [Nat.pow_zero, Nat.mul_one] at h3
    refine ⟨m, e, ?_, h2, h3⟩
    rw [← h1, nearest_val f neg K c hc V (by omega)]
    simp

/-- A value with few enough digits is not rounded. -/
theorem rd_exact (f : Format) (c t j : Nat) (ht : t < 2 ^ (f.fractionBits + 1)) (hj : c ≤ j) : rd f c (t * 2 ^ j) = t * 2 ^ j := by
  rcases Nat.eq_zero_or_pos t with z | z
  · subst z
    unfold rd
    rw [Nat.zero_mul]
    have := rnq_mul 0 (2 ^ lastOf f c 0) (Nat.two_pow_pos _)
    rw [Nat.zero_mul] at this
    rw [this, Nat.zero_mul]
  · have hl : lastOf f c (t * 2 ^ j) ≤ j := by
      unfold lastOf
      rw [log2_mul_pow z]
      have : t.log2 < f.fractionBits + 1 := (Nat.log2_lt (by omega)).2 ht
      omega
    unfold rd
    generalize lastOf f c (t * 2 ^ j) = l at *
    have e : t * 2 ^ j = (t * 2 ^ (j - l)) * 2 ^ l := by rw [Nat.mul_assoc, ← Nat.pow_add]; congr 2; omega
    rw [e, rnq_mul _ _ (Nat.two_pow_pos _)]

theorem fbS : single.fractionBits = 23 := rfl
theorem fbD : double.fractionBits = 52 := rfl
theorem leastS : single.leastPlace = (-1074 : Int) + (925 : Nat) := by decide
theorem leastD : double.leastPlace = (-1074 : Int) + (0 : Nat) := by decide
abbrev sRung (V : Nat) : Nat := rungOf single 925 V
abbrev dVal (V : Nat) : Nat := rd double 0 V

theorem pow_split {a b : Nat} (h : b ≤ a) : 2 ^ a = 2 ^ (a - b) * 2 ^ b := by rw [← Nat.pow_add, Nat.sub_add_cancel h]

/-- Rounding twice, where the value is not too near a midpoint of two singles. -/
theorem dround (V : Nat) (hm : ∀ q, 2 * V = (2 * q + 1) * 2 ^ lastOf single 925 V ∨ 2 * V + 2 ^ lastOf double 0 V < (2 * q + 1) * 2 ^ lastOf single 925 V ∨ (2 * q + 1) * 2 ^ lastOf single 925 V + 2 ^ lastOf double 0 V < 2 * V) :
    sRung (dVal V) = sRung V := by
  rcases Nat.eq_zero_or_pos V with z | z
  · subst z
    have := rd_exact double 0 0 0 (Nat.two_pow_pos _) (by omega)
    rw [Nat.zero_mul] at this
    show rungOf single 925 (rd double 0 0) = _
    rw [this]
  obtain ⟨s1, s2, s3⟩ := last_le single 925 V z
  obtain ⟨_, d2, d3⟩ := last_le double 0 V z
  have hls : lastOf double 0 V + 29 ≤ lastOf single 925 V := by unfold lastOf; rw [fbS, fbD]; omega
  show rungOf single 925 (rd double 0 V) = rungOf single 925 V
  have hR : rungOf single 925 V = (lastOf single 925 V - 925) * single.binade + rnq V (2 ^ lastOf single 925 V) := rfl
  rw [hR]
  unfold rd
  generalize lastOf single 925 V = ls at *
  generalize lastOf double 0 V = ld at *
  rw [fbS] at s2 s3
  rw [fbD] at d2 d3
  have pd : 0 < 2 ^ ld := Nat.two_pow_pos _
  have eAC : 2 ^ ls = 2 ^ ld * 2 ^ (ls - ld) := by rw [Nat.mul_comm]; exact pow_split (by omega)
  have hpos : 0 < rnq V (2 ^ ld) * 2 ^ ld := by
    refine Nat.mul_pos ?_ pd
    rcases d3 with e | e
    · subst e; rw [Nat.pow_zero, rnq_one]; exact z
    · have : rnq (2 ^ 52 * 2 ^ ld) (2 ^ ld) ≤ rnq V (2 ^ ld) := rnq_mono pd (by rw [← Nat.pow_add, Nat.add_comm]; exact e)
      rw [rnq_mul _ _ pd] at this
      exact Nat.lt_of_lt_of_le (Nat.two_pow_pos 52) this
  rw [rungOf_eq single 925 _ ls hpos s1 ?_ ?_]
  · refine congrArg ((ls - 925) * single.binade + ·) ?_
    rw [eAC, Nat.mul_comm (2 ^ ld) (2 ^ (ls - ld)), rnq_scale _ _ _ (Nat.two_pow_pos _) pd, Nat.mul_comm (2 ^ (ls - ld))]
    refine rnq_twice pd (Nat.two_pow_pos _) ?_ (fun q => by rw [← eAC]; exact hm q)
    obtain ⟨x, hx⟩ : ∃ x, ls - ld = x + 1 := ⟨ls - ld - 1, by omega⟩
    rw [hx, Nat.pow_succ]; omega
  · rw [fbS]
    have e : 2 ^ (ls + 23 + 1) = 2 ^ (ls + 23 + 1 - ld) * 2 ^ ld := pow_split (by omega)
    rw [e]
    refine Nat.mul_le_mul_right _ ?_
    have : rnq V (2 ^ ld) ≤ rnq (2 ^ (ls + 23 + 1 - ld) * 2 ^ ld) (2 ^ ld) := rnq_mono pd (by rw [← e]; exact Nat.le_of_lt s2)
    rwa [rnq_mul _ _ pd] at this
  · rw [fbS]
    rcases s3 with e | e
    · exact .inl e
    · right
      have e2 : 2 ^ (ls + 23) = 2 ^ (ls + 23 - ld) * 2 ^ ld := pow_split (by omega)
      rw [e2]
      refine Nat.mul_le_mul_right _ ?_
      have : rnq (2 ^ (ls + 23 - ld) * 2 ^ ld) (2 ^ ld) ≤ rnq V (2 ^ ld) := rnq_mono pd (by rw [← e2]; exact e)
      rwa [rnq_mul _ _ pd] at this

end Go.Proofs.Ytjjafjdjdjonfaa.Fl

/- Sums and products of singles, reckoned as doubles and rounded to a single, are those of singles. -/
namespace Go.Proofs.Ytjjafjdjdjonfaa.Fl
open Ieee

theorem near_sum {m n d b N : Nat} (hm : m < 16777216) (hm' : 8388608 ≤ m) (hn : n < 16777216) (hN : N = m * 2 ^ d + n ∨ N + n = m * 2 ^ d) (hbig : 2 ^ 53 ≤ N) (hb : 925 ≤ b) :
    sRung (dVal (N * 2 ^ b)) = sRung (N * 2 ^ b) := by
  have hN0 : 0 < N := Nat.lt_of_lt_of_le (Nat.two_pow_pos 53) hbig
  have pd : 0 < 2 ^ d := Nat.two_pow_pos d
  have u1 : m * 2 ^ d ≤ 16777215 * 2 ^ d := Nat.mul_le_mul_right _ (by omega)
  have u2 : 8388608 * 2 ^ d ≤ m * 2 ^ d := Nat.mul_le_mul_right _ hm'
  have e53 : (2 : Nat) ^ 53 = 9007199254740992 := by decide
  rw [e53] at hbig
  have hd : 29 ≤ d := by
    rcases Nat.lt_or_ge d 29 with x | x
    · have : 2 ^ d ≤ 2 ^ 28 := Nat.pow_le_pow_right (by omega) (by omega)
      rw [show (2 : Nat) ^ 28 = 268435456 by decide] at this
      omega
    · exact x
  have p29 : 536870912 ≤ 2 ^ d := by
    have : 2 ^ 29 ≤ 2 ^ d := Nat.pow_le_pow_right (by omega) hd
    rwa [show (2 : Nat) ^ 29 = 536870912 by decide] at this
  have hlo : N.log2 ≥ d + 22 := by
    refine (Nat.le_log2 (by omega)).2 ?_
    rw [Nat.pow_add, show (2 : Nat) ^ 22 = 4194304 by decide]; omega
  have hhi : N.log2 < d + 24 := by
    refine (Nat.log2_lt (by omega)).2 ?_
    rw [Nat.pow_add, show (2 : Nat) ^ 24 = 16777216 by decide]; omega
  have h53 : 53 ≤ N.log2 := (Nat.le_log2 (by omega)).2 (by rw [e53]; exact hbig)
  obtain ⟨l, hl⟩ : ∃ l, N.log2 = l + 52 := ⟨N.log2 - 52, by omega⟩
  have hs : lastOf single 925 (N * 2 ^ b) = l + 29 + b := by unfold lastOf; rw [log2_mul_pow hN0, fbS]; omega
  have hdd : lastOf double 0 (N * 2 ^ b) = l + b := by unfold lastOf; rw [log2_mul_pow hN0, fbD]; omega
  -- m * 2 ^ d is a whole number c of units 2 ^ (l + 29)
  obtain ⟨c, hc⟩ : ∃ c, m * 2 ^ d = c * 2 ^ (l + 29) := by
    have : d = l + 29 ∨ d = l + 29 + 1 := by omega
    rcases this with e | e
    · exact ⟨m, by rw [e]⟩
    · exact ⟨m * 2, by rw [e, Nat.pow_succ]; simp only [Nat.mul_assoc, Nat.mul_comm 2]⟩
  refine dround _ fun q => ?_
  rw [hs, hdd]
  right
  have pb : 0 < 2 ^ b := Nat.two_pow_pos b
  have eu : 2 ^ (l + 29) = 536870912 * 2 ^ l := by rw [Nat.pow_add, show (2 : Nat) ^ 29 = 536870912 by decide, Nat.mul_comm]
  have hu : 2 ≤ 2 ^ l := by
    have : 2 ^ 1 ≤ 2 ^ l := Nat.pow_le_pow_right (by omega) (by omega)
    simpa using this
  have core : 2 * N + 2 ^ l < (2 * q + 1) * 2 ^ (l + 29) ∨ (2 * q + 1) * 2 ^ (l + 29) + 2 ^ l < 2 * N := by
    rw [eu] at hc ⊢
    generalize 2 ^ l = u at *
    have f1 : (2 * q + 1) * (536870912 * u) = 1073741824 * (q * u) + 536870912 * u := by
      rw [Nat.add_mul, Nat.one_mul, Nat.mul_assoc 2, Nat.mul_left_comm q]; omega
    have f2 : c * (536870912 * u) = 536870912 * (c * u) := Nat.mul_left_comm _ _ _
    rw [f1]
    rw [f2] at hc
    rcases Nat.lt_or_ge q c with x | x
    · have : (q + 1) * u ≤ c * u := Nat.mul_le_mul_right _ x
      rw [Nat.succ_mul] at this
      right; omega
    · have : c * u ≤ q * u := Nat.mul_le_mul_right _ x
      left; omega
  have g1 : 2 * (N * 2 ^ b) = (2 * N) * 2 ^ b := (Nat.mul_assoc _ _ _).symm
  have g2 : 2 ^ (l + b) = 2 ^ l * 2 ^ b := Nat.pow_add _ _ _
  have g3 : (2 * q + 1) * 2 ^ (l + 29 + b) = ((2 * q + 1) * 2 ^ (l + 29)) * 2 ^ b := by rw [Nat.pow_add 2 (l + 29) b, Nat.mul_assoc]
  rw [g1, g2, g3, ← Nat.add_mul, ← Nat.add_mul]
  rcases core with x | x
  · left; exact Nat.mul_lt_mul_of_pos_right x pb
  · right; exact Nat.mul_lt_mul_of_pos_right x pb

theorem exact_round {t j : Nat} (ht : t < 2 ^ 53) : sRung (dVal (t * 2 ^ j)) = sRung (t * 2 ^ j) := by
  show rungOf single 925 (rd double 0 (t * 2 ^ j)) = _
  rw [rd_exact double 0 t j (by rw [fbD]; exact ht) (by omega)]

/-- What a word of a single stands for. -/
structure Sgl (s : Bool) (m : Nat) (p : Int) : Prop where
  small : m < 16777216
  low : -149 ≤ p
  high : p ≤ 104
  norm : p = -149 ∨ 8388608 ≤ m

theorem read_single {x : Nat} {s : Bool} {m : Nat} {p : Int} (h : single.read x = .number s m p) : Sgl s m p := by
  unfold Format.read at h
  have b : single.binade = 8388608 := by decide
  have i : single.infRung = 2139095040 := by decide
  have l : single.leastPlace = -149 := by decide
  rw [b, i, l] at h
  simp only at h
  split at h
  · cases h; exact ⟨by omega, by omega, by omega, .inl rfl⟩
  · split at h
    · rename_i h1 h2
      cases h
      have : x % single.signWeight % 8388608 < 8388608 := Nat.mod_lt _ (by omega)
      have q : x % single.signWeight / 8388608 ≤ 254 := by omega
      exact ⟨by omega, by omega, by omega, .inr (by omega)⟩
    · split at h <;> cases h

/-- The value in units of 2 ^ -1074, with its sign. -/
def vOf (s : Bool) (m : Nat) (p : Int) : Int := signed s m (p + 1074).toNat

theorem signed_eq (s : Bool) (m j : Nat) : signed s m j = (if s then -1 else 1) * ((m * 2 ^ j : Nat) : Int) := by
  unfold signed; rw [Nat.shiftLeft_eq]; cases s <;> simp

theorem signed_scale (s : Bool) (m a b : Nat) : signed s m (a + b) = signed s m a * ((2 ^ b : Nat) : Int) := by
  rw [signed_eq, signed_eq, Nat.pow_add, ← Nat.mul_assoc]
  simp only [Int.natCast_mul, Int.mul_assoc]

/-- Sums, by the values. -/
theorem sum_val {s t : Bool} {m n : Nat} {i j : Int} (hi : -1074 ≤ i) (hj : -1074 ≤ j) :
    ∃ a b, Datum.sum (.number s m i) (.number t n j) = some (.number (if vOf s m i + vOf t n j = 0 then s && t else decide (vOf s m i + vOf t n j < 0)) a b) ∧ -1074 ≤ b ∧ a * 2 ^ (b + 1074).toNat = (vOf s m i + vOf t n j).natAbs := by
  have hV : vOf s m i + vOf t n j = (signed s m (i - min i j).toNat + signed t n (j - min i j).toNat) * ((2 ^ (min i j + 1074).toNat : Nat) : Int) := by
    unfold vOf
    rw [Int.add_mul, ← signed_scale, ← signed_scale]
    congr 2 <;> omega
  generalize hT : signed s m (i - min i j).toNat + signed t n (j - min i j).toNat = T at *
  have hp : (0 : Int) < ((2 ^ (min i j + 1074).toNat : Nat) : Int) := Int.natCast_pos.2 (Nat.two_pow_pos _)
  have z : vOf s m i + vOf t n j = 0 ↔ T = 0 := by
    rw [hV]
    constructor
    · intro h; rcases Int.mul_eq_zero.1 h with x | x
      · exact x
      · omega
    · intro h; rw [h, Int.zero_mul]
  have g : vOf s m i + vOf t n j < 0 ↔ T < 0 := by
    rw [hV]
    constructor
    · intro h
      by_cases x : T < 0
      · exact x
      · have := Int.mul_nonneg (Int.not_lt.1 x) (Int.le_of_lt hp); omega
    · intro h; exact Int.mul_neg_of_neg_of_pos h hp
  refine ⟨T.natAbs, min i j, ?_, by omega, ?_⟩
  · simp only [Datum.sum, hT]
    congr 2
    by_cases h : T = 0
    · rw [if_pos h, if_pos (z.2 h)]
    · rw [if_neg h, if_neg (fun c => h (z.1 c))]
      by_cases h' : T < 0
      · simp [h', g.2 h']
      · have : ¬ (vOf s m i + vOf t n j < 0) := fun c => h' (g.1 c)
        simp [h', this]
  · rw [hV, Int.natAbs_mul, Int.natAbs_natCast]

/-- The magnitude of a sum of singles rounds as a double and then as a single as it does at once. -/
theorem sum_round {s t : Bool} {m n : Nat} {i j : Int} (h1 : Sgl s m i) (h2 : Sgl t n j) : sRung (dVal (vOf s m i + vOf t n j).natAbs) = sRung (vOf s m i + vOf t n j).natAbs := by
  have key : ∀ {s t : Bool} {m n : Nat} {i j : Int}, Sgl s m i → Sgl t n j → j ≤ i → sRung (dVal (vOf s m i + vOf t n j).natAbs) = sRung (vOf s m i + vOf t n j).natAbs := by
    intro s t m n i j h1 h2 hij
    obtain ⟨d, hd⟩ : ∃ d : Nat, i = j + d := ⟨(i - j).toNat, by omega⟩
    have hb : 925 ≤ (j + 1074).toNat := by have := h2.low; omega
    have e : vOf s m i + vOf t n j = (signed s m d + signed t n 0) * ((2 ^ (j + 1074).toNat : Nat) : Int) := by
      unfold vOf
      rw [Int.add_mul, ← signed_scale, ← signed_scale]
      congr 2
      · have := h2.low; omega
      · omega
    rw [e, Int.natAbs_mul, Int.natAbs_natCast]
    generalize (j + 1074).toNat = b at *
    rcases Nat.lt_or_ge (signed s m d + signed t n 0).natAbs (2 ^ 53) with x | x
    · exact exact_round x
    · have hd0 : d ≠ 0 := by
        intro z; subst z
        rw [show (2 : Nat) ^ 53 = 9007199254740992 by decide] at x
        rw [signed_eq, signed_eq] at x
        have := h1.small; have := h2.small
        simp only [Nat.pow_zero, Nat.mul_one] at x
        cases s <;> cases t <;> simp at x <;> omega
      have hm : 8388608 ≤ m := by
        rcases h1.norm with y | y
        · have := h2.low; omega
        · exact y
      have hmd : 8388608 * 2 ≤ m * 2 ^ d := by
        have : 2 ^ 1 ≤ 2 ^ d := Nat.pow_le_pow_right (by omega) (by omega)
        exact Nat.mul_le_mul hm (by simpa using this)
      have hn := h2.small
      refine near_sum (d := d) h1.small hm hn ?_ x hb
      rw [signed_eq, signed_eq, Nat.pow_zero, Nat.mul_one]
      generalize m * 2 ^ d = P at *
      cases s <;> cases t <;> simp only [Bool.false_eq_true, if_false, if_true] <;> omega
  rcases Int.le_total j i with h | h
  · exact key h1 h2 h
  · rw [Int.add_comm]; exact key h2 h1 h

end Go.Proofs.Ytjjafjdjdjonfaa.Fl

/- The words: a sum, a difference, a product of two singles, reckoned as doubles and turned into a single, has the very bits of the single's own operation. 'Bd k x': x is a finite single of magnitude at most 2 ^ k. -/
namespace Go.Proofs.Ytjjafjdjdjonfaa.Fl
open Ieee

theorem rung_le (f : Format) (c V : Nat) : rungOf f c V ≤ (lastOf f c V - c) * f.binade + 2 * f.binade := by
  rcases Nat.eq_zero_or_pos V with z | z
  · subst z; rw [rungOf_zero]; omega
  · obtain ⟨_, h2, _⟩ := last_le f c V z
    unfold rungOf
    refine Nat.add_le_add_left ?_ _
    generalize lastOf f c V = l at *
    have : rnq V (2 ^ l) ≤ rnq (2 ^ (f.fractionBits + 1) * 2 ^ l) (2 ^ l) := by
      refine rnq_mono (Nat.two_pow_pos _) ?_
      rw [← Nat.pow_add]
      exact Nat.le_of_lt (Nat.lt_of_lt_of_le h2 (Nat.pow_le_pow_right (by omega) (by omega)))
    rw [rnq_mul _ _ (Nat.two_pow_pos _), Nat.pow_succ] at this
    unfold Format.binade; omega

theorem log_lt {V B : Nat} (h : V < 2 ^ B) (hB : 0 < B) : V.log2 < B := by
  rcases Nat.eq_zero_or_pos V with z | z
  · subst z; exact hB
  · exact (Nat.log2_lt (by omega)).2 h

theorem log_lt' {V B C : Nat} (h : V < 2 ^ B) (hB : B ≤ C) (hC : 0 < C) : V.log2 < C :=
  log_lt (Nat.lt_of_lt_of_le h (Nat.pow_le_pow_right (by omega) hB)) hC
theorem two_le {a b : Nat} (h : a ≤ b) : 2 ^ a ≤ 2 ^ b := Nat.pow_le_pow_right (by omega) h

theorem rungS_lt {V B : Nat} (h : V < 2 ^ B) (hB : B < 1202) : sRung V < single.infRung := by
  have h1 := rung_le single 925 V
  have h2 : V.log2 < 1201 := log_lt' h (by omega) (by omega)
  have h3 : lastOf single 925 V - 925 ≤ 252 := by unfold lastOf; rw [fbS]; omega
  have hb : single.binade = 8388608 := by decide
  have hi : single.infRung = 2139095040 := by decide
  rw [hb] at h1
  rw [hi]
  show rungOf single 925 V < _
  have := Nat.mul_le_mul_right 8388608 h3
  omega

theorem rungD_lt {V B : Nat} (h : V < 2 ^ B) (hB : B < 2098) : rungOf double 0 V < double.infRung := by
  have h1 := rung_le double 0 V
  have h2 : V.log2 < 2097 := log_lt' h (by omega) (by omega)
  have h3 : lastOf double 0 V - 0 ≤ 2044 := by unfold lastOf; rw [fbD]; omega
  have hb : double.binade = 4503599627370496 := by decide
  have hi : double.infRung = 9218868437227405312 := by decide
  rw [hb] at h1
  rw [hi]
  have := Nat.mul_le_mul_right 4503599627370496 h3
  omega

/-- x is a finite single of magnitude at most 2 ^ k. -/
def Bd (k x : Nat) : Prop := ∃ s m p, single.read x = .number s m p ∧ m * 2 ^ (p + 1074).toNat ≤ 2 ^ (1074 + k)

theorem toD {x : Nat} {s : Bool} {m : Nat} {p : Int} (hx : single.read x = .number s m p) :
    ∃ X M I, floatToFloatBits .f32 x .f64 = some X ∧ double.read X = .number s M I ∧ -1074 ≤ I ∧ M * 2 ^ (I + 1074).toNat = m * 2 ^ (p + 1074).toNat ∧ (M ≠ 0 → -300 ≤ I) := by
  obtain ⟨h1, h2, h3, h4⟩ := read_single hx
  have hn := nearest_val double s (-1074) 0 leastD m (p := p) (by omega)
  obtain ⟨E, hE⟩ : ∃ E : Nat, E = 1202 := ⟨_, rfl⟩
  have hV : m * 2 ^ (p + 1074).toNat < 2 ^ E := by
    have a : 2 ^ (p + 1074).toNat ≤ 2 ^ (E - 24) := two_le (by omega)
    have b : (16777216 : Nat) = 2 ^ 24 := by decide
    calc m * 2 ^ (p + 1074).toNat ≤ m * 2 ^ (E - 24) := Nat.mul_le_mul_left _ a
      _ < 2 ^ 24 * 2 ^ (E - 24) := Nat.mul_lt_mul_of_pos_right (by rw [← b]; exact h1) (Nat.two_pow_pos _)
      _ = 2 ^ E := by rw [← Nat.pow_add]; congr 1; omega
  obtain ⟨M, I, r1, r2, r3⟩ := read_val double s (-1074) 0 leastD (m * 2 ^ (p + 1074).toNat) (rungD_lt hV (by omega))
  have hex : rd double 0 (m * 2 ^ (p + 1074).toNat) = m * 2 ^ (p + 1074).toNat := rd_exact double 0 m _ (by rw [fbD]; exact Nat.lt_of_lt_of_le h1 (by decide)) (by omega)
  have e : (I - (-1074)).toNat = (I + 1074).toNat := by omega
  have eD : (p - (-1074)).toNat = (p + 1074).toNat := by omega
  rw [hex, e] at r3
  rw [eD] at hn
  have hl : double.leastPlace = -1074 := by decide
  rw [hl] at r2
  refine ⟨double.nearest s m p, M, I, ?_, by rw [hn]; exact r1, r2, r3, ?_⟩
  · unfold floatToFloatBits
    rw [if_neg (by decide)]
    have : FloatKind.f32.decode x = .number s m p := hx
    simp only [this]
    have w : FloatKind.f64.encode (.number s m p) = double.nearest s m p := rfl
    rw [w]
    have d : FloatKind.f64.decode (double.nearest s m p) = .number s M I := by rw [hn]; exact r1
    rw [d]; rfl
  · intro hM
    have hb : M < 2 ^ 53 := by
      unfold Format.read at r1
      have b : double.binade = 4503599627370496 := by decide
      rw [b] at r1
      simp only at r1
      split at r1
      · simp only [Datum.number.injEq] at r1
        have : (2 : Nat) ^ 53 = 9007199254740992 := by decide
        omega
      · split at r1
        · simp only [Datum.number.injEq] at r1
          have := Nat.mod_lt (wordAt double 0 s (m * 2 ^ (p + 1074).toNat) % double.signWeight) (show 0 < 4503599627370496 by omega)
          have : (2 : Nat) ^ 53 = 9007199254740992 := by decide
          omega
        · split at r1 <;> cases r1
    -- a value that is not nought is at least 2 ^ 925 units
    rcases Int.lt_or_le I (-300) with x | x
    · exfalso
      have m0 : 0 < m := by
        rcases Nat.eq_zero_or_pos m with z | z
        · subst z; rw [Nat.zero_mul] at r3; have := Nat.mul_pos (Nat.pos_of_ne_zero hM) (Nat.two_pow_pos (I + 1074).toNat); omega
        · exact z
      obtain ⟨E, hE⟩ : ∃ E : Nat, E = 925 := ⟨_, rfl⟩
      have a : 2 ^ E ≤ m * 2 ^ (p + 1074).toNat := by
        calc 2 ^ E ≤ 2 ^ (p + 1074).toNat := two_le (by omega)
          _ ≤ m * 2 ^ (p + 1074).toNat := Nat.le_mul_of_pos_left _ m0
      have c : M * 2 ^ (I + 1074).toNat < 2 ^ 53 * 2 ^ (E - 53) := by
        calc M * 2 ^ (I + 1074).toNat ≤ M * 2 ^ (E - 53) := Nat.mul_le_mul_left _ (two_le (by omega))
          _ < 2 ^ 53 * 2 ^ (E - 53) := Nat.mul_lt_mul_of_pos_right hb (Nat.two_pow_pos _)
      rw [← Nat.pow_add] at c
      have : 2 ^ (53 + (E - 53)) ≤ 2 ^ E := two_le (by omega)
      omega
    · exact x

/-- Back from a double: the double nearest to a value that rounds twice as once. -/
theorem back {sg : Bool} {V B : Nat} (hB : V < 2 ^ B) (hB' : B < 1202) (hr : sRung (dVal V) = sRung V) :
    floatToFloatBits .f64 (wordAt double 0 sg V) .f32 = some (wordAt single 925 sg V) := by
  obtain ⟨M, I, r1, r2, r3⟩ := read_val double sg (-1074) 0 leastD V (rungD_lt hB (by omega))
  have hl : double.leastPlace = -1074 := by decide
  rw [hl] at r2
  have hn := nearest_val single sg (-1074) 925 leastS M (p := I) (by omega)
  rw [r3] at hn
  have hw : wordAt single 925 sg (rd double 0 V) = wordAt single 925 sg V := by
    unfold wordAt
    have : rungOf single 925 (rd double 0 V) = rungOf single 925 V := hr
    rw [this]
  rw [hw] at hn
  obtain ⟨M', I', q1, _, _⟩ := read_val single sg (-1074) 925 leastS V (rungS_lt hB hB')
  unfold floatToFloatBits
  rw [if_neg (by decide)]
  have d : FloatKind.f64.decode (wordAt double 0 sg V) = .number sg M I := r1
  simp only [d]
  have w : FloatKind.f32.encode (.number sg M I) = wordAt single 925 sg V := hn
  rw [w]
  have d2 : FloatKind.f32.decode (wordAt single 925 sg V) = .number sg M' I' := q1
  rw [d2]; rfl

theorem rd_zero (f : Format) (c : Nat) : rd f c 0 = 0 := by
  have := rd_exact f c 0 c (Nat.two_pow_pos _) (by omega)
  rwa [Nat.zero_mul] at this

theorem bd_word {sg : Bool} {V k : Nat} (hV : V ≤ 2 ^ (1074 + k)) (hk : k ≤ 126) : Bd k (wordAt single 925 sg V) := by
  have hlt : V < 2 ^ (1074 + k + 1) := Nat.lt_of_le_of_lt hV (Nat.pow_lt_pow_right (by omega) (by omega))
  obtain ⟨M, I, q1, _, q3⟩ := read_val single sg (-1074) 925 leastS V (rungS_lt hlt (by omega))
  refine ⟨sg, M, I, q1, ?_⟩
  have e : (I - (-1074)).toNat = (I + 1074).toNat := by omega
  rw [e] at q3
  rw [q3]
  -- rounding is monotone, and a power of two is not rounded
  rcases Nat.eq_zero_or_pos V with z | z
  · subst z
    rw [rd_zero]; exact Nat.zero_le _
  obtain ⟨l1, l2, l3⟩ := last_le single 925 V z
  unfold rd
  generalize lastOf single 925 V = l at *
  rw [fbS] at l2 l3
  have hl : l ≤ 1074 + k := by
    rcases l3 with e | e
    · omega
    · have : 2 ^ (l + 23) ≤ 2 ^ (1074 + k) := Nat.le_trans e hV
      have := (Nat.pow_le_pow_iff_right (by omega : 1 < 2)).1 this
      omega
  have pl : 0 < 2 ^ l := Nat.two_pow_pos l
  rw [pow_split hl]
  refine Nat.mul_le_mul_right _ ?_
  have : rnq V (2 ^ l) ≤ rnq (2 ^ (1074 + k - l) * 2 ^ l) (2 ^ l) := rnq_mono pl (by rw [← pow_split hl]; exact hV)
  rwa [rnq_mul _ _ pl] at this

/-- What the operation, the detour over doubles and the bound come to. -/
structure Same2 (op : BinOp) (k x y : Nat) : Prop where
  ex : ∃ X Y Z r, floatToFloatBits .f32 x .f64 = some X ∧ floatToFloatBits .f32 y .f64 = some Y ∧ floatBits op .f64 X Y = some Z ∧ floatToFloatBits .f64 Z .f32 = some r ∧ floatBits op .f32 x y = some r ∧ Bd k r

theorem sum_core {k : Nat} {s t : Bool} {m n : Nat} {i j : Int} (h1 : Sgl s m i) (h2 : Sgl t n j) (b1 : m * 2 ^ (i + 1074).toNat ≤ 2 ^ (1074 + k)) (b2 : n * 2 ^ (j + 1074).toNat ≤ 2 ^ (1074 + k)) (hk : k ≤ 120)
    {M N : Nat} {I J : Int} (hI : -1074 ≤ I) (hJ : -1074 ≤ J) (e1 : M * 2 ^ (I + 1074).toNat = m * 2 ^ (i + 1074).toNat) (e2 : N * 2 ^ (J + 1074).toNat = n * 2 ^ (j + 1074).toNat) :
    ∃ Z r, ((Datum.number s M I).sum (.number t N J)).map double.write = some Z ∧ floatToFloatBits .f64 Z .f32 = some r ∧ ((Datum.number s m i).sum (.number t n j)).map single.write = some r ∧ Bd (k + 1) r := by
  obtain ⟨a, b, q1, q2, q3⟩ := sum_val (s := s) (t := t) (m := m) (n := n) (i := i) (j := j) (by have := h1.low; omega) (by have := h2.low; omega)
  obtain ⟨A, B, w1, w2, w3⟩ := sum_val (s := s) (t := t) (m := M) (n := N) (i := I) (j := J) hI hJ
  have v1 : vOf s M I = vOf s m i := by unfold vOf; rw [signed_eq, signed_eq, e1]
  have v2 : vOf t N J = vOf t n j := by unfold vOf; rw [signed_eq, signed_eq, e2]
  rw [v1, v2] at w1 w3
  have hr := sum_round h1 h2
  have hV : (vOf s m i + vOf t n j).natAbs ≤ 2 ^ (1074 + (k + 1)) := by
    have p : 2 ^ (1074 + (k + 1)) = 2 ^ (1074 + k) + 2 ^ (1074 + k) := by rw [← Nat.add_assoc, Nat.pow_succ, Nat.mul_two]
    have n1 : (vOf s m i).natAbs = m * 2 ^ (i + 1074).toNat := by unfold vOf; rw [signed_eq, Int.natAbs_mul, Int.natAbs_natCast]; cases s <;> simp
    have n2 : (vOf t n j).natAbs = n * 2 ^ (j + 1074).toNat := by unfold vOf; rw [signed_eq, Int.natAbs_mul, Int.natAbs_natCast]; cases t <;> simp
    have := Int.natAbs_add_le (vOf s m i) (vOf t n j)
    omega
  generalize (vOf s m i + vOf t n j).natAbs = V at *
  have hlt : V < 2 ^ (1074 + (k + 1) + 1) := Nat.lt_of_le_of_lt hV (Nat.pow_lt_pow_right (by omega) (by omega))
  generalize (if vOf s m i + vOf t n j = 0 then s && t else decide (vOf s m i + vOf t n j < 0)) = sg at *
  refine ⟨wordAt double 0 sg V, wordAt single 925 sg V, ?_, back hlt (by omega) hr, ?_, bd_word hV (by omega)⟩
  · rw [w1]
    show some (double.nearest sg A B) = _
    rw [nearest_val double sg (-1074) 0 leastD A (p := B) w2, show (B - (-1074)).toNat = (B + 1074).toNat by omega, w3]
  · rw [q1]
    show some (single.nearest sg a b) = _
    rw [nearest_val single sg (-1074) 925 leastS a (p := b) q2, show (b - (-1074)).toNat = (b + 1074).toNat by omega, q3]

theorem add_same {k x y : Nat} (hk : k ≤ 120) (hx : Bd k x) (hy : Bd k y) : Same2 .add (k + 1) x y := by
  obtain ⟨s, m, i, r1, b1⟩ := hx
  obtain ⟨t, n, j, r2, b2⟩ := hy
  obtain ⟨X, M, I, c1, c2, c3, c4, _⟩ := toD r1
  obtain ⟨Y, N, J, d1, d2, d3, d4, _⟩ := toD r2
  obtain ⟨Z, r, z1, z2, z3, z4⟩ := sum_core (read_single r1) (read_single r2) b1 b2 hk c3 d3 c4 d4
  refine ⟨X, Y, Z, r, c1, d1, ?_, z2, ?_, z4⟩
  · show ((double.read X).sum (double.read Y)).map double.write = _
    rw [c2, d2]; exact z1
  · show ((single.read x).sum (single.read y)).map single.write = _
    rw [r1, r2]; exact z3

theorem sub_same {k x y : Nat} (hk : k ≤ 120) (hx : Bd k x) (hy : Bd k y) : Same2 .sub (k + 1) x y := by
  obtain ⟨s, m, i, r1, b1⟩ := hx
  obtain ⟨t, n, j, r2, b2⟩ := hy
  obtain ⟨X, M, I, c1, c2, c3, c4, _⟩ := toD r1
  obtain ⟨Y, N, J, d1, d2, d3, d4, _⟩ := toD r2
  have g := read_single r2
  obtain ⟨Z, r, z1, z2, z3, z4⟩ := sum_core (t := !t) (read_single r1) ⟨g.small, g.low, g.high, g.norm⟩ b1 b2 hk c3 d3 c4 d4
  refine ⟨X, Y, Z, r, c1, d1, ?_, z2, ?_, z4⟩
  · show ((double.read X).sum (double.read Y).opposite).map double.write = _
    rw [c2, d2]; exact z1
  · show ((single.read x).sum (single.read y).opposite).map single.write = _
    rw [r1, r2]; exact z3

end Go.Proofs.Ytjjafjdjdjonfaa.Fl

/- Products and quotients of singles, reckoned as doubles and turned into a single. -/
namespace Go.Proofs.Ytjjafjdjdjonfaa.Fl
open Ieee

theorem wordAt_zero (f : Format) (c : Nat) (sg : Bool) : wordAt f c sg 0 = f.word sg 0 := by unfold wordAt; rw [rungOf_zero, Nat.zero_min]
theorem nearest_zero (f : Format) (sg : Bool) (p : Int) : f.nearest sg 0 p = f.word sg 0 := by unfold Format.nearest; rw [if_pos rfl]
theorem pow_add_toNat {I J K L : Int} (h : I + J = K + L) (hI : 0 ≤ I) (hJ : 0 ≤ J) (hK : 0 ≤ K) (hL : 0 ≤ L) : 2 ^ I.toNat * 2 ^ J.toNat = 2 ^ K.toNat * 2 ^ L.toNat := by
  rw [← Nat.pow_add, ← Nat.pow_add]; congr 1; omega

theorem mul_same {a b x y : Nat} (hab : a + b ≤ 126) (hx : Bd a x) (hy : Bd b y) : Same2 .mul (a + b) x y := by
  obtain ⟨s, m, i, r1, b1⟩ := hx
  obtain ⟨t, n, j, r2, b2⟩ := hy
  obtain ⟨X, M, I, c1, c2, c3, c4, c5⟩ := toD r1
  obtain ⟨Y, N, J, d1, d2, d3, d4, d5⟩ := toD r2
  have g1 := read_single r1
  have g2 := read_single r2
  have l1 := g1.low
  have l2 := g2.low
  have s1 := g1.small
  have s2 := g2.small
  -- the magnitude in units
  obtain ⟨V, hV⟩ : ∃ V, V = (m * n) * 2 ^ (i + j + 1074).toNat := ⟨_, rfl⟩
  have hVD : double.nearest (s ^^ t) (M * N) (I + J) = wordAt double 0 (s ^^ t) V := by
    by_cases z : M = 0 ∨ N = 0
    · have zz : M * N = 0 := by rcases z with z | z <;> rw [z] <;> simp
      have z' : m = 0 ∨ n = 0 := by
        rcases z with z | z
        · left; rw [z, Nat.zero_mul] at c4
          rcases Nat.eq_zero_or_pos m with q | q
          · exact q
          · have := Nat.mul_pos q (Nat.two_pow_pos (i + 1074).toNat); omega
        · right; rw [z, Nat.zero_mul] at d4
          rcases Nat.eq_zero_or_pos n with q | q
          · exact q
          · have := Nat.mul_pos q (Nat.two_pow_pos (j + 1074).toNat); omega
      have v0 : V = 0 := by rw [hV]; rcases z' with z | z <;> rw [z] <;> simp
      rw [zz, v0, nearest_zero, wordAt_zero]
    · have k1 := c5 (fun h => z (.inl h))
      have k2 := d5 (fun h => z (.inr h))
      rw [nearest_val double _ (-1074) 0 leastD (M * N) (p := I + J) (by omega)]
      congr 1
      rw [hV]
      have e : (I + J - -1074).toNat = (I + J + 1074).toNat := by omega
      rw [e]
      -- both sides times 2 ^ 1074
      refine Nat.eq_of_mul_eq_mul_right (Nat.two_pow_pos (1074 : Int).toNat) ?_
      have p1 := pow_add_toNat (I := I + J + 1074) (J := 1074) (K := I + 1074) (L := J + 1074) (by omega) (by omega) (by omega) (by omega) (by omega)
      have p2 := pow_add_toNat (I := i + j + 1074) (J := 1074) (K := i + 1074) (L := j + 1074) (by omega) (by omega) (by omega) (by omega) (by omega)
      rw [Nat.mul_assoc (M * N), Nat.mul_assoc (m * n), p1, p2]
      calc M * N * (2 ^ (I + 1074).toNat * 2 ^ (J + 1074).toNat) = (M * 2 ^ (I + 1074).toNat) * (N * 2 ^ (J + 1074).toNat) := by simp only [Nat.mul_assoc, Nat.mul_left_comm]
        _ = (m * 2 ^ (i + 1074).toNat) * (n * 2 ^ (j + 1074).toNat) := by rw [c4, d4]
        _ = m * n * (2 ^ (i + 1074).toNat * 2 ^ (j + 1074).toNat) := by simp only [Nat.mul_assoc, Nat.mul_left_comm]
  have hVS : single.nearest (s ^^ t) (m * n) (i + j) = wordAt single 925 (s ^^ t) V := by
    rw [nearest_val single _ (-1074) 925 leastS (m * n) (p := i + j) (by omega), hV]
    congr 2
  have hr : sRung (dVal V) = sRung V := by
    rw [hV]
    refine exact_round ?_
    have : m * n ≤ 16777215 * 16777215 := Nat.mul_le_mul (by omega) (by omega)
    have : (2 : Nat) ^ 53 = 9007199254740992 := by decide
    omega
  have hB : V ≤ 2 ^ (1074 + (a + b)) := by
    refine Nat.le_of_mul_le_mul_right ?_ (Nat.two_pow_pos (1074 : Int).toNat)
    have p2 := pow_add_toNat (I := i + j + 1074) (J := 1074) (K := i + 1074) (L := j + 1074) (by omega) (by omega) (by omega) (by omega) (by omega)
    rw [hV, Nat.mul_assoc, p2]
    calc m * n * (2 ^ (i + 1074).toNat * 2 ^ (j + 1074).toNat) = (m * 2 ^ (i + 1074).toNat) * (n * 2 ^ (j + 1074).toNat) := by simp only [Nat.mul_assoc, Nat.mul_left_comm]
      _ ≤ 2 ^ (1074 + a) * 2 ^ (1074 + b) := Nat.mul_le_mul b1 b2
      _ = 2 ^ (1074 + (a + b)) * 2 ^ (1074 : Int).toNat := by rw [← Nat.pow_add, ← Nat.pow_add]; exact congrArg (2 ^ ·) (by omega)
  have hlt : V < 2 ^ (1074 + (a + b) + 1) := Nat.lt_of_le_of_lt hB (Nat.pow_lt_pow_right (by omega) (by omega))
  refine ⟨X, Y, wordAt double 0 (s ^^ t) V, wordAt single 925 (s ^^ t) V, c1, d1, ?_, back hlt (by omega) hr, ?_, bd_word hB (by omega)⟩
  · show ((double.read X).product (double.read Y)).map double.write = _
    rw [c2, d2]
    show some (double.nearest (s ^^ t) (M * N) (I + J)) = _
    rw [hVD]
  · show ((single.read x).product (single.read y)).map single.write = _
    rw [r1, r2]
    show some (single.nearest (s ^^ t) (m * n) (i + j)) = _
    rw [hVS]

end Go.Proofs.Ytjjafjdjdjonfaa.Fl

/- Quotients of singles. -/
namespace Go.Proofs.Ytjjafjdjdjonfaa.Fl
open Ieee

/-- What a rounded quotient P / Q of units is: k digits over the last place l. -/
structure Quo (f : Format) (c P Q l k : Nat) : Prop where
  low : c ≤ l
  hi : P < Q * 2 ^ (l + f.fractionBits + 1)
  lo : l = c ∨ Q * 2 ^ (l + f.fractionBits) ≤ P
  val : k = rnq P (Q * 2 ^ l)

theorem Quo.bounds {f : Format} {c P Q l k : Nat} (h : Quo f c P Q l k) (hQ : 0 < Q) : k ≤ 2 ^ (f.fractionBits + 1) ∧ (l = c ∨ 2 ^ f.fractionBits ≤ k) := by
  have hM : 0 < Q * 2 ^ l := Nat.mul_pos hQ (Nat.two_pow_pos _)
  refine ⟨?_, ?_⟩
  · have : rnq P (Q * 2 ^ l) ≤ rnq (2 ^ (f.fractionBits + 1) * (Q * 2 ^ l)) (Q * 2 ^ l) := by
      refine rnq_mono hM (Nat.le_of_lt ?_)
      rw [Nat.mul_left_comm, ← Nat.pow_add, show f.fractionBits + 1 + l = l + f.fractionBits + 1 by omega]
      exact h.hi
    rwa [rnq_mul _ _ hM, ← h.val] at this
  · rcases h.lo with e | e
    · exact .inl e
    · right
      have : rnq (2 ^ f.fractionBits * (Q * 2 ^ l)) (Q * 2 ^ l) ≤ rnq P (Q * 2 ^ l) := by
        refine rnq_mono hM ?_
        rw [Nat.mul_left_comm, ← Nat.pow_add, show f.fractionBits + l = l + f.fractionBits by omega]
        exact e
      rwa [rnq_mul _ _ hM, ← h.val] at this

theorem Quo.rung {f : Format} {c P Q l k : Nat} (h : Quo f c P Q l k) (hQ : 0 < Q) : rungOf f c (k * 2 ^ l) = (l - c) * f.binade + k := by
  obtain ⟨b1, b2⟩ := h.bounds hQ
  rcases Nat.eq_zero_or_pos k with z | z
  · subst z
    rw [Nat.zero_mul, rungOf_zero]
    rcases b2 with e | e
    · subst e; simp
    · have := Nat.two_pow_pos f.fractionBits; omega
  rw [rungOf_eq f c _ l (Nat.mul_pos z (Nat.two_pow_pos _)) h.low ?_ ?_, rnq_mul _ _ (Nat.two_pow_pos _)]
  · rw [show l + f.fractionBits + 1 = f.fractionBits + 1 + l by omega, Nat.pow_add]
    exact Nat.mul_le_mul_right _ b1
  · rcases b2 with e | e
    · exact .inl e
    · right
      rw [Nat.add_comm l, Nat.pow_add]; exact Nat.mul_le_mul_right _ e

/-- What Datum.quotient writes, by the values of both sides in units of 2 ^ -1074. -/
theorem quot_word (f : Format) (c : Nat) (hc : f.leastPlace = (-1074 : Int) + c) {s t : Bool} {m n : Nat} {i j : Int} (hm : 0 < m) (hn : 0 < n) (hi : -1074 ≤ i) (hj : -1074 ≤ j)
    (hplace : -1074 ≤ i - j - ((f.fractionBits + 2 + n.log2 - m.log2 : Nat) : Int) - 1) {T : Nat} (hT : T = 1074) :
    ∃ l k, Quo f c (m * 2 ^ (i + 1074).toNat * 2 ^ T) (n * 2 ^ (j + 1074).toNat) l k ∧
      ((Datum.number s m i).quotient (f.fractionBits + 2) (.number t n j)).map f.write = some (wordAt f c (s ^^ t) (k * 2 ^ l)) := by
  generalize hmo : f.fractionBits + 2 + n.log2 - m.log2 = mo at *
  obtain ⟨A, hA⟩ : ∃ A, A = m * 2 ^ mo := ⟨_, rfl⟩
  obtain ⟨q, hq⟩ : ∃ q, q = A / n := ⟨_, rfl⟩
  obtain ⟨st, hst⟩ : ∃ st, st = 2 * q + (A % n != 0).toNat := ⟨_, rfl⟩
  obtain ⟨E, hE⟩ : ∃ E, E = (i - j - (mo : Int) - 1 + 1074).toNat := ⟨_, rfl⟩
  have hqlo : 2 ^ (f.fractionBits + 1) ≤ q := by
    rw [hq, Nat.le_div_iff_mul_le hn, hA]
    have a1 : 2 ^ m.log2 ≤ m := Nat.log2_self_le (by omega)
    have a2 : n < 2 ^ (n.log2 + 1) := Nat.lt_log2_self
    calc 2 ^ (f.fractionBits + 1) * n ≤ 2 ^ (f.fractionBits + 1) * 2 ^ (n.log2 + 1) := Nat.mul_le_mul_left _ (Nat.le_of_lt a2)
      _ = 2 ^ (f.fractionBits + 1 + (n.log2 + 1)) := (Nat.pow_add _ _ _).symm
      _ ≤ 2 ^ (m.log2 + mo) := two_le (by omega)
      _ = 2 ^ m.log2 * 2 ^ mo := Nat.pow_add _ _ _
      _ ≤ m * 2 ^ mo := Nat.mul_le_mul_right _ a1
  have hs1 : (A % n != 0).toNat ≤ 1 := by cases (A % n != 0) <;> simp
  have hst0 : 0 < st := by have := Nat.two_pow_pos (f.fractionBits + 1); omega
  have hlog : f.fractionBits + 2 ≤ st.log2 := by
    refine (Nat.le_log2 (by omega)).2 ?_
    rw [show f.fractionBits + 2 = f.fractionBits + 1 + 1 by omega, Nat.pow_succ]; omega
  -- the sticky word in units
  have hnear : f.nearest (s ^^ t) st (i - j - (mo : Int) - 1) = wordAt f c (s ^^ t) (st * 2 ^ E) := by
    rw [nearest_val f _ (-1074) c hc st (p := i - j - (mo : Int) - 1) (by omega), hE]
    congr 3
  have hN0 : 0 < st * 2 ^ E := Nat.mul_pos hst0 (Nat.two_pow_pos _)
  obtain ⟨l1, l2, l3⟩ := last_le f c (st * 2 ^ E) hN0
  have hR : rungOf f c (st * 2 ^ E) = (lastOf f c (st * 2 ^ E) - c) * f.binade + rnq (st * 2 ^ E) (2 ^ lastOf f c (st * 2 ^ E)) := rfl
  have hlE : E + 2 ≤ lastOf f c (st * 2 ^ E) := by
    unfold lastOf; rw [log2_mul_pow hst0]; omega
  generalize lastOf f c (st * 2 ^ E) = l at *
  -- 2 ^ l = 2 ^ E * (2 * M), M even
  obtain ⟨u, hu⟩ : ∃ u, l = E + (u + 2) := ⟨l - E - 2, by omega⟩
  have e2l : 2 ^ l = (2 * (2 * 2 ^ u)) * 2 ^ E := by rw [hu, Nat.pow_add, Nat.pow_add 2 u 2, Nat.mul_comm (2 ^ E)]; congr 1; omega
  have hst2 : rnq (st * 2 ^ E) (2 ^ l) = rnq A (n * (2 * 2 ^ u)) := by
    rw [e2l, rnq_scale _ _ _ (by have := Nat.two_pow_pos u; omega) (Nat.two_pow_pos E), hst, hq]
    exact rnq_sticky hn (by have := Nat.two_pow_pos u; omega) (by omega)
  -- P and Q
  have hx : (i + 1074).toNat + T = mo + (i + 2148 - mo).toNat := by omega
  have hP : m * 2 ^ (i + 1074).toNat * 2 ^ T = A * 2 ^ (i + 2148 - mo).toNat := by
    rw [Nat.mul_assoc, ← Nat.pow_add, hx, Nat.pow_add, ← Nat.mul_assoc, ← hA]
  have hQl : ∀ a, n * 2 ^ (j + 1074).toNat * 2 ^ (E + 1 + a) = (n * 2 ^ a) * 2 ^ (i + 2148 - mo).toNat := by
    intro a
    rw [Nat.mul_assoc, Nat.mul_assoc, ← Nat.pow_add, ← Nat.pow_add]
    exact congrArg (fun z => n * 2 ^ z) (by omega)
  have hQl0 : n * 2 ^ (j + 1074).toNat * 2 ^ l = (n * (2 * 2 ^ u)) * 2 ^ (i + 2148 - mo).toNat := by
    have := hQl (u + 1)
    rw [show E + 1 + (u + 1) = l by omega, Nat.pow_succ 2 u, Nat.mul_comm (2 ^ u) 2] at this
    exact this
  have pS : 0 < 2 ^ (i + 2148 - mo).toNat := Nat.two_pow_pos _
  have hdm := Nat.div_add_mod A n
  have hmod := Nat.mod_lt A hn
  rw [← hq] at hdm
  have hquo : Quo f c (m * 2 ^ (i + 1074).toNat * 2 ^ T) (n * 2 ^ (j + 1074).toNat) l (rnq A (n * (2 * 2 ^ u))) := by
    refine ⟨l1, ?_, ?_, ?_⟩
    · -- P < Q * 2 ^ (l + fb + 1)
      rw [hP]
      have g := hQl (l + f.fractionBits - E)
      rw [show E + 1 + (l + f.fractionBits - E) = l + f.fractionBits + 1 by omega] at g
      rw [g]
      refine Nat.mul_lt_mul_of_pos_right ?_ pS
      have : st < 2 ^ (l + f.fractionBits + 1 - E) := by
        have h := l2
        rw [pow_split (show E ≤ l + f.fractionBits + 1 by omega)] at h
        exact Nat.lt_of_mul_lt_mul_right h
      rw [show l + f.fractionBits + 1 - E = (l + f.fractionBits - E) + 1 by omega, Nat.pow_succ] at this
      generalize 2 ^ (l + f.fractionBits - E) = w at *
      have hqw : q + 1 ≤ w := by omega
      have := Nat.mul_le_mul_left n hqw
      rw [Nat.mul_succ] at this
      omega
    · rcases l3 with e | e
      · exact .inl e
      · right
        rw [hP]
        have g := hQl (l + f.fractionBits - E - 1)
        rw [show E + 1 + (l + f.fractionBits - E - 1) = l + f.fractionBits by omega] at g
        rw [g]
        refine Nat.mul_le_mul_right _ ?_
        have : 2 ^ (l + f.fractionBits - E) ≤ st := by
          have h := e
          rw [pow_split (show E ≤ l + f.fractionBits by omega)] at h
          exact Nat.le_of_mul_le_mul_right h (Nat.two_pow_pos _)
        rw [show l + f.fractionBits - E = (l + f.fractionBits - E - 1) + 1 by omega, Nat.pow_succ] at this
        generalize 2 ^ (l + f.fractionBits - E - 1) = w at *
        have hqw : w ≤ q := by omega
        have := Nat.mul_le_mul_left n hqw
        omega
    · rw [hP, hQl0, rnq_scale _ _ _ (Nat.mul_pos hn (by have := Nat.two_pow_pos u; omega)) pS]
  refine ⟨l, _, hquo, ?_⟩
  show ((Datum.number s m i).quotient (f.fractionBits + 2) (.number t n j)).map f.write = _
  unfold Datum.quotient
  simp only
  rw [if_neg (by omega)]
  simp only [Option.map_some]
  rw [hmo, Nat.shiftLeft_eq, ← hA, ← hq, ← hst]
  show some (f.nearest (s ^^ t) st (i - j - (mo : Int) - 1)) = _
  rw [hnear]
  congr 1
  unfold wordAt
  rw [hquo.rung (Nat.mul_pos hn (Nat.two_pow_pos _)), hR, hst2]

end Go.Proofs.Ytjjafjdjdjonfaa.Fl

/- Quotients of singles, reckoned as doubles and turned into a single. -/
namespace Go.Proofs.Ytjjafjdjdjonfaa.Fl
open Ieee

theorem Quo.same {P Q ls ks ld kd : Nat} (hS : Quo single 925 P Q ls ks) (hD : Quo double 0 P Q ld kd) (hQ : 0 < Q) (hbig : Q * 2 ^ (ld + 52) ≤ P) (hls : ld + 29 ≤ ls)
    (hm : ∀ q, 2 * P = (2 * q + 1) * (Q * 2 ^ ls) ∨ 2 * P + Q * 2 ^ ld < (2 * q + 1) * (Q * 2 ^ ls) ∨ (2 * q + 1) * (Q * 2 ^ ls) + Q * 2 ^ ld < 2 * P) :
    rungOf single 925 (kd * 2 ^ ld) = rungOf single 925 (ks * 2 ^ ls) := by
  rw [hS.rung hQ]
  have pd : 0 < 2 ^ ld := Nat.two_pow_pos ld
  have hA : 0 < Q * 2 ^ ld := Nat.mul_pos hQ pd
  have eAC : Q * 2 ^ ls = (Q * 2 ^ ld) * 2 ^ (ls - ld) := by rw [Nat.mul_assoc, ← Nat.pow_add]; exact congrArg (fun z => Q * 2 ^ z) (by omega)
  have hkd : ∀ a b, a * (Q * 2 ^ ld) ≤ P → P ≤ b * (Q * 2 ^ ld) → a ≤ kd ∧ kd ≤ b := by
    intro a b h1 h2
    have x1 := rnq_mono hA h1
    have x2 := rnq_mono hA h2
    rw [rnq_mul _ _ hA, ← hD.val] at x1
    rw [rnq_mul _ _ hA, ← hD.val] at x2
    exact ⟨x1, x2⟩
  have e52 : 2 ^ 52 * (Q * 2 ^ ld) ≤ P := by
    rw [Nat.mul_left_comm, ← Nat.pow_add, Nat.add_comm 52]; exact hbig
  have s1 := hS.hi
  rw [fbS] at s1
  have ehi : P ≤ 2 ^ (ls + 24 - ld) * (Q * 2 ^ ld) := by
    rw [Nat.mul_left_comm, ← Nat.pow_add, show ls + 24 - ld + ld = ls + 23 + 1 by omega]; exact Nat.le_of_lt s1
  obtain ⟨klo, khi⟩ := hkd _ _ e52 ehi
  have hk : 0 < kd * 2 ^ ld := Nat.mul_pos (Nat.lt_of_lt_of_le (Nat.two_pow_pos 52) klo) pd
  rw [rungOf_eq single 925 _ ls hk hS.low ?_ ?_]
  · refine congrArg ((ls - 925) * single.binade + ·) ?_
    have e2 : 2 ^ ls = 2 ^ (ls - ld) * 2 ^ ld := pow_split (by omega)
    rw [e2, rnq_scale _ _ _ (Nat.two_pow_pos _) pd, hS.val, hD.val, eAC]
    refine rnq_twice hA (Nat.two_pow_pos _) ?_ (fun q => by rw [← eAC]; exact hm q)
    obtain ⟨x, hx⟩ : ∃ x, ls - ld = x + 1 := ⟨ls - ld - 1, by omega⟩
    rw [hx, Nat.pow_succ]; omega
  · rw [fbS, show ls + 23 + 1 = (ls + 24 - ld) + ld by omega, Nat.pow_add]
    exact Nat.mul_le_mul_right _ khi
  · rw [fbS]
    rcases hS.lo with e | e
    · exact .inl e
    · right
      rw [fbS] at e
      have elo : 2 ^ (ls + 23 - ld) * (Q * 2 ^ ld) ≤ P := by
        rw [Nat.mul_left_comm, ← Nat.pow_add, show ls + 23 - ld + ld = ls + 23 by omega]; exact e
      obtain ⟨k2, _⟩ := hkd _ _ elo ehi
      rw [show ls + 23 = (ls + 23 - ld) + ld by omega, Nat.pow_add]
      exact Nat.mul_le_mul_right _ k2

/-- A quotient of singles is not near a midpoint of two singles, unless it is one. -/
theorem quo_far {m n a b ls ld : Nat} (hn' : n < 16777216) (hm' : m < 16777216) (hls : ld + 29 ≤ ls) (hbig : n * 2 ^ b * 2 ^ (ld + 52) ≤ m * 2 ^ a) (q : Nat) :
    2 * (m * 2 ^ a) = (2 * q + 1) * (n * 2 ^ b * 2 ^ ls) ∨ 2 * (m * 2 ^ a) + n * 2 ^ b * 2 ^ ld < (2 * q + 1) * (n * 2 ^ b * 2 ^ ls) ∨ (2 * q + 1) * (n * 2 ^ b * 2 ^ ls) + n * 2 ^ b * 2 ^ ld < 2 * (m * 2 ^ a) := by
  have e24 : (16777216 : Nat) = 2 ^ 24 := by decide
  -- the gap: both sides are whole multiples of 2 ^ g, and n * 2 ^ b * 2 ^ ld < 2 ^ g
  have key : ∀ g u v, 2 * (m * 2 ^ a) = u * 2 ^ g → (2 * q + 1) * (n * 2 ^ b * 2 ^ ls) = v * 2 ^ g → n * 2 ^ b * 2 ^ ld < 2 ^ g →
      2 * (m * 2 ^ a) = (2 * q + 1) * (n * 2 ^ b * 2 ^ ls) ∨ 2 * (m * 2 ^ a) + n * 2 ^ b * 2 ^ ld < (2 * q + 1) * (n * 2 ^ b * 2 ^ ls) ∨ (2 * q + 1) * (n * 2 ^ b * 2 ^ ls) + n * 2 ^ b * 2 ^ ld < 2 * (m * 2 ^ a) := by
    intro g u v h1 h2 h3
    rw [h1, h2]
    rcases Nat.lt_trichotomy u v with c | c | c
    · right; left
      have := Nat.mul_le_mul_right (2 ^ g) c
      rw [Nat.succ_mul] at this; omega
    · left; rw [c]
    · right; right
      have := Nat.mul_le_mul_right (2 ^ g) c
      rw [Nat.succ_mul] at this; omega
  rcases Nat.le_total (b + ls) (a + 1) with h | h
  · refine key (b + ls) (m * 2 ^ (a + 1 - (b + ls))) ((2 * q + 1) * n) ?_ ?_ ?_
    · rw [Nat.mul_assoc m, ← pow_split h, Nat.pow_succ]; simp only [Nat.mul_comm 2, Nat.mul_assoc]
    · rw [Nat.mul_assoc n, ← Nat.pow_add, Nat.mul_assoc]
    · rw [Nat.mul_assoc, ← Nat.pow_add]
      calc n * 2 ^ (b + ld) < 2 ^ 24 * 2 ^ (b + ld) := Nat.mul_lt_mul_of_pos_right (by rw [← e24]; exact hn') (Nat.two_pow_pos _)
        _ = 2 ^ (24 + (b + ld)) := (Nat.pow_add _ _ _).symm
        _ ≤ 2 ^ (b + ls) := two_le (by omega)
  · refine key (a + 1) m ((2 * q + 1) * (n * 2 ^ (b + ls - (a + 1)))) ?_ ?_ ?_
    · rw [Nat.pow_succ]; simp only [Nat.mul_comm 2, Nat.mul_assoc]
    · rw [Nat.mul_assoc n, ← Nat.pow_add, Nat.mul_assoc (2 * q + 1), Nat.mul_assoc n, ← pow_split h]
    · -- n * 2 ^ b * 2 ^ ld * 2 ^ 52 ≤ m * 2 ^ a < 2 ^ (24 + a)
      have h1 : n * 2 ^ b * 2 ^ ld * 2 ^ 52 < 2 ^ (a + 1) * 2 ^ 52 := by
        calc n * 2 ^ b * 2 ^ ld * 2 ^ 52 = n * 2 ^ b * 2 ^ (ld + 52) := by rw [Nat.mul_assoc _ (2 ^ ld), ← Nat.pow_add]
          _ ≤ m * 2 ^ a := hbig
          _ < 2 ^ 24 * 2 ^ a := Nat.mul_lt_mul_of_pos_right (by rw [← e24]; exact hm') (Nat.two_pow_pos _)
          _ = 2 ^ (24 + a) := (Nat.pow_add _ _ _).symm
          _ ≤ 2 ^ (a + 1 + 52) := two_le (by omega)
          _ = 2 ^ (a + 1) * 2 ^ 52 := Nat.pow_add _ _ _
      exact Nat.lt_of_mul_lt_mul_right h1

theorem log_units {m B : Nat} {e : Nat} (hm : 0 < m) (h : m * 2 ^ e < 2 ^ B) : m.log2 + e < B := by
  have := log_lt h (by
    rcases Nat.eq_zero_or_pos B with z | z
    · subst z; have := Nat.mul_pos hm (Nat.two_pow_pos e); simp at h; omega
    · exact z)
  rwa [log2_mul_pow hm] at this

theorem sgl_units {s : Bool} {m : Nat} {p : Int} (h : Sgl s m p) (hm : 0 < m) {E L : Nat} (hE : E = 1202) (hL : L = 925) : m * 2 ^ (p + 1074).toNat < 2 ^ E ∧ 2 ^ L ≤ m * 2 ^ (p + 1074).toNat := by
  have h1 := h.small; have h2 := h.low; have h3 := h.high
  refine ⟨?_, ?_⟩
  · have a : 2 ^ (p + 1074).toNat ≤ 2 ^ (E - 24) := two_le (by omega)
    have b : (16777216 : Nat) = 2 ^ 24 := by decide
    calc m * 2 ^ (p + 1074).toNat ≤ m * 2 ^ (E - 24) := Nat.mul_le_mul_left _ a
      _ < 2 ^ 24 * 2 ^ (E - 24) := Nat.mul_lt_mul_of_pos_right (by rw [← b]; exact h1) (Nat.two_pow_pos _)
      _ = 2 ^ E := by rw [← Nat.pow_add]; exact congrArg (2 ^ ·) (by omega)
  · calc 2 ^ L ≤ 2 ^ (p + 1074).toNat := two_le (by omega)
      _ ≤ m * 2 ^ (p + 1074).toNat := Nat.le_mul_of_pos_left _ hm

theorem div_same {k x y : Nat} {s t : Bool} {m n : Nat} {i j : Int} (hk : k ≤ 120) (r1 : single.read x = .number s m i) (r2 : single.read y = .number t n j) (hn : 0 < n)
    (hb : m * 2 ^ (i + 1074).toNat ≤ n * 2 ^ (j + 1074).toNat * 2 ^ k) : Same2 .quo k x y := by
  obtain ⟨X, M, I, c1, c2, c3, c4, c5⟩ := toD r1
  obtain ⟨Y, N, J, d1, d2, d3, d4, d5⟩ := toD r2
  have g1 := read_single r1
  have g2 := read_single r2
  have l1 := g1.low
  have l2 := g2.low
  have q1 := g1.high
  have q2 := g2.high
  have s1 := g1.small
  have s2 := g2.small
  have hN : 0 < N := by
    rcases Nat.eq_zero_or_pos N with z | z
    · subst z; rw [Nat.zero_mul] at d4; have := Nat.mul_pos hn (Nat.two_pow_pos (j + 1074).toNat); omega
    · exact z
  rcases Nat.eq_zero_or_pos m with z | hm
  · -- nought
    subst z
    have zM : M = 0 := by
      rw [Nat.zero_mul] at c4
      rcases Nat.eq_zero_or_pos M with q | q
      · exact q
      · have := Nat.mul_pos q (Nat.two_pow_pos (I + 1074).toNat); omega
    subst zM
    have hz : sRung (dVal 0) = sRung 0 := by show rungOf single 925 (rd double 0 0) = _; rw [rd_zero]
    refine ⟨X, Y, wordAt double 0 (s ^^ t) 0, wordAt single 925 (s ^^ t) 0, c1, d1, ?_, back (B := 1) (by omega) (by omega) hz, ?_, bd_word (Nat.zero_le _) (by omega)⟩
    · show ((double.read X).quotient _ (double.read Y)).map double.write = _
      rw [c2, d2]
      unfold Datum.quotient
      simp only
      rw [if_neg (by omega)]
      simp only [Nat.zero_shiftLeft, Nat.zero_div, Nat.zero_mod, bne_self_eq_false, Bool.toNat_false, Nat.mul_zero, Nat.add_zero, Option.map_some]
      show some (double.nearest (s ^^ t) 0 _) = _
      rw [nearest_zero, wordAt_zero]
    · show ((single.read x).quotient _ (single.read y)).map single.write = _
      rw [r1, r2]
      unfold Datum.quotient
      simp only
      rw [if_neg (by omega)]
      simp only [Nat.zero_shiftLeft, Nat.zero_div, Nat.zero_mod, bne_self_eq_false, Bool.toNat_false, Nat.mul_zero, Nat.add_zero, Option.map_some]
      show some (single.nearest (s ^^ t) 0 _) = _
      rw [nearest_zero, wordAt_zero]
  obtain ⟨T, hT⟩ : ∃ T : Nat, T = 1074 := ⟨_, rfl⟩
  obtain ⟨E, hE⟩ : ∃ E : Nat, E = 1202 := ⟨_, rfl⟩
  obtain ⟨L, hL⟩ : ∃ L : Nat, L = 925 := ⟨_, rfl⟩
  have hM : 0 < M := by
    rcases Nat.eq_zero_or_pos M with z | z
    · subst z; rw [Nat.zero_mul] at c4; have := Nat.mul_pos hm (Nat.two_pow_pos (i + 1074).toNat); omega
    · exact z
  obtain ⟨u1, u2⟩ := sgl_units g1 hm hE hL
  obtain ⟨v1, v2⟩ := sgl_units g2 hn hE hL
  have lN : N.log2 + (J + 1074).toNat < E := log_units hN (by rw [d4]; exact v1)
  have hI := c5 (by omega)
  have ln24 : n.log2 < 24 := log_lt (by rw [show (2 : Nat) ^ 24 = 16777216 by decide]; exact s2) (by omega)
  obtain ⟨ls, ks, hS, wS⟩ := quot_word single 925 leastS (s := s) (t := t) (m := m) (n := n) (i := i) (j := j) hm hn (by omega) (by omega) (by rw [fbS]; omega) hT
  obtain ⟨ld, kd, hD, wD⟩ := quot_word double 0 leastD (s := s) (t := t) (m := M) (n := N) (i := I) (j := J) hM hN c3 d3 (by rw [fbD]; omega) hT
  rw [c4, d4] at hD
  have hQ : 0 < n * 2 ^ (j + 1074).toNat := Nat.mul_pos hn (Nat.two_pow_pos _)
  have hbig0 : n * 2 ^ (j + 1074).toNat * 2 ^ 52 ≤ m * 2 ^ (i + 1074).toNat * 2 ^ T := by
    calc n * 2 ^ (j + 1074).toNat * 2 ^ 52 ≤ 2 ^ E * 2 ^ 52 := Nat.mul_le_mul_right _ (Nat.le_of_lt v1)
      _ = 2 ^ (E + 52) := (Nat.pow_add _ _ _).symm
      _ ≤ 2 ^ (L + T) := two_le (by omega)
      _ = 2 ^ L * 2 ^ T := Nat.pow_add _ _ _
      _ ≤ m * 2 ^ (i + 1074).toNat * 2 ^ T := Nat.mul_le_mul_right _ u2
  have hbig : n * 2 ^ (j + 1074).toNat * 2 ^ (ld + 52) ≤ m * 2 ^ (i + 1074).toNat * 2 ^ T := by
    rcases hD.lo with e | e
    · rw [e, Nat.zero_add]; exact hbig0
    · rw [fbD] at e; exact e
  have hls : ld + 29 ≤ ls := by
    have s1 := hS.hi
    rw [fbS] at s1
    have := Nat.lt_of_mul_lt_mul_left (Nat.lt_of_le_of_lt hbig s1)
    have := (Nat.pow_lt_pow_iff_right (by omega : 1 < 2)).1 this
    omega
  have eP : m * 2 ^ (i + 1074).toNat * 2 ^ T = m * 2 ^ ((i + 1074).toNat + T) := by rw [Nat.mul_assoc, ← Nat.pow_add]
  have hrung := hS.same hD hQ hbig hls (fun q => by
    rw [eP] at hbig ⊢
    exact quo_far s2 s1 hls hbig q)
  -- the doubles' value is not rounded again
  have hkd := (hD.bounds hQ).1
  rw [fbD] at hkd
  have hdv : rd double 0 (kd * 2 ^ ld) = kd * 2 ^ ld := by
    rcases Nat.lt_or_ge kd (2 ^ 53) with x | x
    · exact rd_exact double 0 kd ld (by rw [fbD]; exact x) (by omega)
    · have : kd = 2 ^ 52 * 2 := by have : (2 : Nat) ^ (52 + 1) = 2 ^ 53 := rfl; have : (2 : Nat) ^ 53 = 2 ^ 52 * 2 := Nat.pow_succ 2 52; omega
      rw [this, Nat.mul_assoc, show 2 * 2 ^ ld = 2 ^ (ld + 1) by rw [Nat.pow_succ]; omega]
      exact rd_exact double 0 (2 ^ 52) (ld + 1) (by rw [fbD]; exact Nat.pow_lt_pow_right (by omega) (by omega)) (by omega)
  have hr : sRung (dVal (kd * 2 ^ ld)) = sRung (kd * 2 ^ ld) := by
    show rungOf single 925 (rd double 0 (kd * 2 ^ ld)) = _
    rw [hdv]
  have hw : wordAt single 925 (s ^^ t) (kd * 2 ^ ld) = wordAt single 925 (s ^^ t) (ks * 2 ^ ls) := by unfold wordAt; rw [hrung]
  -- bounds
  have hPk : m * 2 ^ (i + 1074).toNat * 2 ^ T ≤ 2 ^ (k + T) * (n * 2 ^ (j + 1074).toNat) := by
    calc m * 2 ^ (i + 1074).toNat * 2 ^ T ≤ n * 2 ^ (j + 1074).toNat * 2 ^ k * 2 ^ T := Nat.mul_le_mul_right _ hb
      _ = 2 ^ (k + T) * (n * 2 ^ (j + 1074).toNat) := by rw [Nat.pow_add, Nat.mul_comm (2 ^ k * 2 ^ T), Nat.mul_assoc]
  have bnd : ∀ l kk, kk = rnq (m * 2 ^ (i + 1074).toNat * 2 ^ T) (n * 2 ^ (j + 1074).toNat * 2 ^ l) → l ≤ k + T → kk * 2 ^ l ≤ 2 ^ (k + T) := by
    intro l kk h1 h2
    have hM : 0 < n * 2 ^ (j + 1074).toNat * 2 ^ l := Nat.mul_pos hQ (Nat.two_pow_pos _)
    have : rnq (m * 2 ^ (i + 1074).toNat * 2 ^ T) (n * 2 ^ (j + 1074).toNat * 2 ^ l) ≤ rnq (2 ^ (k + T - l) * (n * 2 ^ (j + 1074).toNat * 2 ^ l)) (n * 2 ^ (j + 1074).toNat * 2 ^ l) := by
      refine rnq_mono hM ?_
      rw [Nat.mul_left_comm, ← Nat.pow_add, Nat.sub_add_cancel h2, Nat.mul_comm (n * 2 ^ (j + 1074).toNat)]; exact hPk
    rw [rnq_mul _ _ hM, ← h1] at this
    rw [pow_split h2]
    exact Nat.mul_le_mul_right _ this
  have lsk : ∀ l fb, (n * 2 ^ (j + 1074).toNat * 2 ^ (l + fb) ≤ m * 2 ^ (i + 1074).toNat * 2 ^ T) → l ≤ k + T := by
    intro l fb h
    have h' := Nat.le_trans h hPk
    rw [Nat.mul_comm (2 ^ (k + T))] at h'
    have := Nat.le_of_mul_le_mul_left h' hQ
    have := (Nat.pow_le_pow_iff_right (by omega : 1 < 2)).1 this
    omega
  have bS : ks * 2 ^ ls ≤ 2 ^ (k + T) := by
    refine bnd ls ks hS.val ?_
    rcases hS.lo with e | e
    · omega
    · exact lsk _ _ e
  have bD : kd * 2 ^ ld ≤ 2 ^ (k + T) := bnd ld kd hD.val (lsk ld 52 hbig)
  have hlt : kd * 2 ^ ld < 2 ^ (k + T + 1) := Nat.lt_of_le_of_lt bD (Nat.pow_lt_pow_right (by omega) (by omega))
  refine ⟨X, Y, wordAt double 0 (s ^^ t) (kd * 2 ^ ld), wordAt single 925 (s ^^ t) (kd * 2 ^ ld), c1, d1, ?_, back hlt (by omega) hr, ?_, ?_⟩
  · show ((double.read X).quotient _ (double.read Y)).map double.write = _
    rw [c2, d2]; exact wD
  · show ((single.read x).quotient _ (single.read y)).map single.write = _
    rw [r1, r2, hw]; exact wS
  · rw [hw]
    refine bd_word ?_ (by omega)
    rw [show 1074 + k = k + T by omega]; exact bS

end Go.Proofs.Ytjjafjdjdjonfaa.Fl

/- Comparisons of singles, by their values; which words are finite, which are heights. -/
namespace Go.Proofs.Ytjjafjdjdjonfaa.Fl
open Ieee

/-- The value of a finite single in units of 2 ^ -1074; none: an infinity or a NaN. -/
def vS (x : Nat) : Option Int := match single.read x with | .number s m p => some (vOf s m p) | _ => none

theorem vS_num {x : Nat} {s : Bool} {m : Nat} {p : Int} (h : single.read x = .number s m p) : vS x = some (vOf s m p) := by unfold vS; rw [h]

theorem order_num {s t : Bool} {m n : Nat} {i j : Int} (hi : -1074 ≤ i) (hj : -1074 ≤ j) :
    Datum.order (.number s m i) (.number t n j) = some (compare (vOf s m i) (vOf t n j)) := by
  have e1 : vOf s m i = signed s m (i - min i j).toNat * ((2 ^ (min i j + 1074).toNat : Nat) : Int) := by
    unfold vOf; rw [← signed_scale]; congr 1; omega
  have e2 : vOf t n j = signed t n (j - min i j).toNat * ((2 ^ (min i j + 1074).toNat : Nat) : Int) := by
    unfold vOf; rw [← signed_scale]; congr 1; omega
  have hp : (0 : Int) < ((2 ^ (min i j + 1074).toNat : Nat) : Int) := Int.natCast_pos.2 (Nat.two_pow_pos _)
  simp only [Datum.order]
  congr 1
  generalize signed s m (i - min i j).toNat = a at *
  generalize signed t n (j - min i j).toNat = b at *
  rw [e1, e2]
  generalize ((2 ^ (min i j + 1074).toNat : Nat) : Int) = u at *
  have l : a * u < b * u ↔ a < b := ⟨fun h => Int.lt_of_mul_lt_mul_right h (Int.le_of_lt hp), fun h => Int.mul_lt_mul_of_pos_right h hp⟩
  have e : a * u = b * u ↔ a = b := ⟨fun h => Int.eq_of_mul_eq_mul_right (by omega) h, fun h => by rw [h]⟩
  show compareOfLessAndEq a b = compareOfLessAndEq (a * u) (b * u)
  unfold compareOfLessAndEq
  simp only [l, e]

theorem order_val {x y : Nat} {a b : Int} (hx : vS x = some a) (hy : vS y = some b) : single.order x y = some (compare a b) := by
  unfold vS at hx hy
  unfold Format.order
  split at hx
  · rename_i s m p h1
    split at hy
    · rename_i t n q h2
      cases hx; cases hy
      rw [h1, h2]
      have := (read_single h1).low
      have := (read_single h2).low
      exact order_num (by omega) (by omega)
    · cases hy
  · cases hx

theorem order_none {x y : Nat} (h : (single.read x).isNaN = true ∨ (single.read y).isNaN = true) : single.order x y = none := by
  unfold Format.order
  rcases h with h | h
  · cases hx : single.read x <;> simp_all [Datum.isNaN, Datum.order]
  · cases hx : single.read x <;> cases hy : single.read y <;> simp_all [Datum.isNaN, Datum.order]

theorem cmp_lt {a b : Int} : (compare a b == Ordering.lt) = decide (a < b) := by
  show (compareOfLessAndEq a b == Ordering.lt) = _
  unfold compareOfLessAndEq
  by_cases h : a < b
  · simp [h]
  · by_cases h' : a = b <;> simp [h, h']
theorem cmp_eq {a b : Int} : (compare a b == Ordering.eq) = decide (a = b) := by
  show (compareOfLessAndEq a b == Ordering.eq) = _
  unfold compareOfLessAndEq
  by_cases h : a < b
  · have : a ≠ b := by omega
    simp [h, this]
  · by_cases h' : a = b <;> simp [h, h']
theorem cmp_gt {a b : Int} : (compare a b == Ordering.gt) = decide (b < a) := by
  show (compareOfLessAndEq a b == Ordering.gt) = _
  unfold compareOfLessAndEq
  by_cases h : a < b
  · have : ¬ b < a := by omega
    simp [h, this]
  · by_cases h' : a = b
    · simp [h']
    · have : b < a := by omega
      simp [h, h', this]

theorem some_beq (a b : Ordering) : (some a == some b) = (a == b) := rfl

/-- '<=' on singles, by the values. -/
theorem leq_val {x y : Nat} {a b : Int} (hx : vS x = some a) (hy : vS y = some b) : (single.order x y == some .lt || single.order x y == some .eq) = decide (a ≤ b) := by
  rw [order_val hx hy, some_beq, some_beq, cmp_lt, cmp_eq, ← Bool.decide_or]
  exact decide_eq_decide.2 (by omega)
theorem lss_val {x y : Nat} {a b : Int} (hx : vS x = some a) (hy : vS y = some b) : (single.order x y == some .lt) = decide (a < b) := by
  rw [order_val hx hy, some_beq, cmp_lt]
theorem gtr_val {x y : Nat} {a b : Int} (hx : vS x = some a) (hy : vS y = some b) : (single.order x y == some .gt) = decide (b < a) := by
  rw [order_val hx hy, some_beq, cmp_gt]
theorem geq_val {x y : Nat} {a b : Int} (hx : vS x = some a) (hy : vS y = some b) : (single.order x y == some .gt || single.order x y == some .eq) = decide (b ≤ a) := by
  rw [order_val hx hy, some_beq, some_beq, cmp_gt, cmp_eq, ← Bool.decide_or]
  exact decide_eq_decide.2 (by omega)
theorem eql_val {x y : Nat} {a b : Int} (hx : vS x = some a) (hy : vS y = some b) : (single.order x y == some .eq) = decide (a = b) := by
  rw [order_val hx hy, some_beq, cmp_eq]

/-- The greatest single, and 2 ^ 20, in units. -/
def vMax : Int := ((16777215 * 2 ^ (104 + 1074 : Int).toNat : Nat) : Int)
def vTop : Int := ((1 * 2 ^ (20 + 1074 : Int).toNat : Nat) : Int)
theorem readMax : single.read 2139095039 = .number false 16777215 104 := by decide
theorem readMin : single.read 4286578687 = .number true 16777215 104 := by decide
theorem readTop : single.read 1233125376 = .number false 8388608 (-3) := by decide
theorem readBot : single.read 3380609024 = .number true 8388608 (-3) := by decide
theorem vS_max : vS 2139095039 = some vMax := by rw [vS_num readMax]; unfold vOf vMax; rw [signed_eq]; simp only [Bool.false_eq_true, if_false, Int.one_mul]
theorem vS_min : vS 4286578687 = some (-vMax) := by rw [vS_num readMin]; unfold vOf vMax; rw [signed_eq]; simp only [if_true, Int.neg_mul, Int.one_mul]
theorem top_eq : 8388608 * 2 ^ (-3 + 1074 : Int).toNat = 1 * 2 ^ (20 + 1074 : Int).toNat := by
  rw [show (8388608 : Nat) = 2 ^ 23 by decide, ← Nat.pow_add, Nat.one_mul]; exact congrArg (2 ^ ·) (by omega)
theorem vS_top : vS 1233125376 = some vTop := by rw [vS_num readTop]; unfold vOf vTop; rw [signed_eq, top_eq]; simp only [Bool.false_eq_true, if_false, Int.one_mul]
theorem vS_bot : vS 3380609024 = some (-vTop) := by rw [vS_num readBot]; unfold vOf vTop; rw [signed_eq, top_eq]; simp only [if_true, Int.neg_mul, Int.one_mul]

theorem vS_le {x : Nat} {a : Int} (h : vS x = some a) : -vMax ≤ a ∧ a ≤ vMax := by
  unfold vS at h
  split at h
  · rename_i s m p hx
    cases h
    obtain ⟨h1, h2, h3, _⟩ := read_single hx
    have : m * 2 ^ (p + 1074).toNat ≤ 16777215 * 2 ^ (104 + 1074 : Int).toNat := Nat.mul_le_mul (by omega) (two_le (by omega))
    unfold vOf vMax
    rw [signed_eq]
    generalize m * 2 ^ (p + 1074).toNat = A at *
    generalize 16777215 * 2 ^ (104 + 1074 : Int).toNat = B at *
    cases s <;> simp <;> omega
  · cases h

/-- Is x finite? Is x a height? -/
def finB (x : Nat) : Bool := (vS x).isSome
def hgtB (x : Nat) : Bool := match vS x with | some a => decide (-vTop ≤ a) && decide (a ≤ vTop) | none => false

theorem vS_none {x : Nat} (h : vS x = none) : (∃ s, single.read x = .infinity s) ∨ (single.read x).isNaN = true := by
  unfold vS at h
  cases hx : single.read x with
  | number s m p => rw [hx] at h; cases h
  | infinity s => exact .inl ⟨s, rfl⟩
  | nan s t => right; rfl

theorem between_none {x c d : Nat} {a b : Int} (h : vS x = none) (hc : vS c = some a) (hd : vS d = some b) :
    ((single.order c x == some .lt || single.order c x == some .eq) && (single.order x d == some .lt || single.order x d == some .eq)) = false := by
  have numOf : ∀ {y : Nat} {v : Int}, vS y = some v → ∃ s m p, single.read y = .number s m p := by
    intro y v hy
    unfold vS at hy
    split at hy
    · exact ⟨_, _, _, by assumption⟩
    · cases hy
  obtain ⟨s1, m1, p1, r1⟩ := numOf hc
  obtain ⟨s2, m2, p2, r2⟩ := numOf hd
  rcases vS_none h with ⟨s, hs⟩ | hn
  · unfold Format.order
    rw [hs, r1, r2]
    cases s <;> simp [Datum.order]
  · rw [order_none (.inr hn), order_none (.inl hn)]; rfl

theorem isFinite_eq (x : Nat) : ((single.order 4286578687 x == some .lt || single.order 4286578687 x == some .eq) && (single.order x 2139095039 == some .lt || single.order x 2139095039 == some .eq)) = finB x := by
  cases h : vS x with
  | none => rw [between_none h vS_min vS_max]; unfold finB; rw [h]; rfl
  | some a =>
    obtain ⟨h1, h2⟩ := vS_le h
    rw [leq_val vS_min h, leq_val h vS_max]
    unfold finB; rw [h]; simp [h1, h2]

theorem isHeight_eq (x : Nat) : ((single.order 3380609024 x == some .lt || single.order 3380609024 x == some .eq) && (single.order x 1233125376 == some .lt || single.order x 1233125376 == some .eq)) = hgtB x := by
  cases h : vS x with
  | none => rw [between_none h vS_bot vS_top]; unfold hgtB; rw [h]
  | some a => rw [leq_val vS_bot h, leq_val h vS_top]; unfold hgtB; rw [h]

theorem hgt_fin {x : Nat} (h : hgtB x = true) : finB x = true := by
  unfold hgtB at h; unfold finB
  cases hx : vS x with
  | none => rw [hx] at h; cases h
  | some a => rfl

theorem hgt_bd {x : Nat} (h : hgtB x = true) : Bd 20 x := by
  unfold hgtB at h
  cases hx : vS x with
  | none => rw [hx] at h; cases h
  | some a =>
    rw [hx] at h
    simp only [Bool.and_eq_true, decide_eq_true_eq] at h
    unfold vS at hx
    split at hx
    · rename_i s m p hr
      cases hx
      refine ⟨s, m, p, hr, ?_⟩
      unfold vOf vTop at h
      rw [signed_eq, Nat.one_mul] at h
      rw [show 1074 + 20 = (20 + 1074 : Int).toNat by omega]
      generalize m * 2 ^ (p + 1074).toNat = A at *
      generalize 2 ^ (20 + 1074 : Int).toNat = B at *
      cases s <;> simp at h <;> omega
    · cases hx

theorem bd_hgt {x : Nat} (h : Bd 20 x) : hgtB x = true := by
  obtain ⟨s, m, p, hr, hb⟩ := h
  unfold hgtB
  rw [vS_num hr]
  simp only [Bool.and_eq_true, decide_eq_true_eq]
  unfold vOf vTop
  rw [signed_eq, Nat.one_mul]
  rw [show 1074 + 20 = (20 + 1074 : Int).toNat by omega] at hb
  generalize m * 2 ^ (p + 1074).toNat = A at *
  generalize 2 ^ (20 + 1074 : Int).toNat = B at *
  cases s <;> simp <;> omega

theorem bd_up {j k x : Nat} (h : Bd j x) (hk : j ≤ k) : Bd k x := by
  obtain ⟨s, m, p, h1, h2⟩ := h
  exact ⟨s, m, p, h1, Nat.le_trans h2 (Nat.pow_le_pow_right (by omega) (by omega))⟩
end Go.Proofs.Ytjjafjdjdjonfaa.Fl

/- Contracts: isFinite, isHeight, checkRange, CheckHeights, Check; the reference's abs, Height. -/
namespace Go.Proofs.Ytjjafjdjdjonfaa
open Go.RowKit Fl

theorem f32fmt : FloatKind.f32.format = Ieee.single := rfl

set_option maxHeartbeats 400000 in
theorem isFinite_any (x : Nat) (w : World) :
    Calls Try.prog 56 #[.float .f32 x] w fun e w' => e = .returned (.bool (finB x)) ∧ w = w' := by
  rw [← isFinite_eq]
  go_enter Try.func56, Try.ntmps56
  go_wp2
  all_goals go_ret
  · exact ⟨rfl, rfl⟩
  · rename_i h
    refine ⟨ret_bool (Eq.symm ?_), rfl⟩
    rw [f32fmt] at h
    rw [Bool.and_eq_false_iff]; left
    simpa using h

set_option maxHeartbeats 400000 in
theorem isHeight_any (x : Nat) (w : World) :
    Calls Try.prog 60 #[.float .f32 x] w fun e w' => e = .returned (.bool (hgtB x)) ∧ w = w' := by
  rw [← isHeight_eq]
  go_enter Try.func60, Try.ntmps60
  go_wp2
  all_goals go_ret
  · exact ⟨rfl, rfl⟩
  · rename_i h
    refine ⟨ret_bool (Eq.symm ?_), rfl⟩
    rw [f32fmt] at h
    rw [Bool.and_eq_false_iff]; left
    simpa using h

/-- Do all below n have it? -/
def allB (n : Nat) (p : Nat → Bool) : Bool := (List.range n).all p
theorem allB_iff {n : Nat} {p : Nat → Bool} : allB n p = true ↔ ∀ i, i < n → p i = true := by simp [allB]
theorem allB_no {n : Nat} {p : Nat → Bool} {k : Nat} (h : k < n) (h2 : p k = false) : allB n p = false := by
  rw [← Bool.not_eq_true, allB_iff]; intro c; rw [c k h] at h2; cases h2

def hgtE (n : Nat) (v : Nat → Nat) : Int := if allB n (fun i => hgtB (v i)) then 0 else 3
/-- The error of singles that should be heights. -/
def fldE (n : Nat) (v : Nat → Nat) : Int := if allB n (fun i => finB (v i)) then hgtE n v else 2

/-- n cells from b, off on are the singles v. -/
def FlAt (w : World) (b off n : Nat) (v : Nat → Nat) : Prop := ∀ i, i < n → w.cell? ⟨b, off + i, none⟩ = some (.float .f32 (v i))

set_option maxHeartbeats 400000 in
theorem checkRange_nil (a : Option Addr) (cap : Nat) (w : World) :
    Calls Try.prog 57 #[.slice a 0 cap] w fun e w' => e = .returned (.int .i64 0) ∧ w = w' := by
  go_enter Try.func57, Try.ntmps57
  go_wp2
  go_loop [7] (fun i => i = .int .i64 0) (fun _ => 0)
  case atStart => rfl
  case round =>
    subst hrel
    go_wp2
    go_ret
    exact ⟨rfl, rfl⟩

set_option maxHeartbeats 400000 in
theorem checkRange_row (b off cap n : Nat) (v : Nat → Nat) (hl : n ≤ 9223372036854775807) (w : World) (hc : FlAt w b off n v) :
    Calls Try.prog 57 #[.slice (some ⟨b, off, none⟩) n cap] w fun e w' => e = .returned (.int .i64 (hgtE n v)) ∧ w = w' := by
  go_enter Try.func57, Try.ntmps57
  go_wp2
  go_loop [7] (fun i => ∃ k : Nat, k ≤ n ∧ i = .int .i64 k ∧ allB k (fun i => hgtB (v i)) = true) (fun i => n - (intOf i).toNat)
  case atStart => exact ⟨0, Nat.zero_le _, rfl, rfl⟩
  case round =>
    obtain ⟨k, hk, rfl, hall⟩ := hrel
    have HA := Lib.hid hall
    clear hall
    by_cases hlt : k < n
    · have hcell := hc k hlt
      have IH := Lib.hid (fun w => isHeight_any (v k) w)
      cases hb : hgtB (v k) with
      | true =>
        have HB := Lib.hid hb
        rw [hb] at IH
        clear hb
        go_wp2_with (go_at_call 60; refine (IH.out _).mono ?_; rintro e w' ⟨rfl, rfl⟩)
        go_round
        case rel => exact ⟨k + 1, by omega, by go_num, allB_iff.2 fun i hi => by rcases Nat.lt_or_ge i k with c | c; exact allB_iff.1 HA.out i c; rw [show i = k by omega]; exact HB.out⟩
        case measure => simp [intOf]; omega
      | false =>
        have HB := Lib.hid hb
        rw [hb] at IH
        clear hb
        go_wp2_with (go_at_call 60; refine (IH.out _).mono ?_; rintro e w' ⟨rfl, rfl⟩)
        go_ret
        exact ⟨ret_int (by unfold hgtE; rw [allB_no hlt HB.out]; rfl), rfl⟩
    · go_wp2
      go_ret
      have : k = n := by omega
      subst this
      exact ⟨ret_int (by unfold hgtE; rw [HA.out]; rfl), rfl⟩

set_option maxHeartbeats 400000 in
theorem CheckHeights_nil (a : Option Addr) (cap : Nat) (w : World) :
    Calls Try.prog 38 #[.slice a 0 cap] w fun e w' => e = .returned (.int .i64 0) ∧ w = w' := by
  go_enter Try.func38, Try.ntmps38
  go_wp2
  go_loop [7] (fun i => i = .int .i64 0) (fun _ => 0)
  case atStart => rfl
  case round =>
    subst hrel
    go_wp2_with (go_at_call 57; refine (checkRange_nil _ _ _).mono ?_; rintro e w' ⟨rfl, rfl⟩)
    go_ret
    exact ⟨rfl, rfl⟩

set_option maxHeartbeats 400000 in
theorem CheckHeights_row (b off cap n : Nat) (v : Nat → Nat) (hl : n ≤ 9223372036854775807) (w : World) (hc : FlAt w b off n v) :
    Calls Try.prog 38 #[.slice (some ⟨b, off, none⟩) n cap] w fun e w' => e = .returned (.int .i64 (fldE n v)) ∧ w = w' := by
  have CH := Lib.hid (checkRange_row b off cap n v hl w hc)
  go_enter Try.func38, Try.ntmps38
  go_wp2
  go_loop [7] (fun i => ∃ k : Nat, k ≤ n ∧ i = .int .i64 k ∧ allB k (fun i => finB (v i)) = true) (fun i => n - (intOf i).toNat)
  case atStart => exact ⟨0, Nat.zero_le _, rfl, rfl⟩
  case round =>
    obtain ⟨k, hk, rfl, hall⟩ := hrel
    have HA := Lib.hid hall
    clear hall
    by_cases hlt : k < n
    · have hcell := hc k hlt
      have IH := Lib.hid (fun w => isFinite_any (v k) w)
      cases hb : finB (v k) with
      | true =>
        have HB := Lib.hid hb
        rw [hb] at IH
        clear hb
        go_wp2_with (go_at_call 56; refine (IH.out _).mono ?_; rintro e w' ⟨rfl, rfl⟩)
        go_round
        case rel => exact ⟨k + 1, by omega, by go_num, allB_iff.2 fun i hi => by rcases Nat.lt_or_ge i k with c | c; exact allB_iff.1 HA.out i c; rw [show i = k by omega]; exact HB.out⟩
        case measure => simp [intOf]; omega
      | false =>
        have HB := Lib.hid hb
        rw [hb] at IH
        clear hb
        go_wp2_with (go_at_call 56; refine (IH.out _).mono ?_; rintro e w' ⟨rfl, rfl⟩)
        go_ret
        exact ⟨ret_int (by unfold fldE; rw [allB_no hlt HB.out]; rfl), rfl⟩
    · go_wp2_with (go_at_call 57; refine CH.out.mono ?_; rintro e w' ⟨rfl, rfl⟩)
      go_ret
      have : k = n := by omega
      subst this
      exact ⟨ret_int (by unfold fldE; rw [HA.out]; rfl), rfl⟩

end Go.Proofs.Ytjjafjdjdjonfaa

/- The sign struck off a word; what the reference's Height asks of a single turned into a double. -/
namespace Go.Proofs.Ytjjafjdjdjonfaa.Fl
open Ieee

theorem read_abs (f : Format) (x : Nat) : f.read (x % f.signWeight) = match f.read x with | .number _ m p => .number false m p | .infinity _ => .infinity false | .nan _ t => .nan false t := by
  have hs : 0 < f.signWeight := Nat.two_pow_pos _
  have h1 : x % f.signWeight / f.signWeight = 0 := Nat.div_eq_of_lt (Nat.mod_lt _ hs)
  have h2 : x % f.signWeight % f.signWeight = x % f.signWeight := Nat.mod_mod _ _
  unfold Format.read
  simp only [h1, h2]
  generalize x % f.signWeight = r
  split
  · rfl
  · split
    · rfl
    · split <;> rfl

theorem swS : single.signWeight = 2147483648 := by decide
theorem swD : double.signWeight = 9223372036854775808 := by decide
theorem readMaxD : double.read 9218868437227405311 = .number false 9007199254740991 971 := by decide

/-- The double of a finite single is not beyond the greatest double. -/
theorem isInf_no {x X : Nat} (h : vS x ≠ none) (hX : floatToFloatBits .f32 x .f64 = some X) : (double.order (X % 9223372036854775808) 9218868437227405311 == some .gt) = false := by
  unfold vS at h
  split at h
  · rename_i s m p hr
    obtain ⟨X', M, I, c1, c2, c3, c4, _⟩ := toD hr
    rw [hX] at c1
    cases c1
    have ha := read_abs double X
    rw [c2, swD] at ha
    simp only at ha
    unfold Format.order
    rw [ha, readMaxD, order_num c3 (by omega), some_beq, cmp_gt, decide_eq_false_iff_not]
    obtain ⟨E, hE⟩ : ∃ E : Nat, E = 1202 := ⟨_, rfl⟩
    have hlt : m * 2 ^ (p + 1074).toNat < 2 ^ E := by
      have g := read_single hr
      rcases Nat.eq_zero_or_pos m with z | z
      · subst z; rw [Nat.zero_mul]; exact Nat.two_pow_pos _
      · exact (sgl_units g z hE rfl).1
    have : 2 ^ E ≤ 9007199254740991 * 2 ^ (971 + 1074 : Int).toNat := Nat.le_trans (two_le (by omega : E ≤ (971 + 1074 : Int).toNat)) (Nat.le_mul_of_pos_left _ (by omega))
    unfold vOf
    rw [signed_eq, signed_eq, c4]
    generalize m * 2 ^ (p + 1074).toNat = A at *
    generalize 9007199254740991 * 2 ^ (971 + 1074 : Int).toNat = B at *
    simp only [Bool.false_eq_true, if_false]
    omega
  · exact absurd rfl h

theorem conv_inf {x : Nat} {s : Bool} (h : single.read x = .infinity s) : floatToFloatBits .f32 x .f64 = some (double.write (.infinity s)) := by
  unfold floatToFloatBits
  rw [if_neg (by decide)]
  have : FloatKind.f32.decode x = .infinity s := h
  simp only [this]; rfl
theorem isInf_yes (s : Bool) : (double.order (double.write (.infinity s) % 9223372036854775808) 9218868437227405311 == some .gt) = true := by cases s <;> decide

/-- 'v != v', of a single. -/
theorem self_eq {x : Nat} (h : (single.read x).isNaN = false) : (single.order x x == some .eq) = true := by
  unfold Format.order
  cases hx : single.read x with
  | number s m p =>
    have := (read_single hx).low
    rw [order_num (by omega) (by omega), some_beq, cmp_eq]; simp
  | infinity s => cases s <;> rfl
  | nan s t => rw [hx] at h; cases h
theorem self_ne {x : Nat} (h : (single.read x).isNaN = true) : (single.order x x == some .eq) = false := by rw [order_none (.inl h)]; rfl

/-- A finite single is a height where its magnitude is at most 2 ^ 20: as the reference asks. -/
theorem top_abs {x : Nat} (h : finB x = true) : (single.order (x % 2147483648) 1233125376 == some .gt) = !hgtB x := by
  unfold finB at h
  unfold hgtB
  cases hv : vS x with
  | none => rw [hv] at h; cases h
  | some a =>
    have hv0 := hv
    unfold vS at hv
    split at hv
    · rename_i s m p hr
      cases hv
      have ha := read_abs single x
      rw [hr, swS] at ha
      simp only at ha
      rw [gtr_val (vS_num ha) vS_top]
      unfold vOf vTop
      rw [signed_eq, signed_eq]
      generalize m * 2 ^ (p + 1074).toNat = A at *
      generalize 1 * 2 ^ (20 + 1074 : Int).toNat = B at *
      rw [Bool.eq_iff_iff]
      cases s <;> simp <;> omega
    · cases hv

end Go.Proofs.Ytjjafjdjdjonfaa.Fl

/- Contracts: the reference's abs, Height, Out. -/
namespace Go.Proofs.Ytjjafjdjdjonfaa
open Go.RowKit Fl

theorem f32bits (b : Nat) (w : World) : (callFunc 34 #[.float .f32 b]).run Try.prog w = .ok (.value (.int .u32 b)) w := by
  rw [run_callFunc_extern Try.func34 (by kernel_rfl) (by kernel_rfl) (by kernel_rfl) (e := Extern.MathFloatBits.float32bits) (by kernel_rfl)]; rfl
theorem f64bits (b : Nat) (w : World) : (callFunc 43 #[.float .f64 b]).run Try.prog w = .ok (.value (.int .u64 b)) w := by
  rw [run_callFunc_extern Try.func43 (by kernel_rfl) (by kernel_rfl) (by kernel_rfl) (e := Extern.MathFloatBits.float64bits) (by kernel_rfl)]; rfl
theorem f64from (n : Int) (w : World) : (callFunc 42 #[.int .u64 n]).run Try.prog w = .ok (.value (.float .f64 n.toNat)) w := by
  rw [run_callFunc_extern Try.func42 (by kernel_rfl) (by kernel_rfl) (by kernel_rfl) (e := Extern.MathFloatBits.float64frombits) (by kernel_rfl)]; rfl

theorem andNot32 (x : Nat) (hx : x < 4294967296) : bits BinOp.andNot IntKind.u32 (x : Int) 2147483648 = ((x % 2147483648 : Nat) : Int) := by
  have h := u32_andNot_nat x 2147483648 hx (by omega)
  rw [show ((2147483648 : Nat) : Int) = 2147483648 from rfl] at h
  rw [h]
  have : x &&& (4294967295 - 2147483648) = x % 2147483648 := Nat.and_two_pow_sub_one_eq_mod x 31
  rw [this]
/-- 2 ^ 63 and 2 ^ 64 behind names: no walk sees the numerals. -/
def b63 : Nat := 9223372036854775808
def b64 : Nat := 18446744073709551616
theorem andNot64 (x : Nat) (hx : x < b64) : bits BinOp.andNot IntKind.u64 (x : Int) 9223372036854775808 = ((x % b63 : Nat) : Int) := by
  have h := u64_andNot_nat x 9223372036854775808 hx (by omega)
  rw [show ((9223372036854775808 : Nat) : Int) = 9223372036854775808 from rfl] at h
  rw [h]
  have : x &&& (18446744073709551615 - 9223372036854775808) = x % 9223372036854775808 := Nat.and_two_pow_sub_one_eq_mod x 63
  rw [this]; rfl

set_option maxHeartbeats 400000 in
theorem mathAbs_any (X : Nat) (w : World) (hX : X < b64) :
    Calls Try.prog 20 #[.float .f64 X] w fun e w' => e = .returned (.float .f64 (X % b63)) ∧ w = w' := by
  have h1 := f64bits
  have h2 := f64from
  have h3 := andNot64 X hX
  go_enter Try.func20, Try.ntmps20
  go_wp2
  go_ret
  exact ⟨rfl, rfl⟩

end Go.Proofs.Ytjjafjdjdjonfaa

/- Contracts: the reference's Height and Out. -/
namespace Go.Proofs.Ytjjafjdjdjonfaa
open Go.RowKit Fl

theorem conv32_lt {x X : Nat} (h : floatToFloatBits .f32 x .f64 = some X) : X < b64 := by
  unfold floatToFloatBits at h
  rw [if_neg (by decide)] at h
  split at h
  · cases h
  · cases h; exact Ieee.Format.write_lt _ _
  · split at h
    · cases h
    · cases h; exact Ieee.Format.write_lt _ _

/-- What the first loop asks of one single: a NaN, an infinity, or a finite one. -/
theorem step1 (x : Nat) : (finB x = true ∧ (FloatKind.f32.format.order x x == some .eq) = true ∧ ∃ X, floatToFloatBits .f32 x .f64 = some X ∧ X < b64 ∧ (FloatKind.f64.format.order (X % b63) 9218868437227405311 == some .gt) = false) ∨
    (finB x = false ∧ (FloatKind.f32.format.order x x == some .eq) = false) ∨
    (finB x = false ∧ (FloatKind.f32.format.order x x == some .eq) = true ∧ ∃ X, floatToFloatBits .f32 x .f64 = some X ∧ X < b64 ∧ (FloatKind.f64.format.order (X % b63) 9218868437227405311 == some .gt) = true) := by
  cases hv : vS x with
  | some a =>
    left
    have hr : ∃ s m p, Ieee.single.read x = .number s m p := by
      unfold vS at hv
      split at hv
      · exact ⟨_, _, _, by assumption⟩
      · cases hv
    obtain ⟨s, m, p, hr⟩ := hr
    obtain ⟨X, _, _, c1, _⟩ := toD hr
    exact ⟨by unfold finB; rw [hv]; rfl, self_eq (by rw [hr]; rfl), X, c1, conv32_lt c1, isInf_no (by rw [hv]; simp) c1⟩
  | none =>
    right
    have hf : finB x = false := by unfold finB; rw [hv]; rfl
    rcases vS_none hv with ⟨s, hs⟩ | hn
    · right
      exact ⟨hf, self_eq (by rw [hs]; rfl), _, conv_inf hs, conv32_lt (conv_inf hs), isInf_yes s⟩
    · left
      exact ⟨hf, self_ne hn⟩

def wf32 (n : Nat) (v : Nat → Nat) : Prop := ∀ i, i < n → v i < 4294967296

theorem fldE_zero {n : Nat} {v : Nat → Nat} : fldE n v = 0 ↔ allB n (fun i => hgtB (v i)) = true := by
  unfold fldE hgtE
  constructor
  · intro h
    split at h
    · split at h
      · assumption
      · cases h
    · cases h
  · intro h
    have f : allB n (fun i => finB (v i)) = true := allB_iff.2 fun i hi => hgt_fin (allB_iff.1 h i hi)
    rw [if_pos f, if_pos h]

end Go.Proofs.Ytjjafjdjdjonfaa

/- Blocks that are known whole, over calls that leave what was there. -/
namespace Go.Proofs.Ytjjafjdjdjonfaa
open Go.RowKit

/-- A block known whole: its cells, its marks, its place. -/
theorem blkC {w : World} {b : Nat} {cs : Array Value} {t : TypeId} (h : w.heap[b]? = some (.cells cs t (0, 0))) :
    (∀ o, w.cell? ⟨b, o, none⟩ = cs[o]?) ∧ (∀ o, w.frozen? ⟨b, o, none⟩ = false) ∧ b < w.heap.size := by
  refine ⟨fun o => by simp [World.cell?, h], fun o => by simp [World.frozen?, h], ?_⟩
  rcases Nat.lt_or_ge b w.heap.size with h' | h'
  · exact h'
  · simp [Array.getElem?_eq_none h'] at h
theorem blkStay {W w' : World} {b : Nat} {o : Obj} (h : W.heap[b]? = some o) (hb : Below W.heap.size W w') : w'.heap[b]? = some o := by
  rw [hb.block b ?_, h]
  rcases Nat.lt_or_ge b W.heap.size with h' | h'
  · exact h'
  · simp [Array.getElem?_eq_none h'] at h
theorem heap_alloc_get (w : World) (o : Obj) (k : Nat) : (w.alloc o).heap[k]? = if k = w.heap.size then some o else w.heap[k]? := by
  show (w.heap.push o)[k]? = _
  rw [Array.getElem?_push]

theorem hold {W w w' : World} {A : Prop} (h : A ∧ Below W.heap.size W w) (hb : Below w.heap.size w w') : Below W.heap.size W w' := h.2.trans (hb.mono h.2.size)
theorem heap_size_alloc (w : World) (o : Obj) : (w.alloc o).heap.size = w.heap.size + 1 := by
  show (w.heap.push o).size = _
  simp

/-- The store of a float into a cell (the kit has none). -/
theorem run_store_float {P : Program} {w : World} {a : Addr} {m : Mode} (k : FloatKind) (b : Nat) : (store a (.float k b) m).run P w = stored P w a (.float k b) m := run_store P w a _ m rfl

end Go.Proofs.Ytjjafjdjdjonfaa

/- Contract: fit. -/
namespace Go.Proofs.Ytjjafjdjdjonfaa
open Go.RowKit Fl

theorem and15 (x : Int) : ∃ a : Nat, a ≤ 15 ∧ bits BinOp.and IntKind.i64 x 15 = (a : Int) := by
  have h : (BitVec.ofInt 64 x &&& BitVec.ofInt 64 15).toNat ≤ 15 := by
    rw [BitVec.toNat_and]
    exact Nat.le_trans Nat.and_le_right (by decide)
  refine ⟨(BitVec.ofInt 64 x &&& BitVec.ofInt 64 15).toNat, h, ?_⟩
  show IntKind.i64.wrap ((BitVec.ofInt 64 x &&& BitVec.ofInt 64 15).toNat : Int) = _
  rw [IntKind.wrap_i64]
  omega

/-- The made cells of singles. -/
theorem made_f32 (n i : Nat) (h : i < n) : (madeCells #[Value.float .f32 0] n)[i]? = some (.float .f32 0) := by
  simp [madeCells, h, Nat.mod_one]

theorem make_f32 (n : Nat) (hn : n ≤ 65536) (w : World) :
    (Instr.makeSlice 24 (.int .i64 (n : Int)) (.int .i64 (n : Int))).run Try.prog w = .ok (.slice (some ⟨w.heap.size, 0, none⟩) n n) (w.alloc (.cells (madeCells #[Value.float .f32 0] n) 50)) := by
  have h : (Try.prog.info? 50).map (fun i => (i.zero, i.size, i.bytes)) = some (some (.float .f32 0), 1, 4) := by kernel_rfl
  obtain ⟨i0, hi, hz0, hz1, hz2⟩ := info_parts h
  have hr := run_make (P := Try.prog) w 24 50 i0 (.float .f32 0) Try.underlying24 hi hz0 .i64 .i64 n n (by omega) (by omega) (by rw [hz2]; omega) (by omega)
  rw [hz1, Nat.mul_one, Int.toNat_natCast] at hr
  exact hr

/-- A field as a value; the cells of its box. -/
abbrev fldV (x y w h : Int) (sl : Value) : Value := .agg #[.int .i64 x, .int .i64 y, .int .i64 w, .int .i64 h, sl]
abbrev fldO (x y w h : Int) (sl : Value) : Obj := .cells #[.int .i64 x, .int .i64 y, .int .i64 w, .int .i64 h, sl] 26

def cl1 (x : Int) : Int := if x < -5000 then -5000 else x
def clampI (x : Int) : Int := if 5000 < cl1 x then 5000 else cl1 x
theorem clampI_le (x : Int) : -5000 ≤ clampI x ∧ clampI x ≤ 5000 := by unfold clampI cl1; split <;> split <;> omega

/-- Block b is n singles, those below k heights. -/
def FitRow (wr : World) (b n k : Nat) : Prop :=
  ∃ cs : Array Value, wr.heap[b]? = some (.cells cs 50 (0, 0)) ∧ cs.size = n ∧ ∀ j, j < n → ∃ x, cs[j]? = some (.float .f32 x) ∧ x < 4294967296 ∧ (j < k → hgtB x = true)

/-- What fit leaves: a small region near the origin, heights in a new block. -/
def FitPost (w : World) (e : Ending) (w' : World) : Prop :=
  ∃ X Y W H : Int, ∃ b n : Nat, e = .returned (fldV X Y W H (.slice (some ⟨b, 0, none⟩) n n)) ∧ -5000 ≤ X ∧ X ≤ 5000 ∧ -5000 ≤ Y ∧ Y ≤ 5000 ∧ 1 ≤ W ∧ W ≤ 16 ∧ 1 ≤ H ∧ H ≤ 16 ∧ (n : Int) = W * H ∧ 1 ≤ n ∧ n ≤ 256 ∧ w.heap.size ≤ b ∧ FitRow w' b n n ∧ Below w.heap.size w w'

theorem nat_bd {j k T : Nat} (hT : T = 1074) (h : j ≤ 2 ^ k) : j * 2 ^ T ≤ 2 ^ (1074 + k) := by
  rw [← hT, Nat.pow_add, Nat.mul_comm]; exact Nat.mul_le_mul_left _ h
theorem floatOfInt_bd (j k : Nat) (hk : k ≤ 100) (h : j ≤ 2 ^ k) : Bd k (floatOfInt .f32 (j : Int)) := by
  have e : floatOfInt .f32 (j : Int) = Ieee.single.nearest false j 0 := by
    show Ieee.single.nearest (decide ((j : Int) < 0)) (j : Int).natAbs 0 = _
    rw [show decide ((j : Int) < 0) = false by simp, Int.natAbs_natCast]
  rw [e, nearest_val Ieee.single false (-1074) 925 leastS j (p := 0) (by omega)]
  exact bd_word (nat_bd (by omega) h) (by omega)
theorem floatOfInt_lt (j : Int) : floatOfInt .f32 j < 4294967296 := by
  have h := Ieee.Format.write_lt Ieee.single (.number (decide (j < 0)) j.natAbs 0)
  exact h
theorem floatOfInt_small (j : Nat) (h : j ≤ 256) : hgtB (floatOfInt .f32 (j : Int)) = true :=
  bd_hgt (floatOfInt_bd j 20 (by omega) (Nat.le_trans h (by decide)))

theorem fit_keep {wr : World} {b n k x : Nat} (h : FitRow wr b n k) (hk : k < n) (hx : x < 4294967296) (hh : hgtB x = true) : FitRow (wr.setCell ⟨b, k, none⟩ (.float .f32 x)) b n (k + 1) := by
  obtain ⟨cs, h1, h2, h3⟩ := h
  refine ⟨cs.setIfInBounds k (.float .f32 x), heap_setCell_same wr b k cs _ _ h1, by simp [h2], fun j hj => ?_⟩
  by_cases e : k = j
  · subst e
    exact ⟨x, by rw [Array.getElem?_setIfInBounds_self_of_lt (by omega)], hx, fun _ => hh⟩
  · obtain ⟨y, q1, q2, q3⟩ := h3 j hj
    exact ⟨y, by rw [Array.getElem?_setIfInBounds_ne e]; exact q1, q2, fun c => q3 (by omega)⟩

theorem fit_step {wr : World} {b n k x : Nat} (h : FitRow wr b n k) (hk : k < n) (hx : x < 4294967296) : FitRow (wr.setCell ⟨b, k, none⟩ (.float .f32 x)) b n k := by
  obtain ⟨cs, h1, h2, h3⟩ := h
  refine ⟨cs.setIfInBounds k (.float .f32 x), heap_setCell_same wr b k cs _ _ h1, by simp [h2], fun j hj => ?_⟩
  by_cases e : k = j
  · subst e
    exact ⟨x, by rw [Array.getElem?_setIfInBounds_self_of_lt (by omega)], hx, fun c => by omega⟩
  · obtain ⟨y, q1, q2, q3⟩ := h3 j hj
    exact ⟨y, by rw [Array.getElem?_setIfInBounds_ne e]; exact q1, q2, q3⟩

theorem fit_cell {wr : World} {b n k : Nat} (h : FitRow wr b n k) (j : Nat) (hj : j < n) : ∃ x, wr.cell? ⟨b, j, none⟩ = some (.float .f32 x) ∧ x < 4294967296 ∧ (j < k → hgtB x = true) := by
  obtain ⟨cs, h1, h2, h3⟩ := h
  obtain ⟨x, q1, q2, q3⟩ := h3 j hj
  exact ⟨x, by simp [World.cell?, h1, q1], q2, q3⟩

theorem fit_up {wr : World} {b n k x : Nat} (h : FitRow wr b n k) (hc : wr.cell? ⟨b, k, none⟩ = some (.float .f32 x)) (hh : hgtB x = true) : FitRow wr b n (k + 1) := by
  obtain ⟨cs, h1, h2, h3⟩ := h
  refine ⟨cs, h1, h2, fun j hj => ?_⟩
  obtain ⟨y, q1, q2, q3⟩ := h3 j hj
  refine ⟨y, q1, q2, fun c => ?_⟩
  by_cases e : j < k
  · exact q3 e
  · have : j = k := by omega
    subst this
    have : wr.cell? ⟨b, j, none⟩ = some (.float .f32 y) := by simp [World.cell?, h1, q1]
    rw [hc] at this
    cases this
    exact hh

theorem FitRow.congr {w w' : World} {b n k : Nat} (h : FitRow w b n k) (e : w'.heap[b]? = w.heap[b]?) : FitRow w' b n k := by
  obtain ⟨cs, h1, h2⟩ := h
  exact ⟨cs, by rw [e]; exact h1, h2⟩
theorem FitRow.lt {w : World} {b n k : Nat} (h : FitRow w b n k) : b < w.heap.size := by
  obtain ⟨cs, h1, _⟩ := h
  exact (blkC h1).2.2
theorem FitRow.free {w : World} {b n k : Nat} (h : FitRow w b n k) (j : Nat) : w.frozen? ⟨b, j, none⟩ = false := by
  obtain ⟨cs, h1, _⟩ := h
  exact (blkC h1).2.1 j

theorem flAt_one (w : World) (x : Nat) : FlAt (w.alloc (.cells #[.float .f32 x] 50)) w.heap.size 0 1 (fun _ => x) := by
  intro i hi
  have : i = 0 := by omega
  subst this
  have h : (w.alloc (.cells #[Value.float .f32 x] 50)).heap[w.heap.size]? = some (.cells #[.float .f32 x] 50) := by rw [heap_alloc_get, if_pos rfl]
  exact (blkC h).1 0

theorem fldE_one_ok {x : Nat} (h : hgtB x = true) : fldE 1 (fun _ => x) = 0 := by
  have f := hgt_fin h
  simp [fldE, hgtE, allB, List.range_succ, h, f]
theorem fldE_one_no {x : Nat} (h : hgtB x = false) : fldE 1 (fun _ => x) = 2 ∨ fldE 1 (fun _ => x) = 3 := by
  unfold fldE
  by_cases f : allB 1 (fun _ => finB x) = true
  · right; rw [if_pos f]; unfold hgtE; rw [allB_no (k := 0) (by omega) h]; rfl
  · left; rw [if_neg f]

theorem fit_six (wr : World) (B : Nat) (u0 u1 u2 u3 u4 u5 : Value) :
    ((((((wr.setCell ⟨B, 4, none⟩ u0).setCell ⟨B + 1, 0, none⟩ u1).setCell ⟨B + 1, 1, none⟩ u2).setCell ⟨B + 1, 2, none⟩ u3).setCell ⟨B + 1, 3, none⟩ u4).setCell ⟨B + 1, 4, none⟩ u5).heap[B + 1 + 1]? = wr.heap[B + 1 + 1]? := by
  have n0 : B + 1 + 1 ≠ B := by omega
  have n1 : B + 1 + 1 ≠ B + 1 := by omega
  rw [Below.heap_setCell _ _ _ _ n1, Below.heap_setCell _ _ _ _ n1, Below.heap_setCell _ _ _ _ n1, Below.heap_setCell _ _ _ _ n1, Below.heap_setCell _ _ _ _ n1, Below.heap_setCell _ _ _ _ n0]

end Go.Proofs.Ytjjafjdjdjonfaa

/- Contract: fit of a field without singles. -/
namespace Go.Proofs.Ytjjafjdjdjonfaa
open Go.RowKit Fl

end Go.Proofs.Ytjjafjdjdjonfaa

/- Contract: byCell, whatever function it is given. -/
namespace Go.Proofs.Ytjjafjdjdjonfaa
open Go.RowKit Fl

/-- Block b has at least n singles; the first k are f. -/
def RowPart (wr : World) (b n k : Nat) (f : Nat → Nat) : Prop :=
  ∃ cs : Array Value, wr.heap[b]? = some (.cells cs 50 (0, 0)) ∧ n ≤ cs.size ∧ ∀ j, j < k → cs[j]? = some (.float .f32 (f j))
theorem RowPart.congr {w w' : World} {b n k : Nat} {f : Nat → Nat} (h : RowPart w b n k f) (e : w'.heap[b]? = w.heap[b]?) : RowPart w' b n k f := by
  obtain ⟨cs, h1, h2⟩ := h
  exact ⟨cs, by rw [e]; exact h1, h2⟩
theorem RowPart.lt {w : World} {b n k : Nat} {f : Nat → Nat} (h : RowPart w b n k f) : b < w.heap.size := by
  obtain ⟨cs, h1, _⟩ := h
  exact (blkC h1).2.2
theorem RowPart.free {w : World} {b n k : Nat} {f : Nat → Nat} (h : RowPart w b n k f) (j : Nat) : w.frozen? ⟨b, j, none⟩ = false := by
  obtain ⟨cs, h1, _⟩ := h
  exact (blkC h1).2.1 j
theorem RowPart.cell {w : World} {b n k : Nat} {f : Nat → Nat} (h : RowPart w b n k f) {j : Nat} (hj : j < n) : ∃ x, w.cell? ⟨b, j, none⟩ = some x := by
  obtain ⟨cs, h1, h2, _⟩ := h
  exact ⟨cs[j]'(by omega), by rw [(blkC h1).1 j, Array.getElem?_eq_getElem (by omega)]⟩
theorem RowPart.flAt {w : World} {b n k : Nat} {f : Nat → Nat} (h : RowPart w b n k f) : FlAt w b 0 k f := by
  intro i hi
  obtain ⟨cs, h1, h2, h3⟩ := h
  rw [Nat.zero_add, (blkC h1).1 i]
  exact h3 i hi
theorem RowPart.put {w : World} {b n k : Nat} {f : Nat → Nat} (h : RowPart w b n k f) (hk : k < n) : RowPart (w.setCell ⟨b, k, none⟩ (.float .f32 (f k))) b n (k + 1) f := by
  obtain ⟨cs, h1, h2, h3⟩ := h
  refine ⟨cs.setIfInBounds k (.float .f32 (f k)), heap_setCell_same w b k cs _ _ h1, by simp [h2], fun j hj => ?_⟩
  by_cases e : k = j
  · subst e; rw [Array.getElem?_setIfInBounds_self_of_lt (by omega)]
  · rw [Array.getElem?_setIfInBounds_ne e]; exact h3 j (by omega)

/-- A function of a cell's number, as a closure: in any world that has grown out of w it answers f, and leaves what was there. -/
def Clos1 (g : Nat) (caps : Array Value) (n : Nat) (f : Nat → Nat) (w : World) : Prop :=
  ∀ (i : Nat) (W : World), i < n → Below w.heap.size w W → Calls Try.prog g (#[.int .i64 i] ++ caps) W fun e W' => e = .returned (.float .f32 (f i)) ∧ Below W.heap.size W W'
def Enters (g : Nat) : Prop := ∀ (args : Array Value) (W : World), (callFunc g args).run Try.prog W = .ok (.enter g args) W

/-- A field that is made of f, or the error. -/
def MadePost (w : World) (X Y W H : Int) (n : Nat) (f : Nat → Nat) (e : Ending) (w' : World) : Prop :=
  (allB n (fun i => hgtB (f i)) = true ∧ ∃ b cap, e = .returned (.tuple #[fldV X Y W H (.slice (some ⟨b, 0, none⟩) n cap), .int .i64 0]) ∧ w.heap.size ≤ b ∧ b < w'.heap.size ∧ FlAt w' b 0 n f ∧ Below w.heap.size w w') ∨
  (allB n (fun i => hgtB (f i)) = false ∧ e = .returned (.tuple #[fldV 0 0 0 0 (.slice none 0 0), .int .i64 3]) ∧ Below w.heap.size w w')

/-- A field's five cells stored into block b. -/
abbrev set5 (wr : World) (b : Nat) (u1 u2 u3 u4 u5 : Value) : World :=
  ((((wr.setCell ⟨b, 0, none⟩ u1).setCell ⟨b, 1, none⟩ u2).setCell ⟨b, 2, none⟩ u3).setCell ⟨b, 3, none⟩ u4).setCell ⟨b, 4, none⟩ u5
theorem set5_heap (wr : World) (b k : Nat) (u1 u2 u3 u4 u5 : Value) (h : k ≠ b) : (set5 wr b u1 u2 u3 u4 u5).heap[k]? = wr.heap[k]? := by
  rw [Below.heap_setCell _ _ _ _ h, Below.heap_setCell _ _ _ _ h, Below.heap_setCell _ _ _ _ h, Below.heap_setCell _ _ _ _ h, Below.heap_setCell _ _ _ _ h]
theorem set5_below {w wr : World} {B : Nat} (hb : Below B w wr) (b : Nat) (u1 u2 u3 u4 u5 : Value) (h : B ≤ b) : Below B w (set5 wr b u1 u2 u3 u4 u5) :=
  ((((hb.setCell (p := ⟨b, 0, none⟩) h u1).setCell (p := ⟨b, 1, none⟩) h u2).setCell (p := ⟨b, 2, none⟩) h u3).setCell (p := ⟨b, 3, none⟩) h u4).setCell (p := ⟨b, 4, none⟩) h u5
theorem set5_size (wr : World) (b : Nat) (u1 u2 u3 u4 u5 : Value) : (set5 wr b u1 u2 u3 u4 u5).heap.size = wr.heap.size := by simp [set5]

set_option maxHeartbeats 2000000 in
theorem byCell_any (X Y W H : Int) (n : Nat) (g : Nat) (caps : Array Value) (f : Nat → Nat) (w : World) (hcall : Enters g) (hcl : Clos1 g caps n f w) (hn : (n : Int) = W * H) (hn1 : 1 ≤ n) (hn2 : n ≤ 65536) :
    Calls Try.prog 61 #[reg X Y W H, .func (.func g) #[] caps] w (MadePost w X Y W H n f) := by
  have en : wrap64 (W * H) = (n : Int) := by rw [← hn]; exact IntWalk.wrap64_in _ ⟨by omega, by omega⟩
  have hmk := make_f32 n hn2
  have HCL := Lib.hid hcl
  unfold Enters at hcall
  clear hn hcl
  have hsf := fun (w : World) (a : Addr) (m : Mode) (k : FloatKind) (b : Nat) => run_store_float (P := Try.prog) (w := w) (a := a) (m := m) k b
  go_enter Try.func61, Try.ntmps61
  go_wp2
  clear en hmk
  go_loopw [17] (fun i wr => ∃ k : Nat, k ≤ n ∧ i = .int .i64 k ∧ RowPart wr (w.heap.size + 1 + 1) n k f ∧ wr.heap[w.heap.size]? = some (regObj X Y W H) ∧ wr.heap[w.heap.size + 1]? = some (fldO 0 0 0 0 (.slice none 0 0)) ∧ Below w.heap.size w wr) (fun i _ => n - (intOf i).toNat)
  case atStart =>
    refine ⟨0, Nat.zero_le _, rfl, ⟨madeCells #[Value.float .f32 0] n, ?_, by rw [size_madeCells]; exact Nat.le_refl _, fun j hj => by omega⟩, ?_, ?_, (by repeat (first | exact Below.refl _ _ | refine Below.alloc ?_ (by first | omega | (simp; done) | (simp; omega)) _ | refine Below.setCell ?_ (by first | omega | (simp; done) | (simp; omega)) _ | refine Below.drew ?_))⟩
    · simp only [heap_alloc_get, heap_size_alloc]; simp <;> omega
    · simp only [heap_alloc_get, heap_size_alloc]; simp <;> omega
    · simp only [heap_alloc_get, heap_size_alloc]; simp <;> omega
  case round =>
    obtain ⟨k, hk, rfl, hrow, hbox, hres, hbel⟩ := hrel
    have HR := Lib.hid hrow
    have HB := Lib.hid hbox
    have HS := Lib.hid hres
    clear hrow hbox hres
    by_cases hlt : k < n
    · have CC := Lib.hid (HCL.out k wr hlt hbel)
      go_wp2_with fail
      refine CC.out.mono ?_
      rintro e w2 ⟨rfl, hb2⟩
      have R2 := Lib.hid (HR.out.congr (hb2.block _ HR.out.lt))
      have B2 := Lib.hid (blkStay HB.out hb2)
      have S2 := Lib.hid (blkStay HS.out hb2)
      have L2 : Below w.heap.size w w2 := hbel.trans (hb2.mono hbel.size)
      have z2 := R2.out.lt
      have f2 := R2.out.free k
      obtain ⟨x0, hx0⟩ := R2.out.cell hlt
      clear hb2 CC HR HB HS hbel
      go_wp2
      go_roundw
      case rel =>
        exact ⟨k + 1, by omega, by go_num, R2.out.put hlt, (Below.heap_setCell _ _ _ _ (show w.heap.size ≠ w.heap.size + 1 + 1 by omega)).trans B2.out, (Below.heap_setCell _ _ _ _ (show w.heap.size + 1 ≠ w.heap.size + 1 + 1 by omega)).trans S2.out, L2.setCell (p := ⟨w.heap.size + 1 + 1, k, none⟩) (show w.heap.size ≤ w.heap.size + 1 + 1 by omega) _⟩
      case measure => simp [intOf]; omega
    · have hkn : k = n := by omega
      subst hkn
      obtain ⟨cB, fB, zB⟩ := blkC HB.out
      obtain ⟨cS, fS, zS⟩ := blkC HS.out
      have HF := HR.out.flAt
      have CH := Lib.hid (checkRange_row (w.heap.size + 1 + 1) 0 k k f (by omega) wr HF)
      clear HF
      cases hall : allB k (fun i => hgtB (f i)) with
      | true =>
        have e : hgtE k f = 0 := by unfold hgtE; rw [hall]; rfl
        rw [e] at CH
        clear e
        go_wp2_with (go_at_call 57; refine CH.out.mono ?_; rintro e w' ⟨rfl, rfl⟩)
        refine bodyPost_ret (v := .tuple #[fldV X Y W H (.slice (some ⟨w.heap.size + 1 + 1, 0, none⟩) k k), .int .i64 0]) (by simp [results, Try.results61, go_sem, cS]) rfl ?_
        exact .inl ⟨hall, w.heap.size + 1 + 1, k, rfl, by omega, by rw [set5_size]; exact HR.out.lt, (HR.out.congr (set5_heap wr (w.heap.size + 1) (w.heap.size + 1 + 1) _ _ _ _ _ (by omega))).flAt, set5_below hbel (w.heap.size + 1) _ _ _ _ _ (by omega)⟩
      | false =>
        have e : hgtE k f = 3 := by unfold hgtE; rw [hall]; rfl
        rw [e] at CH
        clear e
        go_wp2_with (go_at_call 57; refine CH.out.mono ?_; rintro e w' ⟨rfl, rfl⟩)
        refine bodyPost_ret (v := .tuple #[fldV 0 0 0 0 (.slice none 0 0), .int .i64 3]) (by simp [results, Try.results61, go_sem, cS]) rfl ?_
        exact .inr ⟨hall, rfl, set5_below hbel (w.heap.size + 1) _ _ _ _ _ (by omega)⟩

end Go.Proofs.Ytjjafjdjdjonfaa

/- Contract: the reference's made, whatever function it is given. -/
namespace Go.Proofs.Ytjjafjdjdjonfaa
open Go.RowKit Fl
set_option linter.unusedVariables false

def rowL (f : Nat → Nat) (k : Nat) : List Value := (List.range k).map fun i => Value.float .f32 (f i)
theorem rowL_succ (f : Nat → Nat) (k : Nat) : rowL f (k + 1) = rowL f k ++ [.float .f32 (f k)] := by simp [rowL, List.range_succ]
theorem ownsRow_below {w w' : World} {base : Nat} {e : TypeId} {size : Nat} {v : Value} {n : Nat} {xs : List Value} (h : w.ownsRow base e size v n xs) (hb : Below w.heap.size w w') : w'.ownsRow base e size v n xs := by
  obtain ⟨h1, h2⟩ := h
  refine ⟨h1, ?_⟩
  rcases h2 with h2 | ⟨g, cap, cur, hv, hg, hh, r⟩
  · exact .inl h2
  · exact .inr ⟨g, cap, cur, hv, hg, blkStay hh hb, r⟩
theorem ownsRow_far {w : World} {base : Nat} {e : TypeId} {size : Nat} {v : Value} {n : Nat} {xs : List Value} (h : w.ownsRow base e size v n xs) {b : Nat} (hb : b < base) : some b ≠ v.ownBlock := by
  rcases h.2 with ⟨rfl, _⟩ | ⟨g, cap, cur, rfl, hg, _⟩
  · simp [Value.ownBlock]
  · intro c
    have : b = g := by simpa [Value.ownBlock] using c
    omega
theorem ownsRow_flAt {w : World} {base b cap k : Nat} {f : Nat → Nat} (h : w.ownsRow base 50 1 (.slice (some ⟨b, 0, none⟩) k cap) k (rowL f k)) (hk : 0 < k) : FlAt w b 0 k f ∧ b < w.heap.size ∧ base ≤ b := by
  rcases h.2 with ⟨h0, _⟩ | ⟨g, cap', cur, hv, hg, hh, h1, h2, h3, h4⟩
  · cases h0
  · cases hv
    refine ⟨fun i hi => ?_, (blkC hh).2.2, hg⟩
    rw [Nat.zero_add, (blkC hh).1 i]
    have : (cur.toList.take (k * 1))[i]? = some (.float .f32 (f i)) := by rw [h4]; simp [rowL, hi]
    rw [List.getElem?_take, if_pos (by omega)] at this
    simpa using this

/-- A function of a cell's place, as a closure. -/
def Clos2 (g : Nat) (caps : Array Value) (X Y W H : Int) (f : Nat → Nat) (w : World) : Prop :=
  ∀ (x y : Int) (i : Nat) (W' : World), X ≤ x → x < X + W → Y ≤ y → y < Y + H → (i : Int) = (y - Y) * W + (x - X) → Below w.heap.size w W' →
    Calls Try.prog g (#[.int .i64 x, .int .i64 y] ++ caps) W' fun e W'' => e = .returned (.float .f32 (f i)) ∧ Below W'.heap.size W' W''

/-- What holds of the world at each head of made's loops, when k values have been made. -/
def MadeAt (w : World) (X Y W H : Int) (f : Nat → Nat) (k : Nat) (wr : World) : Prop :=
  ∃ ov, wr.ownsRow (w.heap.size + 1 + 1 + 1) 50 1 ov k (rowL f k) ∧ wr.heap[w.heap.size]? = some (regObj X Y W H) ∧ wr.heap[w.heap.size + 1]? = some (fldO 0 0 0 0 (.slice none 0 0)) ∧
    wr.heap[w.heap.size + 1 + 1]? = some (fldO X Y W H ov) ∧ Below w.heap.size w wr

theorem flAt_congr {w w' : World} {b off n : Nat} {f : Nat → Nat} (h : FlAt w b off n f) (e : w'.heap[b]? = w.heap[b]?) : FlAt w' b off n f := fun i hi => by
  rw [← h i hi]; exact World.cell?_of_block (w := w) (a := ⟨b, off + i, none⟩) e

theorem made_step {w wr w2 w3 : World} {X Y W H : Int} {f : Nat → Nat} {k gg cap : Nat} {ov : Value} {o : Obj}
    (HO : wr.ownsRow (w.heap.size + 1 + 1 + 1) 50 1 ov k (rowL f k)) (HB : wr.heap[w.heap.size]? = some (regObj X Y W H)) (HS : wr.heap[w.heap.size + 1]? = some (fldO 0 0 0 0 (.slice none 0 0)))
    (HV : wr.heap[w.heap.size + 1 + 1]? = some (fldO X Y W H ov)) (hbel : Below w.heap.size w wr) (hb2 : Below wr.heap.size wr w2) (hgrow : (w2.alloc o).grownBy w3 ov.ownBlock)
    (hown3 : w3.ownsRow (w.heap.size + 1 + 1 + 1) 50 1 (.slice (some ⟨gg, 0, none⟩) (k + 1) cap) (k + 1) (rowL f k ++ [.float .f32 (f k)])) :
    MadeAt w X Y W H f (k + 1) (w3.setCell ⟨w.heap.size + 1 + 1, 4, none⟩ (.slice (some ⟨gg, 0, none⟩) (k + 1) cap)) := by
  have go : ∀ b o', wr.heap[b]? = some o' → b < w.heap.size + 1 + 1 + 1 → w3.heap[b]? = some o' := by
    intro b o' h hb
    have h2 := blkStay h hb2
    have hlt : b < w2.heap.size := by
      rcases Nat.lt_or_ge b w2.heap.size with x | x
      · exact x
      · rw [Array.getElem?_eq_none x] at h2; cases h2
    rw [hgrow.block b (by rw [heap_size_alloc]; omega) (ownsRow_far HO hb), heap_alloc_old _ _ hlt, h2]
  refine ⟨.slice (some ⟨gg, 0, none⟩) (k + 1) cap, ?_, ?_, ?_, ?_, ?_⟩
  · rw [rowL_succ]; exact ownsRow_setCell_below hown3 (show w.heap.size + 1 + 1 < w.heap.size + 1 + 1 + 1 by omega) _
  · exact (Below.heap_setCell _ _ _ _ (show w.heap.size ≠ w.heap.size + 1 + 1 by omega)).trans (go _ _ HB (by omega))
  · exact (Below.heap_setCell _ _ _ _ (show w.heap.size + 1 ≠ w.heap.size + 1 + 1 by omega)).trans (go _ _ HS (by omega))
  · rw [heap_setCell_same w3 (w.heap.size + 1 + 1) 4 _ _ _ (go _ _ HV (by omega))]; rfl
  · have h2 : Below w.heap.size w w2 := hbel.trans (hb2.mono hbel.size)
    have h3 := (h2.alloc h2.size o).grown hgrow (by rw [heap_size_alloc]; have := h2.size; omega) (fun b hb => by
      rcases HO.2 with ⟨rfl, _⟩ | ⟨g, _, _, rfl, hg, _⟩
      · cases hb
      · have : b = g := by simpa [Value.ownBlock] using hb.symm
        omega)
    exact h3.setCell (p := ⟨w.heap.size + 1 + 1, 4, none⟩) (show w.heap.size ≤ w.heap.size + 1 + 1 by omega) _

end Go.Proofs.Ytjjafjdjdjonfaa

/- Values of rounded results, in units of 2 ^ -1074: sums, differences, products, whole numbers; rounding is monotone, exact on few digits, and errs by half a unit of the last place. -/
namespace Go.Proofs.Ytjjafjdjdjonfaa.Fl
open Ieee

theorem vS_some {x : Nat} {a : Int} (h : vS x = some a) : ∃ s m p, single.read x = .number s m p ∧ vOf s m p = a := by
  unfold vS at h
  split at h
  · rename_i s m p e
    exact ⟨s, m, p, e, Option.some.inj h⟩
  · cases h

/-- The value of the single nearest to a value. -/
def rdS (c : Int) : Int := if c < 0 then -((rd single 925 c.natAbs : Nat) : Int) else ((rd single 925 c.natAbs : Nat) : Int)

theorem rdS_zero : rdS 0 = 0 := by
  unfold rdS
  rw [if_neg (by omega), show (0 : Int).natAbs = 0 from rfl, rd_zero]; rfl

theorem rdS_sign {c : Int} {sg : Bool} (h : c = 0 ∨ sg = decide (c < 0)) : (if sg then -1 else 1) * ((rd single 925 c.natAbs : Nat) : Int) = rdS c := by
  rcases h with rfl | rfl
  · rw [rdS_zero, show (0 : Int).natAbs = 0 from rfl, rd_zero]; simp
  · unfold rdS
    by_cases h : c < 0
    · rw [if_pos h]; simp [h]
    · rw [if_neg h]; simp [h]

theorem vS_word {sg : Bool} {V B : Nat} (hB : V < 2 ^ B) (hB' : B < 1202) : vS (wordAt single 925 sg V) = some ((if sg then -1 else 1) * ((rd single 925 V : Nat) : Int)) := by
  obtain ⟨M, I, q1, _, q3⟩ := read_val single sg (-1074) 925 leastS V (rungS_lt hB hB')
  rw [vS_num q1]; unfold vOf; rw [signed_eq]
  have e : (I - (-1074)).toNat = (I + 1074).toNat := by omega
  rw [e] at q3; rw [q3]

theorem vS_sum {s t : Bool} {m n : Nat} {i j : Int} {r B : Nat} (hi : -1074 ≤ i) (hj : -1074 ≤ j) (h : ((Datum.number s m i).sum (.number t n j)).map single.write = some r)
    (hB : (vOf s m i + vOf t n j).natAbs < 2 ^ B) (hB' : B < 1202) : vS r = some (rdS (vOf s m i + vOf t n j)) := by
  obtain ⟨p, q, q1, q2, q3⟩ := sum_val (s := s) (t := t) (m := m) (n := n) hi hj
  rw [q1] at h
  have h' := Option.some.inj h
  rw [← h']
  show vS (single.nearest _ p q) = _
  rw [nearest_val single _ (-1074) 925 leastS p (p := q) q2, show (q - (-1074)).toNat = (q + 1074).toNat by omega, q3, vS_word hB hB', rdS_sign]
  by_cases z : vOf s m i + vOf t n j = 0
  · exact .inl z
  · right; rw [if_neg z]

theorem vS_add {x y r B : Nat} {a b : Int} (h : Go.floatBits .add .f32 x y = some r) (ha : vS x = some a) (hb : vS y = some b) (hB : (a + b).natAbs < 2 ^ B) (hB' : B < 1202) : vS r = some (rdS (a + b)) := by
  obtain ⟨s, m, i, h1, rfl⟩ := vS_some ha
  obtain ⟨t, n, j, h2, rfl⟩ := vS_some hb
  have g1 := (read_single h1).low
  have g2 := (read_single h2).low
  have h' : ((single.read x).sum (single.read y)).map single.write = some r := h
  rw [h1, h2] at h'
  exact vS_sum (by omega) (by omega) h' hB hB'

theorem vOf_opp (t : Bool) (n : Nat) (j : Int) : vOf (!t) n j = - vOf t n j := by
  unfold vOf; rw [signed_eq, signed_eq]; cases t <;> simp

theorem vS_sub {x y r B : Nat} {a b : Int} (h : Go.floatBits .sub .f32 x y = some r) (ha : vS x = some a) (hb : vS y = some b) (hB : (a - b).natAbs < 2 ^ B) (hB' : B < 1202) : vS r = some (rdS (a - b)) := by
  obtain ⟨s, m, i, h1, rfl⟩ := vS_some ha
  obtain ⟨t, n, j, h2, rfl⟩ := vS_some hb
  have g1 := (read_single h1).low
  have g2 := (read_single h2).low
  have h' : ((single.read x).sum (single.read y).opposite).map single.write = some r := h
  rw [h1, h2] at h'
  have e : vOf s m i - vOf t n j = vOf s m i + vOf (!t) n j := by rw [vOf_opp]; omega
  rw [e] at hB ⊢
  exact vS_sum (t := !t) (by omega) (by omega) h' hB hB'

/-- One, in units. -/
def one : Nat := 2 ^ (1074 : Int).toNat
theorem one_eq : one = 2 ^ (1074 : Int).toNat := rfl
theorem one_pos : 0 < one := Nat.two_pow_pos _

theorem vS_mul {x y r B : Nat} {a b c : Int} (h : Go.floatBits .mul .f32 x y = some r) (ha : vS x = some a) (hb : vS y = some b) (hc : a * b = c * (one : Int)) (hB : c.natAbs < 2 ^ B) (hB' : B < 1202) : vS r = some (rdS c) := by
  obtain ⟨s, m, i, h1, rfl⟩ := vS_some ha
  obtain ⟨t, n, j, h2, rfl⟩ := vS_some hb
  have g1 := (read_single h1).low
  have g2 := (read_single h2).low
  have h' : ((single.read x).product (single.read y)).map single.write = some r := h
  rw [h1, h2] at h'
  have h'' := Option.some.inj h'
  rw [← h'']
  show vS (single.nearest (s ^^ t) (m * n) (i + j)) = _
  rw [nearest_val single _ (-1074) 925 leastS (m * n) (p := i + j) (by omega), show (i + j - (-1074)).toNat = (i + j + 1074).toNat by omega]
  have hv : c = (if (s ^^ t) then -1 else 1) * ((m * n * 2 ^ (i + j + 1074).toNat : Nat) : Int) := by
    have hp : (0 : Int) < (one : Int) := Int.natCast_pos.2 one_pos
    refine Int.eq_of_mul_eq_mul_right (Int.ne_of_gt hp) ?_
    rw [← hc]
    unfold vOf
    rw [signed_eq, signed_eq, one_eq]
    have p2 := pow_add_toNat (I := i + j + 1074) (J := 1074) (K := i + 1074) (L := j + 1074) (by omega) (by omega) (by omega) (by omega) (by omega)
    have e : m * n * 2 ^ (i + j + 1074).toNat * 2 ^ (1074 : Int).toNat = (m * 2 ^ (i + 1074).toNat) * (n * 2 ^ (j + 1074).toNat) := by
      rw [Nat.mul_assoc (m * n), p2]; simp only [Nat.mul_assoc, Nat.mul_left_comm]
    have e' : ((m * n * 2 ^ (i + j + 1074).toNat : Nat) : Int) * ((2 ^ (1074 : Int).toNat : Nat) : Int) = ((m * 2 ^ (i + 1074).toNat : Nat) : Int) * ((n * 2 ^ (j + 1074).toNat : Nat) : Int) := by
      rw [← Int.natCast_mul, e, Int.natCast_mul]
    refine Eq.trans ?_ (Int.mul_assoc _ _ _).symm
    rw [e']
    generalize ((m * 2 ^ (i + 1074).toNat : Nat) : Int) = u
    generalize ((n * 2 ^ (j + 1074).toNat : Nat) : Int) = v
    cases s <;> cases t <;> simp [Int.neg_mul, Int.mul_neg]
  have hn : c.natAbs = m * n * 2 ^ (i + j + 1074).toNat := by
    rw [hv, Int.natAbs_mul, Int.natAbs_natCast]; cases (s ^^ t) <;> simp
  rw [← hn, vS_word hB hB', rdS_sign]
  by_cases z : c = 0
  · exact .inl z
  · right
    have : 0 < m * n * 2 ^ (i + j + 1074).toNat := by omega
    generalize m * n * 2 ^ (i + j + 1074).toNat = V at *
    rw [hv]
    cases (s ^^ t)
    · simp
    · simp; omega

/-- A whole number as a single. -/
theorem vS_int {n : Int} {B : Nat} (hB : (n * (one : Int)).natAbs < 2 ^ B) (hB' : B < 1202) : vS (Go.floatOfInt .f32 n) = some (rdS (n * (one : Int))) := by
  show vS (single.nearest (n < 0) n.natAbs 0) = _
  rw [nearest_val single _ (-1074) 925 leastS n.natAbs (p := 0) (by omega), show ((0 : Int) - (-1074)).toNat = (1074 : Int).toNat by rfl]
  have e : (n * (one : Int)).natAbs = n.natAbs * 2 ^ (1074 : Int).toNat := by rw [Int.natAbs_mul, Int.natAbs_natCast, one_eq]
  rw [← e, vS_word hB hB', rdS_sign]
  by_cases z : n = 0
  · left; rw [z, Int.zero_mul]
  · right
    have hp : (0 : Int) < (one : Int) := Int.natCast_pos.2 one_pos
    by_cases h : n < 0
    · have := Int.mul_neg_of_neg_of_pos h hp
      simp [h, this]
    · have := Int.mul_nonneg (Int.not_lt.1 h) (Int.le_of_lt hp)
      simp [h]; omega

theorem rdS_neg (c : Int) : rdS (-c) = - rdS c := by
  rcases Int.lt_trichotomy c 0 with h | h | h
  · unfold rdS; rw [if_neg (by omega), if_pos h, Int.natAbs_neg]; omega
  · subst h; rw [show -(0 : Int) = 0 from rfl, rdS_zero]; rfl
  · unfold rdS; rw [if_pos (by omega), if_neg (by omega), Int.natAbs_neg]

theorem rdS_nat (V : Nat) : rdS (V : Int) = (rd single 925 V : Nat) := by
  unfold rdS; rw [if_neg (by omega), Int.natAbs_natCast]

theorem rd_mono {V W : Nat} (h : V ≤ W) : rd single 925 V ≤ rd single 925 W := by
  rcases Nat.eq_zero_or_pos V with z | z
  · subst z; rw [rd_zero]; exact Nat.zero_le _
  have z' : 0 < W := by omega
  obtain ⟨l1, l2, l3⟩ := last_le single 925 V z
  obtain ⟨k1, k2, k3⟩ := last_le single 925 W z'
  unfold rd
  generalize lastOf single 925 V = l at *
  generalize lastOf single 925 W = k at *
  rw [fbS] at l2 l3 k2 k3
  have pl : 0 < 2 ^ l := Nat.two_pow_pos l
  have pk : 0 < 2 ^ k := Nat.two_pow_pos k
  rcases Nat.lt_trichotomy l k with c | c | c
  · -- W reaches a higher binade
    have a : rnq V (2 ^ l) ≤ 2 ^ 24 := by
      have := rnq_mono (M := 2 ^ l) pl (N := V) (N' := 2 ^ 24 * 2 ^ l) (by rw [← Nat.pow_add]; exact Nat.le_of_lt (by rwa [show 24 + l = l + 23 + 1 by omega]))
      rwa [rnq_mul _ _ pl] at this
    have b : 2 ^ 23 ≤ rnq W (2 ^ k) := by
      have e : 2 ^ (k + 23) ≤ W := by rcases k3 with x | x; omega; exact x
      have := rnq_mono (M := 2 ^ k) pk (N := 2 ^ 23 * 2 ^ k) (N' := W) (by rw [← Nat.pow_add, show 23 + k = k + 23 by omega]; exact e)
      rwa [rnq_mul _ _ pk] at this
    calc rnq V (2 ^ l) * 2 ^ l ≤ 2 ^ 24 * 2 ^ l := Nat.mul_le_mul_right _ a
      _ = 2 ^ (24 + l) := by rw [Nat.pow_add]
      _ ≤ 2 ^ (23 + k) := Nat.pow_le_pow_right (by omega) (by omega)
      _ = 2 ^ 23 * 2 ^ k := by rw [Nat.pow_add]
      _ ≤ rnq W (2 ^ k) * 2 ^ k := Nat.mul_le_mul_right _ b
  · subst c
    exact Nat.mul_le_mul_right _ (rnq_mono pl h)
  · exfalso
    rcases l3 with x | x
    · omega
    · have : 2 ^ (l + 23) < 2 ^ (k + 23 + 1) := Nat.lt_of_le_of_lt (Nat.le_trans x h) k2
      have := (Nat.pow_lt_pow_iff_right (by omega : 1 < 2)).1 this
      omega

theorem rdS_mono {a b : Int} (h : a ≤ b) : rdS a ≤ rdS b := by
  have p : ∀ {a b : Int}, 0 ≤ a → a ≤ b → rdS a ≤ rdS b := by
    intro a b h0 h
    obtain ⟨m, rfl⟩ := Int.eq_ofNat_of_zero_le h0
    obtain ⟨n, rfl⟩ := Int.eq_ofNat_of_zero_le (Int.le_trans h0 h)
    rw [rdS_nat, rdS_nat]
    exact Int.ofNat_le.2 (rd_mono (Int.ofNat_le.1 h))
  rcases Int.lt_or_le a 0 with c | c
  · rcases Int.lt_or_le b 0 with d | d
    · have := p (a := -b) (b := -a) (by omega) (by omega)
      rw [rdS_neg, rdS_neg] at this; omega
    · have u := p (a := 0) (b := b) (by omega) d
      have v := p (a := 0) (b := -a) (by omega) (by omega)
      rw [rdS_neg] at v
      rw [rdS_zero] at u v
      omega
  · exact p c h

theorem rdS_exact {c : Int} (t : Int) (j : Nat) (ht : t.natAbs < 16777216) (hj : 925 ≤ j) (h : c = t * ((2 ^ j : Nat) : Int)) : rdS c = c := by
  have key : ∀ t : Nat, t < 16777216 → rdS ((t : Int) * ((2 ^ j : Nat) : Int)) = (t : Int) * ((2 ^ j : Nat) : Int) := by
    intro t ht
    rw [← Int.natCast_mul, rdS_nat, rd_exact single 925 t j (by rw [fbS]; exact ht) hj]
  subst h
  rcases Int.lt_or_le t 0 with c | c
  · obtain ⟨n, hn⟩ := Int.eq_ofNat_of_zero_le (show 0 ≤ -t by omega)
    have e : t * ((2 ^ j : Nat) : Int) = -((n : Int) * ((2 ^ j : Nat) : Int)) := by rw [← hn, Int.neg_mul, Int.neg_neg]
    rw [e, rdS_neg, key n (by omega)]
  · obtain ⟨n, rfl⟩ := Int.eq_ofNat_of_zero_le c
    exact key n (by omega)

/-- The error: at most half of 2 ^ e, below 2 ^ (e + 24). -/
theorem rdS_err {c : Int} {e : Nat} (he : 925 ≤ e) (hc : c.natAbs < 2 ^ (e + 24)) : 2 * (rdS c - c).natAbs ≤ 2 ^ e := by
  have key : ∀ V : Nat, V < 2 ^ (e + 24) → 2 * (rdS (V : Int) - (V : Int)).natAbs ≤ 2 ^ e := by
    intro V hV
    rcases Nat.eq_zero_or_pos V with z | z
    · subst z; rw [show ((0 : Nat) : Int) = 0 from rfl, rdS_zero]; simp
    obtain ⟨l1, l2, l3⟩ := last_le single 925 V z
    rw [rdS_nat]
    unfold rd
    generalize lastOf single 925 V = l at *
    rw [fbS] at l2 l3
    have hl : l ≤ e := by
      rcases l3 with x | x
      · omega
      · have : 2 ^ (l + 23) < 2 ^ (e + 24) := Nat.lt_of_le_of_lt x hV
        have := (Nat.pow_lt_pow_iff_right (by omega : 1 < 2)).1 this
        omega
    have hn := rnq_near (N := V) (M := 2 ^ l) (Nat.two_pow_pos l)
    have a := hn.low
    have b := hn.high
    have m : 2 ^ l ≤ 2 ^ e := Nat.pow_le_pow_right (by omega) hl
    generalize rnq V (2 ^ l) * 2 ^ l = R at *
    omega
  rcases Int.lt_or_le c 0 with d | d
  · obtain ⟨n, hn⟩ := Int.eq_ofNat_of_zero_le (show 0 ≤ -c by omega)
    have := key n (by omega)
    rw [← hn, rdS_neg] at this
    omega
  · obtain ⟨n, rfl⟩ := Int.eq_ofNat_of_zero_le d
    exact key n (by omega)

end Go.Proofs.Ytjjafjdjdjonfaa.Fl
