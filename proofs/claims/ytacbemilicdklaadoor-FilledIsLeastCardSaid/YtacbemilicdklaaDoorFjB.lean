/- Lemmas and contracts for the proof that the last text of this claim holds. -/
import Derived.Test.YtacbemilicdklaaDoorFjA
import Derived.Test.YtacbemilicdklaaDoorRows
import Derived.WalkKit
import Derived.WalkSpells
import Derived.WalkLawsBesides
import Derived.BigQuiet
import Derived.Deep.QuietTactic
import Derived.Lib.Hide
import Derived.Deep.RegionHeld3
import Derived.Deep.DeepCutAuto
import Derived.Deep.AppendLies
import Derived.Deep.RegionLaw
import Derived.RegionTactic
import Derived.ChangeAlike
import Derived.StillTailTactics
import Derived.BigRegion

/- Plain mathematics of filling: what is known at each head of the loop, and behind it. -/
namespace Go.Proofs.YtacbemilicdklaaDoor
open Go.RowKit Fl
set_option linter.unusedVariables false

/-- Where the cells lie: the neighbour in a direction, the border, the heights, the slope. -/
structure Gnd where
  n : Nat
  nb : Nat → Nat → Option Nat
  bd : Nat → Bool
  h : Nat → Nat
  sl : Nat
/-- What holds of the ground. -/
structure GndOk (g : Gnd) : Prop where
  n1 : 1 ≤ g.n
  n2 : g.n ≤ 65536
  lt : ∀ x d k, g.nb x d = some k → k < g.n
  hgt : ∀ k, k < g.n → hgtB (g.h k) = true
  slo : SlW g.sl
  back : ∀ x d k, x < g.n → d < 8 → g.nb x d = some k → ∃ e, e < 8 ∧ g.nb k e = some x

def gnb (g : Gnd) (x k : Nat) : Prop := ∃ d, d < 8 ∧ g.nb x d = some k

/-- The lowest cells first: s spills, R reached, c the heap of m places; D: done, E: done or being done; rk: ranks, t: how many were reached on the way. -/
structure Fil (g : Gnd) (s : Nat → Nat) (R : Nat → Bool) (c : Nat → Nat) (m : Nat) (D E : Nat → Prop) (rk : Nat → Nat) (t : Nat) : Prop where
  cells : ∀ i, i < m → c i < g.n ∧ R (c i) = true
  bor : ∀ k, k < g.n → g.bd k = true → R k = true ∧ s k = g.h k
  fin : ∀ k, k < g.n → R k = true → OkW (rk k) (s k) ∧ rk k ≤ t
  par : ∀ k, k < g.n → R k = true → g.bd k = false → ∃ p, p < g.n ∧ gnb g p k ∧ E p ∧ rk p < rk k ∧ s k = stepW g.sl (s p) (g.h k)
  reach : ∀ x, x < g.n → E x → R x = true
  don : ∀ x, x < g.n → D x → ∀ k, gnb g x k → R k = true ∧ (g.bd k = false → vI (s k) ≤ vI (stepW g.sl (s x) (g.h k)))
  seen : ∀ x, x < g.n → R x = true → E x ∨ ∃ i, i < m ∧ c i = x
  low : ∀ x, x < g.n → E x → ∀ i, i < m → vI (s x) ≤ vI (s (c i))
  heap : Heap m (fun x => vI (s x)) c
  cnt : t + unr g.n R ≤ g.n

/-- The cell x is being done: its directions of P are. -/
structure Doing (g : Gnd) (s : Nat → Nat) (R : Nat → Bool) (c : Nat → Nat) (m : Nat) (D : Nat → Prop) (rk : Nat → Nat) (t x : Nat) (P : Nat → Prop) : Prop where
  f : Fil g s R c m D (fun y => D y ∨ y = x) rk t
  x1 : x < g.n
  x2 : ∀ y, y < g.n → D y → vI (s y) ≤ vI (s x)
  upto : ∀ e, P e → ∀ k, g.nb x e = some k → R k = true ∧ (g.bd k = false → vI (s k) ≤ vI (stepW g.sl (s x) (g.h k)))

theorem Fil.okc {g : Gnd} {s : Nat → Nat} {R : Nat → Bool} {c : Nat → Nat} {m : Nat} {D E : Nat → Prop} {rk : Nat → Nat} {t : Nat} (F : Fil g s R c m D E rk t) : ∀ i, i < m → c i < g.n ∧ vS (s (c i)) = some (vI (s (c i))) := fun i hi => by
  obtain ⟨a, b⟩ := F.cells i hi
  exact ⟨a, (F.fin _ a b).1.val⟩

/-- The lowest cell is taken. -/
theorem fil_pop {g : Gnd} {s : Nat → Nat} {R : Nat → Bool} {c c' : Nat → Nat} {m : Nat} {D : Nat → Prop} {rk : Nat → Nat} {t : Nat} (F : Fil g s R c (m + 1) D D rk t)
    (hs : SameSet m (swp c 0 m) c') (hh : Heap m (fun x => vI (s x)) c') : Doing g s R c' m D rk t (c 0) (fun _ => False) := by
  have mem : ∀ i, i < m → ∃ j, j < m + 1 ∧ c j = c' i := fun i hi => by
    obtain ⟨j, hj, e⟩ := (hs (c' i)).2 ⟨i, hi, rfl⟩
    by_cases e0 : j = 0
    · subst e0; rw [swp_i] at e; exact ⟨m, by omega, e⟩
    · rw [swp_o c e0 (by omega)] at e; exact ⟨j, by omega, e⟩
  have mem' : ∀ j, j < m + 1 → c j = c 0 ∨ ∃ i, i < m ∧ c' i = c j := fun j hj => by
    by_cases e0 : j = 0
    · left; rw [e0]
    · right
      by_cases e1 : j = m
      · subst e1; exact (hs (c j)).1 ⟨0, by omega, swp_i c 0 j⟩
      · exact (hs (c j)).1 ⟨j, by omega, swp_o c e0 e1⟩
  have x1 := (F.cells 0 (by omega)).1
  refine ⟨⟨fun i hi => ?_, F.bor, F.fin, fun k h1 h2 h3 => ?_, fun x h1 h2 => ?_, F.don, fun x h1 h2 => ?_, fun x h1 h2 i hi => ?_, hh, F.cnt⟩, x1, fun y h1 h2 => F.low y h1 h2 0 (by omega), fun e he => he.elim⟩
  · obtain ⟨j, hj, e⟩ := mem i hi; rw [← e]; exact F.cells j hj
  · obtain ⟨p, a, b, c0, d, e⟩ := F.par k h1 h2 h3; exact ⟨p, a, b, .inl c0, d, e⟩
  · rcases h2 with h2 | rfl
    · exact F.reach x h1 h2
    · exact (F.cells 0 (by omega)).2
  · rcases F.seen x h1 h2 with a | ⟨j, hj, e⟩
    · exact .inl (.inl a)
    · rcases mem' j hj with q | ⟨i, hi, q⟩
      · exact .inl (.inr (by rw [← e]; exact q))
      · exact .inr ⟨i, hi, by rw [q]; exact e⟩
  · obtain ⟨j, hj, e⟩ := mem i hi
    rw [← e]
    rcases h2 with h2 | rfl
    · exact F.low x h1 h2 j hj
    · exact heap_min F.heap j hj

theorem rk_le {g : Gnd} (G : GndOk g) {s : Nat → Nat} {R : Nat → Bool} {c : Nat → Nat} {m : Nat} {D E : Nat → Prop} {rk : Nat → Nat} {t : Nat} (F : Fil g s R c m D E rk t) {k : Nat} (h1 : k < g.n) (h2 : R k = true) : rk k ≤ 1048575 := by
  have := (F.fin k h1 h2).2; have := F.cnt; have := G.n2; omega
/-- A neighbour that has been reached already. -/
theorem doing_old {g : Gnd} (G : GndOk g) {s : Nat → Nat} {R : Nat → Bool} {c : Nat → Nat} {m : Nat} {D : Nat → Prop} {rk : Nat → Nat} {t x d k : Nat} {P : Nat → Prop} (F : Doing g s R c m D rk t x P) (h : g.nb x d = some k) (hr : R k = true) : Doing g s R c m D rk t x (fun e => P e ∨ e = d) :=
  ⟨F.f, F.x1, F.x2, fun e he k' hk => by
    by_cases q : e = d
    · subst q
      rw [h] at hk
      have := Option.some.inj hk
      subst this
      have k1 := G.lt _ _ _ h
      refine ⟨hr, fun hb => ?_⟩
      obtain ⟨p, p1, p2, p3, p4, p5⟩ := F.f.par k k1 hr hb
      rw [p5]
      have xr : R x = true := F.f.reach x F.x1 (.inr rfl)
      have pr : R p = true := F.f.reach p p1 p3
      have hv : vI (s p) ≤ vI (s x) := by
        rcases p3 with p3 | rfl
        · exact F.x2 p p1 p3
        · exact Int.le_refl _
      exact step_mono (q := 1048576) ((F.f.fin p p1 pr).1.mono (by have := rk_le G F.f p1 pr; omega)) ((F.f.fin x F.x1 xr).1.mono (by have := rk_le G F.f F.x1 xr; omega)) G.slo (G.hgt k k1) (by omega) hv
    · exact F.upto e (he.resolve_right q) k' hk⟩

/-- A neighbour that is reached now. -/
theorem doing_new {g : Gnd} (G : GndOk g) {s : Nat → Nat} {R : Nat → Bool} {c c' : Nat → Nat} {m : Nat} {D : Nat → Prop} {rk : Nat → Nat} {t x d k : Nat} {P : Nat → Prop} (F : Doing g s R c m D rk t x P) (hd : d < 8) (h : g.nb x d = some k) (hr : R k = false)
    (hs : SameSet (m + 1) (updW c m k) c') (hh : Heap (m + 1) (fun y => vI (updW s k (stepW g.sl (s x) (g.h k)) y)) c') :
    Doing g (updW s k (stepW g.sl (s x) (g.h k))) (updB R k) c' (m + 1) D (updW rk k (rk x + 1)) (t + 1) x (fun e => P e ∨ e = d) := by
  have k1 := G.lt _ _ _ h
  have xr : R x = true := F.f.reach x F.x1 (.inr rfl)
  have xk : x ≠ k := fun e => by subst e; rw [hr] at xr; cases xr
  have ne : ∀ {y}, R y = true → y ≠ k := fun hy e => by subst e; rw [hr] at hy; cases hy
  have hb : g.bd k = false := by
    cases e : g.bd k with
    | false => rfl
    | true => have := (F.f.bor k k1 e).1; rw [hr] at this; cases this
  have rx := rk_le G F.f F.x1 xr
  obtain ⟨_, _, _, _, _, okN, n1, n2, n3, n4⟩ := step_parts (F.f.fin x F.x1 xr).1 G.slo (G.hgt k k1) (by omega : rk x ≤ 1048576)
  obtain ⟨N, hN⟩ : ∃ N, stepW g.sl (s x) (g.h k) = N := ⟨_, rfl⟩
  have mem : ∀ i, i < m + 1 → c' i = k ∨ ∃ j, j < m ∧ c j = c' i := fun i hi => by
    obtain ⟨j, hj, e⟩ := (hs (c' i)).2 ⟨i, hi, rfl⟩
    by_cases e0 : j = m
    · subst e0; rw [updW_same] at e; exact .inl e.symm
    · rw [updW_other c e0] at e; exact .inr ⟨j, by omega, e⟩
  have keep : ∀ y, y < g.n → (y ≠ k) → updB R k y = true → R y = true := fun y _ h1 h2 => by rwa [updB_other R h1] at h2
  have up : ∀ x', x' < g.n → R x' = true → ∀ k', R k' = true ∧ (g.bd k' = false → vI (s k') ≤ vI (stepW g.sl (s x') (g.h k'))) →
      updB R k k' = true ∧ (g.bd k' = false → vI (updW s k (stepW g.sl (s x) (g.h k)) k') ≤ vI (stepW g.sl (updW s k (stepW g.sl (s x) (g.h k)) x') (g.h k'))) := fun x' _ hx' k' q => by
    refine ⟨updB_mono q.1, fun hb' => ?_⟩
    rw [updW_other s (ne q.1), updW_other s (ne hx')]
    exact q.2 hb'
  refine ⟨⟨fun i hi => ?_, fun y h1 h2 => ?_, fun y h1 h2 => ?_, fun y h1 h2 h3 => ?_, fun y h1 h2 => updB_mono (F.f.reach y h1 h2), fun y h1 h2 k' hk => ?_, fun y h1 h2 => ?_, fun y h1 h2 i hi => ?_, hh, ?_⟩, F.x1, fun y h1 h2 => ?_, fun e he k' hk => ?_⟩
  · rcases mem i hi with e | ⟨j, hj, e⟩
    · rw [e]; exact ⟨k1, updB_same R k⟩
    · rw [← e]; exact ⟨(F.f.cells j hj).1, updB_mono (F.f.cells j hj).2⟩
  · obtain ⟨a, b⟩ := F.f.bor y h1 h2
    exact ⟨updB_mono a, by rw [updW_other s (ne a)]; exact b⟩
  · by_cases e : y = k
    · subst e
      rw [updW_same, updW_same]
      exact ⟨okN, by have := (F.f.fin x F.x1 xr).2; omega⟩
    · have a := keep y h1 e h2
      rw [updW_other s e, updW_other rk e]
      exact ⟨(F.f.fin y h1 a).1, by have := (F.f.fin y h1 a).2; omega⟩
  · by_cases e : y = k
    · subst e
      exact ⟨x, F.x1, ⟨d, hd, h⟩, .inr rfl, by rw [updW_same, updW_other rk xk]; omega, by rw [updW_same, updW_other s xk]⟩
    · obtain ⟨p, p1, p2, p3, p4, p5⟩ := F.f.par y h1 (keep y h1 e h2) h3
      have pr := F.f.reach p p1 p3
      exact ⟨p, p1, p2, p3, by rw [updW_other rk e, updW_other rk (ne pr)]; exact p4, by rw [updW_other s e, updW_other s (ne pr)]; exact p5⟩
  · exact up y h1 (F.f.reach y h1 (.inl h2)) k' (F.f.don y h1 h2 k' hk)
  · by_cases e : y = k
    · subst e
      right
      exact (hs y).1 ⟨m, by omega, updW_same c m y⟩
    · rcases F.f.seen y h1 (keep y h1 e h2) with a | ⟨j, hj, q⟩
      · exact .inl a
      · right
        obtain ⟨i, hi, w⟩ := (hs (c j)).1 ⟨j, by omega, updW_other c (by omega)⟩
        exact ⟨i, hi, by rw [w]; exact q⟩
  · have yr := F.f.reach y h1 h2
    rw [updW_other s (ne yr)]
    have yx : vI (s y) ≤ vI (s x) := by
      rcases h2 with h2 | rfl
      · exact F.x2 y h1 h2
      · exact Int.le_refl _
    rcases mem i hi with e | ⟨j, hj, e⟩
    · rw [e, updW_same]; omega
    · rw [← e, updW_other s (ne (F.f.cells j hj).2)]
      exact F.f.low y h1 h2 j hj
  · have a := unr_upd k1 hr
    have b := F.f.cnt
    omega
  · rw [updW_other s (ne (F.f.reach y h1 (.inl h2))), updW_other s xk]; exact F.x2 y h1 h2
  · by_cases q : e = d
    · subst q
      rw [h] at hk
      have := Option.some.inj hk
      subst this
      exact ⟨updB_same R k, fun _ => by rw [updW_same, updW_other s xk]; exact Int.le_refl _⟩
    · exact up x F.x1 xr k' (F.upto e (he.resolve_right q) k' hk)

/-- A cell that has been done. -/
theorem doing_done {g : Gnd} {s : Nat → Nat} {R : Nat → Bool} {c : Nat → Nat} {m : Nat} {D : Nat → Prop} {rk : Nat → Nat} {t x : Nat} {P : Nat → Prop} (F : Doing g s R c m D rk t x P) (hP : ∀ e, e < 8 → ∀ k, g.nb x e = some k → P e) : Fil g s R c m (fun y => D y ∨ y = x) (fun y => D y ∨ y = x) rk t :=
  ⟨F.f.cells, F.f.bor, F.f.fin, F.f.par, F.f.reach, fun y h1 h2 k hk => by
    rcases h2 with h2 | rfl
    · exact F.f.don y h1 h2 k hk
    · obtain ⟨d, hd, e⟩ := hk
      exact F.upto d (hP d hd k e) k e, F.f.seen, F.f.low, F.f.heap, F.f.cnt⟩

/-- What filling comes to. -/
structure Spills (g : Gnd) (s : Nat → Nat) : Prop where
  bor : ∀ k, k < g.n → g.bd k = true → s k = g.h k
  fin : ∀ k, k < g.n → OkW 65536 (s k)
  par : ∃ rk : Nat → Nat, ∀ k, k < g.n → g.bd k = false → ∃ p, p < g.n ∧ gnb g p k ∧ rk p < rk k ∧ s k = stepW g.sl (s p) (g.h k)
  least : ∀ x, x < g.n → ∀ k, gnb g x k → g.bd k = false → vI (s k) ≤ vI (stepW g.sl (s x) (g.h k))

/-- From each cell a way leads to the border. -/
def Joined (g : Gnd) : Prop := ∃ far : Nat → Nat, ∀ k, k < g.n → g.bd k = false → ∃ p, p < g.n ∧ gnb g p k ∧ far p < far k

theorem fil_end {g : Gnd} (G : GndOk g) (J : Joined g) {s : Nat → Nat} {R : Nat → Bool} {c : Nat → Nat} {D : Nat → Prop} {rk : Nat → Nat} {t : Nat} (F : Fil g s R c 0 D D rk t) : Spills g s := by
  obtain ⟨far, hf⟩ := J
  have all : ∀ f k, k < g.n → far k ≤ f → R k = true := by
    intro f
    induction f with
    | zero =>
      intro k hk h0
      cases e : g.bd k with
      | true => exact (F.bor k hk e).1
      | false => obtain ⟨p, _, _, p3⟩ := hf k hk e; omega
    | succ f ih =>
      intro k hk h0
      cases e : g.bd k with
      | true => exact (F.bor k hk e).1
      | false =>
        obtain ⟨p, p1, p2, p3⟩ := hf k hk e
        have pr := ih p p1 (by omega)
        rcases F.seen p p1 pr with a | ⟨i, hi, _⟩
        · exact (F.don p p1 a k p2).1
        · omega
  have allD : ∀ k, k < g.n → D k := fun k hk => by
    rcases F.seen k hk (all _ k hk (Nat.le_refl _)) with a | ⟨i, hi, _⟩
    · exact a
    · omega
  refine ⟨fun k h1 h2 => (F.bor k h1 h2).2, fun k h1 => ?_, ⟨rk, fun k h1 h2 => ?_⟩, fun x h1 k h2 h3 => (F.don x h1 (allD x h1) k h2).2 h3⟩
  · obtain ⟨a, b⟩ := F.fin k h1 (all _ k h1 (Nat.le_refl _))
    exact a.mono (by have := F.cnt; have := G.n2; omega)
  · obtain ⟨p, p1, p2, _, p4, p5⟩ := F.par k h1 (all _ k h1 (Nat.le_refl _)) h2
    exact ⟨p, p1, p2, p4, p5⟩
end Go.Proofs.YtacbemilicdklaaDoor

/- Plain mathematics of a region's cells: numbers, directions, neighbours, the border. -/
namespace Go.Proofs.YtacbemilicdklaaDoor
open Go.RowKit Fl
set_option linter.unusedVariables false

/-- The step of a direction. -/
def dxI (d : Nat) : Int := if d = 0 ∨ d = 1 ∨ d = 7 then 1 else if d = 3 ∨ d = 4 ∨ d = 5 then -1 else 0
def dyI (d : Nat) : Int := if d = 1 ∨ d = 2 ∨ d = 3 then 1 else if d = 5 ∨ d = 6 ∨ d = 7 then -1 else 0
theorem dx_in (d : Nat) : -1 ≤ dxI d ∧ dxI d ≤ 1 := by unfold dxI; split <;> (try split) <;> omega
theorem dy_in (d : Nat) : -1 ≤ dyI d ∧ dyI d ≤ 1 := by unfold dyI; split <;> (try split) <;> omega

/-- The neighbour of the cell k in the direction d. -/
def nbI (W H : Nat) (k d : Nat) : Option Nat :=
  if 0 ≤ ((k % W : Nat) : Int) + dxI d ∧ ((k % W : Nat) : Int) + dxI d < W ∧ 0 ≤ ((k / W : Nat) : Int) + dyI d ∧ ((k / W : Nat) : Int) + dyI d < H
  then some ((((k / W : Nat) : Int) + dyI d) * W + (((k % W : Nat) : Int) + dxI d)).toNat else none
def bdB (W H : Nat) (k : Nat) : Bool := decide (k % W = 0 ∨ k / W = 0 ∨ k % W + 1 = W ∨ k / W + 1 = H)

theorem cell_parts {W H k : Nat} (hk : k < W * H) : 1 ≤ W ∧ k % W < W ∧ k / W < H ∧ k = k / W * W + k % W := by
  have hW : 0 < W := by
    rcases Nat.eq_zero_or_pos W with e | e
    · subst e; rw [Nat.zero_mul] at hk; omega
    · exact e
  refine ⟨hW, Nat.mod_lt _ hW, Nat.div_lt_of_lt_mul hk, ?_⟩
  have := Nat.div_add_mod k W
  rw [Nat.mul_comm] at this; omega
theorem cell_mk {W x y : Nat} (hx : x < W) : (y * W + x) % W = x ∧ (y * W + x) / W = y := by
  constructor
  · rw [Nat.mul_comm, Nat.mul_add_mod, Nat.mod_eq_of_lt hx]
  · rw [Nat.mul_comm, Nat.mul_add_div (by omega), Nat.div_eq_of_lt hx, Nat.add_zero]
theorem cell_lt {W H x y : Nat} (hx : x < W) (hy : y < H) : y * W + x < W * H := by
  have : (y + 1) * W ≤ H * W := Nat.mul_le_mul_right _ hy
  rw [Nat.succ_mul, Nat.mul_comm H W] at this; omega

/-- A neighbour, by its column and its row. -/
theorem nbI_some {W H k d m : Nat} (h : nbI W H k d = some m) : ∃ x y : Nat, (x : Int) = ((k % W : Nat) : Int) + dxI d ∧ (y : Int) = ((k / W : Nat) : Int) + dyI d ∧ x < W ∧ y < H ∧ m = y * W + x := by
  unfold nbI at h
  split at h
  · rename_i c
    obtain ⟨c1, c2, c3, c4⟩ := c
    have e := Option.some.inj h
    obtain ⟨x, hx⟩ : ∃ x : Nat, (x : Int) = ((k % W : Nat) : Int) + dxI d := ⟨_, Int.toNat_of_nonneg c1⟩
    obtain ⟨y, hy⟩ : ∃ y : Nat, (y : Int) = ((k / W : Nat) : Int) + dyI d := ⟨_, Int.toNat_of_nonneg c3⟩
    refine ⟨x, y, hx, hy, by omega, by omega, ?_⟩
    rw [← hx, ← hy] at e
    rw [← e, show ((y : Int) * (W : Int) + (x : Int)) = ((y * W + x : Nat) : Int) by simp]
    rfl
  · cases h
theorem nbI_mk {W H k d x y : Nat} (hx : (x : Int) = ((k % W : Nat) : Int) + dxI d) (hy : (y : Int) = ((k / W : Nat) : Int) + dyI d) (h1 : x < W) (h2 : y < H) : nbI W H k d = some (y * W + x) := by
  unfold nbI
  rw [← hx, ← hy, if_pos ⟨by omega, by omega, by omega, by omega⟩, show ((y : Int) * (W : Int) + (x : Int)) = ((y * W + x : Nat) : Int) by simp]
  rfl
theorem nbI_lt {W H k d m : Nat} (h : nbI W H k d = some m) : m < W * H := by
  obtain ⟨x, y, _, _, h1, h2, rfl⟩ := nbI_some h
  exact cell_lt h1 h2
theorem nbI_back {W H k d m : Nat} (hk : k < W * H) (hd : d < 8) (h : nbI W H k d = some m) : ∃ e, e < 8 ∧ nbI W H m e = some k := by
  obtain ⟨x, y, hx, hy, h1, h2, rfl⟩ := nbI_some h
  obtain ⟨_, a, b, c⟩ := cell_parts hk
  obtain ⟨q1, q2⟩ := cell_mk (y := y) h1
  have opp : ∃ e, e < 8 ∧ dxI e = - dxI d ∧ dyI e = - dyI d := by
    have : d = 0 ∨ d = 1 ∨ d = 2 ∨ d = 3 ∨ d = 4 ∨ d = 5 ∨ d = 6 ∨ d = 7 := by omega
    rcases this with rfl | rfl | rfl | rfl | rfl | rfl | rfl | rfl
    · exact ⟨4, by decide, by decide, by decide⟩
    · exact ⟨5, by decide, by decide, by decide⟩
    · exact ⟨6, by decide, by decide, by decide⟩
    · exact ⟨7, by decide, by decide, by decide⟩
    · exact ⟨0, by decide, by decide, by decide⟩
    · exact ⟨1, by decide, by decide, by decide⟩
    · exact ⟨2, by decide, by decide, by decide⟩
    · exact ⟨3, by decide, by decide, by decide⟩
  obtain ⟨e, e8, ex, ey⟩ := opp
  refine ⟨e, e8, ?_⟩
  have := nbI_mk (W := W) (H := H) (k := y * W + x) (d := e) (x := k % W) (y := k / W) (by rw [q1, ex]; omega) (by rw [q2, ey]; omega) a b
  rw [this, ← c]
theorem bdB_iff {W H k : Nat} : bdB W H k = true ↔ (k % W = 0 ∨ k / W = 0 ∨ k % W + 1 = W ∨ k / W + 1 = H) := by unfold bdB; simp
/-- A cell that is not of the border has all eight neighbours. -/
theorem nbI_inner {W H k d : Nat} (hk : k < W * H) (hb : bdB W H k = false) : ∃ m, nbI W H k d = some m := by
  obtain ⟨_, a, b, c⟩ := cell_parts hk
  have nb : ¬ (k % W = 0 ∨ k / W = 0 ∨ k % W + 1 = W ∨ k / W + 1 = H) := fun h => by rw [bdB_iff.2 h] at hb; cases hb
  obtain ⟨x1, x2⟩ := dx_in d
  obtain ⟨y1, y2⟩ := dy_in d
  have mk := fun x y => nbI_mk (W := W) (H := H) (k := k) (d := d) (x := x) (y := y)
  clear c
  generalize k % W = p at *
  generalize k / W = q at *
  exact ⟨_, mk ((p : Int) + dxI d).toNat ((q : Int) + dyI d).toNat (by omega) (by omega) (by omega) (by omega)⟩

/-- The ground of a field. -/
def gndOf (W H : Nat) (v : Nat → Nat) (sl : Nat) : Gnd := ⟨W * H, nbI W H, bdB W H, v, sl⟩
theorem gnd_ok {W H sl : Nat} {v : Nat → Nat} (h1 : 1 ≤ W * H) (h2 : W * H ≤ 65536) (hv : ∀ k, k < W * H → hgtB (v k) = true) (hs : SlW sl) : GndOk (gndOf W H v sl) :=
  ⟨h1, h2, fun _ _ _ h => nbI_lt h, hv, hs, fun _ _ _ hx hd h => nbI_back hx hd h⟩
theorem gnd_joined (W H sl : Nat) (v : Nat → Nat) : Joined (gndOf W H v sl) := by
  refine ⟨fun k => k % W, fun k hk hb => ?_⟩
  have hk' : k < W * H := hk
  obtain ⟨_, a, b, c⟩ := cell_parts hk'
  have nb : ¬ (k % W = 0 ∨ k / W = 0 ∨ k % W + 1 = W ∨ k / W + 1 = H) := fun h => by
    have : bdB W H k = true := bdB_iff.2 h
    have hb' : bdB W H k = false := hb
    rw [this] at hb'; cases hb'
  have hx : k % W - 1 < W := by omega
  obtain ⟨q1, q2⟩ := cell_mk (y := k / W) hx
  refine ⟨k / W * W + (k % W - 1), cell_lt hx b, ⟨0, by omega, ?_⟩, ?_⟩
  · show nbI W H (k / W * W + (k % W - 1)) 0 = some k
    rw [nbI_mk (x := k % W) (y := k / W) (by rw [q1]; have : dxI 0 = 1 := rfl; omega) (by rw [q2]; have : dyI 0 = 0 := rfl; omega) a b, ← c]
  · show (k / W * W + (k % W - 1)) % W < k % W
    rw [q1]; omega
end Go.Proofs.YtacbemilicdklaaDoor

/- Plain mathematics of filling: spills are the least ones of all ways; so two fillings agree by value. -/
namespace Go.Proofs.YtacbemilicdklaaDoor
open Go.RowKit Fl
set_option linter.unusedVariables false

/-- x is the spill of a way to the cell k. -/
inductive Way (g : Gnd) : Nat → Nat → Prop where
  | bor : ∀ k, k < g.n → g.bd k = true → Way g k (g.h k)
  | go : ∀ p k a, p < g.n → k < g.n → gnb g p k → g.bd k = false → Way g p a → OkW 1048576 a → Way g k (stepW g.sl a (g.h k))

/-- No way is cheaper than stable spills. -/
theorem way_least {g : Gnd} (G : GndOk g) {s : Nat → Nat} (hb : ∀ k, k < g.n → g.bd k = true → s k = g.h k) (hf : ∀ k, k < g.n → OkW 1048576 (s k))
    (hl : ∀ x, x < g.n → ∀ k, k < g.n → gnb g x k → g.bd k = false → vI (s k) ≤ vI (stepW g.sl (s x) (g.h k))) {k x : Nat} (w : Way g k x) : vI (s k) ≤ vI x := by
  induction w with
  | bor k h1 h2 => rw [hb k h1 h2]; exact Int.le_refl _
  | go p k a h1 h2 h3 h4 w ok ih =>
    exact Int.le_trans (hl p h1 k h2 h3 h4) (step_mono (hf p h1) ok G.slo (G.hgt k h2) (Nat.le_refl _) ih)

theorem Spills.way {g : Gnd} (G : GndOk g) {s : Nat → Nat} (S : Spills g s) : ∀ k, k < g.n → Way g k (s k) := by
  obtain ⟨rk, hr⟩ := S.par
  intro k
  generalize hm : rk k = m
  induction m using Nat.strongRecOn generalizing k with
  | ind m ih =>
    intro hk
    cases e : g.bd k with
    | true => rw [S.bor k hk e]; exact .bor k hk e
    | false =>
      obtain ⟨p, p1, p2, p3, p4⟩ := hr k hk e
      rw [p4]
      exact .go p k _ p1 hk p2 e (ih (rk p) (by omega) p rfl p1) ((S.fin p p1).mono (by omega))

/-- Two fillings of one ground agree by value. -/
theorem spills_eq {g : Gnd} (G : GndOk g) {s r : Nat → Nat} (S : Spills g s) (hb : ∀ k, k < g.n → g.bd k = true → r k = g.h k) (hf : ∀ k, k < g.n → OkW 1048576 (r k))
    (hl : ∀ x, x < g.n → ∀ k, k < g.n → gnb g x k → g.bd k = false → vI (r k) ≤ vI (stepW g.sl (r x) (g.h k))) (hw : ∀ k, k < g.n → Way g k (r k)) : ∀ k, k < g.n → vI (s k) = vI (r k) := fun k hk => by
  have a := way_least G S.bor (fun k h => (S.fin k h).mono (by omega)) (fun x h1 k h2 h3 h4 => S.least x h1 k h3 h4) (hw k hk)
  have b := way_least G hb hf hl (S.way G k hk)
  omega
end Go.Proofs.YtacbemilicdklaaDoor

/- Plain mathematics of the reference's filling: cell by cell, until nothing falls any more. -/
namespace Go.Proofs.YtacbemilicdklaaDoor
open Go.RowKit Fl
set_option linter.unusedVariables false

/-- The spill at a cell of the height h, from a spill, as the reference reckons it. -/
def stepR (sl a h : Nat) : Nat := if (FloatKind.f32.format.order h (addW a sl) == some .gt) = true then h else addW a sl

theorem OkW.as {q x y : Nat} (h : OkW q x) {a : Int} (hy : vS y = some a) (e : vI x = a) : OkW q y := by
  obtain ⟨b, h1, h2, h3⟩ := h
  rw [vI_of h1] at e
  subst e
  exact ⟨b, hy, h2, h3⟩

theorem stepR_val {sl a h q : Nat} (ha : OkW q a) (hs : SlW sl) (hh : hgtB h = true) (hq : q ≤ 1048576) : OkW (q + 1) (stepR sl a h) ∧ vI (stepR sl a h) = vI (stepW sl a h) := by
  obtain ⟨r, r1, hw, _, vr, ok, l1, l2, l3, _⟩ := step_parts ha hs hh hq
  obtain ⟨hv, vh, h1, h2⟩ := hgt_vT hh
  rw [vI_of vh] at l1 l3
  generalize rdS (vI a + vI sl) = R at *
  unfold stepR
  rw [hw, f32f', gtr_val vh vr]
  by_cases c : R < hv
  · rw [if_pos (by simpa using c), vI_of vh]
    have e : vI (stepW sl a h) = hv := by omega
    exact ⟨(hgt_ok hh).mono (by omega), e.symm⟩
  · rw [if_neg (by simpa using c), vI_of vr]
    have e : vI (stepW sl a h) = R := by omega
    exact ⟨ok.as vr e, e.symm⟩

/-- The reference on its way: w spills so far, K known ones. -/
structure Bel (g : Gnd) (s w : Nat → Nat) (K : Nat → Bool) (t : Nat) : Prop where
  bor : ∀ k, k < g.n → g.bd k = true → K k = true ∧ w k = g.h k
  fin : ∀ k, k < g.n → K k = true → OkW t (w k)
  low : ∀ k, k < g.n → K k = true → vI (s k) ≤ vI (w k)
  cnt : t + unr g.n K ≤ g.n

/-- What a cell counts for. -/
def mu1 (K : Nat → Bool) (w : Nat → Nat) (k : Nat) : Nat := if K k = true then (vI (w k) + vTop).toNat else 400000000 * one + 1
def mu : Nat → (Nat → Bool) → (Nat → Nat) → Nat
  | 0, _, _ => 0
  | n + 1, K, w => mu n K w + mu1 K w n
theorem mu_same {n k x : Nat} {K : Nat → Bool} {w : Nat → Nat} (h : n ≤ k) : mu n (updB K k) (updW w k x) = mu n K w := by
  induction n with
  | zero => rfl
  | succ n ih =>
    unfold mu
    rw [ih (by omega)]
    unfold mu1
    rw [updB_other K (show n ≠ k by omega), updW_other w (show n ≠ k by omega)]
theorem mu_less {n k x : Nat} {K : Nat → Bool} {w : Nat → Nat} (hk : k < n) (h : mu1 (updB K k) (updW w k x) k < mu1 K w k) : mu n (updB K k) (updW w k x) < mu n K w := by
  induction n with
  | zero => omega
  | succ n ih =>
    unfold mu
    by_cases e : k = n
    · subst e; rw [mu_same (Nat.le_refl _)]; omega
    · have := ih (by omega)
      have e2 : mu1 (updB K k) (updW w k x) n = mu1 K w n := by
        unfold mu1
        rw [updB_other K (show n ≠ k by omega), updW_other w (show n ≠ k by omega)]
      omega

theorem OkW.top {t x : Nat} (h : OkW t x) (ht : t ≤ 65536) : -vTop ≤ vI x ∧ (vI x + vTop).toNat < 400000000 * one + 1 := by
  obtain ⟨a, h1, h2, h3⟩ := h
  rw [vI_of h1]
  refine ⟨h2, ?_⟩
  rw [top_one] at *
  have h4 : ((4096 * (256 + t) : Nat) : Int) * (one : Int) ≤ 300000000 * (one : Int) := Int.mul_le_mul_of_nonneg_right (by omega) (Int.natCast_nonneg _)
  generalize one = o at *
  omega

theorem unr_known {n : Nat} {K : Nat → Bool} {k : Nat} (h : K k = true) : unr n (updB K k) = unr n K := by
  unfold unr
  congr 1
  apply List.filter_congr
  intro i _
  by_cases e : i = k
  · subst e; rw [updB_same, h]
  · rw [updB_other K e]

/-- One cell falls, or is reached. -/
theorem Bel.upd {g : Gnd} (G : GndOk g) {s w : Nat → Nat} (S : Spills g s) {K : Nat → Bool} {t k m d : Nat} (B : Bel g s w K t) (hk : k < g.n) (hb : g.bd k = false) (hd : d < 8) (hm : g.nb k d = some m) (hK : K m = true)
    (hu : K k = false ∨ vI (stepR g.sl (w m) (g.h k)) < vI (w k)) : ∃ t', Bel g s (updW w k (stepR g.sl (w m) (g.h k))) (updB K k) t' ∧ mu g.n (updB K k) (updW w k (stepR g.sl (w m) (g.h k))) < mu g.n K w := by
  have hm' := G.lt _ _ _ hm
  have n2 := G.n2
  have ct := B.cnt
  have okm := B.fin m hm' hK
  obtain ⟨ok, ev⟩ := stepR_val okm G.slo (G.hgt k hk) (by omega)
  have lo : vI (s k) ≤ vI (stepR g.sl (w m) (g.h k)) := by
    rw [ev]
    refine Int.le_trans (S.least m hm' k (G.back k d m hk hd hm) hb) ?_
    exact step_mono ((S.fin m hm').mono (show 65536 ≤ 1048576 by omega)) (okm.mono (by omega)) G.slo (G.hgt k hk) (Nat.le_refl _) (B.low m hm' hK)
  generalize stepR g.sl (w m) (g.h k) = x at *
  have bor : ∀ j, j < g.n → g.bd j = true → updB K k j = true ∧ updW w k x j = g.h j := fun j hj hbj => by
    have ne : j ≠ k := by rintro rfl; rw [hb] at hbj; cases hbj
    rw [updB_other K ne, updW_other w ne]; exact B.bor j hj hbj
  have low : ∀ j, j < g.n → updB K k j = true → vI (s j) ≤ vI (updW w k x j) := fun j hj hKj => by
    by_cases e : j = k
    · subst e; rw [updW_same]; exact lo
    · rw [updW_other w e]; rw [updB_other K e] at hKj; exact B.low j hj hKj
  by_cases hKk : K k = true
  · have lt : vI x < vI (w k) := by rcases hu with h | h; · rw [hKk] at h; cases h
                                    · exact h
    have okx : OkW t x := by
      obtain ⟨a, h1, h2, h3⟩ := ok
      obtain ⟨b, q1, q2, q3⟩ := B.fin k hk hKk
      rw [vI_of h1, vI_of q1] at lt
      exact ⟨a, h1, h2, by omega⟩
    refine ⟨t, ⟨bor, fun j hj hKj => ?_, low, by rw [unr_known hKk]; exact ct⟩, mu_less hk ?_⟩
    · by_cases e : j = k
      · subst e; rw [updW_same]; exact okx
      · rw [updW_other w e]; rw [updB_other K e] at hKj; exact B.fin j hj hKj
    · unfold mu1
      rw [updB_same, updW_same, if_pos rfl, if_pos hKk]
      have a := (okx.top (by omega)).1
      omega
  · have hKk' : K k = false := by simpa using hKk
    have un := unr_upd (n := g.n) hk hKk'
    refine ⟨t + 1, ⟨bor, fun j hj hKj => ?_, low, by omega⟩, mu_less hk ?_⟩
    · by_cases e : j = k
      · subst e; rw [updW_same]; exact ok
      · rw [updW_other w e]; rw [updB_other K e] at hKj; exact (B.fin j hj hKj).mono (by omega)
    · unfold mu1
      rw [updB_same, updW_same, if_pos rfl, if_neg hKk]
      exact (ok.top (by omega)).2

/-- The direction d of the cell k asks for no change. -/
def StabD (g : Gnd) (w : Nat → Nat) (K : Nat → Bool) (k d : Nat) : Prop := ∀ m, g.nb k d = some m → K m = true → K k = true ∧ vI (w k) ≤ vI (stepR g.sl (w m) (g.h k))

/-- Where nothing asks for a change all spills are the least ones. -/
theorem Bel.done {g : Gnd} (G : GndOk g) {s w : Nat → Nat} (S : Spills g s) {K : Nat → Bool} {t : Nat} (B : Bel g s w K t) (h : ∀ k, k < g.n → g.bd k = false → ∀ d, d < 8 → StabD g w K k d) : ∀ k, k < g.n → OkW 65536 (w k) ∧ vI (w k) = vI (s k) := by
  have n2 := G.n2
  have ct := B.cnt
  obtain ⟨rk, hr⟩ := S.par
  have key : ∀ r k, k < g.n → rk k ≤ r → K k = true ∧ vI (w k) ≤ vI (s k) := by
    intro r
    induction r with
    | zero =>
      intro k hk hrk
      cases hb : g.bd k with
      | true => obtain ⟨a, b⟩ := B.bor k hk hb; rw [b, S.bor k hk hb]; exact ⟨a, Int.le_refl _⟩
      | false => obtain ⟨p, _, _, hlt, _⟩ := hr k hk hb; omega
    | succ r ih =>
      intro k hk hrk
      cases hb : g.bd k with
      | true => obtain ⟨a, b⟩ := B.bor k hk hb; rw [b, S.bor k hk hb]; exact ⟨a, Int.le_refl _⟩
      | false =>
        obtain ⟨p, hp, ⟨d, hd, hn⟩, hlt, e⟩ := hr k hk hb
        obtain ⟨e8, h8, hn2⟩ := G.back p d k hp hd hn
        obtain ⟨i1, i2⟩ := ih p hp (by omega)
        obtain ⟨j1, j2⟩ := h k hk hb e8 h8 p hn2 i1
        refine ⟨j1, Int.le_trans j2 ?_⟩
        rw [(stepR_val (B.fin p hp i1) G.slo (G.hgt k hk) (by omega)).2, e]
        exact step_mono ((B.fin p hp i1).mono (by omega)) ((S.fin p hp).mono (show 65536 ≤ 1048576 by omega)) G.slo (G.hgt k hk) (Nat.le_refl _) i2
  intro k hk
  obtain ⟨a, b⟩ := key (rk k) k hk (Nat.le_refl _)
  have := B.low k hk a
  exact ⟨(B.fin k hk a).mono (by omega), by omega⟩

/-- How it begins: the border is known. -/
theorem bel_start {g : Gnd} (G : GndOk g) {s w : Nat → Nat} (S : Spills g s) {K : Nat → Bool} (hK : ∀ k, k < g.n → K k = g.bd k) (hw : ∀ k, k < g.n → g.bd k = true → w k = g.h k) : Bel g s w K 0 :=
  ⟨fun k hk hb => ⟨by rw [hK k hk]; exact hb, hw k hk hb⟩, fun k hk h => by rw [hK k hk] at h; rw [hw k hk h]; exact hgt_ok (G.hgt k hk), fun k hk h => by rw [hK k hk] at h; rw [hw k hk h, S.bor k hk h]; exact Int.le_refl _, by have := unr_le g.n K; omega⟩
end Go.Proofs.YtacbemilicdklaaDoor

/- Contracts of the regions' functions. -/
namespace Go.Proofs.YtacbemilicdklaaDoor
open Go.RowKit

def withinB (n a b : Int) : Bool := decide (a ≤ n) && decide (n ≤ b)
theorem withinB_iff {n a b : Int} : withinB n a b = true ↔ a ≤ n ∧ n ≤ b := by simp [withinB]
theorem withinB_no {n a b : Int} : withinB n a b = false ↔ (n < a ∨ b < n) := by
  rw [← Bool.not_eq_true, withinB_iff]; omega

theorem ret_int {k : IntKind} {a b : Int} (h : a = b) : Ending.returned (.int k a) = .returned (.int k b) := by rw [h]
theorem ret_bool {a b : Bool} (h : a = b) : Ending.returned (.bool a) = .returned (.bool b) := by rw [h]

/-- What CheckRegion answers. -/
def checkR (x y w h : Int) : Int :=
  if w < 1 ∨ 512 < w ∨ h < 1 ∨ 512 < h then 3
  else if 65536 < w * h then 4
  else if x < -4194304 ∨ 4194304 - w < x ∨ y < -4194304 ∨ 4194304 - h < y then 5
  else 0

theorem mul_side {w h : Int} (a : 1 ≤ w) (b : w ≤ 512) (c : 1 ≤ h) (d : h ≤ 512) : 1 ≤ w * h ∧ w * h ≤ 262144 := by
  constructor
  · have := Int.mul_le_mul a c (by omega) (by omega : (0:Int) ≤ w); omega
  · have := Int.mul_le_mul b d (by omega : (0:Int) ≤ h) (by omega : (0:Int) ≤ 512); omega
theorem wrap_side {w h : Int} (a : 1 ≤ w) (b : w ≤ 512) (c : 1 ≤ h) (d : h ≤ 512) : wrap64 (w * h) = w * h := by
  obtain ⟨e, f⟩ := mul_side a b c d
  exact IntWalk.wrap64_in _ ⟨by omega, by omega⟩

theorem checkR_range {x y w h : Int} (a : withinB w 1 512 = false ∨ withinB h 1 512 = false) : checkR x y w h = 3 := by
  simp only [withinB_no] at a
  unfold checkR; rw [if_pos (by omega)]
theorem checkR_large {x y w h : Int} (a : withinB w 1 512 = true) (b : withinB h 1 512 = true) (c : 65536 < wrap64 (w * h)) : checkR x y w h = 4 := by
  simp only [withinB_iff] at a b
  rw [wrap_side a.1 a.2 b.1 b.2] at c
  unfold checkR; rw [if_neg (by omega), if_pos c]
theorem checkR_place {x y w h : Int} (a : withinB w 1 512 = true) (b : withinB h 1 512 = true) (c : wrap64 (w * h) ≤ 65536)
    (d : withinB x (-4194304) (4194304 - w) = false ∨ withinB y (-4194304) (4194304 - h) = false) : checkR x y w h = 5 := by
  simp only [withinB_iff] at a b
  simp only [withinB_no] at d
  rw [wrap_side a.1 a.2 b.1 b.2] at c
  unfold checkR; rw [if_neg (by omega), if_neg (by omega), if_pos (by omega)]
theorem checkR_ok {x y w h : Int} (a : withinB w 1 512 = true) (b : withinB h 1 512 = true) (c : wrap64 (w * h) ≤ 65536)
    (d : withinB x (-4194304) (4194304 - w) = true) (e : withinB y (-4194304) (4194304 - h) = true) : checkR x y w h = 0 := by
  simp only [withinB_iff] at a b d e
  rw [wrap_side a.1 a.2 b.1 b.2] at c
  unfold checkR; rw [if_neg (by omega), if_neg (by omega), if_neg (by omega)]

set_option maxHeartbeats 400000 in
theorem within_any (n a b : Int) (w : World) :
    Calls Tryd.prog 94 #[.int .i64 n, .int .i64 a, .int .i64 b] w fun e w' => e = .returned (.bool (withinB n a b)) ∧ w = w' := by
  go_enter Tryd.func94, Tryd.ntmps94
  go_wp2
  all_goals go_ret
  all_goals exact ⟨ret_bool (by rw [Bool.eq_iff_iff, withinB_iff]; simp; omega), rfl⟩

set_option maxHeartbeats 400000 in
theorem hasPlace_any (x l : Int) (w : World) (h1 : 0 ≤ l) (h2 : l ≤ 512) :
    Calls Tryd.prog 144 #[.int .i64 x, .int .i64 l] w fun e w' => e = .returned (.bool (withinB x (-4194304) (4194304 - l))) ∧ w = w' := by
  go_enter Tryd.func144, Tryd.ntmps144
  go_wp2_with (go_at_call 94; refine (within_any _ _ _ _).mono ?_; rintro e w' ⟨rfl, rfl⟩)
  go_ret
  exact ⟨rfl, rfl⟩

set_option maxHeartbeats 400000 in
theorem checkRegion_any (x y ww hh : Int) (w : World) :
    Calls Tryd.prog 115 #[.agg #[.int .i64 x, .int .i64 y, .int .i64 ww, .int .i64 hh]] w fun e w' => e = .returned (.int .i64 (checkR x y ww hh)) ∧ w' = w.alloc (.cells #[.int .i64 x, .int .i64 y, .int .i64 ww, .int .i64 hh] 23) := by
  go_enter Tryd.func115, Tryd.ntmps115
  go_wp2_with (first | (go_at_call 94; refine (within_any _ _ _ _).mono ?_; rintro e w' ⟨rfl, rfl⟩) | (go_at_call 144; refine (hasPlace_any _ _ _ ?_ ?_).mono ?_; rotate_left 2; rintro e w' ⟨rfl, rfl⟩))
  all_goals simp only [Bool.not_eq_true, Bool.not_eq_true', Bool.not_eq_false'] at *
  all_goals first
    | (simp only [withinB_iff] at *; omega)
    | (go_ret
       refine ⟨ret_int (Eq.symm ?_), rfl⟩
       first
         | exact checkR_range (.inl ‹_›)
         | exact checkR_range (.inr ‹_›)
         | exact checkR_large ‹_› ‹_› ‹_›
         | exact checkR_place ‹_› ‹_› ‹_› (.inl ‹_›)
         | exact checkR_place ‹_› ‹_› ‹_› (.inr ‹_›)
         | exact checkR_ok ‹_› ‹_› ‹_› ‹_› ‹_›)

/-- A region as a value; its cells. -/
abbrev reg (x y w h : Int) : Value := .agg #[.int .i64 x, .int .i64 y, .int .i64 w, .int .i64 h]
abbrev regObj (x y w h : Int) : Obj := .cells #[.int .i64 x, .int .i64 y, .int .i64 w, .int .i64 h] 23

end Go.Proofs.YtacbemilicdklaaDoor

/- Contracts of the regions' functions, continued: Grow, Common, Inside. -/
namespace Go.Proofs.YtacbemilicdklaaDoor
open Go.RowKit

/-- What Grow answers. -/
def growE (x y w h n : Int) : Int :=
  if checkR x y w h = 0 then if n < -512 ∨ 512 < n then 3 else checkR (x - n) (y - n) (w + 2 * n) (h + 2 * n) else checkR x y w h
def growR (x y w h n : Int) : Value := if growE x y w h n = 0 then reg (x - n) (y - n) (w + 2 * n) (h + 2 * n) else reg 0 0 0 0
theorem checkR_zero {x y w h : Int} (e : checkR x y w h = 0) : 1 ≤ w ∧ w ≤ 512 ∧ 1 ≤ h ∧ h ≤ 512 ∧ w * h ≤ 65536 ∧ -4194304 ≤ x ∧ x ≤ 4194304 - w ∧ -4194304 ≤ y ∧ y ≤ 4194304 - h := by
  unfold checkR at e
  split at e <;> omega

theorem bcell {W w1 : World} (hb : Below W.heap.size W w1) : (∀ b o, b < W.heap.size → w1.cell? ⟨b, o, none⟩ = W.cell? ⟨b, o, none⟩) ∧ (∀ b o, b < W.heap.size → w1.frozen? ⟨b, o, none⟩ = W.frozen? ⟨b, o, none⟩) :=
  ⟨fun b o h => hb.cell (p := ⟨b, o, none⟩) h, fun b o h => hb.frozen (p := ⟨b, o, none⟩) h⟩

theorem ret2 {a b : Value} {c d : Value} (h1 : a = b) (h2 : c = d) : Ending.returned (.tuple #[a, c]) = .returned (.tuple #[b, d]) := by rw [h1, h2]

end Go.Proofs.YtacbemilicdklaaDoor

/- Contracts: isFinite, isHeight, checkRange, CheckHeights, Check; the reference's abs, Height. -/
namespace Go.Proofs.YtacbemilicdklaaDoor
open Go.RowKit Fl

theorem f32fmt : FloatKind.f32.format = Ieee.single := rfl

set_option maxHeartbeats 400000 in
theorem isFinite_any (x : Nat) (w : World) :
    Calls Tryd.prog 117 #[.float .f32 x] w fun e w' => e = .returned (.bool (finB x)) ∧ w = w' := by
  rw [← isFinite_eq]
  go_enter Tryd.func117, Tryd.ntmps117
  go_wp2
  all_goals go_ret
  · exact ⟨rfl, rfl⟩
  · rename_i h
    refine ⟨ret_bool (Eq.symm ?_), rfl⟩
    rw [f32fmt] at h
    rw [Bool.and_eq_false_iff]; left
    simpa using h

set_option maxHeartbeats 400000 in
theorem isHeight_any (x : Nat) (w : World) :
    Calls Tryd.prog 152 #[.float .f32 x] w fun e w' => e = .returned (.bool (hgtB x)) ∧ w = w' := by
  rw [← isHeight_eq]
  go_enter Tryd.func152, Tryd.ntmps152
  go_wp2
  all_goals go_ret
  · exact ⟨rfl, rfl⟩
  · rename_i h
    refine ⟨ret_bool (Eq.symm ?_), rfl⟩
    rw [f32fmt] at h
    rw [Bool.and_eq_false_iff]; left
    simpa using h

/-- Do all below n have it? -/
def allB (n : Nat) (p : Nat → Bool) : Bool := (List.range n).all p
theorem allB_iff {n : Nat} {p : Nat → Bool} : allB n p = true ↔ ∀ i, i < n → p i = true := by simp [allB]
theorem allB_no {n : Nat} {p : Nat → Bool} {k : Nat} (h : k < n) (h2 : p k = false) : allB n p = false := by
  rw [← Bool.not_eq_true, allB_iff]; intro c; rw [c k h] at h2; cases h2

def hgtE (n : Nat) (v : Nat → Nat) : Int := if allB n (fun i => hgtB (v i)) then 0 else 3
/-- The error of singles that should be heights. -/
def fldE (n : Nat) (v : Nat → Nat) : Int := if allB n (fun i => finB (v i)) then hgtE n v else 2

/-- n cells from b, off on are the singles v. -/
def FlAt (w : World) (b off n : Nat) (v : Nat → Nat) : Prop := ∀ i, i < n → w.cell? ⟨b, off + i, none⟩ = some (.float .f32 (v i))

set_option maxHeartbeats 400000 in
theorem checkRange_nil (a : Option Addr) (cap : Nat) (w : World) :
    Calls Tryd.prog 133 #[.slice a 0 cap] w fun e w' => e = .returned (.int .i64 0) ∧ w = w' := by
  go_enter Tryd.func133, Tryd.ntmps133
  go_wp2
  go_loop [7] (fun i => i = .int .i64 0) (fun _ => 0)
  case atStart => rfl
  case round =>
    subst hrel
    go_wp2
    go_ret
    exact ⟨rfl, rfl⟩

set_option maxHeartbeats 400000 in
theorem checkRange_row (b off cap n : Nat) (v : Nat → Nat) (hl : n ≤ 9223372036854775807) (w : World) (hc : FlAt w b off n v) :
    Calls Tryd.prog 133 #[.slice (some ⟨b, off, none⟩) n cap] w fun e w' => e = .returned (.int .i64 (hgtE n v)) ∧ w = w' := by
  go_enter Tryd.func133, Tryd.ntmps133
  go_wp2
  go_loop [7] (fun i => ∃ k : Nat, k ≤ n ∧ i = .int .i64 k ∧ allB k (fun i => hgtB (v i)) = true) (fun i => n - (intOf i).toNat)
  case atStart => exact ⟨0, Nat.zero_le _, rfl, rfl⟩
  case round =>
    obtain ⟨k, hk, rfl, hall⟩ := hrel
    have HA := Lib.hid hall
    clear hall
    by_cases hlt : k < n
    · have hcell := hc k hlt
      have IH := Lib.hid (fun w => isHeight_any (v k) w)
      cases hb : hgtB (v k) with
      | true =>
        have HB := Lib.hid hb
        rw [hb] at IH
        clear hb
        go_wp2_with (go_at_call 152; refine (IH.out _).mono ?_; rintro e w' ⟨rfl, rfl⟩)
        go_round
        case rel => exact ⟨k + 1, by omega, by go_num, allB_iff.2 fun i hi => by rcases Nat.lt_or_ge i k with c | c; exact allB_iff.1 HA.out i c; rw [show i = k by omega]; exact HB.out⟩
        case measure => simp [intOf]; omega
      | false =>
        have HB := Lib.hid hb
        rw [hb] at IH
        clear hb
        go_wp2_with (go_at_call 152; refine (IH.out _).mono ?_; rintro e w' ⟨rfl, rfl⟩)
        go_ret
        exact ⟨ret_int (by unfold hgtE; rw [allB_no hlt HB.out]; rfl), rfl⟩
    · go_wp2
      go_ret
      have : k = n := by omega
      subst this
      exact ⟨ret_int (by unfold hgtE; rw [HA.out]; rfl), rfl⟩

set_option maxHeartbeats 400000 in
theorem CheckHeights_nil (a : Option Addr) (cap : Nat) (w : World) :
    Calls Tryd.prog 93 #[.slice a 0 cap] w fun e w' => e = .returned (.int .i64 0) ∧ w = w' := by
  go_enter Tryd.func93, Tryd.ntmps93
  go_wp2
  go_loop [7] (fun i => i = .int .i64 0) (fun _ => 0)
  case atStart => rfl
  case round =>
    subst hrel
    go_wp2_with (go_at_call 133; refine (checkRange_nil _ _ _).mono ?_; rintro e w' ⟨rfl, rfl⟩)
    go_ret
    exact ⟨rfl, rfl⟩

set_option maxHeartbeats 400000 in
theorem CheckHeights_row (b off cap n : Nat) (v : Nat → Nat) (hl : n ≤ 9223372036854775807) (w : World) (hc : FlAt w b off n v) :
    Calls Tryd.prog 93 #[.slice (some ⟨b, off, none⟩) n cap] w fun e w' => e = .returned (.int .i64 (fldE n v)) ∧ w = w' := by
  have CH := Lib.hid (checkRange_row b off cap n v hl w hc)
  go_enter Tryd.func93, Tryd.ntmps93
  go_wp2
  go_loop [7] (fun i => ∃ k : Nat, k ≤ n ∧ i = .int .i64 k ∧ allB k (fun i => finB (v i)) = true) (fun i => n - (intOf i).toNat)
  case atStart => exact ⟨0, Nat.zero_le _, rfl, rfl⟩
  case round =>
    obtain ⟨k, hk, rfl, hall⟩ := hrel
    have HA := Lib.hid hall
    clear hall
    by_cases hlt : k < n
    · have hcell := hc k hlt
      have IH := Lib.hid (fun w => isFinite_any (v k) w)
      cases hb : finB (v k) with
      | true =>
        have HB := Lib.hid hb
        rw [hb] at IH
        clear hb
        go_wp2_with (go_at_call 117; refine (IH.out _).mono ?_; rintro e w' ⟨rfl, rfl⟩)
        go_round
        case rel => exact ⟨k + 1, by omega, by go_num, allB_iff.2 fun i hi => by rcases Nat.lt_or_ge i k with c | c; exact allB_iff.1 HA.out i c; rw [show i = k by omega]; exact HB.out⟩
        case measure => simp [intOf]; omega
      | false =>
        have HB := Lib.hid hb
        rw [hb] at IH
        clear hb
        go_wp2_with (go_at_call 117; refine (IH.out _).mono ?_; rintro e w' ⟨rfl, rfl⟩)
        go_ret
        exact ⟨ret_int (by unfold fldE; rw [allB_no hlt HB.out]; rfl), rfl⟩
    · go_wp2_with (go_at_call 133; refine CH.out.mono ?_; rintro e w' ⟨rfl, rfl⟩)
      go_ret
      have : k = n := by omega
      subst this
      exact ⟨ret_int (by unfold fldE; rw [HA.out]; rfl), rfl⟩

end Go.Proofs.YtacbemilicdklaaDoor

/- Contracts: the reference's abs, Height, Out. -/
namespace Go.Proofs.YtacbemilicdklaaDoor
open Go.RowKit Fl

theorem f32bits (b : Nat) (w : World) : (callFunc 48 #[.float .f32 b]).run Tryd.prog w = .ok (.value (.int .u32 b)) w := by
  rw [run_callFunc_extern Tryd.func48 (by kernel_rfl) (by kernel_rfl) (by kernel_rfl) (e := Extern.MathFloatBits.float32bits) (by kernel_rfl)]; rfl
theorem f32from (n : Int) (w : World) : (callFunc 154 #[.int .u32 n]).run Tryd.prog w = .ok (.value (.float .f32 n.toNat)) w := by
  rw [run_callFunc_extern Tryd.func154 (by kernel_rfl) (by kernel_rfl) (by kernel_rfl) (e := Extern.MathFloatBits.float32frombits) (by kernel_rfl)]; rfl

theorem f64bits (b : Nat) (w : World) : (callFunc 165 #[.float .f64 b]).run Tryd.prog w = .ok (.value (.int .u64 b)) w := by
  rw [run_callFunc_extern Tryd.func165 (by kernel_rfl) (by kernel_rfl) (by kernel_rfl) (e := Extern.MathFloatBits.float64bits) (by kernel_rfl)]; rfl
theorem f64from (n : Int) (w : World) : (callFunc 164 #[.int .u64 n]).run Tryd.prog w = .ok (.value (.float .f64 n.toNat)) w := by
  rw [run_callFunc_extern Tryd.func164 (by kernel_rfl) (by kernel_rfl) (by kernel_rfl) (e := Extern.MathFloatBits.float64frombits) (by kernel_rfl)]; rfl

theorem andNot32 (x : Nat) (hx : x < 4294967296) : bits BinOp.andNot IntKind.u32 (x : Int) 2147483648 = ((x % 2147483648 : Nat) : Int) := by
  have h := u32_andNot_nat x 2147483648 hx (by omega)
  rw [show ((2147483648 : Nat) : Int) = 2147483648 from rfl] at h
  rw [h]
  have : x &&& (4294967295 - 2147483648) = x % 2147483648 := Nat.and_two_pow_sub_one_eq_mod x 31
  rw [this]
/-- 2 ^ 63 and 2 ^ 64 behind names: no walk sees the numerals. -/
def b63 : Nat := 9223372036854775808
def b64 : Nat := 18446744073709551616
theorem andNot64 (x : Nat) (hx : x < b64) : bits BinOp.andNot IntKind.u64 (x : Int) 9223372036854775808 = ((x % b63 : Nat) : Int) := by
  have h := u64_andNot_nat x 9223372036854775808 hx (by omega)
  rw [show ((9223372036854775808 : Nat) : Int) = 9223372036854775808 from rfl] at h
  rw [h]
  have : x &&& (18446744073709551615 - 9223372036854775808) = x % 9223372036854775808 := Nat.and_two_pow_sub_one_eq_mod x 63
  rw [this]; rfl

set_option maxHeartbeats 400000 in
theorem mathAbs_any (X : Nat) (w : World) (hX : X < b64) :
    Calls Tryd.prog 156 #[.float .f64 X] w fun e w' => e = .returned (.float .f64 (X % b63)) ∧ w = w' := by
  have h1 := f64bits
  have h2 := f64from
  have h3 := andNot64 X hX
  go_enter Tryd.func156, Tryd.ntmps156
  go_wp2
  go_ret
  exact ⟨rfl, rfl⟩

set_option maxHeartbeats 400000 in
theorem isInf_any (X : Nat) (k : Bool) (hX : X < b64) (h : (FloatKind.f64.format.order (X % b63) 9218868437227405311 == some .gt) = k) (w : World) :
    Calls Tryd.prog 142 #[.float .f64 X, .int .i64 0] w fun e w' => e = .returned (.bool k) ∧ w = w' := by
  go_enter Tryd.func142, Tryd.ntmps142
  go_wp2_with (go_at_call 156; refine (mathAbs_any _ _ hX).mono ?_; rintro e w' ⟨rfl, rfl⟩)
  go_ret
  exact ⟨rfl, rfl⟩

end Go.Proofs.YtacbemilicdklaaDoor

/- Contracts: the reference's Height and Out. -/
namespace Go.Proofs.YtacbemilicdklaaDoor
open Go.RowKit Fl

theorem conv32_lt {x X : Nat} (h : floatToFloatBits .f32 x .f64 = some X) : X < b64 := by
  unfold floatToFloatBits at h
  rw [if_neg (by decide)] at h
  split at h
  · cases h
  · cases h; exact Ieee.Format.write_lt _ _
  · split at h
    · cases h
    · cases h; exact Ieee.Format.write_lt _ _

/-- What the first loop asks of one single: a NaN, an infinity, or a finite one. -/
theorem step1 (x : Nat) : (finB x = true ∧ (FloatKind.f32.format.order x x == some .eq) = true ∧ ∃ X, floatToFloatBits .f32 x .f64 = some X ∧ X < b64 ∧ (FloatKind.f64.format.order (X % b63) 9218868437227405311 == some .gt) = false) ∨
    (finB x = false ∧ (FloatKind.f32.format.order x x == some .eq) = false) ∨
    (finB x = false ∧ (FloatKind.f32.format.order x x == some .eq) = true ∧ ∃ X, floatToFloatBits .f32 x .f64 = some X ∧ X < b64 ∧ (FloatKind.f64.format.order (X % b63) 9218868437227405311 == some .gt) = true) := by
  cases hv : vS x with
  | some a =>
    left
    have hr : ∃ s m p, Ieee.single.read x = .number s m p := by
      unfold vS at hv
      split at hv
      · exact ⟨_, _, _, by assumption⟩
      · cases hv
    obtain ⟨s, m, p, hr⟩ := hr
    obtain ⟨X, _, _, c1, _⟩ := toD hr
    exact ⟨by unfold finB; rw [hv]; rfl, self_eq (by rw [hr]; rfl), X, c1, conv32_lt c1, isInf_no (by rw [hv]; simp) c1⟩
  | none =>
    right
    have hf : finB x = false := by unfold finB; rw [hv]; rfl
    rcases vS_none hv with ⟨s, hs⟩ | hn
    · right
      exact ⟨hf, self_eq (by rw [hs]; rfl), _, conv_inf hs, conv32_lt (conv_inf hs), isInf_yes s⟩
    · left
      exact ⟨hf, self_ne hn⟩

def wf32 (n : Nat) (v : Nat → Nat) : Prop := ∀ i, i < n → v i < 4294967296

theorem fldE_zero {n : Nat} {v : Nat → Nat} : fldE n v = 0 ↔ allB n (fun i => hgtB (v i)) = true := by
  unfold fldE hgtE
  constructor
  · intro h
    split at h
    · split at h
      · assumption
      · cases h
    · cases h
  · intro h
    have f : allB n (fun i => finB (v i)) = true := allB_iff.2 fun i hi => hgt_fin (allB_iff.1 h i hi)
    rw [if_pos f, if_pos h]

end Go.Proofs.YtacbemilicdklaaDoor

/- Blocks that are known whole, over calls that leave what was there. -/
namespace Go.Proofs.YtacbemilicdklaaDoor
open Go.RowKit

/-- A block known whole: its cells, its marks, its place. -/
theorem blkC {w : World} {b : Nat} {cs : Array Value} {t : TypeId} (h : w.heap[b]? = some (.cells cs t (0, 0))) :
    (∀ o, w.cell? ⟨b, o, none⟩ = cs[o]?) ∧ (∀ o, w.frozen? ⟨b, o, none⟩ = false) ∧ b < w.heap.size := by
  refine ⟨fun o => by simp [World.cell?, h], fun o => by simp [World.frozen?, h], ?_⟩
  rcases Nat.lt_or_ge b w.heap.size with h' | h'
  · exact h'
  · simp [Array.getElem?_eq_none h'] at h
theorem blkStay {W w' : World} {b : Nat} {o : Obj} (h : W.heap[b]? = some o) (hb : Below W.heap.size W w') : w'.heap[b]? = some o := by
  rw [hb.block b ?_, h]
  rcases Nat.lt_or_ge b W.heap.size with h' | h'
  · exact h'
  · simp [Array.getElem?_eq_none h'] at h
theorem heap_alloc_get (w : World) (o : Obj) (k : Nat) : (w.alloc o).heap[k]? = if k = w.heap.size then some o else w.heap[k]? := by
  show (w.heap.push o)[k]? = _
  rw [Array.getElem?_push]

theorem hold {W w w' : World} {A : Prop} (h : A ∧ Below W.heap.size W w) (hb : Below w.heap.size w w') : Below W.heap.size W w' := h.2.trans (hb.mono h.2.size)
theorem heap_size_alloc (w : World) (o : Obj) : (w.alloc o).heap.size = w.heap.size + 1 := by
  show (w.heap.push o).size = _
  simp

/-- The store of a float into a cell (the kit has none). -/
theorem run_store_float {P : Program} {w : World} {a : Addr} {m : Mode} (k : FloatKind) (b : Nat) : (store a (.float k b) m).run P w = stored P w a (.float k b) m := run_store P w a _ m rfl

end Go.Proofs.YtacbemilicdklaaDoor

/- Contract: fit. -/
namespace Go.Proofs.YtacbemilicdklaaDoor
open Go.RowKit Fl

theorem and15 (x : Int) : ∃ a : Nat, a ≤ 15 ∧ bits BinOp.and IntKind.i64 x 15 = (a : Int) := by
  have h : (BitVec.ofInt 64 x &&& BitVec.ofInt 64 15).toNat ≤ 15 := by
    rw [BitVec.toNat_and]
    exact Nat.le_trans Nat.and_le_right (by decide)
  refine ⟨(BitVec.ofInt 64 x &&& BitVec.ofInt 64 15).toNat, h, ?_⟩
  show IntKind.i64.wrap ((BitVec.ofInt 64 x &&& BitVec.ofInt 64 15).toNat : Int) = _
  rw [IntKind.wrap_i64]
  omega

/-- The made cells of singles. -/
theorem made_f32 (n i : Nat) (h : i < n) : (madeCells #[Value.float .f32 0] n)[i]? = some (.float .f32 0) := by
  simp [madeCells, h, Nat.mod_one]

theorem make_f32 (n : Nat) (hn : n ≤ 65536) (w : World) :
    (Instr.makeSlice 24 (.int .i64 (n : Int)) (.int .i64 (n : Int))).run Tryd.prog w = .ok (.slice (some ⟨w.heap.size, 0, none⟩) n n) (w.alloc (.cells (madeCells #[Value.float .f32 0] n) 27)) := by
  have h : (Tryd.prog.info? 27).map (fun i => (i.zero, i.size, i.bytes)) = some (some (.float .f32 0), 1, 4) := by kernel_rfl
  obtain ⟨i0, hi, hz0, hz1, hz2⟩ := info_parts h
  have hr := run_make (P := Tryd.prog) w 24 27 i0 (.float .f32 0) Tryd.underlying24 hi hz0 .i64 .i64 n n (by omega) (by omega) (by rw [hz2]; omega) (by omega)
  rw [hz1, Nat.mul_one, Int.toNat_natCast] at hr
  exact hr

/-- A field as a value; the cells of its box. -/
abbrev fldV (x y w h : Int) (sl : Value) : Value := .agg #[.int .i64 x, .int .i64 y, .int .i64 w, .int .i64 h, sl]
abbrev fldO (x y w h : Int) (sl : Value) : Obj := .cells #[.int .i64 x, .int .i64 y, .int .i64 w, .int .i64 h, sl] 26

def cl1 (x : Int) : Int := if x < -5000 then -5000 else x
def clampI (x : Int) : Int := if 5000 < cl1 x then 5000 else cl1 x
theorem clampI_le (x : Int) : -5000 ≤ clampI x ∧ clampI x ≤ 5000 := by unfold clampI cl1; split <;> split <;> omega

/-- Block b is n singles, those below k heights. -/
def FitRow (wr : World) (b n k : Nat) : Prop :=
  ∃ cs : Array Value, wr.heap[b]? = some (.cells cs 27 (0, 0)) ∧ cs.size = n ∧ ∀ j, j < n → ∃ x, cs[j]? = some (.float .f32 x) ∧ x < 4294967296 ∧ (j < k → hgtB x = true)

/-- What fit leaves: a small region near the origin, heights in a new block. -/
def FitPost (w : World) (e : Ending) (w' : World) : Prop :=
  ∃ X Y W H : Int, ∃ b n : Nat, e = .returned (fldV X Y W H (.slice (some ⟨b, 0, none⟩) n n)) ∧ -5000 ≤ X ∧ X ≤ 5000 ∧ -5000 ≤ Y ∧ Y ≤ 5000 ∧ 1 ≤ W ∧ W ≤ 16 ∧ 1 ≤ H ∧ H ≤ 16 ∧ (n : Int) = W * H ∧ 1 ≤ n ∧ n ≤ 256 ∧ w.heap.size ≤ b ∧ FitRow w' b n n ∧ Below w.heap.size w w'

theorem nat_bd {j k T : Nat} (hT : T = 1074) (h : j ≤ 2 ^ k) : j * 2 ^ T ≤ 2 ^ (1074 + k) := by
  rw [← hT, Nat.pow_add, Nat.mul_comm]; exact Nat.mul_le_mul_left _ h
theorem floatOfInt_bd (j k : Nat) (hk : k ≤ 100) (h : j ≤ 2 ^ k) : Bd k (floatOfInt .f32 (j : Int)) := by
  have e : floatOfInt .f32 (j : Int) = Ieee.single.nearest false j 0 := by
    show Ieee.single.nearest (decide ((j : Int) < 0)) (j : Int).natAbs 0 = _
    rw [show decide ((j : Int) < 0) = false by simp, Int.natAbs_natCast]
  rw [e, nearest_val Ieee.single false (-1074) 925 leastS j (p := 0) (by omega)]
  exact bd_word (nat_bd (by omega) h) (by omega)
theorem floatOfInt_lt (j : Int) : floatOfInt .f32 j < 4294967296 := by
  have h := Ieee.Format.write_lt Ieee.single (.number (decide (j < 0)) j.natAbs 0)
  exact h
theorem floatOfInt_small (j : Nat) (h : j ≤ 256) : hgtB (floatOfInt .f32 (j : Int)) = true :=
  bd_hgt (floatOfInt_bd j 20 (by omega) (Nat.le_trans h (by decide)))

theorem fit_keep {wr : World} {b n k x : Nat} (h : FitRow wr b n k) (hk : k < n) (hx : x < 4294967296) (hh : hgtB x = true) : FitRow (wr.setCell ⟨b, k, none⟩ (.float .f32 x)) b n (k + 1) := by
  obtain ⟨cs, h1, h2, h3⟩ := h
  refine ⟨cs.setIfInBounds k (.float .f32 x), heap_setCell_same wr b k cs _ _ h1, by simp [h2], fun j hj => ?_⟩
  by_cases e : k = j
  · subst e
    exact ⟨x, by rw [Array.getElem?_setIfInBounds_self_of_lt (by omega)], hx, fun _ => hh⟩
  · obtain ⟨y, q1, q2, q3⟩ := h3 j hj
    exact ⟨y, by rw [Array.getElem?_setIfInBounds_ne e]; exact q1, q2, fun c => q3 (by omega)⟩

theorem fit_step {wr : World} {b n k x : Nat} (h : FitRow wr b n k) (hk : k < n) (hx : x < 4294967296) : FitRow (wr.setCell ⟨b, k, none⟩ (.float .f32 x)) b n k := by
  obtain ⟨cs, h1, h2, h3⟩ := h
  refine ⟨cs.setIfInBounds k (.float .f32 x), heap_setCell_same wr b k cs _ _ h1, by simp [h2], fun j hj => ?_⟩
  by_cases e : k = j
  · subst e
    exact ⟨x, by rw [Array.getElem?_setIfInBounds_self_of_lt (by omega)], hx, fun c => by omega⟩
  · obtain ⟨y, q1, q2, q3⟩ := h3 j hj
    exact ⟨y, by rw [Array.getElem?_setIfInBounds_ne e]; exact q1, q2, q3⟩

theorem fit_cell {wr : World} {b n k : Nat} (h : FitRow wr b n k) (j : Nat) (hj : j < n) : ∃ x, wr.cell? ⟨b, j, none⟩ = some (.float .f32 x) ∧ x < 4294967296 ∧ (j < k → hgtB x = true) := by
  obtain ⟨cs, h1, h2, h3⟩ := h
  obtain ⟨x, q1, q2, q3⟩ := h3 j hj
  exact ⟨x, by simp [World.cell?, h1, q1], q2, q3⟩

theorem fit_up {wr : World} {b n k x : Nat} (h : FitRow wr b n k) (hc : wr.cell? ⟨b, k, none⟩ = some (.float .f32 x)) (hh : hgtB x = true) : FitRow wr b n (k + 1) := by
  obtain ⟨cs, h1, h2, h3⟩ := h
  refine ⟨cs, h1, h2, fun j hj => ?_⟩
  obtain ⟨y, q1, q2, q3⟩ := h3 j hj
  refine ⟨y, q1, q2, fun c => ?_⟩
  by_cases e : j < k
  · exact q3 e
  · have : j = k := by omega
    subst this
    have : wr.cell? ⟨b, j, none⟩ = some (.float .f32 y) := by simp [World.cell?, h1, q1]
    rw [hc] at this
    cases this
    exact hh

theorem FitRow.congr {w w' : World} {b n k : Nat} (h : FitRow w b n k) (e : w'.heap[b]? = w.heap[b]?) : FitRow w' b n k := by
  obtain ⟨cs, h1, h2⟩ := h
  exact ⟨cs, by rw [e]; exact h1, h2⟩
theorem FitRow.lt {w : World} {b n k : Nat} (h : FitRow w b n k) : b < w.heap.size := by
  obtain ⟨cs, h1, _⟩ := h
  exact (blkC h1).2.2
theorem FitRow.free {w : World} {b n k : Nat} (h : FitRow w b n k) (j : Nat) : w.frozen? ⟨b, j, none⟩ = false := by
  obtain ⟨cs, h1, _⟩ := h
  exact (blkC h1).2.1 j

theorem flAt_one (w : World) (x : Nat) : FlAt (w.alloc (.cells #[.float .f32 x] 27)) w.heap.size 0 1 (fun _ => x) := by
  intro i hi
  have : i = 0 := by omega
  subst this
  have h : (w.alloc (.cells #[Value.float .f32 x] 27)).heap[w.heap.size]? = some (.cells #[.float .f32 x] 27) := by rw [heap_alloc_get, if_pos rfl]
  exact (blkC h).1 0

theorem fldE_one_ok {x : Nat} (h : hgtB x = true) : fldE 1 (fun _ => x) = 0 := by
  have f := hgt_fin h
  simp [fldE, hgtE, allB, List.range_succ, h, f]
theorem fldE_one_no {x : Nat} (h : hgtB x = false) : fldE 1 (fun _ => x) = 2 ∨ fldE 1 (fun _ => x) = 3 := by
  unfold fldE
  by_cases f : allB 1 (fun _ => finB x) = true
  · right; rw [if_pos f]; unfold hgtE; rw [allB_no (k := 0) (by omega) h]; rfl
  · left; rw [if_neg f]

theorem fit_six (wr : World) (B : Nat) (u0 u1 u2 u3 u4 u5 : Value) :
    ((((((wr.setCell ⟨B, 4, none⟩ u0).setCell ⟨B + 1, 0, none⟩ u1).setCell ⟨B + 1, 1, none⟩ u2).setCell ⟨B + 1, 2, none⟩ u3).setCell ⟨B + 1, 3, none⟩ u4).setCell ⟨B + 1, 4, none⟩ u5).heap[B + 1 + 1]? = wr.heap[B + 1 + 1]? := by
  have n0 : B + 1 + 1 ≠ B := by omega
  have n1 : B + 1 + 1 ≠ B + 1 := by omega
  rw [Below.heap_setCell _ _ _ _ n1, Below.heap_setCell _ _ _ _ n1, Below.heap_setCell _ _ _ _ n1, Below.heap_setCell _ _ _ _ n1, Below.heap_setCell _ _ _ _ n1, Below.heap_setCell _ _ _ _ n0]

end Go.Proofs.YtacbemilicdklaaDoor

/- Contract: fit of a field without singles. -/
namespace Go.Proofs.YtacbemilicdklaaDoor
open Go.RowKit Fl

end Go.Proofs.YtacbemilicdklaaDoor

/- Contract: byCell, whatever function it is given. -/
namespace Go.Proofs.YtacbemilicdklaaDoor
open Go.RowKit Fl

/-- Block b has at least n singles; the first k are f. -/
def RowPart (wr : World) (b n k : Nat) (f : Nat → Nat) : Prop :=
  ∃ cs : Array Value, wr.heap[b]? = some (.cells cs 27 (0, 0)) ∧ n ≤ cs.size ∧ ∀ j, j < k → cs[j]? = some (.float .f32 (f j))
theorem RowPart.congr {w w' : World} {b n k : Nat} {f : Nat → Nat} (h : RowPart w b n k f) (e : w'.heap[b]? = w.heap[b]?) : RowPart w' b n k f := by
  obtain ⟨cs, h1, h2⟩ := h
  exact ⟨cs, by rw [e]; exact h1, h2⟩
theorem RowPart.lt {w : World} {b n k : Nat} {f : Nat → Nat} (h : RowPart w b n k f) : b < w.heap.size := by
  obtain ⟨cs, h1, _⟩ := h
  exact (blkC h1).2.2
theorem RowPart.free {w : World} {b n k : Nat} {f : Nat → Nat} (h : RowPart w b n k f) (j : Nat) : w.frozen? ⟨b, j, none⟩ = false := by
  obtain ⟨cs, h1, _⟩ := h
  exact (blkC h1).2.1 j
theorem RowPart.cell {w : World} {b n k : Nat} {f : Nat → Nat} (h : RowPart w b n k f) {j : Nat} (hj : j < n) : ∃ x, w.cell? ⟨b, j, none⟩ = some x := by
  obtain ⟨cs, h1, h2, _⟩ := h
  exact ⟨cs[j]'(by omega), by rw [(blkC h1).1 j, Array.getElem?_eq_getElem (by omega)]⟩
theorem RowPart.flAt {w : World} {b n k : Nat} {f : Nat → Nat} (h : RowPart w b n k f) : FlAt w b 0 k f := by
  intro i hi
  obtain ⟨cs, h1, h2, h3⟩ := h
  rw [Nat.zero_add, (blkC h1).1 i]
  exact h3 i hi
theorem RowPart.put {w : World} {b n k : Nat} {f : Nat → Nat} (h : RowPart w b n k f) (hk : k < n) : RowPart (w.setCell ⟨b, k, none⟩ (.float .f32 (f k))) b n (k + 1) f := by
  obtain ⟨cs, h1, h2, h3⟩ := h
  refine ⟨cs.setIfInBounds k (.float .f32 (f k)), heap_setCell_same w b k cs _ _ h1, by simp [h2], fun j hj => ?_⟩
  by_cases e : k = j
  · subst e; rw [Array.getElem?_setIfInBounds_self_of_lt (by omega)]
  · rw [Array.getElem?_setIfInBounds_ne e]; exact h3 j (by omega)

/-- A function of a cell's number, as a closure: in any world that has grown out of w it answers f, and leaves what was there. -/
def Clos1 (g : Nat) (caps : Array Value) (n : Nat) (f : Nat → Nat) (w : World) : Prop :=
  ∀ (i : Nat) (W : World), i < n → Below w.heap.size w W → Calls Tryd.prog g (#[.int .i64 i] ++ caps) W fun e W' => e = .returned (.float .f32 (f i)) ∧ Below W.heap.size W W'
def Enters (g : Nat) : Prop := ∀ (args : Array Value) (W : World), (callFunc g args).run Tryd.prog W = .ok (.enter g args) W

/-- A field that is made of f, or the error. -/
def MadePost (w : World) (X Y W H : Int) (n : Nat) (f : Nat → Nat) (e : Ending) (w' : World) : Prop :=
  (allB n (fun i => hgtB (f i)) = true ∧ ∃ b cap, e = .returned (.tuple #[fldV X Y W H (.slice (some ⟨b, 0, none⟩) n cap), .int .i64 0]) ∧ w.heap.size ≤ b ∧ b < w'.heap.size ∧ FlAt w' b 0 n f ∧ Below w.heap.size w w') ∨
  (allB n (fun i => hgtB (f i)) = false ∧ e = .returned (.tuple #[fldV 0 0 0 0 (.slice none 0 0), .int .i64 3]) ∧ Below w.heap.size w w')

/-- A field's five cells stored into block b. -/
abbrev set5 (wr : World) (b : Nat) (u1 u2 u3 u4 u5 : Value) : World :=
  ((((wr.setCell ⟨b, 0, none⟩ u1).setCell ⟨b, 1, none⟩ u2).setCell ⟨b, 2, none⟩ u3).setCell ⟨b, 3, none⟩ u4).setCell ⟨b, 4, none⟩ u5
theorem set5_heap (wr : World) (b k : Nat) (u1 u2 u3 u4 u5 : Value) (h : k ≠ b) : (set5 wr b u1 u2 u3 u4 u5).heap[k]? = wr.heap[k]? := by
  rw [Below.heap_setCell _ _ _ _ h, Below.heap_setCell _ _ _ _ h, Below.heap_setCell _ _ _ _ h, Below.heap_setCell _ _ _ _ h, Below.heap_setCell _ _ _ _ h]
theorem set5_below {w wr : World} {B : Nat} (hb : Below B w wr) (b : Nat) (u1 u2 u3 u4 u5 : Value) (h : B ≤ b) : Below B w (set5 wr b u1 u2 u3 u4 u5) :=
  ((((hb.setCell (p := ⟨b, 0, none⟩) h u1).setCell (p := ⟨b, 1, none⟩) h u2).setCell (p := ⟨b, 2, none⟩) h u3).setCell (p := ⟨b, 3, none⟩) h u4).setCell (p := ⟨b, 4, none⟩) h u5
theorem set5_size (wr : World) (b : Nat) (u1 u2 u3 u4 u5 : Value) : (set5 wr b u1 u2 u3 u4 u5).heap.size = wr.heap.size := by simp [set5]

set_option maxHeartbeats 2000000 in
theorem byCell_any (X Y W H : Int) (n : Nat) (g : Nat) (caps : Array Value) (f : Nat → Nat) (w : World) (hcall : Enters g) (hcl : Clos1 g caps n f w) (hn : (n : Int) = W * H) (hn1 : 1 ≤ n) (hn2 : n ≤ 65536) :
    Calls Tryd.prog 160 #[reg X Y W H, .func (.func g) #[] caps] w (MadePost w X Y W H n f) := by
  have en : wrap64 (W * H) = (n : Int) := by rw [← hn]; exact IntWalk.wrap64_in _ ⟨by omega, by omega⟩
  have hmk := make_f32 n hn2
  have HCL := Lib.hid hcl
  unfold Enters at hcall
  clear hn hcl
  have hsf := fun (w : World) (a : Addr) (m : Mode) (k : FloatKind) (b : Nat) => run_store_float (P := Tryd.prog) (w := w) (a := a) (m := m) k b
  go_enter Tryd.func160, Tryd.ntmps160
  go_wp2
  clear en hmk
  go_loopw [17] (fun i wr => ∃ k : Nat, k ≤ n ∧ i = .int .i64 k ∧ RowPart wr (w.heap.size + 1 + 1) n k f ∧ wr.heap[w.heap.size]? = some (regObj X Y W H) ∧ wr.heap[w.heap.size + 1]? = some (fldO 0 0 0 0 (.slice none 0 0)) ∧ Below w.heap.size w wr) (fun i _ => n - (intOf i).toNat)
  case atStart =>
    refine ⟨0, Nat.zero_le _, rfl, ⟨madeCells #[Value.float .f32 0] n, ?_, by rw [size_madeCells]; exact Nat.le_refl _, fun j hj => by omega⟩, ?_, ?_, (by repeat (first | exact Below.refl _ _ | refine Below.alloc ?_ (by first | omega | (simp; done) | (simp; omega)) _ | refine Below.setCell ?_ (by first | omega | (simp; done) | (simp; omega)) _ | refine Below.drew ?_))⟩
    · simp only [heap_alloc_get, heap_size_alloc]; simp <;> omega
    · simp only [heap_alloc_get, heap_size_alloc]; simp <;> omega
    · simp only [heap_alloc_get, heap_size_alloc]; simp <;> omega
  case round =>
    obtain ⟨k, hk, rfl, hrow, hbox, hres, hbel⟩ := hrel
    have HR := Lib.hid hrow
    have HB := Lib.hid hbox
    have HS := Lib.hid hres
    clear hrow hbox hres
    by_cases hlt : k < n
    · have CC := Lib.hid (HCL.out k wr hlt hbel)
      go_wp2_with fail
      refine CC.out.mono ?_
      rintro e w2 ⟨rfl, hb2⟩
      have R2 := Lib.hid (HR.out.congr (hb2.block _ HR.out.lt))
      have B2 := Lib.hid (blkStay HB.out hb2)
      have S2 := Lib.hid (blkStay HS.out hb2)
      have L2 : Below w.heap.size w w2 := hbel.trans (hb2.mono hbel.size)
      have z2 := R2.out.lt
      have f2 := R2.out.free k
      obtain ⟨x0, hx0⟩ := R2.out.cell hlt
      clear hb2 CC HR HB HS hbel
      go_wp2
      go_roundw
      case rel =>
        exact ⟨k + 1, by omega, by go_num, R2.out.put hlt, (Below.heap_setCell _ _ _ _ (show w.heap.size ≠ w.heap.size + 1 + 1 by omega)).trans B2.out, (Below.heap_setCell _ _ _ _ (show w.heap.size + 1 ≠ w.heap.size + 1 + 1 by omega)).trans S2.out, L2.setCell (p := ⟨w.heap.size + 1 + 1, k, none⟩) (show w.heap.size ≤ w.heap.size + 1 + 1 by omega) _⟩
      case measure => simp [intOf]; omega
    · have hkn : k = n := by omega
      subst hkn
      obtain ⟨cB, fB, zB⟩ := blkC HB.out
      obtain ⟨cS, fS, zS⟩ := blkC HS.out
      have HF := HR.out.flAt
      have CH := Lib.hid (checkRange_row (w.heap.size + 1 + 1) 0 k k f (by omega) wr HF)
      clear HF
      cases hall : allB k (fun i => hgtB (f i)) with
      | true =>
        have e : hgtE k f = 0 := by unfold hgtE; rw [hall]; rfl
        rw [e] at CH
        clear e
        go_wp2_with (go_at_call 133; refine CH.out.mono ?_; rintro e w' ⟨rfl, rfl⟩)
        refine bodyPost_ret (v := .tuple #[fldV X Y W H (.slice (some ⟨w.heap.size + 1 + 1, 0, none⟩) k k), .int .i64 0]) (by simp [results, Tryd.results160, go_sem, cS]) rfl ?_
        exact .inl ⟨hall, w.heap.size + 1 + 1, k, rfl, by omega, by rw [set5_size]; exact HR.out.lt, (HR.out.congr (set5_heap wr (w.heap.size + 1) (w.heap.size + 1 + 1) _ _ _ _ _ (by omega))).flAt, set5_below hbel (w.heap.size + 1) _ _ _ _ _ (by omega)⟩
      | false =>
        have e : hgtE k f = 3 := by unfold hgtE; rw [hall]; rfl
        rw [e] at CH
        clear e
        go_wp2_with (go_at_call 133; refine CH.out.mono ?_; rintro e w' ⟨rfl, rfl⟩)
        refine bodyPost_ret (v := .tuple #[fldV 0 0 0 0 (.slice none 0 0), .int .i64 3]) (by simp [results, Tryd.results160, go_sem, cS]) rfl ?_
        exact .inr ⟨hall, rfl, set5_below hbel (w.heap.size + 1) _ _ _ _ _ (by omega)⟩

end Go.Proofs.YtacbemilicdklaaDoor

/- Contract: the reference's made, whatever function it is given. -/
namespace Go.Proofs.YtacbemilicdklaaDoor
open Go.RowKit Fl
set_option linter.unusedVariables false

def rowL (f : Nat → Nat) (k : Nat) : List Value := (List.range k).map fun i => Value.float .f32 (f i)
theorem rowL_succ (f : Nat → Nat) (k : Nat) : rowL f (k + 1) = rowL f k ++ [.float .f32 (f k)] := by simp [rowL, List.range_succ]
theorem ownsRow_below {w w' : World} {base : Nat} {e : TypeId} {size : Nat} {v : Value} {n : Nat} {xs : List Value} (h : w.ownsRow base e size v n xs) (hb : Below w.heap.size w w') : w'.ownsRow base e size v n xs := by
  obtain ⟨h1, h2⟩ := h
  refine ⟨h1, ?_⟩
  rcases h2 with h2 | ⟨g, cap, cur, hv, hg, hh, r⟩
  · exact .inl h2
  · exact .inr ⟨g, cap, cur, hv, hg, blkStay hh hb, r⟩
theorem ownsRow_far {w : World} {base : Nat} {e : TypeId} {size : Nat} {v : Value} {n : Nat} {xs : List Value} (h : w.ownsRow base e size v n xs) {b : Nat} (hb : b < base) : some b ≠ v.ownBlock := by
  rcases h.2 with ⟨rfl, _⟩ | ⟨g, cap, cur, rfl, hg, _⟩
  · simp [Value.ownBlock]
  · intro c
    have : b = g := by simpa [Value.ownBlock] using c
    omega
theorem ownsRow_flAt {w : World} {base b cap k : Nat} {f : Nat → Nat} (h : w.ownsRow base 27 1 (.slice (some ⟨b, 0, none⟩) k cap) k (rowL f k)) (hk : 0 < k) : FlAt w b 0 k f ∧ b < w.heap.size ∧ base ≤ b := by
  rcases h.2 with ⟨h0, _⟩ | ⟨g, cap', cur, hv, hg, hh, h1, h2, h3, h4⟩
  · cases h0
  · cases hv
    refine ⟨fun i hi => ?_, (blkC hh).2.2, hg⟩
    rw [Nat.zero_add, (blkC hh).1 i]
    have : (cur.toList.take (k * 1))[i]? = some (.float .f32 (f i)) := by rw [h4]; simp [rowL, hi]
    rw [List.getElem?_take, if_pos (by omega)] at this
    simpa using this

/-- A function of a cell's place, as a closure. -/
def Clos2 (g : Nat) (caps : Array Value) (X Y W H : Int) (f : Nat → Nat) (w : World) : Prop :=
  ∀ (x y : Int) (i : Nat) (W' : World), X ≤ x → x < X + W → Y ≤ y → y < Y + H → (i : Int) = (y - Y) * W + (x - X) → Below w.heap.size w W' →
    Calls Tryd.prog g (#[.int .i64 x, .int .i64 y] ++ caps) W' fun e W'' => e = .returned (.float .f32 (f i)) ∧ Below W'.heap.size W' W''

/-- What holds of the world at each head of made's loops, when k values have been made. -/
def MadeAt (w : World) (X Y W H : Int) (f : Nat → Nat) (k : Nat) (wr : World) : Prop :=
  ∃ ov, wr.ownsRow (w.heap.size + 1 + 1 + 1) 27 1 ov k (rowL f k) ∧ wr.heap[w.heap.size]? = some (regObj X Y W H) ∧ wr.heap[w.heap.size + 1]? = some (fldO 0 0 0 0 (.slice none 0 0)) ∧
    wr.heap[w.heap.size + 1 + 1]? = some (fldO X Y W H ov) ∧ Below w.heap.size w wr

theorem flAt_congr {w w' : World} {b off n : Nat} {f : Nat → Nat} (h : FlAt w b off n f) (e : w'.heap[b]? = w.heap[b]?) : FlAt w' b off n f := fun i hi => by
  rw [← h i hi]; exact World.cell?_of_block (w := w) (a := ⟨b, off + i, none⟩) e

theorem made_step {w wr w2 w3 : World} {X Y W H : Int} {f : Nat → Nat} {k gg cap : Nat} {ov : Value} {o : Obj}
    (HO : wr.ownsRow (w.heap.size + 1 + 1 + 1) 27 1 ov k (rowL f k)) (HB : wr.heap[w.heap.size]? = some (regObj X Y W H)) (HS : wr.heap[w.heap.size + 1]? = some (fldO 0 0 0 0 (.slice none 0 0)))
    (HV : wr.heap[w.heap.size + 1 + 1]? = some (fldO X Y W H ov)) (hbel : Below w.heap.size w wr) (hb2 : Below wr.heap.size wr w2) (hgrow : (w2.alloc o).grownBy w3 ov.ownBlock)
    (hown3 : w3.ownsRow (w.heap.size + 1 + 1 + 1) 27 1 (.slice (some ⟨gg, 0, none⟩) (k + 1) cap) (k + 1) (rowL f k ++ [.float .f32 (f k)])) :
    MadeAt w X Y W H f (k + 1) (w3.setCell ⟨w.heap.size + 1 + 1, 4, none⟩ (.slice (some ⟨gg, 0, none⟩) (k + 1) cap)) := by
  have go : ∀ b o', wr.heap[b]? = some o' → b < w.heap.size + 1 + 1 + 1 → w3.heap[b]? = some o' := by
    intro b o' h hb
    have h2 := blkStay h hb2
    have hlt : b < w2.heap.size := by
      rcases Nat.lt_or_ge b w2.heap.size with x | x
      · exact x
      · rw [Array.getElem?_eq_none x] at h2; cases h2
    rw [hgrow.block b (by rw [heap_size_alloc]; omega) (ownsRow_far HO hb), heap_alloc_old _ _ hlt, h2]
  refine ⟨.slice (some ⟨gg, 0, none⟩) (k + 1) cap, ?_, ?_, ?_, ?_, ?_⟩
  · rw [rowL_succ]; exact ownsRow_setCell_below hown3 (show w.heap.size + 1 + 1 < w.heap.size + 1 + 1 + 1 by omega) _
  · exact (Below.heap_setCell _ _ _ _ (show w.heap.size ≠ w.heap.size + 1 + 1 by omega)).trans (go _ _ HB (by omega))
  · exact (Below.heap_setCell _ _ _ _ (show w.heap.size + 1 ≠ w.heap.size + 1 + 1 by omega)).trans (go _ _ HS (by omega))
  · rw [heap_setCell_same w3 (w.heap.size + 1 + 1) 4 _ _ _ (go _ _ HV (by omega))]; rfl
  · have h2 : Below w.heap.size w w2 := hbel.trans (hb2.mono hbel.size)
    have h3 := (h2.alloc h2.size o).grown hgrow (by rw [heap_size_alloc]; have := h2.size; omega) (fun b hb => by
      rcases HO.2 with ⟨rfl, _⟩ | ⟨g, _, _, rfl, hg, _⟩
      · cases hb
      · have : b = g := by simpa [Value.ownBlock] using hb.symm
        omega)
    exact h3.setCell (p := ⟨w.heap.size + 1 + 1, 4, none⟩) (show w.heap.size ≤ w.heap.size + 1 + 1 by omega) _

end Go.Proofs.YtacbemilicdklaaDoor

/- Contracts: the reference's add, sub, mul; scaled, clamped; lesser, greater; At; Check of a right field. -/
namespace Go.Proofs.YtacbemilicdklaaDoor
open Go.RowKit Fl
set_option linter.unusedVariables false

theorem ret_fl {k : FloatKind} {a b : Nat} (h : a = b) : Ending.returned (.float k a) = .returned (.float k b) := by rw [h]

/-- Clamped, as the reference does it. -/
def clpW (v a b : Nat) : Nat := if (FloatKind.f32.format.order v a == some .lt) = true then a else if (FloatKind.f32.format.order v b == some .gt) = true then b else v

set_option maxHeartbeats 400000 in
theorem lesser_any (x y : Nat) (w : World) :
    Calls Tryd.prog 134 #[.float .f32 x, .float .f32 y] w fun e w' => e = .returned (.float .f32 (lesW x y)) ∧ w = w' := by
  unfold lesW
  go_enter Tryd.func134, Tryd.ntmps134
  go_wp2
  all_goals go_ret
  all_goals refine ⟨ret_fl ?_, rfl⟩
  all_goals simp_all

set_option maxHeartbeats 400000 in
theorem greater_any (x y : Nat) (w : World) :
    Calls Tryd.prog 111 #[.float .f32 x, .float .f32 y] w fun e w' => e = .returned (.float .f32 (grtW x y)) ∧ w = w' := by
  unfold grtW
  go_enter Tryd.func111, Tryd.ntmps111
  go_wp2
  all_goals go_ret
  all_goals refine ⟨ret_fl ?_, rfl⟩
  all_goals simp_all

theorem clp_eq {v a b : Nat} (hv : finB v = true) (ha : finB a = true) (hb : finB b = true) (hab : (FloatKind.f32.format.order a b == some .gt) = false) : lesW (grtW v a) b = clpW v a b := by
  rw [show FloatKind.f32.format = Ieee.single from rfl] at hab
  unfold finB at hv ha hb
  obtain ⟨i, hi⟩ := Option.isSome_iff_exists.1 hv
  obtain ⟨j, hj⟩ := Option.isSome_iff_exists.1 ha
  obtain ⟨k, hk⟩ := Option.isSome_iff_exists.1 hb
  rw [gtr_val hj hk] at hab
  unfold lesW grtW clpW
  rw [show FloatKind.f32.format = Ieee.single from rfl, gtr_val hj hi, lss_val hi hj, gtr_val hi hk]
  simp only [decide_eq_true_eq, decide_eq_false_iff_not] at *
  by_cases c : i < j
  · rw [if_pos c, if_pos c, lss_val hk hj]; simp only [decide_eq_true_eq]; rw [if_neg (by omega)]
  · rw [if_neg c, if_neg c, lss_val hk hi]; simp only [decide_eq_true_eq]

set_option maxHeartbeats 1000000 in
theorem check_ok (X Y : Int) (W H n b cap : Nat) (v : Nat → Nat) (w : World) (h0 : checkR X Y W H = 0) (hn : n = W * H) (hc : FlAt w b 0 n v) (hh : allB n (fun i => hgtB (v i)) = true) :
    Calls Tryd.prog 66 #[fldV X Y W H (.slice (some ⟨b, 0, none⟩) n cap)] w fun e w' => e = .returned (.int .i64 0) ∧ Below w.heap.size w w' := by
  have HH := Lib.hid (fldE_zero.2 hh)
  obtain ⟨b1, b2, b3, b4, b5, _⟩ := checkR_zero h0
  have en : wrap64 ((W : Int) * (H : Int)) = (n : Int) := by
    have : ((W : Int) * (H : Int)) = (n : Int) := by rw [hn]; simp
    rw [this]; rw [this] at b5; exact IntWalk.wrap64_in _ ⟨by omega, by omega⟩
  have hn2 : n ≤ 65536 := by
    have : ((W : Int) * (H : Int)) = (n : Int) := by rw [hn]; simp
    omega
  have h1 : 1 ≤ n := by
    have := Nat.mul_pos (by omega : 0 < W) (by omega : 0 < H)
    omega
  have hlt : b < w.heap.size := World.block_lt_of_cell? w _ (hc 0 h1)
  have CH := Lib.hid (fun W' (hb : Below w.heap.size w W') => CheckHeights_row b 0 cap n v (by omega) W' (flAt_congr hc (hb.block _ hlt)))
  rw [HH.out] at CH
  have RC := Lib.hid (fun w => checkRegion_any X Y W H w)
  rw [h0] at RC
  clear hn hc hh h0 b5
  go_enter Tryd.func66, Tryd.ntmps66
  go_wp2_with (first | (go_at_call 115; refine (RC.out _).mono ?_; rintro e w' ⟨rfl, rfl⟩) | (go_at_call 93; refine (CH.out _ (by repeat (first | exact Below.refl _ _ | refine Below.alloc ?_ (by first | omega | (simp; done) | (simp; omega)) _ | refine Below.setCell ?_ (by first | omega | (simp; done) | (simp; omega)) _ | refine Below.drew ?_))).mono ?_; rintro e w' ⟨rfl, rfl⟩))
  go_ret
  exact ⟨rfl, (by repeat (first | exact Below.refl _ _ | refine Below.alloc ?_ (by first | omega | (simp; done) | (simp; omega)) _ | refine Below.setCell ?_ (by first | omega | (simp; done) | (simp; omega)) _ | refine Below.drew ?_))⟩

end Go.Proofs.YtacbemilicdklaaDoor

/- Contracts: Index; byPlace and Make, whatever function they are given. -/
namespace Go.Proofs.YtacbemilicdklaaDoor
open Go.RowKit Fl
set_option linter.unusedVariables false

theorem enters_place1 : Enters 161 := by intro args W; simp [callFunc, Tryd.func161, Tryd.f161]

set_option maxHeartbeats 1000000 in
theorem index_any (X Y : Int) (W H : Nat) (i : Nat) (x y : Int) (w : World) (hX1 : -16777216 ≤ X) (hX2 : X ≤ 16777216) (hY1 : -16777216 ≤ Y) (hY2 : Y ≤ 16777216) (hW1 : 1 ≤ W) (hW2 : W ≤ 512) (hH2 : H ≤ 512)
    (h1 : X ≤ x) (h2 : x < X + W) (h3 : Y ≤ y) (h4 : y < Y + H) (hi : (i : Int) = (y - Y) * W + (x - X)) (hn : i ≤ 65536) :
    Calls Tryd.prog 78 #[reg X Y W H, .int .i64 x, .int .i64 y] w fun e w' => e = .returned (.int .i64 (i : Int)) ∧ w.alloc (regObj X Y W H) = w' := by
  have hq : 0 ≤ (y - Y) * W := Int.mul_nonneg (by omega) (by omega)
  have e2 : wrap64 ((y - Y) * W) = (y - Y) * W := IntWalk.wrap64_in _ ⟨by omega, by omega⟩
  have e3 : wrap64 ((y - Y) * W + x) = (y - Y) * W + x := IntWalk.wrap64_in _ ⟨by omega, by omega⟩
  have e4 : wrap64 ((y - Y) * W + x - X) = (i : Int) := by rw [IntWalk.wrap64_in _ ⟨by omega, by omega⟩]; omega
  clear hi hq
  go_enter Tryd.func78, Tryd.ntmps78
  go_wp2
  go_ret
  exact ⟨ret_int e4, rfl⟩

/-- A function value in a box. -/
abbrev fnObj (g : Nat) (caps : Array Value) : Obj := .cells #[.func (.func g) #[] caps] 144

set_option maxHeartbeats 2000000 in
theorem place1_any (X Y : Int) (W H n : Nat) (g : Nat) (caps : Array Value) (f : Nat → Nat) (p q : Nat) (w : World) (hcall : Enters g) (hcl : Clos2 g caps X Y W H f w)
    (hp : w.heap[p]? = some (fnObj g caps)) (hq : w.heap[q]? = some (regObj X Y W H)) (hX1 : -16777216 ≤ X) (hX2 : X ≤ 16777216) (hY1 : -16777216 ≤ Y) (hY2 : Y ≤ 16777216) (hW1 : 1 ≤ W) (hW2 : W ≤ 512) (hH2 : H ≤ 512) (hn : n = H * W) :
    Clos1 161 #[.pointer (some ⟨p, 0, none⟩), .pointer (some ⟨q, 0, none⟩)] n f w := by
  intro i w2 hi hb
  have hdm := Nat.div_add_mod i W
  have hml := Nat.mod_lt i (show 0 < W by omega)
  have hdl : i / W < H := Nat.div_lt_of_lt_mul (by rw [Nat.mul_comm]; omega)
  obtain ⟨a, ha⟩ : ∃ a : Nat, a = i % W := ⟨_, rfl⟩
  obtain ⟨b, hb'⟩ : ∃ b : Nat, b = i / W := ⟨_, rfl⟩
  rw [← ha, ← hb'] at hdm
  rw [← ha] at hml
  rw [← hb'] at hdl
  have ei : (i : Int) = ((Y + b) - Y) * W + ((X + a) - X) := by
    rw [show Y + (b : Int) - Y = b by omega, show X + (a : Int) - X = a by omega, ← hdm]; simp [Int.mul_comm]
  have CC := Lib.hid (fun W' (hB : Below w2.heap.size w2 W') => hcl (X + a) (Y + b) i W' (by omega) (by omega) (by omega) (by omega) ei (hb.trans (hB.mono hb.size)))
  have P := blkStay hp hb
  have Q := blkStay hq hb
  have HP := Lib.hid P
  have HQ := Lib.hid Q
  obtain ⟨cP, fP, zP⟩ := blkC P
  obtain ⟨cQ, fQ, zQ⟩ := blkC Q
  unfold Enters at hcall
  have t1 : (i : Int).tmod (W : Int) = (a : Int) := by rw [ha]; rw [Int.tmod_eq_emod_of_nonneg (by omega)]; simp
  have t2 : (i : Int).tdiv (W : Int) = (b : Int) := by rw [hb']; rw [Int.tdiv_eq_ediv_of_nonneg (by omega)]; simp
  have t3 : (i : Int) % (W : Int) = (a : Int) := by rw [ha]; simp
  have t4 : (i : Int) / (W : Int) = (b : Int) := by rw [hb']; simp
  have u1 : IntKind.i64.wrap (X + (a : Int)) = X + a := IntWalk.i64_in _ (by omega)
  have u2 : IntKind.i64.wrap (Y + (b : Int)) = Y + b := IntWalk.i64_in _ (by omega)
  have u3 : IntKind.i64.wrap (b : Int) = b := IntWalk.i64_in _ (by omega)
  have w0 : ¬ ((W : Int) = 0) := by omega
  have w0' : ¬ (W = 0) := by omega
  have t5 : ((i : Int) % (W : Int)) = (a : Int) := t3
  have t6 : i % W = a := ha.symm
  have t7 : i / W = b := hb'.symm
  have w1 : (1 : Int) ≤ (W : Int) := by omega
  have i0 : (0 : Int) ≤ (i : Int) := by omega
  have b1 : (a : Int) < 512 := by omega
  have b2 : (b : Int) < 512 := by omega
  clear hp hq P Q hb ei hdm hml hdl ha hb' hcl
  go_enter Tryd.func161, Tryd.ntmps161
  go_wp2
  go_region_held3 (fun w' => (∀ o, w'.cell? ⟨q, o, none⟩ = #[.int .i64 X, .int .i64 Y, .int .i64 W, .int .i64 H][o]?) ∧ (∀ o, w'.cell? ⟨p, o, none⟩ = #[.func (.func g) #[] caps][o]?) ∧ Below w2.heap.size w2 w') (first | exact ⟨(blkC (blkStay HQ.out hb9)).1, (blkC (blkStay HP.out hb9)).1, hb9⟩ | exact ⟨(blkC (blkStay HQ.out (by repeat (first | exact Below.refl _ _ | refine Below.alloc ?_ (by first | omega | (simp; done) | (simp; omega)) _ | refine Below.setCell ?_ (by first | omega | (simp; done) | (simp; omega)) _ | refine Below.drew ?_)))).1, (blkC (blkStay HP.out (by repeat (first | exact Below.refl _ _ | refine Below.alloc ?_ (by first | omega | (simp; done) | (simp; omega)) _ | refine Below.setCell ?_ (by first | omega | (simp; done) | (simp; omega)) _ | refine Below.drew ?_)))).1, (by repeat (first | exact Below.refl _ _ | refine Below.alloc ?_ (by first | omega | (simp; done) | (simp; omega)) _ | refine Below.setCell ?_ (by first | omega | (simp; done) | (simp; omega)) _ | refine Below.drew ?_))⟩) (first | (go_simp; (with_reducible refine Calls.mono (CC.out _ ?_) ?_); exact (by repeat (first | exact Below.refl _ _ | refine Below.alloc ?_ (by first | omega | (simp; done) | (simp; omega)) _ | refine Below.setCell ?_ (by first | omega | (simp; done) | (simp; omega)) _ | refine Below.drew ?_)); rintro e w' ⟨rfl, hb8⟩; have hb9 : Below w2.heap.size w2 w' := ⟨hb8.os, hb8.tape, hb8.output, hb8.size, hb8.block⟩; clear hb8))
  rename_i hHeld
  go_wp2
  go_ret
  exact ⟨rfl, hHeld.2.2⟩

set_option maxHeartbeats 2000000 in
theorem byPlace_any (X Y : Int) (W H n : Nat) (g : Nat) (caps : Array Value) (f : Nat → Nat) (w : World) (hcall : Enters g) (hcl : Clos2 g caps X Y W H f w)
    (hX1 : -16777216 ≤ X) (hX2 : X ≤ 16777216) (hY1 : -16777216 ≤ Y) (hY2 : Y ≤ 16777216) (hW1 : 1 ≤ W) (hW2 : W ≤ 512) (hH1 : 1 ≤ H) (hH2 : H ≤ 512) (hn : n = H * W) (hn2 : n ≤ 65536) :
    Calls Tryd.prog 150 #[reg X Y W H, .func (.func g) #[] caps] w (MadePost w X Y W H n f) := by
  have en : (n : Int) = (W : Int) * (H : Int) := by rw [hn, Nat.mul_comm]; simp
  have n1 : 1 ≤ n := by rw [hn]; exact Nat.mul_pos hH1 hW1
  have BC := Lib.hid (byCell_any X Y W H n 161 #[.pointer (some ⟨w.heap.size + 1, 0, none⟩), .pointer (some ⟨w.heap.size, 0, none⟩)] f (((w.alloc (regObj X Y W H)).alloc (fnObj g caps)).alloc (fldO 0 0 0 0 (.slice none 0 0))) enters_place1
    (place1_any X Y W H n g caps f (w.heap.size + 1) w.heap.size _ hcall (fun x y i W' h1 h2 h3 h4 h5 hb => hcl x y i W' h1 h2 h3 h4 h5 (Below.trans (by repeat (first | exact Below.refl _ _ | refine Below.alloc ?_ (by first | omega | (simp; done) | (simp; omega)) _ | refine Below.setCell ?_ (by first | omega | (simp; done) | (simp; omega)) _ | refine Below.drew ?_)) (hb.mono (by simp; omega)))) (by ((simp only [heap_alloc_get, heap_size_alloc, if_true]) <;> ((repeat' split) <;> first | rfl | omega))) (by ((simp only [heap_alloc_get, heap_size_alloc, if_true]) <;> ((repeat' split) <;> first | rfl | omega))) hX1 hX2 hY1 hY2 hW1 hW2 hH2 hn) en n1 hn2)
  clear hcl hcall hn en
  go_enter Tryd.func150, Tryd.ntmps150
  go_wp2_with fail
  refine BC.out.mono ?_
  intro e w4 hmade
  rcases hmade with ⟨hall, b', cap', rfl, hb', hlt', hrow, hbel⟩ | ⟨hall, rfl, hbel⟩
  · have hS := Lib.hid (blkStay (b := w.heap.size + 1 + 1) (o := fldO 0 0 0 0 (.slice none 0 0)) (by ((simp only [heap_alloc_get, heap_size_alloc, if_true]) <;> ((repeat' split) <;> first | rfl | omega))) hbel)
    have hB : Below w.heap.size w w4 := Below.trans (by repeat (first | exact Below.refl _ _ | refine Below.alloc ?_ (by first | omega | (simp; done) | (simp; omega)) _ | refine Below.setCell ?_ (by first | omega | (simp; done) | (simp; omega)) _ | refine Below.drew ?_)) (Below.mono hbel (by simp; omega))
    obtain ⟨cS, fS, zS⟩ := blkC hS.out
    have HB := Lib.hid hb'
    clear hb'
    go_wp2
    refine bodyPost_ret (v := .tuple #[fldV X Y W H (.slice (some ⟨b', 0, none⟩) n cap'), .int .i64 0]) (by simp [results, Tryd.results150, go_sem, cS]) rfl ?_
    have hb' := HB.out
    simp only [heap_size_alloc] at hb'
    exact .inl ⟨hall, b', cap', rfl, by omega, by rw [set5_size]; exact hlt', flAt_congr hrow (set5_heap w4 _ _ _ _ _ _ _ (by omega)), set5_below hB _ _ _ _ _ _ (by omega)⟩
  · have hS := Lib.hid (blkStay (b := w.heap.size + 1 + 1) (o := fldO 0 0 0 0 (.slice none 0 0)) (by ((simp only [heap_alloc_get, heap_size_alloc, if_true]) <;> ((repeat' split) <;> first | rfl | omega))) hbel)
    have hB : Below w.heap.size w w4 := Below.trans (by repeat (first | exact Below.refl _ _ | refine Below.alloc ?_ (by first | omega | (simp; done) | (simp; omega)) _ | refine Below.setCell ?_ (by first | omega | (simp; done) | (simp; omega)) _ | refine Below.drew ?_)) (Below.mono hbel (by simp; omega))
    obtain ⟨cS, fS, zS⟩ := blkC hS.out
    go_wp2
    refine bodyPost_ret (v := .tuple #[fldV 0 0 0 0 (.slice none 0 0), .int .i64 3]) (by simp [results, Tryd.results150, go_sem, cS]) rfl ?_
    exact .inr ⟨hall, rfl, set5_below hB _ _ _ _ _ _ (by omega)⟩

/-- What Make answers. -/
def MakePost (w : World) (X Y W H : Int) (n : Nat) (f : Nat → Nat) (e : Ending) (w' : World) : Prop :=
  (checkR X Y W H ≠ 0 ∧ e = .returned (.tuple #[fldV 0 0 0 0 (.slice none 0 0), .int .i64 (checkR X Y W H)]) ∧ Below w.heap.size w w') ∨ (checkR X Y W H = 0 ∧ MadePost w X Y W H n f e w')

set_option maxHeartbeats 2000000 in
theorem make_ok (X Y : Int) (W H n : Nat) (g : Nat) (caps : Array Value) (f : Nat → Nat) (w : World) (hcall : Enters g) (hcl : Clos2 g caps X Y W H f w) (h0 : checkR X Y W H = 0) (hn : n = H * W) :
    Calls Tryd.prog 124 #[reg X Y W H, .func (.func g) #[] caps] w (MadePost w X Y W H n f) := by
  obtain ⟨b1, b2, b3, b4, b5, b6, b7, b8, b9⟩ := checkR_zero h0
  have hn2 : n ≤ 65536 := by
    have : ((W : Int) * (H : Int)) = (n : Int) := by rw [hn, Nat.mul_comm]; simp
    omega
  have RC := Lib.hid (fun w => checkRegion_any X Y W H w)
  rw [h0] at RC
  have BP := Lib.hid (fun W' (hb : Below w.heap.size w W') => byPlace_any X Y W H n g caps f W' hcall (fun x y i W'' h1 h2 h3 h4 h5 hb' => hcl x y i W'' h1 h2 h3 h4 h5 (hb.trans (hb'.mono hb.size))) (by omega) (by omega) (by omega) (by omega) (by omega) (by omega) (by omega) (by omega) hn hn2)
  clear hcl hcall h0 b1 b2 b3 b4 b5 b6 b7 b8 b9 hn hn2
  go_enter Tryd.func124, Tryd.ntmps124
  go_wp2_with (first | (go_at_call 115; refine (RC.out _).mono ?_; rintro e w' ⟨rfl, rfl⟩))
  refine (BP.out _ (by repeat (first | exact Below.refl _ _ | refine Below.alloc ?_ (by first | omega | (simp; done) | (simp; omega)) _ | refine Below.setCell ?_ (by first | omega | (simp; done) | (simp; omega)) _ | refine Below.drew ?_))).mono ?_
  intro e w4 hmade
  rcases hmade with ⟨hall, b', cap', rfl, hb', hlt', hrow, hbel⟩ | ⟨hall, rfl, hbel⟩
  · have hS := Lib.hid (blkStay (b := w.heap.size + 1) (o := fldO 0 0 0 0 (.slice none 0 0)) (by ((simp only [heap_alloc_get, heap_size_alloc, if_true]) <;> ((repeat' split) <;> first | rfl | omega))) hbel)
    have hB : Below w.heap.size w w4 := Below.trans (by repeat (first | exact Below.refl _ _ | refine Below.alloc ?_ (by first | omega | (simp; done) | (simp; omega)) _ | refine Below.setCell ?_ (by first | omega | (simp; done) | (simp; omega)) _ | refine Below.drew ?_)) (Below.mono hbel (by simp; omega))
    obtain ⟨cS, fS, zS⟩ := blkC hS.out
    have HB := Lib.hid hb'
    clear hb'
    go_wp2
    refine bodyPost_ret (v := .tuple #[fldV X Y W H (.slice (some ⟨b', 0, none⟩) n cap'), .int .i64 0]) (by simp [results, Tryd.results124, go_sem, cS]) rfl ?_
    have hb' := HB.out
    simp only [heap_size_alloc] at hb'
    exact .inl ⟨hall, b', cap', rfl, by omega, by rw [set5_size]; exact hlt', flAt_congr hrow (set5_heap w4 _ _ _ _ _ _ _ (by omega)), set5_below hB _ _ _ _ _ _ (by omega)⟩
  · have hS := Lib.hid (blkStay (b := w.heap.size + 1) (o := fldO 0 0 0 0 (.slice none 0 0)) (by ((simp only [heap_alloc_get, heap_size_alloc, if_true]) <;> ((repeat' split) <;> first | rfl | omega))) hbel)
    have hB : Below w.heap.size w w4 := Below.trans (by repeat (first | exact Below.refl _ _ | refine Below.alloc ?_ (by first | omega | (simp; done) | (simp; omega)) _ | refine Below.setCell ?_ (by first | omega | (simp; done) | (simp; omega)) _ | refine Below.drew ?_)) (Below.mono hbel (by simp; omega))
    obtain ⟨cS, fS, zS⟩ := blkC hS.out
    go_wp2
    refine bodyPost_ret (v := .tuple #[fldV 0 0 0 0 (.slice none 0 0), .int .i64 3]) (by simp [results, Tryd.results124, go_sem, cS]) rfl ?_
    exact .inr ⟨hall, rfl, set5_below hB _ _ _ _ _ _ (by omega)⟩

set_option maxHeartbeats 2000000 in
theorem make_no (X Y W H : Int) (v : Value) (k : Int) (w : World) (hv : ∃ g caps, v = .func (.func g) #[] caps) (h0 : checkR X Y W H = k) (hk : k = 3 ∨ k = 4 ∨ k = 5) :
    Calls Tryd.prog 124 #[reg X Y W H, v] w fun e w' => e = .returned (.tuple #[fldV 0 0 0 0 (.slice none 0 0), .int .i64 k]) ∧ Below w.heap.size w w' := by
  obtain ⟨g, caps, rfl⟩ := hv
  have RC := Lib.hid (fun w => checkRegion_any X Y W H w)
  rw [h0] at RC
  clear h0
  rcases hk with rfl | rfl | rfl
  all_goals go_enter Tryd.func124, Tryd.ntmps124
  all_goals go_wp2_with (first | (go_at_call 115; refine (RC.out _).mono ?_; rintro e w' ⟨rfl, rfl⟩))
  · refine bodyPost_ret (v := .tuple #[fldV 0 0 0 0 (.slice none 0 0), .int .i64 3]) (by simp [results, Tryd.results124, go_sem]) rfl ⟨rfl, ?_⟩
    exact (by repeat (first | exact Below.refl _ _ | refine Below.alloc ?_ (by first | omega | (simp; done) | (simp; omega)) _ | refine Below.setCell ?_ (by first | omega | (simp; done) | (simp; omega)) _ | refine Below.drew ?_))
  · refine bodyPost_ret (v := .tuple #[fldV 0 0 0 0 (.slice none 0 0), .int .i64 4]) (by simp [results, Tryd.results124, go_sem]) rfl ⟨rfl, ?_⟩
    exact (by repeat (first | exact Below.refl _ _ | refine Below.alloc ?_ (by first | omega | (simp; done) | (simp; omega)) _ | refine Below.setCell ?_ (by first | omega | (simp; done) | (simp; omega)) _ | refine Below.drew ?_))
  · refine bodyPost_ret (v := .tuple #[fldV 0 0 0 0 (.slice none 0 0), .int .i64 5]) (by simp [results, Tryd.results124, go_sem]) rfl ⟨rfl, ?_⟩
    exact (by repeat (first | exact Below.refl _ _ | refine Below.alloc ?_ (by first | omega | (simp; done) | (simp; omega)) _ | refine Below.setCell ?_ (by first | omega | (simp; done) | (simp; omega)) _ | refine Below.drew ?_))
end Go.Proofs.YtacbemilicdklaaDoor

/- Contracts: the places and the neighbours of cells, as water reckons them. -/
namespace Go.Proofs.YtacbemilicdklaaDoor
open Go.RowKit Fl
set_option linter.unusedVariables false

/-- The table of directions, as the program's text lays it. -/
def DirsAt (w : World) : Prop := ∀ d, d < 8 → w.cell? ⟨1, d * 2, none⟩ = some (.int .i64 (dxI d)) ∧ w.cell? ⟨1, d * 2 + 1, none⟩ = some (.int .i64 (dyI d))
theorem DirsAt.lt {w : World} (h : DirsAt w) : 1 < w.heap.size := World.block_lt_of_cell? w _ (h 0 (by omega)).1
theorem DirsAt.stay {w w' : World} (h : DirsAt w) (hb : Below w.heap.size w w') : DirsAt w' := fun d hd => by
  have z := h.lt
  obtain ⟨a, b⟩ := h d hd
  obtain ⟨c, _⟩ : (∀ b o, b < w.heap.size → w'.cell? ⟨b, o, none⟩ = w.cell? ⟨b, o, none⟩) ∧ True := ⟨fun b o h => hb.cell (p := ⟨b, o, none⟩) h, trivial⟩
  exact ⟨by rw [c _ _ z]; exact a, by rw [c _ _ z]; exact b⟩
abbrev ptV (x y : Int) : Value := .agg #[.int .i64 x, .int .i64 y]
abbrev ptO (x y : Int) : Obj := .cells #[.int .i64 x, .int .i64 y] 48

set_option maxHeartbeats 1000000 in
theorem onward_any (x y : Int) (d : Nat) (hd : d < 8) (w : World) (hD : DirsAt w) (x1 : -16777216 ≤ x) (x2 : x ≤ 16777216) (y1 : -16777216 ≤ y) (y2 : y ≤ 16777216) :
    Calls Tryd.prog 159 #[ptV x y, .int .i64 d] w fun e w' => e = .returned (ptV (x + dxI d) (y + dyI d)) ∧ Below w.heap.size w w' := by
  obtain ⟨c1, c2⟩ := hD d hd
  have zg := hD.lt
  have zg0 : 0 < w.heap.size := by omega
  have d1 : (d : Int) < 8 := by omega
  have d0 : (0 : Int) ≤ (d : Int) := by omega
  obtain ⟨a1, a2⟩ := dx_in d
  obtain ⟨b1, b2⟩ := dy_in d
  clear hD
  generalize dxI d = p at *
  generalize dyI d = q at *
  go_enter Tryd.func159, Tryd.ntmps159
  go_wp2
  go_region
  all_goals go_wp2
  all_goals refine bodyPost_ret (v := ptV (x + p) (y + q)) (by simp [results, Tryd.results159, go_sem]) rfl ?_
  all_goals exact ⟨rfl, by repeat (first | exact Below.refl _ _ | refine Below.drew ?_ | refine Below.alloc ?_ (by simp; try omega) _ | refine Below.setCell ?_ (by simp; try omega) _)⟩

set_option maxHeartbeats 1000000 in
theorem place_any (X Y : Int) (W H i : Nat) (w : World) (hX1 : -4194304 ≤ X) (hX2 : X ≤ 4194304) (hY1 : -4194304 ≤ Y) (hY2 : Y ≤ 4194304) (hW1 : 1 ≤ W) (hW2 : W ≤ 512) (hi : i < 65536) :
    Calls Tryd.prog 79 #[reg X Y W H, .int .i64 i] w fun e w' => e = .returned (ptV (X + ((i % W : Nat) : Int)) (Y + ((i / W : Nat) : Int))) ∧ Below w.heap.size w w' := by
  obtain ⟨a, ha⟩ : ∃ a : Nat, a = i % W := ⟨_, rfl⟩
  obtain ⟨b, hb'⟩ : ∃ b : Nat, b = i / W := ⟨_, rfl⟩
  have b1 : (a : Int) < 512 := by have := Nat.mod_lt i (show 0 < W by omega); omega
  have b2 : (b : Int) < 65536 := by have := Nat.div_le_self i W; omega
  have t1 : (i : Int).tmod (W : Int) = (a : Int) := by rw [ha]; rw [Int.tmod_eq_emod_of_nonneg (by omega)]; simp
  have t2 : (i : Int).tdiv (W : Int) = (b : Int) := by rw [hb']; rw [Int.tdiv_eq_ediv_of_nonneg (by omega)]; simp
  have t3 : (i : Int) % (W : Int) = (a : Int) := by rw [ha]; simp
  have t4 : (i : Int) / (W : Int) = (b : Int) := by rw [hb']; simp
  have u1 : IntKind.i64.wrap (X + (a : Int)) = X + a := IntWalk.i64_in _ (by omega)
  have u2 : IntKind.i64.wrap (Y + (b : Int)) = Y + b := IntWalk.i64_in _ (by omega)
  have u3 : IntKind.i64.wrap (b : Int) = b := IntWalk.i64_in _ (by omega)
  have w0 : ¬ ((W : Int) = 0) := by omega
  have w0' : ¬ (W = 0) := by omega
  have t6 : i % W = a := ha.symm
  have t7 : i / W = b := hb'.symm
  have w1 : (1 : Int) ≤ (W : Int) := by omega
  have i0 : (0 : Int) ≤ (i : Int) := by omega
  rw [t6, t7]
  clear ha hb'
  go_enter Tryd.func79, Tryd.ntmps79
  go_wp2
  go_region
  all_goals go_wp2
  all_goals refine bodyPost_ret (v := ptV (X + (a : Int)) (Y + (b : Int))) (by simp [results, Tryd.results79, go_sem]) rfl ?_
  all_goals exact ⟨rfl, by repeat (first | exact Below.refl _ _ | refine Below.drew ?_ | refine Below.alloc ?_ (by simp; try omega) _ | refine Below.setCell ?_ (by simp; try omega) _)⟩

/-- Whether a region has a place. -/
def hasB (X Y W H x y : Int) : Bool := withinB x X (X + W - 1) && withinB y Y (Y + H - 1)

set_option maxHeartbeats 1000000 in
theorem has_any (X Y W H x y : Int) (w : World) (hX1 : -16777216 ≤ X) (hX2 : X ≤ 16777216) (hY1 : -16777216 ≤ Y) (hY2 : Y ≤ 16777216) (hW1 : 0 ≤ W) (hW2 : W ≤ 512) (hH1 : 0 ≤ H) (hH2 : H ≤ 512) :
    Calls Tryd.prog 77 #[reg X Y W H, .int .i64 x, .int .i64 y] w fun e w' => e = .returned (.bool (hasB X Y W H x y)) ∧ w.alloc (regObj X Y W H) = w' := by
  unfold hasB
  have W1 := Lib.hid (fun w => within_any x X (X + W - 1) w)
  have W2 := Lib.hid (fun w => within_any y Y (Y + H - 1) w)
  generalize withinB x X (X + W - 1) = a at *
  generalize withinB y Y (Y + H - 1) = b at *
  cases a with
  | false =>
    go_enter Tryd.func77, Tryd.ntmps77
    go_wp2_with (first | (go_at_call 94; (with_reducible refine (W1.out _).mono ?_); rintro e w' ⟨rfl, rfl⟩) | (go_at_call 94; (with_reducible refine (W2.out _).mono ?_); rintro e w' ⟨rfl, rfl⟩))
    go_ret
    exact ⟨by simp, rfl⟩
  | true =>
    go_enter Tryd.func77, Tryd.ntmps77
    go_wp2_with (first | (go_at_call 94; (with_reducible refine (W1.out _).mono ?_); rintro e w' ⟨rfl, rfl⟩) | (go_at_call 94; (with_reducible refine (W2.out _).mono ?_); rintro e w' ⟨rfl, rfl⟩))
    go_ret
    exact ⟨by simp, rfl⟩

set_option maxHeartbeats 1000000 in
theorem indexI_any (X Y W H x y : Int) (w : World) (hX1 : -16777216 ≤ X) (hX2 : X ≤ 16777216) (hY1 : -16777216 ≤ Y) (hY2 : Y ≤ 16777216) (hW1 : 0 ≤ W) (hW2 : W ≤ 512)
    (h1 : -16777216 ≤ x) (h2 : x ≤ 16777216) (h3 : -16777216 ≤ y) (h4 : y ≤ 16777216) :
    Calls Tryd.prog 78 #[reg X Y W H, .int .i64 x, .int .i64 y] w fun e w' => e = .returned (.int .i64 ((y - Y) * W + (x - X))) ∧ w.alloc (regObj X Y W H) = w' := by
  have q1 : (y - Y) * W ≤ 33554432 * W := Int.mul_le_mul_of_nonneg_right (by omega) hW1
  have q2 : (-33554432) * W ≤ (y - Y) * W := Int.mul_le_mul_of_nonneg_right (by omega) hW1
  have e2 : wrap64 ((y - Y) * W) = (y - Y) * W := IntWalk.wrap64_in _ ⟨by omega, by omega⟩
  have e3 : wrap64 ((y - Y) * W + x) = (y - Y) * W + x := IntWalk.wrap64_in _ ⟨by omega, by omega⟩
  have e4 : wrap64 ((y - Y) * W + x - X) = (y - Y) * W + (x - X) := by rw [IntWalk.wrap64_in _ ⟨by omega, by omega⟩]; omega
  clear q1 q2
  go_enter Tryd.func78, Tryd.ntmps78
  go_wp2
  go_ret
  exact ⟨ret_int e4, rfl⟩

set_option maxHeartbeats 2000000 in
theorem beside_any (X Y x y : Int) (W H d : Nat) (w : World) (hD : DirsAt w) (hd : d < 8) (hX1 : -4194304 ≤ X) (hX2 : X ≤ 4194304) (hY1 : -4194304 ≤ Y) (hY2 : Y ≤ 4194304) (hW2 : W ≤ 512) (hH2 : H ≤ 512)
    (h1 : -4194304 ≤ x) (h2 : x ≤ 4194304) (h3 : -4194304 ≤ y) (h4 : y ≤ 4194304) :
    Calls Tryd.prog 148 #[reg X Y W H, ptV x y, .int .i64 d] w fun e w' => e = .returned (.tuple #[.int .i64 ((y + dyI d - Y) * W + (x + dxI d - X)), .bool (hasB X Y W H (x + dxI d) (y + dyI d))]) ∧ Below w.heap.size w w' := by
  have zg := hD.lt
  have ON := Lib.hid (fun W' (hb : Below w.heap.size w W') => onward_any x y d hd W' (hD.stay hb) (by omega) (by omega) (by omega) (by omega))
  obtain ⟨a1, a2⟩ := dx_in d
  obtain ⟨b1, b2⟩ := dy_in d
  have IX := Lib.hid (fun w => indexI_any X Y W H (x + dxI d) (y + dyI d) w (by omega) (by omega) (by omega) (by omega) (by omega) (by omega) (by omega) (by omega) (by omega) (by omega))
  have HS := Lib.hid (fun w => has_any X Y W H (x + dxI d) (y + dyI d) w (by omega) (by omega) (by omega) (by omega) (by omega) (by omega) (by omega) (by omega))
  clear hD
  generalize hasB X Y W H (x + dxI d) (y + dyI d) = hb at *
  generalize (y + dyI d - Y) * (W : Int) + (x + dxI d - X) = ix at *
  generalize x + dxI d = x' at *
  generalize y + dyI d = y' at *
  clear a1 a2 b1 b2
  go_enter Tryd.func148, Tryd.ntmps148
  go_wp2_with (go_at_call 159; refine (ON.out _ (by repeat (first | exact Below.refl _ _ | refine Below.alloc ?_ (by first | omega | (simp; done) | (simp; omega)) _ | refine Below.setCell ?_ (by first | omega | (simp; done) | (simp; omega)) _ | refine Below.drew ?_))).mono ?_; rintro e w3 ⟨rfl, hb3⟩; have HR3 := Lib.hid (blkStay (b := w.heap.size) (o := regObj X Y W H) (by ((simp only [heap_alloc_get, heap_size_alloc, if_true]) <;> ((repeat' split) <;> first | rfl | omega))) hb3); have hB3 : Below w.heap.size w w3 := Below.trans (by repeat (first | exact Below.refl _ _ | refine Below.alloc ?_ (by first | omega | (simp; done) | (simp; omega)) _ | refine Below.setCell ?_ (by first | omega | (simp; done) | (simp; omega)) _ | refine Below.drew ?_)) (Below.mono hb3 (by first | omega | (simp; done) | (simp; omega))); obtain ⟨cR, fR, zR⟩ := blkC HR3.out; clear hb3)
  have GP := Lib.hid (heap_alloc_get (w3) (ptO x' y') w3.heap.size)
  go_region_held3 (fun w' => (∀ o, w'.cell? ⟨w.heap.size, o, none⟩ = #[.int .i64 X, .int .i64 Y, .int .i64 W, .int .i64 H][o]?) ∧ (∀ o, w'.cell? ⟨w3.heap.size, o, none⟩ = #[.int .i64 x', .int .i64 y'][o]?) ∧ Below w3.heap.size w3 w') (first | exact ⟨(blkC (blkStay HR3.out (by repeat (first | exact Below.refl _ _ | refine Below.alloc ?_ (by first | omega | (simp; done) | (simp; omega)) _ | refine Below.setCell ?_ (by first | omega | (simp; done) | (simp; omega)) _ | refine Below.drew ?_)))).1, (blkC (blkStay (W := w3.alloc (ptO x' y')) (b := w3.heap.size) (o := ptO x' y') (by ((simp only [heap_alloc_get, if_true]) <;> ((repeat' split) <;> first | rfl | omega))) (by repeat (first | exact Below.refl _ _ | refine Below.alloc ?_ (by first | omega | (simp; done) | (simp; omega)) _ | refine Below.setCell ?_ (by first | omega | (simp; done) | (simp; omega)) _ | refine Below.drew ?_)))).1, (by repeat (first | exact Below.refl _ _ | refine Below.alloc ?_ (by first | omega | (simp; done) | (simp; omega)) _ | refine Below.setCell ?_ (by first | omega | (simp; done) | (simp; omega)) _ | refine Below.drew ?_))⟩) (first
    | (go_at_call 78; (with_reducible refine Calls.mono (IX.out _) ?_); rintro e w' ⟨rfl, rfl⟩)
    | (go_at_call 77; (with_reducible refine Calls.mono (HS.out _) ?_); rintro e w' ⟨rfl, rfl⟩))
  rename_i wh hHeld
  go_wp2
  go_ret2
  exact ⟨rfl, hB3.trans (hHeld.2.2.mono hB3.size)⟩

/-- A neighbour of the cell k, as water reckons it. -/
theorem bes_some {X Y : Int} {W H k d m : Nat} (hk : k < W * H) (h : nbI W H k d = some m) :
    (Y + ((k / W : Nat) : Int) + dyI d - Y) * (W : Int) + (X + ((k % W : Nat) : Int) + dxI d - X) = (m : Int) ∧ hasB X Y W H (X + ((k % W : Nat) : Int) + dxI d) (Y + ((k / W : Nat) : Int) + dyI d) = true := by
  obtain ⟨x, y, hx, hy, h1, h2, rfl⟩ := nbI_some h
  constructor
  · rw [show Y + ((k / W : Nat) : Int) + dyI d - Y = (y : Int) by omega, show X + ((k % W : Nat) : Int) + dxI d - X = (x : Int) by omega]; simp
  · unfold hasB; rw [Bool.and_eq_true, withinB_iff, withinB_iff]; omega
theorem bes_none {X Y : Int} {W H k d : Nat} (h : nbI W H k d = none) : hasB X Y W H (X + ((k % W : Nat) : Int) + dxI d) (Y + ((k / W : Nat) : Int) + dyI d) = false := by
  cases e : hasB X Y W H (X + ((k % W : Nat) : Int) + dxI d) (Y + ((k / W : Nat) : Int) + dyI d) with
  | false => rfl
  | true =>
    unfold hasB at e
    rw [Bool.and_eq_true, withinB_iff, withinB_iff] at e
    generalize hp : k % W = p at *
    generalize hq : k / W = q at *
    have := nbI_mk (W := W) (H := H) (k := k) (d := d) (x := ((p : Int) + dxI d).toNat) (y := ((q : Int) + dyI d).toNat) (by rw [hp]; omega) (by rw [hq]; omega) (by omega) (by omega)
    rw [h] at this; cases this
end Go.Proofs.YtacbemilicdklaaDoor

/- Contracts: Hash, Unit, Signed of both sides. -/
namespace Go.Proofs.YtacbemilicdklaaDoor
open Go.RowKit Fl
set_option linter.unusedVariables false

/-- Exclusive or of two words of 32 bits. -/
def xorU (a b : Int) : Int := bits .xor .u32 a b
theorem xorU_in (a b : Int) : 0 ≤ xorU a b ∧ xorU a b < 4294967296 := by
  unfold xorU bits; simp only [IntKind.wrap_u32]; omega
def stA (h : Int) : Int := xorU h (h / 65536) * 2246822507 % 4294967296
def stB (h : Int) : Int := xorU h (h / 8192) * 3266489909 % 4294967296
def stC (h : Int) : Int := xorU h (h / 65536)
/-- Stirred once. -/
def stirI (h : Int) : Int := stC (stB (stA h))
theorem stirI_in (h : Int) : 0 ≤ stirI h ∧ stirI h < 4294967296 := xorU_in _ _
/-- The state behind one more whole number. -/
def stepI (h n : Int) : Int := stirI (xorU h (n % 4294967296))
theorem stepI_in (h n : Int) : 0 ≤ stepI h n ∧ stepI h n < 4294967296 := stirI_in _
def hashI (s x y n : Int) : Int := stepI (stepI (stepI s x) y) n
theorem hashI_in (s x y n : Int) : 0 ≤ hashI s x y n ∧ hashI s x y n < 4294967296 := stepI_in _ _

set_option maxHeartbeats 400000 in
theorem stir_any (h : Int) (w : World) :
    Calls Tryd.prog 145 #[.int .u32 h] w fun e w' => e = .returned (.int .u32 (stirI h)) ∧ w = w' := by
  go_enter Tryd.func145, Tryd.ntmps145
  go_wp2
  go_ret
  exact ⟨ret_int rfl, rfl⟩

set_option maxHeartbeats 400000 in
theorem hash_any (s x y n : Int) (w : World) :
    Calls Tryd.prog 116 #[.int .u32 s, .int .i64 x, .int .i64 y, .int .i64 n] w fun e w' => e = .returned (.int .u32 (hashI s x y n)) ∧ w = w' := by
  go_enter Tryd.func116, Tryd.ntmps116
  go_wp2_with (go_at_call 145; refine (stir_any _ _).mono ?_; rintro e w' ⟨rfl, rfl⟩)
  go_ret
  exact ⟨ret_int rfl, rfl⟩

/-- The reference's rounds: the place and the state. -/
inductive HashAt (s x y n : Int) : Value → Value → Prop where
  | z : HashAt s x y n (.int .u32 s) (.int .i64 0)
  | a : HashAt s x y n (.int .u32 (stepI s x)) (.int .i64 1)
  | b : HashAt s x y n (.int .u32 (stepI (stepI s x) y)) (.int .i64 2)
  | c : HashAt s x y n (.int .u32 (hashI s x y n)) (.int .i64 3)

end Go.Proofs.YtacbemilicdklaaDoor

/- Contracts: the reference's RegionError, Place, Mixed; the law's within, when, first (of two). -/
namespace Go.Proofs.YtacbemilicdklaaDoor
open Go.RowKit Fl
set_option linter.unusedVariables false

set_option maxHeartbeats 400000 in
theorem qRegionError_any (x y ww hh : Int) (w : World) :
    Calls Tryd.prog 62 #[reg x y ww hh] w fun e w' => e = .returned (.int .i64 (checkR x y ww hh)) ∧ w' = w.alloc (regObj x y ww hh) := by
  go_enter Tryd.func62, Tryd.ntmps62
  go_wp2
  all_goals go_ret
  all_goals refine ⟨ret_int (Eq.symm ?_), rfl⟩
  all_goals first
    | exact checkR_range (by simp only [withinB_no]; omega)
    | exact checkR_large (by simp only [withinB_iff]; omega) (by simp only [withinB_iff]; omega) (by omega)
    | exact checkR_place (by simp only [withinB_iff]; omega) (by simp only [withinB_iff]; omega) (by omega) (by simp only [withinB_no]; omega)
    | exact checkR_ok (by simp only [withinB_iff]; omega) (by simp only [withinB_iff]; omega) (by omega) (by simp only [withinB_iff]; omega) (by simp only [withinB_iff]; omega)

set_option maxHeartbeats 400000 in
theorem mWithin_any (n a b : Int) (w : World) :
    Calls Tryd.prog 46 #[.int .i64 n, .int .i64 a, .int .i64 b] w fun e w' => e = .returned (.bool (withinB n a b)) ∧ w = w' := by
  go_enter Tryd.func46, Tryd.ntmps46
  go_wp2
  all_goals go_ret
  all_goals exact ⟨ret_bool (by rw [Bool.eq_iff_iff, withinB_iff]; simp; omega), rfl⟩

def whenE (c : Bool) (k : Int) : Int := if c = true then k else 0
set_option maxHeartbeats 400000 in
theorem when_any (c : Bool) (k : Int) (w : World) :
    Calls Tryd.prog 19 #[.bool c, .int .i64 k] w fun e w' => e = .returned (.int .i64 (whenE c k)) ∧ w = w' := by
  unfold whenE
  cases c
  all_goals
    go_enter Tryd.func19, Tryd.ntmps19
    go_wp2
    go_ret
    exact ⟨rfl, rfl⟩

inductive FirstAt (a b : Int) : Value → Prop where
  | z : FirstAt a b (.int .i64 0)
  | a (h : a = 0) : FirstAt a b (.int .i64 1)
  | b (h : a = 0) (h' : b = 0) : FirstAt a b (.int .i64 2)
def firstE (a b : Int) : Int := if a = 0 then b else a
set_option maxHeartbeats 1000000 in
theorem first2_any (a b : Int) (p : Nat) (w : World) (h : w.heap[p]? = some (.cells #[.int .i64 a, .int .i64 b] 28)) :
    Calls Tryd.prog 16 #[.slice (some ⟨p, 0, none⟩) 2 2] w fun e w' => e = .returned (.int .i64 (firstE a b)) ∧ w = w' := by
  unfold firstE
  obtain ⟨c, f, z⟩ := blkC h
  clear h
  go_enter Tryd.func16, Tryd.ntmps16
  go_wp2
  go_loop [7] (fun i => FirstAt a b i) (fun i => 2 - (intOf i).toNat)
  case atStart => exact .z
  case round =>
    rcases hrel with _ | ha | ⟨ha, hb⟩
    · by_cases h0 : a = 0
      · subst h0
        go_wp2
        go_round
        case rel => exact .a rfl
        case measure => simp [intOf]
      · go_wp2
        go_ret
        exact ⟨by simp, rfl⟩
    · subst ha
      by_cases h0 : b = 0
      · subst h0
        go_wp2
        go_round
        case rel => exact .b rfl rfl
        case measure => simp [intOf]
      · go_wp2
        go_ret
        exact ⟨rfl, rfl⟩
    · subst ha hb
      go_wp2
      go_ret
      exact ⟨rfl, rfl⟩

set_option maxHeartbeats 1000000 in
theorem mixed_any (s x y n : Int) (w : World) :
    Calls Tryd.prog 63 #[.int .u32 s, .int .i64 x, .int .i64 y, .int .i64 n] w fun e w' => e = .returned (.int .u32 (hashI s x y n)) ∧ Below w.heap.size w w' := by
  go_enter Tryd.func63, Tryd.ntmps63
  go_wp2
  go_loop [9, 18] (fun h i => HashAt s x y n h i) (fun _ i => 3 - (intOf i).toNat)
  case atStart => exact .z
  case round =>
    cases hrel
    case z =>
      go_wp2
      go_round
      case rel => exact .a
      case measure => simp [intOf]
    case a =>
      go_wp2
      go_round
      case rel => exact .b
      case measure => simp [intOf]
    case b =>
      go_wp2
      go_round
      case rel => exact .c
      case measure => simp [intOf]
    case c =>
      go_wp2
      go_ret
      exact ⟨rfl, (by repeat (first | exact Below.refl _ _ | refine Below.alloc ?_ (by first | omega | (simp; done) | (simp; omega)) _ | refine Below.setCell ?_ (by first | omega | (simp; done) | (simp; omega)) _ | refine Below.drew ?_))⟩
end Go.Proofs.YtacbemilicdklaaDoor

/- What many laws want: two singles as a list, what a function that makes a field answers, the number of a cell. -/
namespace Go.Proofs.YtacbemilicdklaaDoor
open Go.RowKit Fl
set_option linter.unusedVariables false

theorem heap_alloc_new (w : World) (o : Obj) : (w.alloc o).heap[w.heap.size]? = some o := by rw [heap_alloc_get, if_pos rfl]

/-- A single in a block of its own. -/
abbrev flObj (x : Nat) : Obj := .cells #[.float .f32 x] 27

theorem below_drewN (w : World) (k : Nat) : Below w.heap.size w (w.drewN k) := by
  induction k with
  | zero => exact Below.refl _ _
  | succ k ih => exact ih.drew

/-- Two singles, as a list. -/
def two (m c : Nat) (i : Nat) : Nat := if i = 0 then m else c
theorem flAt_two {w : World} {b m c : Nat} (h : w.heap[b]? = some (.cells #[.float .f32 m, .float .f32 c] 27)) : FlAt w b 0 2 (two m c) := by
  intro i hi
  rw [Nat.zero_add, (blkC h).1 i]
  have : i = 0 ∨ i = 1 := by omega
  rcases this with rfl | rfl <;> rfl
theorem two_hgt {m c : Nat} (h : fldE 2 (two m c) = 0) : hgtB m = true ∧ hgtB c = true := by
  have := allB_iff.1 (fldE_zero.1 h)
  exact ⟨this 0 (by omega), this 1 (by omega)⟩

/-- What Scale and Clamp answer: the error of their singles, another error, or a field that is made. -/
def ScPost (w : World) (X Y W H : Int) (n : Nat) (f : Nat → Nat) (er : Int) (e : Ending) (w' : World) : Prop :=
  (er ≠ 0 ∧ e = .returned (.tuple #[fldV 0 0 0 0 (.slice none 0 0), .int .i64 er]) ∧ Below w.heap.size w w') ∨ (er = 0 ∧ MadePost w X Y W H n f e w')

theorem num_lt {X Y x y : Int} {W H n i : Nat} (hW1 : 1 ≤ W) (h1 : X ≤ x) (h2 : x < X + W) (h4 : y < Y + H) (h5 : (i : Int) = (y - Y) * W + (x - X)) (hnn : n = H * W) : i < n := by
  have a : (y - Y) * W ≤ ((H : Int) - 1) * W := Int.mul_le_mul_of_nonneg_right (by omega) (by omega)
  have b : ((H : Int) - 1) * W = (n : Int) - W := by rw [hnn, Int.sub_mul]; simp
  omega

theorem f32f : FloatKind.f32.format = Ieee.single := rfl
theorem one_vTop : (one : Int) ≤ vTop := by
  obtain ⟨J, hJ⟩ : ∃ J : Nat, J = 1074 := ⟨_, rfl⟩
  rw [one_pow hJ]; unfold vTop
  rw [Nat.one_mul]
  exact Int.ofNat_le.2 (Nat.pow_le_pow_right (by omega) (by omega))

end Go.Proofs.YtacbemilicdklaaDoor

/- Contracts: the methods of the heap of cells: Len, Less, Swap, Push, Pop. -/
namespace Go.Proofs.YtacbemilicdklaaDoor
open Go.RowKit Fl
set_option linter.unusedVariables false

def cellsL (c : Nat → Nat) (m : Nat) : List Value := (List.range m).map fun i => Value.int .i64 ((c i : Nat) : Int)
theorem cellsL_len (c : Nat → Nat) (m : Nat) : (cellsL c m).length = m := by simp [cellsL]
theorem cellsL_get {c : Nat → Nat} {m i : Nat} (h : i < m) : (cellsL c m)[i]? = some (.int .i64 ((c i : Nat) : Int)) := by simp [cellsL, h]
theorem cellsL_swap {c : Nat → Nat} {m i j : Nat} (hi : i < m) (hj : j < m) : ((cellsL c m).set i (.int .i64 ((c j : Nat) : Int))).set j (.int .i64 ((c i : Nat) : Int)) = cellsL (swp c i j) m := by
  apply List.ext_getElem?
  intro k
  rw [List.getElem?_set, List.getElem?_set]
  by_cases e : k < m
  · rw [cellsL_get e]
    by_cases e1 : j = k
    · subst e1
      rw [if_pos rfl, if_pos (by simpa [cellsL] using e), cellsL_get e, swp_j]
    · rw [if_neg e1]
      by_cases e2 : i = k
      · subst e2
        rw [if_pos rfl, if_pos (by simpa [cellsL] using e), cellsL_get e, swp_i]
      · rw [if_neg e2, cellsL_get e, swp_o c (by omega) (by omega)]
  · have n0 : (cellsL (swp c i j) m)[k]? = none := List.getElem?_eq_none (by simp [cellsL]; omega)
    have n1 : (cellsL c m)[k]? = none := List.getElem?_eq_none (by simp [cellsL]; omega)
    rw [n0, if_neg (by omega), if_neg (by omega), n1]
theorem cellsL_swap' {c : Nat → Nat} {m i j : Nat} (hi : i < m) (hj : j < m) : ((cellsL c m).set j (.int .i64 ((c i : Nat) : Int))).set i (.int .i64 ((c j : Nat) : Int)) = cellsL (swp c i j) m := by
  rw [cellsL_swap hj hi]
  unfold cellsL
  apply List.map_congr_left
  intro k _
  unfold swp
  by_cases e1 : k = i
  · subst e1
    by_cases e2 : k = j
    · subst e2; rfl
    · rw [if_neg e2, if_pos rfl, if_pos rfl]
  · rw [if_neg e1, if_neg e1]
theorem cellsL_succ (c : Nat → Nat) (m k : Nat) : cellsL c m ++ [.int .i64 ((k : Nat) : Int)] = cellsL (updW c m k) (m + 1) := by
  unfold cellsL
  rw [List.range_succ, List.map_append]
  congr 1
  · apply List.map_congr_left
    intro i hi
    rw [updW_other c (by have := List.mem_range.1 hi; omega)]
  · simp [updW_same]
theorem cellsL_take (c : Nat → Nat) (m : Nat) : (cellsL c (m + 1)).take m = cellsL c m := by
  unfold cellsL
  rw [← List.map_take, List.take_range]
  simp

abbrev headsO (g m cap sb n scap : Nat) : Obj := .cells #[.slice (some ⟨g, 0, none⟩) m cap, .slice (some ⟨sb, 0, none⟩) n scap] 135
/-- The heap in the block hb: m cells in the block g, and the spills of all n cells in the block sb. -/
structure HeadsAt (w : World) (hb sb n scap g cap m : Nat) (c s : Nat → Nat) : Prop where
  obj : w.heap[hb]? = some (headsO g m cap sb n scap)
  own : w.ownsRow 0 3 1 (.slice (some ⟨g, 0, none⟩) m cap) m (cellsL c m)
  sp : FlAt w sb 0 n s
  gh : g ≠ hb
  gs : g ≠ sb
  hs : hb ≠ sb
  nc : n ≤ scap
  n1 : 1 ≤ n
  n2 : n ≤ 65536
  m2 : m ≤ 131072
theorem HeadsAt.cap1 {w : World} {hb sb n scap g cap m : Nat} {c s : Nat → Nat} (h : HeadsAt w hb sb n scap g cap m c s) : m ≤ cap ∧ cap ≤ maxLen ∧ g < w.heap.size := by
  rcases h.own.2 with ⟨h', _⟩ | ⟨g', cap', cur, h', _, hg, a, b, _⟩
  · cases h'
  · cases h'
    exact ⟨a, b, (blkC hg).2.2⟩
theorem HeadsAt.cell {w : World} {hb sb n scap g cap m : Nat} {c s : Nat → Nat} (h : HeadsAt w hb sb n scap g cap m c s) {i : Nat} (hi : i < m) : w.cell? ⟨g, i, none⟩ = some (.int .i64 ((c i : Nat) : Int)) := by
  rw [h.own.cellAt i (by omega), cellsL_get hi]

set_option maxHeartbeats 400000 in
theorem len_any (w : World) (hb sb n scap g cap m : Nat) (c s : Nat → Nat) (h : HeadsAt w hb sb n scap g cap m c s) :
    Calls Tryd.prog 120 #[.pointer (some ⟨hb, 0, none⟩)] w fun e w' => e = .returned (.int .i64 m) ∧ w = w' := by
  obtain ⟨cH, fH, zH⟩ := blkC h.obj
  clear h
  go_enter Tryd.func120, Tryd.ntmps120
  go_wp2
  go_ret
  exact ⟨rfl, rfl⟩

set_option maxHeartbeats 2000000 in
theorem less_any (w : World) (hb sb n scap g cap m : Nat) (c s : Nat → Nat) (h : HeadsAt w hb sb n scap g cap m c s) (i j : Nat) (hi : i < m) (hj : j < m) (ci : c i < n) (cj : c j < n) :
    Calls Tryd.prog 184 #[.pointer (some ⟨hb, 0, none⟩), .int .i64 i, .int .i64 j] w fun e w' => e = .returned (.bool (ltB (s (c i)) (s (c j)))) ∧ ∃ q, w' = w.drewN q := by
  obtain ⟨cH, fH, zH⟩ := blkC h.obj
  have k1 := h.cell hi
  have k2 := h.cell hj
  have k3 := h.sp (c i) ci
  have k4 := h.sp (c j) cj
  rw [Nat.zero_add] at k3 k4
  have i1 : (i : Int) < (m : Int) := by omega
  have j1 : (j : Int) < (m : Int) := by omega
  have a1 : ((c i : Nat) : Int) < (n : Int) := by omega
  have a2 : ((c j : Nat) : Int) < (n : Int) := by omega
  clear h ci cj hi hj
  unfold ltB
  generalize s (c i) = x at *
  generalize s (c j) = y at *
  generalize c i = p at *
  generalize c j = q at *
  go_enter Tryd.func184, Tryd.ntmps184
  go_wp2
  go_quiet (fail)
  go_wp2
  go_ret
  exact ⟨rfl, _, rfl⟩

/-- What the heap's methods keep: every block that was there, but for the heap's own and the one of its cells. -/
structure Kept (hb g : Nat) (w w' : World) : Prop where
  os : w'.os = w.os
  tape : w'.tape = w.tape
  output : w'.output = w.output
  size : w.heap.size ≤ w'.heap.size
  block : ∀ k, k < w.heap.size → k ≠ hb → k ≠ g → w'.heap[k]? = w.heap[k]?
theorem Kept.refl (hb g : Nat) (w : World) : Kept hb g w w := ⟨rfl, rfl, rfl, Nat.le_refl _, fun _ _ _ _ => rfl⟩
theorem Kept.drewN (hb g : Nat) (w : World) (q : Nat) : Kept hb g w (w.drewN q) := ⟨rfl, rfl, rfl, Nat.le_refl _, fun _ _ _ _ => rfl⟩
theorem Kept.trans {hb g g' : Nat} {a b c : World} (h : Kept hb g a b) (k : Kept hb g' b c) (hg : g' = g ∨ a.heap.size ≤ g') : Kept hb g a c :=
  ⟨k.os.trans h.os, k.tape.trans h.tape, k.output.trans h.output, Nat.le_trans h.size k.size, fun i hi h1 h2 => (k.block i (Nat.lt_of_lt_of_le hi h.size) h1 (by rcases hg with rfl | hg <;> omega)).trans (h.block i hi h1 h2)⟩
theorem Kept.setCell {hb g : Nat} {a b : World} (h : Kept hb g a b) {p : Addr} (hp : p.block = hb ∨ p.block = g) (u : Value) : Kept hb g a (b.setCell p u) :=
  ⟨h.os, h.tape, h.output, by simpa using h.size, fun i hi h1 h2 => (heap_setCell_other b p i u (by rcases hp with e | e <;> rw [e] <;> omega)).trans (h.block i hi h1 h2)⟩
theorem HeadsAt.kept {w w' : World} {hb sb n scap g cap m : Nat} {c s : Nat → Nat} (h : HeadsAt w hb sb n scap g cap m c s) (e : ∀ k, k = hb ∨ k = sb ∨ k = g → w'.heap[k]? = w.heap[k]?) : HeadsAt w' hb sb n scap g cap m c s := by
  refine ⟨(e hb (.inl rfl)).trans h.obj, ?_, flAt_congr h.sp (e sb (.inr (.inl rfl))), h.gh, h.gs, h.hs, h.nc, h.n1, h.n2, h.m2⟩
  obtain ⟨h1, h2⟩ := h.own
  refine ⟨h1, ?_⟩
  rcases h2 with h2 | ⟨g', cap', cur, hv, hg, hh, r⟩
  · exact .inl h2
  · cases hv
    exact .inr ⟨g, cap, cur, rfl, hg, (e g (.inr (.inr rfl))).trans hh, r⟩
theorem HeadsAt.drewN {w : World} {hb sb n scap g cap m : Nat} {c s : Nat → Nat} (h : HeadsAt w hb sb n scap g cap m c s) (q : Nat) : HeadsAt (w.drewN q) hb sb n scap g cap m c s := h.kept fun _ _ => rfl

theorem heads_swap {w : World} {hb sb n scap g cap m : Nat} {c s : Nat → Nat} (h : HeadsAt w hb sb n scap g cap m c s) {i j : Nat} (hi : i < m) (hj : j < m) :
    HeadsAt ((w.setCell ⟨g, i, none⟩ (.int .i64 ((c j : Nat) : Int))).setCell ⟨g, j, none⟩ (.int .i64 ((c i : Nat) : Int))) hb sb n scap g cap m (swp c i j) s := by
  have o := ((h.own.stored i (.int .i64 ((c j : Nat) : Int))).1.stored j (.int .i64 ((c i : Nat) : Int))).1
  rw [cellsL_swap hi hj] at o
  have e : ∀ k, k ≠ g → ((w.setCell ⟨g, i, none⟩ (.int .i64 ((c j : Nat) : Int))).setCell ⟨g, j, none⟩ (.int .i64 ((c i : Nat) : Int))).heap[k]? = w.heap[k]? := fun k hk =>
    (heap_setCell_other _ _ k _ hk).trans (heap_setCell_other _ _ k _ hk)
  exact ⟨(e hb (Ne.symm h.gh)).trans h.obj, o, flAt_congr h.sp (e sb (Ne.symm h.gs)), h.gh, h.gs, h.hs, h.nc, h.n1, h.n2, h.m2⟩
theorem heads_swap' {w : World} {hb sb n scap g cap m : Nat} {c s : Nat → Nat} (h : HeadsAt w hb sb n scap g cap m c s) {i j : Nat} (hi : i < m) (hj : j < m) :
    HeadsAt ((w.setCell ⟨g, j, none⟩ (.int .i64 ((c i : Nat) : Int))).setCell ⟨g, i, none⟩ (.int .i64 ((c j : Nat) : Int))) hb sb n scap g cap m (swp c i j) s := by
  have o := ((h.own.stored j (.int .i64 ((c i : Nat) : Int))).1.stored i (.int .i64 ((c j : Nat) : Int))).1
  rw [cellsL_swap' hi hj] at o
  have e : ∀ k, k ≠ g → ((w.setCell ⟨g, j, none⟩ (.int .i64 ((c i : Nat) : Int))).setCell ⟨g, i, none⟩ (.int .i64 ((c j : Nat) : Int))).heap[k]? = w.heap[k]? := fun k hk =>
    (heap_setCell_other _ _ k _ hk).trans (heap_setCell_other _ _ k _ hk)
  exact ⟨(e hb (Ne.symm h.gh)).trans h.obj, o, flAt_congr h.sp (e sb (Ne.symm h.gs)), h.gh, h.gs, h.hs, h.nc, h.n1, h.n2, h.m2⟩

set_option maxHeartbeats 4000000 in
theorem swap_any (w : World) (hb sb n scap g cap m : Nat) (c s : Nat → Nat) (h : HeadsAt w hb sb n scap g cap m c s) (i j : Nat) (hi : i < m) (hj : j < m) :
    Calls Tryd.prog 187 #[.pointer (some ⟨hb, 0, none⟩), .int .i64 i, .int .i64 j] w fun e w' => e = .returned (.tuple #[]) ∧ HeadsAt w' hb sb n scap g cap m (swp c i j) s ∧ Kept hb g w w' := by
  have H := Lib.hid h
  obtain ⟨cH, fH, zH⟩ := blkC h.obj
  have c0 : w.cell? ⟨hb, 0, none⟩ = some (.slice (some ⟨g, 0, none⟩) m cap) := cH 0
  clear cH
  have gne := h.gh
  have k1 := h.cell hi
  have k2 := h.cell hj
  have f1 := h.own.frozenAt i
  have f2 := h.own.frozenAt j
  have i1 : (i : Int) < (m : Int) := by omega
  have j1 : (j : Int) < (m : Int) := by omega
  obtain ⟨v1, y1⟩ := cell?_setCell_some (w := w) (p := ⟨g, i, none⟩) (x := .int .i64 ((c j : Nat) : Int)) (q := ⟨g, j, none⟩) (v := .int .i64 ((c j : Nat) : Int)) k2
  obtain ⟨v2, y2⟩ := cell?_setCell_some (w := w) (p := ⟨g, j, none⟩) (x := .int .i64 ((c i : Nat) : Int)) (q := ⟨g, i, none⟩) (v := .int .i64 ((c i : Nat) : Int)) k1
  have I := Lib.hid hi
  have J := Lib.hid hj
  clear h hi hj
  go_enter Tryd.func187, Tryd.ntmps187
  go_wp2
  go_region
  all_goals go_end0
  all_goals first
    | exact ⟨rfl, (heads_swap H.out I.out J.out).kept (fun _ _ => rfl), ((Kept.refl hb g w).setCell (.inr rfl) _).setCell (.inr rfl) _⟩
    | exact ⟨rfl, (heads_swap' H.out I.out J.out).kept (fun _ _ => rfl), ((Kept.refl hb g w).setCell (.inr rfl) _).setCell (.inr rfl) _⟩
    | exact ⟨rfl, (heads_swap H.out I.out J.out).kept (fun _ _ => rfl), (((Kept.refl hb g w).setCell (.inr rfl) _).setCell (.inr rfl) _).trans (Kept.drewN hb g _ 1) (.inl rfl)⟩
    | exact ⟨rfl, (heads_swap' H.out I.out J.out).kept (fun _ _ => rfl), (((Kept.refl hb g w).setCell (.inr rfl) _).setCell (.inr rfl) _).trans (Kept.drewN hb g _ 1) (.inl rfl)⟩

/-- An int in an interface value. -/
abbrev anyI (k : Nat) : Value := .iface 3 (.int .i64 (k : Int))

theorem heads_reslice {w : World} {hb sb n scap g cap m : Nat} {c s : Nat → Nat} (h : HeadsAt w hb sb n scap g cap (m + 1) c s) :
    HeadsAt (w.setCell ⟨hb, 0, none⟩ (.slice (some ⟨g, 0, none⟩) m cap)) hb sb n scap g cap m c s := by
  have e : ∀ k, k ≠ hb → (w.setCell ⟨hb, 0, none⟩ (.slice (some ⟨g, 0, none⟩) m cap)).heap[k]? = w.heap[k]? := fun k hk => heap_setCell_other _ _ k _ hk
  refine ⟨heap_setCell_same w hb 0 _ _ _ h.obj, ?_, flAt_congr h.sp (e sb (Ne.symm h.hs)), h.gh, h.gs, h.hs, h.nc, h.n1, h.n2, by have := h.m2; omega⟩
  refine ⟨by rw [cellsL_len]; omega, .inr ?_⟩
  rcases h.own.2 with ⟨h', _⟩ | ⟨g', cap', cur, h', hb', hg, a, b, d, t⟩
  · cases h'
  · cases h'
    refine ⟨g, cap, cur, rfl, hb', (e g h.gh).trans hg, by omega, b, d, ?_⟩
    have := congrArg (List.take m) t
    rw [cellsL_take, List.take_take] at this
    rw [show m * 1 = min m ((m + 1) * 1) by omega]
    exact this

set_option maxHeartbeats 1000000 in
theorem hpop_any (w : World) (hb sb n scap g cap m : Nat) (c s : Nat → Nat) (h : HeadsAt w hb sb n scap g cap (m + 1) c s) :
    Calls Tryd.prog 185 #[.pointer (some ⟨hb, 0, none⟩)] w fun e w' => e = .returned (anyI (c m)) ∧ HeadsAt w' hb sb n scap g cap m c s ∧ Kept hb g w w' := by
  have R := Lib.hid (heads_reslice h)
  obtain ⟨cH, fH, zH⟩ := blkC h.obj
  have c0 : w.cell? ⟨hb, 0, none⟩ = some (.slice (some ⟨g, 0, none⟩) (m + 1) cap) := cH 0
  have k1 := h.cell (show m < m + 1 by omega)
  obtain ⟨a1, a2, a3⟩ := h.cap1
  have b1 : (m : Int) < (m : Int) + 1 := by omega
  have b2 : ((m : Int) + 1) ≤ (cap : Int) := by omega
  have b3 : ((m : Int)) ≤ (cap : Int) := by omega
  unfold maxLen at a2
  clear h cH
  go_enter Tryd.func185, Tryd.ntmps185
  go_wp2
  go_ret
  exact ⟨rfl, R.out, (Kept.refl hb g w).setCell (.inl rfl) _⟩
end Go.Proofs.YtacbemilicdklaaDoor

/- Contracts: Push of the heap of cells; up, down, Init, Push and Pop of container/heap over it. -/
namespace Go.Proofs.YtacbemilicdklaaDoor
open Go.RowKit Fl
set_option linter.unusedVariables false

theorem assert_int (X : TypeId) (k : Int) (w : World) : (Instr.typeAssert (.iface 3 (.int .i64 k)) X 3 false).run Tryd.prog w = .ok (.int .i64 k) w := by kernel_rfl

theorem heads_push {w w3 : World} {hb sb n scap g cap m g' cap' k : Nat} {c s : Nat → Nat} {o : Obj} (h : HeadsAt w hb sb n scap g cap m c s) (hm : m < 131072) (zH : hb < w.heap.size)
    (hown : w3.ownsRow 0 3 1 (.slice (some ⟨g', 0, none⟩) (m + 1) cap') (m + 1) (cellsL c m ++ [.int .i64 (k : Int)])) (hg : (w.alloc o).drew.grownBy w3 (Value.slice (some ⟨g, 0, none⟩) m cap).ownBlock)
    (hat : (Value.slice (some ⟨g, 0, none⟩) m cap).ownBlock = some g' ∨ g' = w.heap.size + 1) (hobj : w3.heap[hb]? = some (headsO g m cap sb n scap)) :
    HeadsAt (w3.setCell ⟨hb, 0, none⟩ (.slice (some ⟨g', 0, none⟩) (m + 1) cap')) hb sb n scap g' cap' (m + 1) (updW c m k) s ∧ Kept hb g w (w3.setCell ⟨hb, 0, none⟩ (.slice (some ⟨g', 0, none⟩) (m + 1) cap')) ∧ (g' = g ∨ w.heap.size ≤ g') := by
  have hg' : g' = g ∨ w.heap.size < g' := by
    rcases hat with e | e
    · left; simpa [Value.ownBlock] using e.symm
    · right; omega
  have gk : ∀ i, i < w.heap.size → i ≠ g → w3.heap[i]? = w.heap[i]? := fun i hi hne => (hg.block i (by show i < (w.alloc o).heap.size; rw [heap_size_alloc]; omega) (by simp [Value.ownBlock]; exact hne)).trans (heap_alloc_old _ _ hi)
  have zs : sb < w.heap.size := World.block_lt_of_cell? w _ (h.sp 0 h.n1)
  have zg := h.cap1.2.2
  have e : ∀ i, i ≠ hb → (w3.setCell ⟨hb, 0, none⟩ (.slice (some ⟨g', 0, none⟩) (m + 1) cap')).heap[i]? = w3.heap[i]? := fun i hi => heap_setCell_other _ _ i _ hi
  have gh := h.gh
  have gs := h.gs
  have hz : w.heap.size ≤ w3.heap.size := Nat.le_trans (by show w.heap.size ≤ (w.alloc o).heap.size; rw [heap_size_alloc]; omega) hg.size
  refine ⟨⟨heap_setCell_same w3 hb 0 _ _ _ hobj, ?_, flAt_congr h.sp ((e sb (Ne.symm h.hs)).trans (gk sb zs (Ne.symm h.gs))), by omega, by omega, h.hs, h.nc, h.n1, h.n2, by omega⟩, ⟨hg.os, hg.tape, hg.output, by simpa using hz, fun i hi h1 h2 => (e i h1).trans (gk i hi h2)⟩, by omega⟩
  rw [← cellsL_succ]
  refine ⟨hown.1, ?_⟩
  rcases hown.2 with ⟨h', _⟩ | ⟨g2, cap2, cur, hv, hb2, hh, r⟩
  · cases h'
  · cases hv
    exact .inr ⟨g', cap', cur, rfl, hb2, (e g' (by omega)).trans hh, r⟩

set_option maxRecDepth 100000 in
set_option maxHeartbeats 2000000 in
theorem hpush_any (w : World) (hb sb n scap g cap m : Nat) (c s : Nat → Nat) (h : HeadsAt w hb sb n scap g cap m c s) (k : Nat) (hm : m < 131072) :
    Calls Tryd.prog 186 #[.pointer (some ⟨hb, 0, none⟩), anyI k] w fun e w' => e = .returned (.tuple #[]) ∧ ∃ g' cap', HeadsAt w' hb sb n scap g' cap' (m + 1) (updW c m k) s ∧ Kept hb g w w' ∧ (g' = g ∨ w.heap.size ≤ g') := by
  have H := Lib.hid h
  obtain ⟨cH, fH, zH⟩ := blkC h.obj
  have c0 : w.cell? ⟨hb, 0, none⟩ = some (.slice (some ⟨g, 0, none⟩) m cap) := cH 0
  have hinfo : (Tryd.prog.info? 3).map (fun i => (i.zero, i.size, i.bytes)) = some (some (.int .i64 0), 1, 8) := by kernel_rfl
  obtain ⟨i0, hi, hz0, hz1, hz2⟩ := info_parts hinfo
  have HM := Lib.hid hm
  have ta := assert_int
  clear h cH hinfo hm
  go_enter Tryd.func186, Tryd.ntmps186
  go_wp2
  go_region_law (refine step_append_lies _ (by rfl) _ _ _ (by rfl) 0 3 i0 _ 1 8 Tryd.underlying40 hi hz0 hz1 hz2 rfl (by omega) (.slice (some ⟨g, 0, none⟩) m cap) m (cellsL c m) (by rfl) (H.out.own.alloc _) ⟨w.heap.size, 0, none⟩ 1 1 [.int .i64 (k : Int)] (by rfl) (by rfl) (World.news_of_block (cs := #[.int .i64 (k : Int)]) (t := 3) (fr := (0, 0)) (heap_alloc_new w _)) (by simp [Value.oneCell']) (by omega) (by have := HM.out; unfold maxLen; omega) (by have := HM.out; omega) (by simp) (w.heap.size + 1) (by simp) ?_; intro g' cap' w3 hown3 hgrow hat hlt3; have out3 := Lib.hid ((hgrow.block hb (by simp; omega) (by simp [Value.ownBlock]; exact Ne.symm H.out.gh)).trans ((heap_alloc_old _ _ zH).trans H.out.obj)); obtain ⟨cV3, fV3, zV3⟩ := blkC out3.out)
  all_goals
    have HO := Lib.hid hown3
    have HG := Lib.hid hgrow
    have HA := Lib.hid hat
    have HL := Lib.hid hlt3
    clear hown3 hgrow hat hlt3 cV3 fV3 zV3
    go_wp2
    go_end0
    exact ⟨rfl, g', cap', heads_push H.out HM.out zH HO.out HG.out HA.out out3.out⟩

theorem m_len (f : Nat) (a : Addr) (w : World) : (method (f + 1) 133 (.pointer (some a)) "Len").run Tryd.prog w = .ok (120, .pointer (some a)) w := by kernel_rfl
theorem m_less (f : Nat) (a : Addr) (w : World) : (method (f + 1) 133 (.pointer (some a)) "Less").run Tryd.prog w = .ok (184, .pointer (some a)) w := by kernel_rfl
theorem m_swap (f : Nat) (a : Addr) (w : World) : (method (f + 1) 133 (.pointer (some a)) "Swap").run Tryd.prog w = .ok (187, .pointer (some a)) w := by kernel_rfl
theorem m_push (f : Nat) (a : Addr) (w : World) : (method (f + 1) 133 (.pointer (some a)) "Push").run Tryd.prog w = .ok (186, .pointer (some a)) w := by kernel_rfl
theorem m_pop (f : Nat) (a : Addr) (w : World) : (method (f + 1) 133 (.pointer (some a)) "Pop").run Tryd.prog w = .ok (185, .pointer (some a)) w := by kernel_rfl

theorem ltB_val {x y : Nat} (hx : vS x = some (vI x)) (hy : vS y = some (vI y)) : ltB x y = decide (vI x < vI y) := by
  unfold ltB; rw [f32f', lss_val hx hy]

theorem num_eq {a b : Int} (h : a = b) : Value.int .i64 a = .int .i64 b := by rw [h]
theorem less_anyI (w : World) (hb sb n scap g cap m : Nat) (c s : Nat → Nat) (h : HeadsAt w hb sb n scap g cap m c s) (i j : Nat) (hi : i < m) (hj : j < m) (ci : c i < n) (cj : c j < n) (x y : Int) (hx : (i : Int) = x) (hy : (j : Int) = y) :
    Calls Tryd.prog 184 #[.pointer (some ⟨hb, 0, none⟩), .int .i64 x, .int .i64 y] w fun e w' => e = .returned (.bool (ltB (s (c i)) (s (c j)))) ∧ ∃ q, w' = w.drewN q := by
  subst hx; subst hy; exact less_any w hb sb n scap g cap m c s h i j hi hj ci cj
theorem swap_anyI (w : World) (hb sb n scap g cap m : Nat) (c s : Nat → Nat) (h : HeadsAt w hb sb n scap g cap m c s) (i j : Nat) (hi : i < m) (hj : j < m) (x y : Int) (hx : (i : Int) = x) (hy : (j : Int) = y) :
    Calls Tryd.prog 187 #[.pointer (some ⟨hb, 0, none⟩), .int .i64 x, .int .i64 y] w fun e w' => e = .returned (.tuple #[]) ∧ HeadsAt w' hb sb n scap g cap m (swp c i j) s ∧ Kept hb g w w' := by
  subst hx; subst hy; exact swap_any w hb sb n scap g cap m c s h i j hi hj

/-- What down answers: the heap's cells at the first n0 places exchanged among themselves, so that they are a heap from L on. -/
def DownPost (hb sb n scap g cap m n0 L : Nat) (c s : Nat → Nat) (w : World) (e : Ending) (w' : World) : Prop :=
  (∃ b, e = .returned (.bool b)) ∧ ∃ c', HeadsAt w' hb sb n scap g cap m c' s ∧ SameSet n0 c c' ∧ (∀ i, n0 ≤ i → c' i = c i) ∧ HeapFrom L n0 (fun x => vI (s x)) c' ∧ Kept hb g w w'

set_option maxRecDepth 100000 in
set_option maxHeartbeats 4000000 in
theorem down_any (w : World) (hb sb n scap g cap m : Nat) (c s : Nat → Nat) (h : HeadsAt w hb sb n scap g cap m c s) (hok : ∀ i, i < m → c i < n ∧ vS (s (c i)) = some (vI (s (c i)))) (i0 n0 : Nat) (h0 : n0 ≤ m) (h1 : i0 ≤ n0)
    (hd : HeapDown i0 n0 (fun x => vI (s x)) c i0) :
    Calls Tryd.prog 146 #[.iface 133 (.pointer (some ⟨hb, 0, none⟩)), .int .i64 i0, .int .i64 n0] w (DownPost hb sb n scap g cap m n0 i0 c s w) := by
  have m2 := h.m2
  have ml := m_less
  have ms := m_swap
  have OK := Lib.hid hok
  have H := Lib.hid h
  have HD := Lib.hid hd
  clear hok h hd
  go_enter Tryd.func146, Tryd.ntmps146
  go_wp2
  go_loopw [7, 8, 9, 10] (fun s7 s8 s9 s10 wr => ∃ (p : Nat) (c' : Nat → Nat), p ≤ n0 ∧ i0 ≤ p ∧ s7 = .int .i64 p ∧ HeadsAt wr hb sb n scap g cap m c' s ∧ SameSet n0 c c' ∧ (∀ i, n0 ≤ i → c' i = c i) ∧ HeapDown i0 n0 (fun x => vI (s x)) c' p ∧ Kept hb g w wr)
    (fun s7 _ _ _ _ => n0 - (intOf s7).toNat)
  case atStart => exact ⟨i0, c, h1, Nat.le_refl _, rfl, H.out, .rfl', fun _ _ => rfl, HD.out, Kept.refl _ _ _⟩
  case round =>
    obtain ⟨p, c', hp1, hp2, rfl, hH, hS, hF, hD, hK⟩ := hrel
    have HH := Lib.hid hH
    have HS := Lib.hid hS
    have HF := Lib.hid hF
    have HDn := Lib.hid hD
    have HK := Lib.hid hK
    have OK' := Lib.hid (show ∀ i, i < m → c' i < n ∧ vS (s (c' i)) = some (vI (s (c' i))) from fun i hi => by
      by_cases e : i < n0
      · exact hS.all (P := fun x => x < n ∧ vS (s x) = some (vI (s x))) (fun i hi => OK.out i (by omega)) i e
      · rw [hF i (by omega)]; exact OK.out i hi)
    clear hH hS hF hD hK
    by_cases hk : 2 * p + 1 < n0
    · by_cases h2 : 2 * p + 2 < n0
      · have L12 := Lib.hid (fun W (hW : HeadsAt W hb sb n scap g cap m c' s) => less_anyI W hb sb n scap g cap m c' s hW (2 * p + 2) (2 * p + 1) (by omega) (by omega) (OK'.out _ (by omega)).1 (OK'.out _ (by omega)).1 (2 * (p : Int) + 1 + 1) (2 * (p : Int) + 1) (by omega) (by omega))
        have V12 := Lib.hid (ltB_val (OK'.out (2 * p + 2) (by omega)).2 (OK'.out (2 * p + 1) (by omega)).2)
        cases e12 : ltB (s (c' (2 * p + 2))) (s (c' (2 * p + 1))) with
        | true =>
          rw [e12] at L12 V12
          have MIN := Lib.hid (kids (n := n0) (p := p) (K := fun x => vI (s x)) (c := c') (j := 2 * p + 2) (.inr rfl) (fun h => by omega) (fun _ => by have := V12.out; simp at this; exact Int.le_of_lt this))
          have L3 := Lib.hid (fun W (hW : HeadsAt W hb sb n scap g cap m c' s) => less_anyI W hb sb n scap g cap m c' s hW (2 * p + 2) p (by omega) (by omega) (OK'.out _ (by omega)).1 (OK'.out _ (by omega)).1 (2 * (p : Int) + 1 + 1) p (by omega) rfl)
          clear e12 V12

          cases e3 : ltB (s (c' (2 * p + 2))) (s (c' p)) with
          | false =>
            rw [e3] at L3
            have HN := Lib.hid (show HeapFrom i0 n0 (fun x => vI (s x)) c' from down_done HDn.out (fun i a b d => Int.le_trans (by rw [ltB_val (OK'.out _ (by omega)).2 (OK'.out _ (by omega)).2] at e3; simpa using e3) (MIN.out i a b d)))
            clear e3
            go_wp2_with (first | (go_at_call 184; (with_reducible refine Calls.mono (L12.out _ ?_) ?_); (first | exact HH.out | exact HH.out.drewN _ | exact (HH.out.drewN _).drewN _); rintro e w' ⟨rfl, q1, rfl⟩) | (go_at_call 184; (with_reducible refine Calls.mono (L3.out _ ?_) ?_); (first | exact HH.out | exact HH.out.drewN _ | exact (HH.out.drewN _).drewN _); rintro e w' ⟨rfl, q2, rfl⟩))
            go_ret
            exact ⟨⟨_, rfl⟩, c', (by first | exact HH.out.drewN _ | exact (HH.out.drewN _).drewN _), HS.out, HF.out, HN.out, by first | exact HK.out.trans (Kept.drewN _ _ _ _) (.inl rfl) | exact (HK.out.trans (Kept.drewN _ _ _ _) (.inl rfl)).trans (Kept.drewN _ _ _ _) (.inl rfl)⟩
          | true =>
            rw [e3] at L3
            have HN := Lib.hid (show HeapDown i0 n0 (fun x => vI (s x)) (swp c' p (2 * p + 2)) (2 * p + 2) from down_swap HDn.out hp2 (by omega) (by omega) (by omega) (by rw [ltB_val (OK'.out _ (by omega)).2 (OK'.out _ (by omega)).2] at e3; simpa using e3) MIN.out)
            have SW := Lib.hid (fun W (hW : HeadsAt W hb sb n scap g cap m c' s) => swap_anyI W hb sb n scap g cap m c' s hW p (2 * p + 2) (by omega) (by omega) p (2 * (p : Int) + 1 + 1) rfl (by omega))
            clear e3
            go_wp2_with (first | (go_at_call 184; (with_reducible refine Calls.mono (L12.out _ ?_) ?_); (first | exact HH.out | exact HH.out.drewN _ | exact (HH.out.drewN _).drewN _); rintro e w' ⟨rfl, q1, rfl⟩) | (go_at_call 184; (with_reducible refine Calls.mono (L3.out _ ?_) ?_); (first | exact HH.out | exact HH.out.drewN _ | exact (HH.out.drewN _).drewN _); rintro e w' ⟨rfl, q2, rfl⟩) | (go_at_call 187; (with_reducible refine Calls.mono (SW.out _ ?_) ?_); (first | exact HH.out | exact HH.out.drewN _ | exact (HH.out.drewN _).drewN _); rintro e w3 ⟨rfl, hs3⟩; have S3 := Lib.hid hs3; clear hs3))
            go_roundw
            case rel => exact ⟨2 * p + 2, swp c' p (2 * p + 2), by omega, by omega, num_eq (by omega), S3.out.1, HS.out.trans (same_swp (by omega) (by omega)), (fun i hi => by rw [swp_o c' (by omega) (by omega)]; exact HF.out i hi), HN.out, by first | exact (HK.out.trans (Kept.drewN _ _ _ _) (.inl rfl)).trans S3.out.2 (.inl rfl) | exact ((HK.out.trans (Kept.drewN _ _ _ _) (.inl rfl)).trans (Kept.drewN _ _ _ _) (.inl rfl)).trans S3.out.2 (.inl rfl)⟩
            case measure => simp [intOf]; omega
        | false =>
          rw [e12] at L12 V12
          have MIN := Lib.hid (kids (n := n0) (p := p) (K := fun x => vI (s x)) (c := c') (j := 2 * p + 1) (.inl rfl) (fun _ _ => by have := V12.out; simp at this; exact this) (fun h => by omega))
          have L3 := Lib.hid (fun W (hW : HeadsAt W hb sb n scap g cap m c' s) => less_anyI W hb sb n scap g cap m c' s hW (2 * p + 1) p (by omega) (by omega) (OK'.out _ (by omega)).1 (OK'.out _ (by omega)).1 (2 * (p : Int) + 1) p (by omega) rfl)
          clear e12 V12

          cases e3 : ltB (s (c' (2 * p + 1))) (s (c' p)) with
          | false =>
            rw [e3] at L3
            have HN := Lib.hid (show HeapFrom i0 n0 (fun x => vI (s x)) c' from down_done HDn.out (fun i a b d => Int.le_trans (by rw [ltB_val (OK'.out _ (by omega)).2 (OK'.out _ (by omega)).2] at e3; simpa using e3) (MIN.out i a b d)))
            clear e3
            go_wp2_with (first | (go_at_call 184; (with_reducible refine Calls.mono (L12.out _ ?_) ?_); (first | exact HH.out | exact HH.out.drewN _ | exact (HH.out.drewN _).drewN _); rintro e w' ⟨rfl, q1, rfl⟩) | (go_at_call 184; (with_reducible refine Calls.mono (L3.out _ ?_) ?_); (first | exact HH.out | exact HH.out.drewN _ | exact (HH.out.drewN _).drewN _); rintro e w' ⟨rfl, q2, rfl⟩))
            go_ret
            exact ⟨⟨_, rfl⟩, c', (by first | exact HH.out.drewN _ | exact (HH.out.drewN _).drewN _), HS.out, HF.out, HN.out, by first | exact HK.out.trans (Kept.drewN _ _ _ _) (.inl rfl) | exact (HK.out.trans (Kept.drewN _ _ _ _) (.inl rfl)).trans (Kept.drewN _ _ _ _) (.inl rfl)⟩
          | true =>
            rw [e3] at L3
            have HN := Lib.hid (show HeapDown i0 n0 (fun x => vI (s x)) (swp c' p (2 * p + 1)) (2 * p + 1) from down_swap HDn.out hp2 (by omega) (by omega) (by omega) (by rw [ltB_val (OK'.out _ (by omega)).2 (OK'.out _ (by omega)).2] at e3; simpa using e3) MIN.out)
            have SW := Lib.hid (fun W (hW : HeadsAt W hb sb n scap g cap m c' s) => swap_anyI W hb sb n scap g cap m c' s hW p (2 * p + 1) (by omega) (by omega) p (2 * (p : Int) + 1) rfl (by omega))
            clear e3
            go_wp2_with (first | (go_at_call 184; (with_reducible refine Calls.mono (L12.out _ ?_) ?_); (first | exact HH.out | exact HH.out.drewN _ | exact (HH.out.drewN _).drewN _); rintro e w' ⟨rfl, q1, rfl⟩) | (go_at_call 184; (with_reducible refine Calls.mono (L3.out _ ?_) ?_); (first | exact HH.out | exact HH.out.drewN _ | exact (HH.out.drewN _).drewN _); rintro e w' ⟨rfl, q2, rfl⟩) | (go_at_call 187; (with_reducible refine Calls.mono (SW.out _ ?_) ?_); (first | exact HH.out | exact HH.out.drewN _ | exact (HH.out.drewN _).drewN _); rintro e w3 ⟨rfl, hs3⟩; have S3 := Lib.hid hs3; clear hs3))
            go_roundw
            case rel => exact ⟨2 * p + 1, swp c' p (2 * p + 1), by omega, by omega, num_eq (by omega), S3.out.1, HS.out.trans (same_swp (by omega) (by omega)), (fun i hi => by rw [swp_o c' (by omega) (by omega)]; exact HF.out i hi), HN.out, by first | exact (HK.out.trans (Kept.drewN _ _ _ _) (.inl rfl)).trans S3.out.2 (.inl rfl) | exact ((HK.out.trans (Kept.drewN _ _ _ _) (.inl rfl)).trans (Kept.drewN _ _ _ _) (.inl rfl)).trans S3.out.2 (.inl rfl)⟩
            case measure => simp [intOf]; omega
      · have h2' : decide ((2 * (p : Int) + 1 + 1) < (n0 : Int)) = false := by simp; omega
        have MIN := Lib.hid (kids (n := n0) (p := p) (K := fun x => vI (s x)) (c := c') (j := 2 * p + 1) (.inl rfl) (fun _ h => by omega) (fun h => by omega))
        have L3 := Lib.hid (fun W (hW : HeadsAt W hb sb n scap g cap m c' s) => less_anyI W hb sb n scap g cap m c' s hW (2 * p + 1) p (by omega) (by omega) (OK'.out _ (by omega)).1 (OK'.out _ (by omega)).1 (2 * (p : Int) + 1) p (by omega) rfl)

        cases e3 : ltB (s (c' (2 * p + 1))) (s (c' p)) with
        | false =>
          rw [e3] at L3
          have HN := Lib.hid (show HeapFrom i0 n0 (fun x => vI (s x)) c' from down_done HDn.out (fun i a b d => Int.le_trans (by rw [ltB_val (OK'.out _ (by omega)).2 (OK'.out _ (by omega)).2] at e3; simpa using e3) (MIN.out i a b d)))
          clear e3
          go_wp2_with (first | (go_at_call 184; (with_reducible refine Calls.mono (L3.out _ ?_) ?_); (first | exact HH.out | exact HH.out.drewN _ | exact (HH.out.drewN _).drewN _); rintro e w' ⟨rfl, q2, rfl⟩))
          go_ret
          exact ⟨⟨_, rfl⟩, c', (by first | exact HH.out.drewN _ | exact (HH.out.drewN _).drewN _), HS.out, HF.out, HN.out, by first | exact HK.out.trans (Kept.drewN _ _ _ _) (.inl rfl) | exact (HK.out.trans (Kept.drewN _ _ _ _) (.inl rfl)).trans (Kept.drewN _ _ _ _) (.inl rfl)⟩
        | true =>
          rw [e3] at L3
          have HN := Lib.hid (show HeapDown i0 n0 (fun x => vI (s x)) (swp c' p (2 * p + 1)) (2 * p + 1) from down_swap HDn.out hp2 (by omega) (by omega) (by omega) (by rw [ltB_val (OK'.out _ (by omega)).2 (OK'.out _ (by omega)).2] at e3; simpa using e3) MIN.out)
          have SW := Lib.hid (fun W (hW : HeadsAt W hb sb n scap g cap m c' s) => swap_anyI W hb sb n scap g cap m c' s hW p (2 * p + 1) (by omega) (by omega) p (2 * (p : Int) + 1) rfl (by omega))
          clear e3
          go_wp2_with (first | (go_at_call 184; (with_reducible refine Calls.mono (L3.out _ ?_) ?_); (first | exact HH.out | exact HH.out.drewN _ | exact (HH.out.drewN _).drewN _); rintro e w' ⟨rfl, q2, rfl⟩) | (go_at_call 187; (with_reducible refine Calls.mono (SW.out _ ?_) ?_); (first | exact HH.out | exact HH.out.drewN _ | exact (HH.out.drewN _).drewN _); rintro e w3 ⟨rfl, hs3⟩; have S3 := Lib.hid hs3; clear hs3))
          go_roundw
          case rel => exact ⟨2 * p + 1, swp c' p (2 * p + 1), by omega, by omega, num_eq (by omega), S3.out.1, HS.out.trans (same_swp (by omega) (by omega)), (fun i hi => by rw [swp_o c' (by omega) (by omega)]; exact HF.out i hi), HN.out, by first | exact (HK.out.trans (Kept.drewN _ _ _ _) (.inl rfl)).trans S3.out.2 (.inl rfl) | exact ((HK.out.trans (Kept.drewN _ _ _ _) (.inl rfl)).trans (Kept.drewN _ _ _ _) (.inl rfl)).trans S3.out.2 (.inl rfl)⟩
          case measure => simp [intOf]; omega
    · have hk' : decide ((2 * (p : Int) + 1) < (n0 : Int)) = false := by simp; omega
      go_wp2
      go_ret
      exact ⟨⟨_, rfl⟩, c', HH.out, HS.out, HF.out, down_done HDn.out (fun i a b d => by omega), HK.out⟩
end Go.Proofs.YtacbemilicdklaaDoor
