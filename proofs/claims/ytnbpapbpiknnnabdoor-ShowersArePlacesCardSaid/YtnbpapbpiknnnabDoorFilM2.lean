/- Plain mathematics of filling: what is known at each head of the loop, and behind it. -/
import Derived.Test.YtnbpapbpiknnnabDoorFilM
namespace Go.Proofs.YtnbpapbpiknnnabDoor
open Go.RowKit Fl
set_option linter.unusedVariables false

/-- Where the cells lie: the neighbour in a direction, the border, the heights, the slope. -/
structure Gnd where
  n : Nat
  nb : Nat → Nat → Option Nat
  bd : Nat → Bool
  h : Nat → Nat
  sl : Nat
/-- What holds of the ground. -/
structure GndOk (g : Gnd) : Prop where
  n1 : 1 ≤ g.n
  n2 : g.n ≤ 65536
  lt : ∀ x d k, g.nb x d = some k → k < g.n
  hgt : ∀ k, k < g.n → hgtB (g.h k) = true
  slo : SlW g.sl
  back : ∀ x d k, x < g.n → d < 8 → g.nb x d = some k → ∃ e, e < 8 ∧ g.nb k e = some x

def gnb (g : Gnd) (x k : Nat) : Prop := ∃ d, d < 8 ∧ g.nb x d = some k

/-- The lowest cells first: s spills, R reached, c the heap of m places; D: done, E: done or being done; rk: ranks, t: how many were reached on the way. -/
structure Fil (g : Gnd) (s : Nat → Nat) (R : Nat → Bool) (c : Nat → Nat) (m : Nat) (D E : Nat → Prop) (rk : Nat → Nat) (t : Nat) : Prop where
  cells : ∀ i, i < m → c i < g.n ∧ R (c i) = true
  bor : ∀ k, k < g.n → g.bd k = true → R k = true ∧ s k = g.h k
  fin : ∀ k, k < g.n → R k = true → OkW (rk k) (s k) ∧ rk k ≤ t
  par : ∀ k, k < g.n → R k = true → g.bd k = false → ∃ p, p < g.n ∧ gnb g p k ∧ E p ∧ rk p < rk k ∧ s k = stepW g.sl (s p) (g.h k)
  reach : ∀ x, x < g.n → E x → R x = true
  don : ∀ x, x < g.n → D x → ∀ k, gnb g x k → R k = true ∧ (g.bd k = false → vI (s k) ≤ vI (stepW g.sl (s x) (g.h k)))
  seen : ∀ x, x < g.n → R x = true → E x ∨ ∃ i, i < m ∧ c i = x
  low : ∀ x, x < g.n → E x → ∀ i, i < m → vI (s x) ≤ vI (s (c i))
  heap : Heap m (fun x => vI (s x)) c
  cnt : t + unr g.n R ≤ g.n

/-- The cell x is being done: its directions of P are. -/
structure Doing (g : Gnd) (s : Nat → Nat) (R : Nat → Bool) (c : Nat → Nat) (m : Nat) (D : Nat → Prop) (rk : Nat → Nat) (t x : Nat) (P : Nat → Prop) : Prop where
  f : Fil g s R c m D (fun y => D y ∨ y = x) rk t
  x1 : x < g.n
  x2 : ∀ y, y < g.n → D y → vI (s y) ≤ vI (s x)
  upto : ∀ e, P e → ∀ k, g.nb x e = some k → R k = true ∧ (g.bd k = false → vI (s k) ≤ vI (stepW g.sl (s x) (g.h k)))

theorem Fil.okc {g : Gnd} {s : Nat → Nat} {R : Nat → Bool} {c : Nat → Nat} {m : Nat} {D E : Nat → Prop} {rk : Nat → Nat} {t : Nat} (F : Fil g s R c m D E rk t) : ∀ i, i < m → c i < g.n ∧ vS (s (c i)) = some (vI (s (c i))) := fun i hi => by
  obtain ⟨a, b⟩ := F.cells i hi
  exact ⟨a, (F.fin _ a b).1.val⟩

/-- The lowest cell is taken. -/
theorem fil_pop {g : Gnd} {s : Nat → Nat} {R : Nat → Bool} {c c' : Nat → Nat} {m : Nat} {D : Nat → Prop} {rk : Nat → Nat} {t : Nat} (F : Fil g s R c (m + 1) D D rk t)
    (hs : SameSet m (swp c 0 m) c') (hh : Heap m (fun x => vI (s x)) c') : Doing g s R c' m D rk t (c 0) (fun _ => False) := by
  have mem : ∀ i, i < m → ∃ j, j < m + 1 ∧ c j = c' i := fun i hi => by
    obtain ⟨j, hj, e⟩ := (hs (c' i)).2 ⟨i, hi, rfl⟩
    by_cases e0 : j = 0
    · subst e0; rw [swp_i] at e; exact ⟨m, by omega, e⟩
    · rw [swp_o c e0 (by omega)] at e; exact ⟨j, by omega, e⟩
  have mem' : ∀ j, j < m + 1 → c j = c 0 ∨ ∃ i, i < m ∧ c' i = c j := fun j hj => by
    by_cases e0 : j = 0
    · left; rw [e0]
    · right
      by_cases e1 : j = m
      · subst e1; exact (hs (c j)).1 ⟨0, by omega, swp_i c 0 j⟩
      · exact (hs (c j)).1 ⟨j, by omega, swp_o c e0 e1⟩
  have x1 := (F.cells 0 (by omega)).1
  refine ⟨⟨fun i hi => ?_, F.bor, F.fin, fun k h1 h2 h3 => ?_, fun x h1 h2 => ?_, F.don, fun x h1 h2 => ?_, fun x h1 h2 i hi => ?_, hh, F.cnt⟩, x1, fun y h1 h2 => F.low y h1 h2 0 (by omega), fun e he => he.elim⟩
  · obtain ⟨j, hj, e⟩ := mem i hi; rw [← e]; exact F.cells j hj
  · obtain ⟨p, a, b, c0, d, e⟩ := F.par k h1 h2 h3; exact ⟨p, a, b, .inl c0, d, e⟩
  · rcases h2 with h2 | rfl
    · exact F.reach x h1 h2
    · exact (F.cells 0 (by omega)).2
  · rcases F.seen x h1 h2 with a | ⟨j, hj, e⟩
    · exact .inl (.inl a)
    · rcases mem' j hj with q | ⟨i, hi, q⟩
      · exact .inl (.inr (by rw [← e]; exact q))
      · exact .inr ⟨i, hi, by rw [q]; exact e⟩
  · obtain ⟨j, hj, e⟩ := mem i hi
    rw [← e]
    rcases h2 with h2 | rfl
    · exact F.low x h1 h2 j hj
    · exact heap_min F.heap j hj

theorem rk_le {g : Gnd} (G : GndOk g) {s : Nat → Nat} {R : Nat → Bool} {c : Nat → Nat} {m : Nat} {D E : Nat → Prop} {rk : Nat → Nat} {t : Nat} (F : Fil g s R c m D E rk t) {k : Nat} (h1 : k < g.n) (h2 : R k = true) : rk k ≤ 1048575 := by
  have := (F.fin k h1 h2).2; have := F.cnt; have := G.n2; omega
/-- A neighbour that has been reached already. -/
theorem doing_old {g : Gnd} (G : GndOk g) {s : Nat → Nat} {R : Nat → Bool} {c : Nat → Nat} {m : Nat} {D : Nat → Prop} {rk : Nat → Nat} {t x d k : Nat} {P : Nat → Prop} (F : Doing g s R c m D rk t x P) (h : g.nb x d = some k) (hr : R k = true) : Doing g s R c m D rk t x (fun e => P e ∨ e = d) :=
  ⟨F.f, F.x1, F.x2, fun e he k' hk => by
    by_cases q : e = d
    · subst q
      rw [h] at hk
      have := Option.some.inj hk
      subst this
      have k1 := G.lt _ _ _ h
      refine ⟨hr, fun hb => ?_⟩
      obtain ⟨p, p1, p2, p3, p4, p5⟩ := F.f.par k k1 hr hb
      rw [p5]
      have xr : R x = true := F.f.reach x F.x1 (.inr rfl)
      have pr : R p = true := F.f.reach p p1 p3
      have hv : vI (s p) ≤ vI (s x) := by
        rcases p3 with p3 | rfl
        · exact F.x2 p p1 p3
        · exact Int.le_refl _
      exact step_mono (q := 1048576) ((F.f.fin p p1 pr).1.mono (by have := rk_le G F.f p1 pr; omega)) ((F.f.fin x F.x1 xr).1.mono (by have := rk_le G F.f F.x1 xr; omega)) G.slo (G.hgt k k1) (by omega) hv
    · exact F.upto e (he.resolve_right q) k' hk⟩

/-- A neighbour that is reached now. -/
theorem doing_new {g : Gnd} (G : GndOk g) {s : Nat → Nat} {R : Nat → Bool} {c c' : Nat → Nat} {m : Nat} {D : Nat → Prop} {rk : Nat → Nat} {t x d k : Nat} {P : Nat → Prop} (F : Doing g s R c m D rk t x P) (hd : d < 8) (h : g.nb x d = some k) (hr : R k = false)
    (hs : SameSet (m + 1) (updW c m k) c') (hh : Heap (m + 1) (fun y => vI (updW s k (stepW g.sl (s x) (g.h k)) y)) c') :
    Doing g (updW s k (stepW g.sl (s x) (g.h k))) (updB R k) c' (m + 1) D (updW rk k (rk x + 1)) (t + 1) x (fun e => P e ∨ e = d) := by
  have k1 := G.lt _ _ _ h
  have xr : R x = true := F.f.reach x F.x1 (.inr rfl)
  have xk : x ≠ k := fun e => by subst e; rw [hr] at xr; cases xr
  have ne : ∀ {y}, R y = true → y ≠ k := fun hy e => by subst e; rw [hr] at hy; cases hy
  have hb : g.bd k = false := by
    cases e : g.bd k with
    | false => rfl
    | true => have := (F.f.bor k k1 e).1; rw [hr] at this; cases this
  have rx := rk_le G F.f F.x1 xr
  obtain ⟨_, _, _, _, _, okN, n1, n2, n3, n4⟩ := step_parts (F.f.fin x F.x1 xr).1 G.slo (G.hgt k k1) (by omega : rk x ≤ 1048576)
  obtain ⟨N, hN⟩ : ∃ N, stepW g.sl (s x) (g.h k) = N := ⟨_, rfl⟩
  have mem : ∀ i, i < m + 1 → c' i = k ∨ ∃ j, j < m ∧ c j = c' i := fun i hi => by
    obtain ⟨j, hj, e⟩ := (hs (c' i)).2 ⟨i, hi, rfl⟩
    by_cases e0 : j = m
    · subst e0; rw [updW_same] at e; exact .inl e.symm
    · rw [updW_other c e0] at e; exact .inr ⟨j, by omega, e⟩
  have keep : ∀ y, y < g.n → (y ≠ k) → updB R k y = true → R y = true := fun y _ h1 h2 => by rwa [updB_other R h1] at h2
  have up : ∀ x', x' < g.n → R x' = true → ∀ k', R k' = true ∧ (g.bd k' = false → vI (s k') ≤ vI (stepW g.sl (s x') (g.h k'))) →
      updB R k k' = true ∧ (g.bd k' = false → vI (updW s k (stepW g.sl (s x) (g.h k)) k') ≤ vI (stepW g.sl (updW s k (stepW g.sl (s x) (g.h k)) x') (g.h k'))) := fun x' _ hx' k' q => by
    refine ⟨updB_mono q.1, fun hb' => ?_⟩
    rw [updW_other s (ne q.1), updW_other s (ne hx')]
    exact q.2 hb'
  refine ⟨⟨fun i hi => ?_, fun y h1 h2 => ?_, fun y h1 h2 => ?_, fun y h1 h2 h3 => ?_, fun y h1 h2 => updB_mono (F.f.reach y h1 h2), fun y h1 h2 k' hk => ?_, fun y h1 h2 => ?_, fun y h1 h2 i hi => ?_, hh, ?_⟩, F.x1, fun y h1 h2 => ?_, fun e he k' hk => ?_⟩
  · rcases mem i hi with e | ⟨j, hj, e⟩
    · rw [e]; exact ⟨k1, updB_same R k⟩
    · rw [← e]; exact ⟨(F.f.cells j hj).1, updB_mono (F.f.cells j hj).2⟩
  · obtain ⟨a, b⟩ := F.f.bor y h1 h2
    exact ⟨updB_mono a, by rw [updW_other s (ne a)]; exact b⟩
  · by_cases e : y = k
    · subst e
      rw [updW_same, updW_same]
      exact ⟨okN, by have := (F.f.fin x F.x1 xr).2; omega⟩
    · have a := keep y h1 e h2
      rw [updW_other s e, updW_other rk e]
      exact ⟨(F.f.fin y h1 a).1, by have := (F.f.fin y h1 a).2; omega⟩
  · by_cases e : y = k
    · subst e
      exact ⟨x, F.x1, ⟨d, hd, h⟩, .inr rfl, by rw [updW_same, updW_other rk xk]; omega, by rw [updW_same, updW_other s xk]⟩
    · obtain ⟨p, p1, p2, p3, p4, p5⟩ := F.f.par y h1 (keep y h1 e h2) h3
      have pr := F.f.reach p p1 p3
      exact ⟨p, p1, p2, p3, by rw [updW_other rk e, updW_other rk (ne pr)]; exact p4, by rw [updW_other s e, updW_other s (ne pr)]; exact p5⟩
  · exact up y h1 (F.f.reach y h1 (.inl h2)) k' (F.f.don y h1 h2 k' hk)
  · by_cases e : y = k
    · subst e
      right
      exact (hs y).1 ⟨m, by omega, updW_same c m y⟩
    · rcases F.f.seen y h1 (keep y h1 e h2) with a | ⟨j, hj, q⟩
      · exact .inl a
      · right
        obtain ⟨i, hi, w⟩ := (hs (c j)).1 ⟨j, by omega, updW_other c (by omega)⟩
        exact ⟨i, hi, by rw [w]; exact q⟩
  · have yr := F.f.reach y h1 h2
    rw [updW_other s (ne yr)]
    have yx : vI (s y) ≤ vI (s x) := by
      rcases h2 with h2 | rfl
      · exact F.x2 y h1 h2
      · exact Int.le_refl _
    rcases mem i hi with e | ⟨j, hj, e⟩
    · rw [e, updW_same]; omega
    · rw [← e, updW_other s (ne (F.f.cells j hj).2)]
      exact F.f.low y h1 h2 j hj
  · have a := unr_upd k1 hr
    have b := F.f.cnt
    omega
  · rw [updW_other s (ne (F.f.reach y h1 (.inl h2))), updW_other s xk]; exact F.x2 y h1 h2
  · by_cases q : e = d
    · subst q
      rw [h] at hk
      have := Option.some.inj hk
      subst this
      exact ⟨updB_same R k, fun _ => by rw [updW_same, updW_other s xk]; exact Int.le_refl _⟩
    · exact up x F.x1 xr k' (F.upto e (he.resolve_right q) k' hk)

/-- A cell that has been done. -/
theorem doing_done {g : Gnd} {s : Nat → Nat} {R : Nat → Bool} {c : Nat → Nat} {m : Nat} {D : Nat → Prop} {rk : Nat → Nat} {t x : Nat} {P : Nat → Prop} (F : Doing g s R c m D rk t x P) (hP : ∀ e, e < 8 → ∀ k, g.nb x e = some k → P e) : Fil g s R c m (fun y => D y ∨ y = x) (fun y => D y ∨ y = x) rk t :=
  ⟨F.f.cells, F.f.bor, F.f.fin, F.f.par, F.f.reach, fun y h1 h2 k hk => by
    rcases h2 with h2 | rfl
    · exact F.f.don y h1 h2 k hk
    · obtain ⟨d, hd, e⟩ := hk
      exact F.upto d (hP d hd k e) k e, F.f.seen, F.f.low, F.f.heap, F.f.cnt⟩

/-- What filling comes to. -/
structure Spills (g : Gnd) (s : Nat → Nat) : Prop where
  bor : ∀ k, k < g.n → g.bd k = true → s k = g.h k
  fin : ∀ k, k < g.n → OkW 65536 (s k)
  par : ∃ rk : Nat → Nat, ∀ k, k < g.n → g.bd k = false → ∃ p, p < g.n ∧ gnb g p k ∧ rk p < rk k ∧ s k = stepW g.sl (s p) (g.h k)
  least : ∀ x, x < g.n → ∀ k, gnb g x k → g.bd k = false → vI (s k) ≤ vI (stepW g.sl (s x) (g.h k))

/-- From each cell a way leads to the border. -/
def Joined (g : Gnd) : Prop := ∃ far : Nat → Nat, ∀ k, k < g.n → g.bd k = false → ∃ p, p < g.n ∧ gnb g p k ∧ far p < far k

theorem fil_end {g : Gnd} (G : GndOk g) (J : Joined g) {s : Nat → Nat} {R : Nat → Bool} {c : Nat → Nat} {D : Nat → Prop} {rk : Nat → Nat} {t : Nat} (F : Fil g s R c 0 D D rk t) : Spills g s := by
  obtain ⟨far, hf⟩ := J
  have all : ∀ f k, k < g.n → far k ≤ f → R k = true := by
    intro f
    induction f with
    | zero =>
      intro k hk h0
      cases e : g.bd k with
      | true => exact (F.bor k hk e).1
      | false => obtain ⟨p, _, _, p3⟩ := hf k hk e; omega
    | succ f ih =>
      intro k hk h0
      cases e : g.bd k with
      | true => exact (F.bor k hk e).1
      | false =>
        obtain ⟨p, p1, p2, p3⟩ := hf k hk e
        have pr := ih p p1 (by omega)
        rcases F.seen p p1 pr with a | ⟨i, hi, _⟩
        · exact (F.don p p1 a k p2).1
        · omega
  have allD : ∀ k, k < g.n → D k := fun k hk => by
    rcases F.seen k hk (all _ k hk (Nat.le_refl _)) with a | ⟨i, hi, _⟩
    · exact a
    · omega
  refine ⟨fun k h1 h2 => (F.bor k h1 h2).2, fun k h1 => ?_, ⟨rk, fun k h1 h2 => ?_⟩, fun x h1 k h2 h3 => (F.don x h1 (allD x h1) k h2).2 h3⟩
  · obtain ⟨a, b⟩ := F.fin k h1 (all _ k h1 (Nat.le_refl _))
    exact a.mono (by have := F.cnt; have := G.n2; omega)
  · obtain ⟨p, p1, p2, _, p4, p5⟩ := F.par k h1 (all _ k h1 (Nat.le_refl _)) h2
    exact ⟨p, p1, p2, p4, p5⟩
end Go.Proofs.YtnbpapbpiknnnabDoor
