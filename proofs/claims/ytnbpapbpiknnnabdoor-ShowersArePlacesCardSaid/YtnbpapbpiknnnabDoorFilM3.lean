/- Plain mathematics of filling: spills are the least ones of all ways; so two fillings agree by value. -/
import Derived.Test.YtnbpapbpiknnnabDoorGndM
namespace Go.Proofs.YtnbpapbpiknnnabDoor
open Go.RowKit Fl
set_option linter.unusedVariables false

/-- x is the spill of a way to the cell k. -/
inductive Way (g : Gnd) : Nat → Nat → Prop where
  | bor : ∀ k, k < g.n → g.bd k = true → Way g k (g.h k)
  | go : ∀ p k a, p < g.n → k < g.n → gnb g p k → g.bd k = false → Way g p a → OkW 1048576 a → Way g k (stepW g.sl a (g.h k))

/-- No way is cheaper than stable spills. -/
theorem way_least {g : Gnd} (G : GndOk g) {s : Nat → Nat} (hb : ∀ k, k < g.n → g.bd k = true → s k = g.h k) (hf : ∀ k, k < g.n → OkW 1048576 (s k))
    (hl : ∀ x, x < g.n → ∀ k, k < g.n → gnb g x k → g.bd k = false → vI (s k) ≤ vI (stepW g.sl (s x) (g.h k))) {k x : Nat} (w : Way g k x) : vI (s k) ≤ vI x := by
  induction w with
  | bor k h1 h2 => rw [hb k h1 h2]; exact Int.le_refl _
  | go p k a h1 h2 h3 h4 w ok ih =>
    exact Int.le_trans (hl p h1 k h2 h3 h4) (step_mono (hf p h1) ok G.slo (G.hgt k h2) (Nat.le_refl _) ih)

theorem Spills.way {g : Gnd} (G : GndOk g) {s : Nat → Nat} (S : Spills g s) : ∀ k, k < g.n → Way g k (s k) := by
  obtain ⟨rk, hr⟩ := S.par
  intro k
  generalize hm : rk k = m
  induction m using Nat.strongRecOn generalizing k with
  | ind m ih =>
    intro hk
    cases e : g.bd k with
    | true => rw [S.bor k hk e]; exact .bor k hk e
    | false =>
      obtain ⟨p, p1, p2, p3, p4⟩ := hr k hk e
      rw [p4]
      exact .go p k _ p1 hk p2 e (ih (rk p) (by omega) p rfl p1) ((S.fin p p1).mono (by omega))

/-- Two fillings of one ground agree by value. -/
theorem spills_eq {g : Gnd} (G : GndOk g) {s r : Nat → Nat} (S : Spills g s) (hb : ∀ k, k < g.n → g.bd k = true → r k = g.h k) (hf : ∀ k, k < g.n → OkW 1048576 (r k))
    (hl : ∀ x, x < g.n → ∀ k, k < g.n → gnb g x k → g.bd k = false → vI (r k) ≤ vI (stepW g.sl (r x) (g.h k))) (hw : ∀ k, k < g.n → Way g k (r k)) : ∀ k, k < g.n → vI (s k) = vI (r k) := fun k hk => by
  have a := way_least G S.bor (fun k h => (S.fin k h).mono (by omega)) (fun x h1 k h2 h3 h4 => S.least x h1 k h3 h4) (hw k hk)
  have b := way_least G hb hf hl (S.way G k hk)
  omega
end Go.Proofs.YtnbpapbpiknnnabDoor
