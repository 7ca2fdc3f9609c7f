/- Plain mathematics of binary heaps: what one exchange on the way up or down leaves. -/
import Derived.Lib.Hide
namespace Go.Proofs.YtnbpapbpiknnnabDoor
set_option linter.unusedVariables false

/-- Two places exchanged. -/
def swp (c : Nat → Nat) (i j : Nat) : Nat → Nat := fun k => if k = i then c j else if k = j then c i else c k
theorem swp_i (c : Nat → Nat) (i j : Nat) : swp c i j i = c j := by unfold swp; rw [if_pos rfl]
theorem swp_j (c : Nat → Nat) (i j : Nat) : swp c i j j = c i := by
  unfold swp
  by_cases h : j = i
  · rw [if_pos h, h]
  · rw [if_neg h, if_pos rfl]
theorem swp_o (c : Nat → Nat) {i j k : Nat} (h1 : k ≠ i) (h2 : k ≠ j) : swp c i j k = c k := by unfold swp; rw [if_neg h1, if_neg h2]

/-- The same cells at the first m places. -/
def SameSet (m : Nat) (c d : Nat → Nat) : Prop := ∀ x, (∃ i, i < m ∧ c i = x) ↔ (∃ i, i < m ∧ d i = x)
theorem SameSet.rfl' {m : Nat} {c : Nat → Nat} : SameSet m c c := fun _ => Iff.rfl
theorem SameSet.trans {m : Nat} {a b c : Nat → Nat} (h : SameSet m a b) (g : SameSet m b c) : SameSet m a c := fun x => (h x).trans (g x)
theorem same_swp {m i j : Nat} {c : Nat → Nat} (hi : i < m) (hj : j < m) : SameSet m c (swp c i j) := by
  intro x
  constructor
  · rintro ⟨k, hk, rfl⟩
    by_cases h1 : k = i
    · exact ⟨j, hj, by rw [swp_j, h1]⟩
    · by_cases h2 : k = j
      · exact ⟨i, hi, by rw [swp_i, h2]⟩
      · exact ⟨k, hk, swp_o c h1 h2⟩
  · rintro ⟨k, hk, rfl⟩
    by_cases h1 : k = i
    · exact ⟨j, hj, by rw [h1, swp_i]⟩
    · by_cases h2 : k = j
      · exact ⟨i, hi, by rw [h2, swp_j]⟩
      · exact ⟨k, hk, (swp_o c h1 h2).symm⟩
theorem SameSet.all {m : Nat} {c d : Nat → Nat} {P : Nat → Prop} (h : SameSet m c d) (hp : ∀ i, i < m → P (c i)) : ∀ i, i < m → P (d i) := fun i hi => by
  obtain ⟨k, hk, e⟩ := (h (d i)).2 ⟨i, hi, rfl⟩
  rw [← e]; exact hp k hk

/-- A heap of m places. -/
def Heap (m : Nat) (K : Nat → Int) (c : Nat → Nat) : Prop := ∀ i, 0 < i → i < m → K (c ((i - 1) / 2)) ≤ K (c i)
/-- A heap but for the place j, which may be too low. -/
def HeapUp (m : Nat) (K : Nat → Int) (c : Nat → Nat) (j : Nat) : Prop :=
  (∀ i, 0 < i → i < m → i ≠ j → K (c ((i - 1) / 2)) ≤ K (c i)) ∧ ∀ i, 0 < i → i < m → (i - 1) / 2 = j → 0 < j → K (c ((j - 1) / 2)) ≤ K (c i)

theorem up_start {m : Nat} {K : Nat → Int} {c d : Nat → Nat} (h : Heap m K c) (e : ∀ i, i < m → d i = c i) : HeapUp (m + 1) K d m :=
  ⟨fun i h0 h1 h2 => by rw [e i (by omega), e _ (by omega)]; exact h i h0 (by omega), fun i h0 h1 h2 => by omega⟩
theorem up_done {m : Nat} {K : Nat → Int} {c : Nat → Nat} {j : Nat} (h : HeapUp m K c j) (hd : j = 0 ∨ ¬ K (c j) < K (c ((j - 1) / 2))) : Heap m K c := by
  intro i h0 h1
  by_cases e : i = j
  · subst e
    rcases hd with hd | hd <;> omega
  · exact h.1 i h0 h1 e
theorem up_swap {m : Nat} {K : Nat → Int} {c : Nat → Nat} {j : Nat} (h : HeapUp m K c j) (h0 : 0 < j) (hl : K (c j) < K (c ((j - 1) / 2))) : HeapUp m K (swp c ((j - 1) / 2) j) ((j - 1) / 2) := by
  obtain ⟨p, hp⟩ : ∃ p, (j - 1) / 2 = p := ⟨_, rfl⟩
  rw [hp] at hl ⊢
  constructor
  · intro i i0 i1 i2
    by_cases e1 : i = j
    · subst e1; rw [hp, swp_i, swp_j]; omega
    · rw [swp_o c i2 e1]
      by_cases e2 : (i - 1) / 2 = p
      · rw [e2, swp_i]
        have := h.1 i i0 i1 e1
        rw [e2] at this; omega
      · by_cases e3 : (i - 1) / 2 = j
        · rw [e3, swp_j]
          have := h.2 i i0 i1 e3 h0
          rwa [hp] at this
        · rw [swp_o c e2 e3]; exact h.1 i i0 i1 e1
  · intro i i0 i1 i2 p0
    have q1 : (p - 1) / 2 ≠ p := by omega
    have q2 : (p - 1) / 2 ≠ j := by omega
    rw [swp_o c q1 q2]
    have a := h.1 p p0 (by omega) (by omega)
    by_cases e1 : i = j
    · subst e1; rw [swp_j]; exact a
    · have e2 : i ≠ p := by omega
      rw [swp_o c e2 e1]
      have b := h.1 i i0 i1 e1
      rw [i2] at b; omega

/-- A heap from the place L on. -/
def HeapFrom (L n : Nat) (K : Nat → Int) (c : Nat → Nat) : Prop := ∀ i, 0 < i → i < n → L ≤ (i - 1) / 2 → K (c ((i - 1) / 2)) ≤ K (c i)
/-- A heap from L on but for the place j, which may be too high. -/
def HeapDown (L n : Nat) (K : Nat → Int) (c : Nat → Nat) (j : Nat) : Prop :=
  (∀ i, 0 < i → i < n → L ≤ (i - 1) / 2 → (i - 1) / 2 ≠ j → K (c ((i - 1) / 2)) ≤ K (c i)) ∧ ∀ i, 0 < i → i < n → (i - 1) / 2 = j → 0 < j → L ≤ (j - 1) / 2 → K (c ((j - 1) / 2)) ≤ K (c i)

theorem down_start {L n : Nat} {K : Nat → Int} {c : Nat → Nat} (h : HeapFrom (L + 1) n K c) : HeapDown L n K c L :=
  ⟨fun i h0 h1 h2 h3 => h i h0 h1 (by omega), fun i _ _ _ _ _ => by omega⟩
theorem down_swap {L n : Nat} {K : Nat → Int} {c : Nat → Nat} {p j : Nat} (h : HeapDown L n K c p) (hL : L ≤ p) (hj0 : 0 < j) (hj : j < n) (hp : (j - 1) / 2 = p) (hl : K (c j) < K (c p))
    (hs : ∀ i, 0 < i → i < n → (i - 1) / 2 = p → K (c j) ≤ K (c i)) : HeapDown L n K (swp c p j) j := by
  have pj : p ≠ j := by omega
  constructor
  · intro i i0 i1 i2 i3
    by_cases e1 : i = j
    · subst e1; rw [hp, swp_i, swp_j]; omega
    · by_cases e2 : (i - 1) / 2 = p
      · have e3 : i ≠ p := by omega
        rw [e2, swp_i, swp_o c e3 e1]; exact hs i i0 i1 e2
      · rw [swp_o c e2 i3]
        by_cases e4 : i = p
        · subst e4
          rw [swp_i]
          exact h.2 j hj0 hj hp (by omega) i2
        · rw [swp_o c e4 e1]; exact h.1 i i0 i1 i2 e2
  · intro i i0 i1 i2 j0 i3
    have e1 : i ≠ j := by omega
    have e2 : i ≠ p := by omega
    rw [hp, swp_i, swp_o c e2 e1]
    have := h.1 i i0 i1 (by omega) (by omega)
    rwa [i2] at this
theorem down_done {L n : Nat} {K : Nat → Int} {c : Nat → Nat} {p : Nat} (h : HeapDown L n K c p) (hs : ∀ i, 0 < i → i < n → (i - 1) / 2 = p → K (c p) ≤ K (c i)) : HeapFrom L n K c := by
  intro i i0 i1 i2
  by_cases e : (i - 1) / 2 = p
  · rw [e]; exact hs i i0 i1 e
  · exact h.1 i i0 i1 i2 e
theorem heap_from {n : Nat} {K : Nat → Int} {c : Nat → Nat} (h : HeapFrom 0 n K c) : Heap n K c := fun i a b => h i a b (Nat.zero_le _)
theorem heap_all {n : Nat} {K : Nat → Int} {c : Nat → Nat} : HeapFrom (n / 2) n K c := fun i a b h => by omega
/-- The children of a place: the lesser one of them is at most as high as both. -/
theorem kids {n p j : Nat} {K : Nat → Int} {c : Nat → Nat} (hj : j = 2 * p + 1 ∨ j = 2 * p + 2) (h1 : j = 2 * p + 1 → 2 * p + 2 < n → K (c (2 * p + 1)) ≤ K (c (2 * p + 2))) (h2 : j = 2 * p + 2 → K (c (2 * p + 2)) ≤ K (c (2 * p + 1))) :
    ∀ i, 0 < i → i < n → (i - 1) / 2 = p → K (c j) ≤ K (c i) := by
  intro i i0 i1 i2
  have hi : i = 2 * p + 1 ∨ i = 2 * p + 2 := by omega
  rcases hj with rfl | rfl <;> rcases hi with rfl | rfl
  · exact Int.le_refl _
  · exact h1 rfl i1
  · exact h2 rfl
  · exact Int.le_refl _
theorem heap_min {m : Nat} {K : Nat → Int} {c : Nat → Nat} (h : Heap m K c) : ∀ i, i < m → K (c 0) ≤ K (c i) := by
  intro i
  induction i using Nat.strongRecOn with
  | ind i ih =>
    intro hi
    by_cases e : i = 0
    · subst e; exact Int.le_refl _
    · have a := h i (by omega) hi
      have b := ih ((i - 1) / 2) (by omega) (by omega)
      omega
/-- The root exchanged with the last place: a heap from 1 on, of one place less. -/
theorem pop_start {m : Nat} {K : Nat → Int} {c : Nat → Nat} (h : Heap (m + 1) K c) : HeapFrom 1 m K (swp c 0 m) := by
  intro i i0 i1 i2
  rw [swp_o c (show i ≠ 0 by omega) (show i ≠ m by omega), swp_o c (show (i - 1) / 2 ≠ 0 by omega) (show (i - 1) / 2 ≠ m by omega)]
  exact h i i0 (by omega)
end Go.Proofs.YtnbpapbpiknnnabDoor
