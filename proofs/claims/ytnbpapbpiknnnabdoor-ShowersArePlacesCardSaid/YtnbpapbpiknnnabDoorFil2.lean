/- Contract: leastSpills. -/
import Derived.Test.YtnbpapbpiknnnabDoorFil
namespace Go.Proofs.YtnbpapbpiknnnabDoor
open Go.RowKit Fl Go.Shelf
set_option linter.unusedVariables false

abbrev ptrO (hb : Nat) : Obj := .cells #[.pointer (some ⟨hb, 0, none⟩)] 133
abbrev boolsO (rb n : Nat) : Obj := .cells #[.slice (some ⟨rb, 0, none⟩) n n] 106
/-- What leastSpills holds throughout: the boxes of the field and of the slope, of the heap's pointer and of the cells that have been reached. -/
structure Stat (w0 w : World) (X Y : Int) (W H n b cap sl hb : Nat) : Prop where
  fld : w.heap[w0.heap.size]? = some (fldO X Y W H (.slice (some ⟨b, 0, none⟩) n cap))
  slo : w.heap[w0.heap.size + 1]? = some (flObj sl)
  ptr : w.heap[hb + 1]? = some (ptrO hb)
  rsl : w.heap[hb + 1 + 1 + 1]? = some (boolsO (hb + 1 + 1) n)
  bel : Below w0.heap.size w0 w
  lo : w0.heap.size + 1 < hb
theorem Stat.kept {w0 w w' : World} {X Y : Int} {W H n b cap sl hb : Nat} (h : Stat w0 w X Y W H n b cap sl hb) (hk : ∀ k, k ≤ hb + 1 + 1 + 1 → k ≠ hb → k ≠ hb + 1 + 1 → k < w0.heap.size ∨ k = w0.heap.size ∨ k = w0.heap.size + 1 ∨ hb < k → w'.heap[k]? = w.heap[k]?) (hb' : Below w0.heap.size w0 w') : Stat w0 w' X Y W H n b cap sl hb := by
  have := h.lo
  exact ⟨(hk _ (by omega) (by omega) (by omega) (by omega)).trans h.fld, (hk _ (by omega) (by omega) (by omega) (by omega)).trans h.slo, (hk _ (by omega) (by omega) (by omega) (by omega)).trans h.ptr, (hk _ (by omega) (by omega) (by omega) (by omega)).trans h.rsl, hb', h.lo⟩

/-- The first loop, when k cells have been looked at: the border's cells among them have been reached, and lie in the heap. -/
structure L1 (w0 wr : World) (X Y : Int) (W H n b cap sl hb sb scap : Nat) (v : Nat → Nat) (k : Nat) (ov : Value) (m : Nat) (c : Nat → Nat) : Prop where
  stat : Stat w0 wr X Y W H n b cap sl hb
  obj : wr.heap[hb]? = some (.cells #[ov, .slice (some ⟨sb, 0, none⟩) n scap] 135)
  own : wr.ownsRow (hb + 1 + 1 + 1 + 1) 3 1 ov m (cellsL c m)
  sown : wr.ownsRow (w0.heap.size + 1 + 1) 27 1 (.slice (some ⟨sb, 0, none⟩) n scap) n (rowL v n)
  bools : BoolsAt wr (hb + 1 + 1) n (fun i => decide (i < k) && bdB W H i)
  c1 : ∀ i, i < m → c i < k ∧ bdB W H (c i) = true
  c2 : ∀ x, x < k → bdB W H x = true → ∃ i, i < m ∧ c i = x
  mle : m ≤ k
def L1At (w0 : World) (X Y : Int) (W H n b cap sl hb sb scap : Nat) (v : Nat → Nat) (k : Nat) (wr : World) : Prop := ∃ ov m c, L1 w0 wr X Y W H n b cap sl hb sb scap v k ov m c

theorem BoolsAt.as {w : World} {b n : Nat} {R R' : Nat → Bool} (h : BoolsAt w b n R) (e : ∀ i, i < n → R i = R' i) : BoolsAt w b n R' := by
  obtain ⟨cs, h1, h2, h3⟩ := h
  exact ⟨cs, h1, h2, fun i hi => by rw [← e i hi]; exact h3 i hi⟩
theorem BoolsAt.lt {w : World} {b n : Nat} {R : Nat → Bool} (h : BoolsAt w b n R) : b < w.heap.size := by
  obtain ⟨cs, h1, _⟩ := h
  exact (blkC h1).2.2
theorem Stat.below {w0 w w' : World} {X Y : Int} {W H n b cap sl hb : Nat} (h : Stat w0 w X Y W H n b cap sl hb) (hB : Below w.heap.size w w') : Stat w0 w' X Y W H n b cap sl hb :=
  ⟨blkStay h.fld hB, blkStay h.slo hB, blkStay h.ptr hB, blkStay h.rsl hB, h.bel.trans (hB.mono h.bel.size), h.lo⟩
theorem ownsRow_congr {w w' : World} {base : Nat} {e : TypeId} {size : Nat} {v : Value} {n : Nat} {xs : List Value} (h : w.ownsRow base e size v n xs) (hk : ∀ g, v.ownBlock = some g → w'.heap[g]? = w.heap[g]?) : w'.ownsRow base e size v n xs := by
  obtain ⟨h1, h2⟩ := h
  refine ⟨h1, ?_⟩
  rcases h2 with h2 | ⟨g, cap, cur, hv, hg, hh, r⟩
  · exact .inl h2
  · exact .inr ⟨g, cap, cur, hv, hg, (hk g (by rw [hv]; rfl)).trans hh, r⟩

/-- A cell that is not of the border. -/
theorem L1.skip {w0 wr w2 : World} {X Y : Int} {W H n b cap sl hb sb scap : Nat} {v : Nat → Nat} {k : Nat} {ov : Value} {m : Nat} {c : Nat → Nat} (h : L1 w0 wr X Y W H n b cap sl hb sb scap v k ov m c) (hB : Below wr.heap.size wr w2) (hb' : bdB W H k = false) : L1 w0 w2 X Y W H n b cap sl hb sb scap v (k + 1) ov m c := by
  refine ⟨h.stat.below hB, blkStay h.obj hB, ownsRow_below h.own hB, ownsRow_below h.sown hB, (h.bools.congr (hB.block _ h.bools.lt)).as fun i hi => ?_, fun i hi => ⟨by have := (h.c1 i hi).1; omega, (h.c1 i hi).2⟩, fun x hx hx' => ?_, by have := h.mle; omega⟩
  · by_cases e : i = k
    · subst e; rw [hb']; simp
    · have : decide (i < k) = decide (i < k + 1) := by simp; omega
      rw [this]
  · by_cases e : x = k
    · subst e; rw [hb'] at hx'; cases hx'
    · exact h.c2 x (by omega) hx'

/-- A cell of the border: it has been reached. -/
theorem L1.reach {w0 wr w2 : World} {X Y : Int} {W H n b cap sl hb sb scap : Nat} {v : Nat → Nat} {k : Nat} {ov : Value} {m : Nat} {c : Nat → Nat} (h : L1 w0 wr X Y W H n b cap sl hb sb scap v k ov m c) (hB : Below wr.heap.size wr w2) (hk : k < n) (hsb : sb < hb) :
    Stat w0 (w2.setCell ⟨hb + 1 + 1, k, none⟩ (.bool true)) X Y W H n b cap sl hb ∧ (w2.setCell ⟨hb + 1 + 1, k, none⟩ (.bool true)).heap[hb]? = some (.cells #[ov, .slice (some ⟨sb, 0, none⟩) n scap] 135) ∧
    (w2.setCell ⟨hb + 1 + 1, k, none⟩ (.bool true)).ownsRow (hb + 1 + 1 + 1 + 1) 3 1 ov m (cellsL c m) ∧ (w2.setCell ⟨hb + 1 + 1, k, none⟩ (.bool true)).ownsRow (w0.heap.size + 1 + 1) 27 1 (.slice (some ⟨sb, 0, none⟩) n scap) n (rowL v n) ∧
    BoolsAt (w2.setCell ⟨hb + 1 + 1, k, none⟩ (.bool true)) (hb + 1 + 1) n (updB (fun i => decide (i < k) && bdB W H i) k) := by
  have e : ∀ j, j ≠ hb + 1 + 1 → (w2.setCell ⟨hb + 1 + 1, k, none⟩ (.bool true)).heap[j]? = w2.heap[j]? := fun j hj => heap_setCell_other _ _ j _ hj
  have S := h.stat.below hB
  refine ⟨S.kept (fun j h1 h2 h3 _ => e j h3) (S.bel.setCell (by show w0.heap.size ≤ hb + 1 + 1; have := S.lo; omega) _), (e hb (by omega)).trans (blkStay h.obj hB), ownsRow_setCell_below (ownsRow_below h.own hB) (show hb + 1 + 1 < hb + 1 + 1 + 1 + 1 by omega) _, ?_, (h.bools.congr (hB.block _ h.bools.lt)).put hk⟩
  exact ownsRow_congr (ownsRow_below h.sown hB) fun g hg => e g (by simp [Value.ownBlock] at hg; omega)

theorem L1.push {w0 w3 w4 : World} {X Y : Int} {W H n b cap sl hb sb scap : Nat} {v : Nat → Nat} {k : Nat} {ov : Value} {m g' cap' : Nat} {c : Nat → Nat} {o : Obj} (hsb : sb < hb) (hbk : bdB W H k = true) (S : Stat w0 w3 X Y W H n b cap sl hb)
    (obj : w3.heap[hb]? = some (.cells #[ov, .slice (some ⟨sb, 0, none⟩) n scap] 135)) (own : w3.ownsRow (hb + 1 + 1 + 1 + 1) 3 1 ov m (cellsL c m)) (sown : w3.ownsRow (w0.heap.size + 1 + 1) 27 1 (.slice (some ⟨sb, 0, none⟩) n scap) n (rowL v n))
    (bools : BoolsAt w3 (hb + 1 + 1) n (updB (fun i => decide (i < k) && bdB W H i) k)) (c1 : ∀ i, i < m → c i < k ∧ bdB W H (c i) = true) (c2 : ∀ x, x < k → bdB W H x = true → ∃ i, i < m ∧ c i = x) (mk : m ≤ k)
    (hgrow : (w3.alloc o).drew.grownBy w4 ov.ownBlock) (hown : w4.ownsRow (hb + 1 + 1 + 1 + 1) 3 1 (.slice (some ⟨g', 0, none⟩) (m + 1) cap') (m + 1) (cellsL c m ++ [.int .i64 (k : Int)])) :
    L1 w0 (w4.setCell ⟨hb, 0, none⟩ (.slice (some ⟨g', 0, none⟩) (m + 1) cap')) X Y W H n b cap sl hb sb scap v (k + 1) (.slice (some ⟨g', 0, none⟩) (m + 1) cap') (m + 1) (updW c m k) := by
  have far : ∀ j, j < hb + 1 + 1 + 1 + 1 → some j ≠ ov.ownBlock := fun j hj => ownsRow_far own hj
  have z3 : hb + 1 + 1 + 1 < w3.heap.size := (blkC S.rsl).2.2
  have e4 : ∀ j, j < hb + 1 + 1 + 1 + 1 → w4.heap[j]? = w3.heap[j]? := fun j hj => (hgrow.block j (by show j < (w3.alloc o).heap.size; rw [heap_size_alloc]; omega) (far j hj)).trans (heap_alloc_old _ _ (by omega))
  have e5 : ∀ j, j ≠ hb → (w4.setCell ⟨hb, 0, none⟩ (.slice (some ⟨g', 0, none⟩) (m + 1) cap')).heap[j]? = w4.heap[j]? := fun j hj => heap_setCell_other _ _ j _ hj
  have lo := S.lo
  have B3 : Below w0.heap.size w0 (w3.alloc o) := S.bel.alloc S.bel.size o
  have B4 : Below w0.heap.size w0 w4 := ⟨hgrow.os.trans B3.os, hgrow.tape.trans B3.tape, hgrow.output.trans B3.output, Nat.le_trans B3.size hgrow.size, fun j hj => (hgrow.block j (Nat.lt_of_lt_of_le hj B3.size) (far j (by omega))).trans (B3.block j hj)⟩
  refine ⟨S.kept (fun j h1 h2 h3 _ => (e5 j h2).trans (e4 j (by omega))) (B4.setCell (by show w0.heap.size ≤ hb; omega) _), ?_, ?_, ownsRow_congr sown fun g hg => (e5 g (by simp [Value.ownBlock] at hg; omega)).trans (e4 g (by simp [Value.ownBlock] at hg; omega)), ?_, fun i hi => ?_, fun x hx hx' => ?_, by omega⟩
  · exact heap_setCell_same w4 hb 0 _ _ _ ((e4 hb (by omega)).trans obj)
  · rw [← cellsL_succ]; exact ownsRow_setCell_below hown (show hb < hb + 1 + 1 + 1 + 1 by omega) _
  · refine (bools.congr ((e5 _ (by omega)).trans (e4 _ (by omega)))).as fun i hi => ?_
    by_cases e : i = k
    · subst e; rw [updB_same, hbk]; simp
    · rw [updB_other _ e]
      have : decide (i < k) = decide (i < k + 1) := by simp; omega
      rw [this]
  · by_cases e : i = m
    · subst e; rw [updW_same]; exact ⟨by omega, hbk⟩
    · rw [updW_other c e]; exact ⟨by have := (c1 i (by omega)).1; omega, (c1 i (by omega)).2⟩
  · by_cases e : x = k
    · subst e; exact ⟨m, by omega, updW_same c m x⟩
    · obtain ⟨i, hi, q⟩ := c2 x (by omega) hx'
      exact ⟨i, by omega, by rw [updW_other c (by omega)]; exact q⟩

/-- What leastSpills answers. -/
def SpillPost (W H n : Nat) (v : Nat → Nat) (sl : Nat) (w : World) (e : Ending) (w' : World) : Prop :=
  ∃ s sb scap, e = .returned (.slice (some ⟨sb, 0, none⟩) n scap) ∧ w.heap.size ≤ sb ∧ sb < w'.heap.size ∧ n ≤ scap ∧ FlAt w' sb 0 n s ∧ Spills (gndOf W H v sl) s ∧ Below w.heap.size w w'

theorem ownsRow_lower {w : World} {base base' : Nat} {e : TypeId} {size : Nat} {v : Value} {n : Nat} {xs : List Value} (h : w.ownsRow base e size v n xs) (hb : base' ≤ base) : w.ownsRow base' e size v n xs := by
  obtain ⟨h1, h2⟩ := h
  refine ⟨h1, ?_⟩
  rcases h2 with h2 | ⟨g, cap, cur, hv, hg, r⟩
  · exact .inl h2
  · exact .inr ⟨g, cap, cur, hv, Nat.le_trans hb hg, r⟩

theorem l1_start {w0 w1 : World} {X Y : Int} {W H n b cap sl hb sb scap base : Nat} {v : Nat → Nat} (hhb : w1.heap.size = hb) (hbase : w0.heap.size + 1 + 1 ≤ base) (hF : w1.heap[w0.heap.size]? = some (fldO X Y W H (.slice (some ⟨b, 0, none⟩) n cap))) (hL : w1.heap[w0.heap.size + 1]? = some (flObj sl))
    (hB : Below w0.heap.size w0 w1) (hO : w1.ownsRow base 27 1 (.slice (some ⟨sb, 0, none⟩) n scap) n (rowL v n)) :
    L1At w0 X Y W H n b cap sl hb sb scap v 0 ((((w1.alloc (.cells #[.slice none 0 0, .slice (some ⟨sb, 0, none⟩) n scap] 135)).alloc (ptrO hb)).alloc (.cells (madeCells #[Value.bool false] n) 4)).alloc (boolsO (hb + 1 + 1) n)) := by
  have zl := (blkC hL).2.2
  have old : ∀ j o, w1.heap[j]? = some o → ((((w1.alloc (.cells #[.slice none 0 0, .slice (some ⟨sb, 0, none⟩) n scap] 135)).alloc (ptrO hb)).alloc (.cells (madeCells #[Value.bool false] n) 4)).alloc (boolsO (hb + 1 + 1) n)).heap[j]? = some o := fun j o h => by
    have hj : j < w1.heap.size := (Array.getElem?_eq_some_iff.1 h).1
    rw [heap_alloc_old _ _ (by simp; omega), heap_alloc_old _ _ (by simp; omega), heap_alloc_old _ _ (by simp; omega), heap_alloc_old _ _ hj]; exact h
  subst hhb
  refine ⟨.slice none 0 0, 0, fun _ => 0, ⟨⟨old _ _ hF, old _ _ hL, ?_, ?_, ?_, by omega⟩, ?_, World.ownsRow_nil _ _ _ _, ownsRow_lower ((((hO.alloc _).alloc _).alloc _).alloc _) hbase, ?_, fun i hi => by omega, fun x hx => by omega, Nat.le_refl _⟩⟩
  · ((simp only [heap_alloc_get, heap_size_alloc, if_true]) <;> ((repeat' split) <;> first | rfl | omega))
  · ((simp only [heap_alloc_get, heap_size_alloc, if_true]) <;> ((repeat' split) <;> first | rfl | omega))
  · exact (((hB.alloc hB.size _).alloc (by simp; have := hB.size; omega) _).alloc (by simp; have := hB.size; omega) _).alloc (by simp; have := hB.size; omega) _
  · ((simp only [heap_alloc_get, heap_size_alloc, if_true]) <;> ((repeat' split) <;> first | rfl | omega))
  · refine ⟨_, by ((simp only [heap_alloc_get, heap_size_alloc, if_true]) <;> ((repeat' split) <;> first | rfl | omega)), by simp [madeCells], fun i hi => by simp [madeCells, hi, Nat.mod_one]⟩
end Go.Proofs.YtnbpapbpiknnnabDoor
