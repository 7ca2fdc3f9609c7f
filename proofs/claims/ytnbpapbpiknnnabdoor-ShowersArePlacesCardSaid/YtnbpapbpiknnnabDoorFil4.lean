/- What is known at each head of leastSpills' second loop; its rounds. -/
import Derived.Test.YtnbpapbpiknnnabDoorFil2
namespace Go.Proofs.YtnbpapbpiknnnabDoor
open Go.RowKit Fl Go.Shelf
set_option linter.unusedVariables false

/-- The heap, the spills and the cells that have been reached, in memory. -/
structure Mem (w0 wr : World) (X Y : Int) (W H n b cap sl hb sb scap g gcap m : Nat) (c s : Nat → Nat) (R : Nat → Bool) : Prop where
  stat : Stat w0 wr X Y W H n b cap sl hb
  heads : HeadsAt wr hb sb n scap g gcap m c s
  sown : wr.ownsRow (w0.heap.size + 1 + 1) 27 1 (.slice (some ⟨sb, 0, none⟩) n scap) n (rowL s n)
  bools : BoolsAt wr (hb + 1 + 1) n R
  gl : hb + 1 + 1 + 1 < g
  sbl : sb < hb
theorem ownsRow_flAt' {w : World} {base b cap k : Nat} {f : Nat → Nat} (h : w.ownsRow base 27 1 (.slice (some ⟨b, 0, none⟩) k cap) k (rowL f k)) (hk : 0 < k) : FlAt w b 0 k f := (ownsRow_flAt h hk).1
theorem Mem.below {w0 w w' : World} {X Y : Int} {W H n b cap sl hb sb scap g gcap m : Nat} {c s : Nat → Nat} {R : Nat → Bool} (h : Mem w0 w X Y W H n b cap sl hb sb scap g gcap m c s R) (hB : Below w.heap.size w w') : Mem w0 w' X Y W H n b cap sl hb sb scap g gcap m c s R := by
  have zh := (blkC h.heads.obj).2.2
  have zs : sb < w.heap.size := World.block_lt_of_cell? w _ (h.heads.sp 0 h.heads.n1)
  have zg := h.heads.cap1.2.2
  exact ⟨h.stat.below hB, h.heads.kept (fun k hk => hB.block k (by rcases hk with rfl | rfl | rfl <;> assumption)), ownsRow_below h.sown hB, h.bools.congr (hB.block _ h.bools.lt), h.gl, h.sbl⟩
/-- A step that turns no block of cells. -/
theorem Mem.other {w0 w w' : World} {X Y : Int} {W H n b cap sl hb sb scap g gcap m : Nat} {c s : Nat → Nat} {R : Nat → Bool} (h : Mem w0 w X Y W H n b cap sl hb sb scap g gcap m c s R) (hB : Below w0.heap.size w0 w') (hk : ∀ (k : Nat) (cs : Array Value) (t : TypeId) (f : Nat × Nat), w.heap[k]? = some (.cells cs t f) → w'.heap[k]? = some (.cells cs t f)) : Mem w0 w' X Y W H n b cap sl hb sb scap g gcap m c s R := by
  have S := h.stat
  have own : ∀ {base : Nat} {e : TypeId} {v : Value} {n : Nat} {xs : List Value}, w.ownsRow base e 1 v n xs → w'.ownsRow base e 1 v n xs := fun q => by
    obtain ⟨h1, h2⟩ := q
    refine ⟨h1, ?_⟩
    rcases h2 with h2 | ⟨g, cap, cur, hv, hg, hh, r⟩
    · exact .inl h2
    · exact .inr ⟨g, cap, cur, hv, hg, hk _ _ _ _ hh, r⟩
  have so := own h.sown
  refine ⟨⟨hk _ _ _ _ S.fld, hk _ _ _ _ S.slo, hk _ _ _ _ S.ptr, hk _ _ _ _ S.rsl, hB, S.lo⟩, ⟨hk _ _ _ _ h.heads.obj, own h.heads.own, (ownsRow_flAt' so h.heads.n1), h.heads.gh, h.heads.gs, h.heads.hs, h.heads.nc, h.heads.n1, h.heads.n2, h.heads.m2⟩, so, ?_, h.gl, h.sbl⟩
  obtain ⟨cs, h1, h2⟩ := h.bools
  exact ⟨cs, hk _ _ _ _ h1, h2⟩

theorem below_kept {w0 w w' : World} {hb g : Nat} (hB : Below w0.heap.size w0 w) (K : Kept hb g w w') (h1 : w0.heap.size ≤ hb) (h2 : w0.heap.size ≤ g) : Below w0.heap.size w0 w' :=
  ⟨K.os.trans hB.os, K.tape.trans hB.tape, K.output.trans hB.output, Nat.le_trans hB.size K.size, fun j hj => (K.block j (Nat.lt_of_lt_of_le hj hB.size) (by omega) (by omega)).trans (hB.block j hj)⟩

/-- Behind a step of the heap's. -/
theorem Mem.heapStep {w0 w w' : World} {X Y : Int} {W H n b cap sl hb sb scap g gcap m g' gcap' m' : Nat} {c s c' : Nat → Nat} {R : Nat → Bool} (h : Mem w0 w X Y W H n b cap sl hb sb scap g gcap m c s R) (K : Kept hb g w w') (hh : HeadsAt w' hb sb n scap g' gcap' m' c' s) (hg : g' = g ∨ w.heap.size ≤ g') :
    Mem w0 w' X Y W H n b cap sl hb sb scap g' gcap' m' c' s R := by
  have lo := h.stat.lo
  have gl := h.gl
  have sbl := h.sbl
  have zr := (blkC h.stat.rsl).2.2
  have kk : ∀ k, k ≤ hb + 1 + 1 + 1 → k ≠ hb → w'.heap[k]? = w.heap[k]? := fun k hk hne => K.block k (by omega) hne (by omega)
  exact ⟨h.stat.kept (fun k hk' h1 _ _ => kk k hk' h1) (below_kept h.stat.bel K (by omega) (by omega)), hh, ownsRow_congr h.sown fun g' hg => kk g' (by simp [Value.ownBlock] at hg; omega) (by simp [Value.ownBlock] at hg; omega), h.bools.congr (kk _ (by omega) (by omega)), by omega, h.sbl⟩

theorem rowL_set {s : Nat → Nat} {n k x : Nat} (hk : k < n) : (rowL s n).set k (.float .f32 x) = rowL (updW s k x) n := by
  apply List.ext_getElem?
  intro i
  rw [List.getElem?_set]
  by_cases e : i < n
  · have q : ∀ s : Nat → Nat, (rowL s n)[i]? = some (.float .f32 (s i)) := fun s => by simp [rowL, e]
    by_cases e1 : k = i
    · subst e1; rw [if_pos rfl, if_pos (by simpa [rowL] using e), q, updW_same]
    · rw [if_neg e1, q, q, updW_other s (by omega)]
  · have q : ∀ s : Nat → Nat, (rowL s n)[i]? = none := fun s => List.getElem?_eq_none (by simp [rowL]; omega)
    rw [if_neg (by omega), q, q]

/-- A cell is reached, its spill is stored. -/
theorem Mem.store {w0 w : World} {X Y : Int} {W H n b cap sl hb sb scap g gcap m : Nat} {c s : Nat → Nat} {R : Nat → Bool} (h : Mem w0 w X Y W H n b cap sl hb sb scap g gcap m c s R) {k x : Nat} (hk : k < n) :
    Mem w0 (w.setCell ⟨sb, k, none⟩ (.float .f32 x)) X Y W H n b cap sl hb sb scap g gcap m c (updW s k x) R := by
  have lo := h.stat.lo
  have sbl := h.sbl
  have gl := h.gl
  have e : ∀ j, j ≠ sb → (w.setCell ⟨sb, k, none⟩ (.float .f32 x)).heap[j]? = w.heap[j]? := fun j hj => heap_setCell_other _ _ j _ hj
  have o := (h.sown.stored k (.float .f32 x)).1
  rw [rowL_set hk] at o
  have sl0 := (h.sown.lt sb rfl).1
  have S := h.stat
  have st : Stat w0 (w.setCell ⟨sb, k, none⟩ (.float .f32 x)) X Y W H n b cap sl hb := ⟨(e _ (by omega)).trans S.fld, (e _ (by omega)).trans S.slo, (e _ (by omega)).trans S.ptr, (e _ (by omega)).trans S.rsl, S.bel.setCell (by show w0.heap.size ≤ sb; omega) _, S.lo⟩
  have D := h.heads
  exact ⟨st, ⟨(e _ (by omega)).trans D.obj, ownsRow_congr D.own fun g' hg => e g' (by simp [Value.ownBlock] at hg; omega), ownsRow_flAt' o D.n1, D.gh, D.gs, D.hs, D.nc, D.n1, D.n2, D.m2⟩, o, h.bools.congr (e _ (by omega)), h.gl, h.sbl⟩
theorem Mem.reach {w0 w : World} {X Y : Int} {W H n b cap sl hb sb scap g gcap m : Nat} {c s : Nat → Nat} {R : Nat → Bool} (h : Mem w0 w X Y W H n b cap sl hb sb scap g gcap m c s R) {k : Nat} (hk : k < n) :
    Mem w0 (w.setCell ⟨hb + 1 + 1, k, none⟩ (.bool true)) X Y W H n b cap sl hb sb scap g gcap m c s (updB R k) := by
  have lo := h.stat.lo
  have sbl := h.sbl
  have gl := h.gl
  have e : ∀ j, j ≠ hb + 1 + 1 → (w.setCell ⟨hb + 1 + 1, k, none⟩ (.bool true)).heap[j]? = w.heap[j]? := fun j hj => heap_setCell_other _ _ j _ hj
  exact ⟨h.stat.kept (fun j h1 h2 h3 _ => e j h3) (h.stat.bel.setCell (by show w0.heap.size ≤ hb + 1 + 1; omega) _), h.heads.kept (fun j hj => e j (by omega)), ownsRow_congr h.sown fun g' hg => e g' (by simp [Value.ownBlock] at hg; omega), h.bools.put hk, h.gl, h.sbl⟩

/-- What a round may turn: the heap's blocks, the spills, the cells that have been reached. -/
structure Turn (hb sb g : Nat) (w w' : World) : Prop where
  size : w.heap.size ≤ w'.heap.size
  block : ∀ k, k < w.heap.size → k ≠ hb → k ≠ g → k ≠ sb → k ≠ hb + 1 + 1 → w'.heap[k]? = w.heap[k]?
theorem Turn.refl (hb sb g : Nat) (w : World) : Turn hb sb g w w := ⟨Nat.le_refl _, fun _ _ _ _ _ _ => rfl⟩
theorem Turn.set {hb sb g : Nat} {w w' : World} (h : Turn hb sb g w w') {p : Addr} (hp : p.block = sb ∨ p.block = hb + 1 + 1) (u : Value) : Turn hb sb g w (w'.setCell p u) :=
  ⟨by simpa using h.size, fun k hk h1 h2 h3 h4 => (heap_setCell_other _ p k u (by rcases hp with e | e <;> rw [e] <;> omega)).trans (h.block k hk h1 h2 h3 h4)⟩
theorem Turn.drew {hb sb g : Nat} {w w' : World} (h : Turn hb sb g w w') : Turn hb sb g w w'.drew := ⟨h.size, h.block⟩
theorem Turn.heap {hb sb g : Nat} {w w' w'' : World} (h : Turn hb sb g w w') (K : Kept hb g w' w'') : Turn hb sb g w w'' :=
  ⟨Nat.le_trans h.size K.size, fun k hk h1 h2 h3 h4 => (K.block k (Nat.lt_of_lt_of_le hk h.size) h1 h2).trans (h.block k hk h1 h2 h3 h4)⟩
end Go.Proofs.YtnbpapbpiknnnabDoor
