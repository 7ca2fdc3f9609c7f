/- Contracts: the methods of the heap of cells: Len, Less, Swap, Push, Pop. -/
import Derived.Test.YtnbpapbpiknnnabDoorFilM3
import Derived.Test.YtnbpapbpiknnnabDoorGen
import Derived.Deep.AppendLies
import Derived.Deep.RegionLaw
import Derived.BigRegion
import Derived.RegionTactic
import Derived.ChangeAlike
namespace Go.Proofs.YtnbpapbpiknnnabDoor
open Go.RowKit Fl
set_option linter.unusedVariables false

def cellsL (c : Nat → Nat) (m : Nat) : List Value := (List.range m).map fun i => Value.int .i64 ((c i : Nat) : Int)
theorem cellsL_len (c : Nat → Nat) (m : Nat) : (cellsL c m).length = m := by simp [cellsL]
theorem cellsL_get {c : Nat → Nat} {m i : Nat} (h : i < m) : (cellsL c m)[i]? = some (.int .i64 ((c i : Nat) : Int)) := by simp [cellsL, h]
theorem cellsL_swap {c : Nat → Nat} {m i j : Nat} (hi : i < m) (hj : j < m) : ((cellsL c m).set i (.int .i64 ((c j : Nat) : Int))).set j (.int .i64 ((c i : Nat) : Int)) = cellsL (swp c i j) m := by
  apply List.ext_getElem?
  intro k
  rw [List.getElem?_set, List.getElem?_set]
  by_cases e : k < m
  · rw [cellsL_get e]
    by_cases e1 : j = k
    · subst e1
      rw [if_pos rfl, if_pos (by simpa [cellsL] using e), cellsL_get e, swp_j]
    · rw [if_neg e1]
      by_cases e2 : i = k
      · subst e2
        rw [if_pos rfl, if_pos (by simpa [cellsL] using e), cellsL_get e, swp_i]
      · rw [if_neg e2, cellsL_get e, swp_o c (by omega) (by omega)]
  · have n0 : (cellsL (swp c i j) m)[k]? = none := List.getElem?_eq_none (by simp [cellsL]; omega)
    have n1 : (cellsL c m)[k]? = none := List.getElem?_eq_none (by simp [cellsL]; omega)
    rw [n0, if_neg (by omega), if_neg (by omega), n1]
theorem cellsL_swap' {c : Nat → Nat} {m i j : Nat} (hi : i < m) (hj : j < m) : ((cellsL c m).set j (.int .i64 ((c i : Nat) : Int))).set i (.int .i64 ((c j : Nat) : Int)) = cellsL (swp c i j) m := by
  rw [cellsL_swap hj hi]
  unfold cellsL
  apply List.map_congr_left
  intro k _
  unfold swp
  by_cases e1 : k = i
  · subst e1
    by_cases e2 : k = j
    · subst e2; rfl
    · rw [if_neg e2, if_pos rfl, if_pos rfl]
  · rw [if_neg e1, if_neg e1]
theorem cellsL_succ (c : Nat → Nat) (m k : Nat) : cellsL c m ++ [.int .i64 ((k : Nat) : Int)] = cellsL (updW c m k) (m + 1) := by
  unfold cellsL
  rw [List.range_succ, List.map_append]
  congr 1
  · apply List.map_congr_left
    intro i hi
    rw [updW_other c (by have := List.mem_range.1 hi; omega)]
  · simp [updW_same]
theorem cellsL_take (c : Nat → Nat) (m : Nat) : (cellsL c (m + 1)).take m = cellsL c m := by
  unfold cellsL
  rw [← List.map_take, List.take_range]
  simp

abbrev headsO (g m cap sb n scap : Nat) : Obj := .cells #[.slice (some ⟨g, 0, none⟩) m cap, .slice (some ⟨sb, 0, none⟩) n scap] 135
/-- The heap in the block hb: m cells in the block g, and the spills of all n cells in the block sb. -/
structure HeadsAt (w : World) (hb sb n scap g cap m : Nat) (c s : Nat → Nat) : Prop where
  obj : w.heap[hb]? = some (headsO g m cap sb n scap)
  own : w.ownsRow 0 3 1 (.slice (some ⟨g, 0, none⟩) m cap) m (cellsL c m)
  sp : FlAt w sb 0 n s
  gh : g ≠ hb
  gs : g ≠ sb
  hs : hb ≠ sb
  nc : n ≤ scap
  n1 : 1 ≤ n
  n2 : n ≤ 65536
  m2 : m ≤ 131072
theorem HeadsAt.cap1 {w : World} {hb sb n scap g cap m : Nat} {c s : Nat → Nat} (h : HeadsAt w hb sb n scap g cap m c s) : m ≤ cap ∧ cap ≤ maxLen ∧ g < w.heap.size := by
  rcases h.own.2 with ⟨h', _⟩ | ⟨g', cap', cur, h', _, hg, a, b, _⟩
  · cases h'
  · cases h'
    exact ⟨a, b, (blkC hg).2.2⟩
theorem HeadsAt.cell {w : World} {hb sb n scap g cap m : Nat} {c s : Nat → Nat} (h : HeadsAt w hb sb n scap g cap m c s) {i : Nat} (hi : i < m) : w.cell? ⟨g, i, none⟩ = some (.int .i64 ((c i : Nat) : Int)) := by
  rw [h.own.cellAt i (by omega), cellsL_get hi]

set_option maxHeartbeats 400000 in
theorem len_any (w : World) (hb sb n scap g cap m : Nat) (c s : Nat → Nat) (h : HeadsAt w hb sb n scap g cap m c s) :
    Calls Tryd.prog 120 #[.pointer (some ⟨hb, 0, none⟩)] w fun e w' => e = .returned (.int .i64 m) ∧ w = w' := by
  obtain ⟨cH, fH, zH⟩ := blkC h.obj
  clear h
  go_enter Tryd.func120, Tryd.ntmps120
  go_wp2
  go_ret
  exact ⟨rfl, rfl⟩

set_option maxHeartbeats 2000000 in
theorem less_any (w : World) (hb sb n scap g cap m : Nat) (c s : Nat → Nat) (h : HeadsAt w hb sb n scap g cap m c s) (i j : Nat) (hi : i < m) (hj : j < m) (ci : c i < n) (cj : c j < n) :
    Calls Tryd.prog 184 #[.pointer (some ⟨hb, 0, none⟩), .int .i64 i, .int .i64 j] w fun e w' => e = .returned (.bool (ltB (s (c i)) (s (c j)))) ∧ ∃ q, w' = w.drewN q := by
  obtain ⟨cH, fH, zH⟩ := blkC h.obj
  have k1 := h.cell hi
  have k2 := h.cell hj
  have k3 := h.sp (c i) ci
  have k4 := h.sp (c j) cj
  rw [Nat.zero_add] at k3 k4
  have i1 : (i : Int) < (m : Int) := by omega
  have j1 : (j : Int) < (m : Int) := by omega
  have a1 : ((c i : Nat) : Int) < (n : Int) := by omega
  have a2 : ((c j : Nat) : Int) < (n : Int) := by omega
  clear h ci cj hi hj
  unfold ltB
  generalize s (c i) = x at *
  generalize s (c j) = y at *
  generalize c i = p at *
  generalize c j = q at *
  go_enter Tryd.func184, Tryd.ntmps184
  go_wp2
  go_quiet (fail)
  go_wp2
  go_ret
  exact ⟨rfl, _, rfl⟩

/-- What the heap's methods keep: every block that was there, but for the heap's own and the one of its cells. -/
structure Kept (hb g : Nat) (w w' : World) : Prop where
  os : w'.os = w.os
  tape : w'.tape = w.tape
  output : w'.output = w.output
  size : w.heap.size ≤ w'.heap.size
  block : ∀ k, k < w.heap.size → k ≠ hb → k ≠ g → w'.heap[k]? = w.heap[k]?
theorem Kept.refl (hb g : Nat) (w : World) : Kept hb g w w := ⟨rfl, rfl, rfl, Nat.le_refl _, fun _ _ _ _ => rfl⟩
theorem Kept.drewN (hb g : Nat) (w : World) (q : Nat) : Kept hb g w (w.drewN q) := ⟨rfl, rfl, rfl, Nat.le_refl _, fun _ _ _ _ => rfl⟩
theorem Kept.trans {hb g g' : Nat} {a b c : World} (h : Kept hb g a b) (k : Kept hb g' b c) (hg : g' = g ∨ a.heap.size ≤ g') : Kept hb g a c :=
  ⟨k.os.trans h.os, k.tape.trans h.tape, k.output.trans h.output, Nat.le_trans h.size k.size, fun i hi h1 h2 => (k.block i (Nat.lt_of_lt_of_le hi h.size) h1 (by rcases hg with rfl | hg <;> omega)).trans (h.block i hi h1 h2)⟩
theorem Kept.setCell {hb g : Nat} {a b : World} (h : Kept hb g a b) {p : Addr} (hp : p.block = hb ∨ p.block = g) (u : Value) : Kept hb g a (b.setCell p u) :=
  ⟨h.os, h.tape, h.output, by simpa using h.size, fun i hi h1 h2 => (heap_setCell_other b p i u (by rcases hp with e | e <;> rw [e] <;> omega)).trans (h.block i hi h1 h2)⟩
theorem HeadsAt.kept {w w' : World} {hb sb n scap g cap m : Nat} {c s : Nat → Nat} (h : HeadsAt w hb sb n scap g cap m c s) (e : ∀ k, k = hb ∨ k = sb ∨ k = g → w'.heap[k]? = w.heap[k]?) : HeadsAt w' hb sb n scap g cap m c s := by
  refine ⟨(e hb (.inl rfl)).trans h.obj, ?_, flAt_congr h.sp (e sb (.inr (.inl rfl))), h.gh, h.gs, h.hs, h.nc, h.n1, h.n2, h.m2⟩
  obtain ⟨h1, h2⟩ := h.own
  refine ⟨h1, ?_⟩
  rcases h2 with h2 | ⟨g', cap', cur, hv, hg, hh, r⟩
  · exact .inl h2
  · cases hv
    exact .inr ⟨g, cap, cur, rfl, hg, (e g (.inr (.inr rfl))).trans hh, r⟩
theorem HeadsAt.drewN {w : World} {hb sb n scap g cap m : Nat} {c s : Nat → Nat} (h : HeadsAt w hb sb n scap g cap m c s) (q : Nat) : HeadsAt (w.drewN q) hb sb n scap g cap m c s := h.kept fun _ _ => rfl

theorem heads_swap {w : World} {hb sb n scap g cap m : Nat} {c s : Nat → Nat} (h : HeadsAt w hb sb n scap g cap m c s) {i j : Nat} (hi : i < m) (hj : j < m) :
    HeadsAt ((w.setCell ⟨g, i, none⟩ (.int .i64 ((c j : Nat) : Int))).setCell ⟨g, j, none⟩ (.int .i64 ((c i : Nat) : Int))) hb sb n scap g cap m (swp c i j) s := by
  have o := ((h.own.stored i (.int .i64 ((c j : Nat) : Int))).1.stored j (.int .i64 ((c i : Nat) : Int))).1
  rw [cellsL_swap hi hj] at o
  have e : ∀ k, k ≠ g → ((w.setCell ⟨g, i, none⟩ (.int .i64 ((c j : Nat) : Int))).setCell ⟨g, j, none⟩ (.int .i64 ((c i : Nat) : Int))).heap[k]? = w.heap[k]? := fun k hk =>
    (heap_setCell_other _ _ k _ hk).trans (heap_setCell_other _ _ k _ hk)
  exact ⟨(e hb (Ne.symm h.gh)).trans h.obj, o, flAt_congr h.sp (e sb (Ne.symm h.gs)), h.gh, h.gs, h.hs, h.nc, h.n1, h.n2, h.m2⟩
theorem heads_swap' {w : World} {hb sb n scap g cap m : Nat} {c s : Nat → Nat} (h : HeadsAt w hb sb n scap g cap m c s) {i j : Nat} (hi : i < m) (hj : j < m) :
    HeadsAt ((w.setCell ⟨g, j, none⟩ (.int .i64 ((c i : Nat) : Int))).setCell ⟨g, i, none⟩ (.int .i64 ((c j : Nat) : Int))) hb sb n scap g cap m (swp c i j) s := by
  have o := ((h.own.stored j (.int .i64 ((c i : Nat) : Int))).1.stored i (.int .i64 ((c j : Nat) : Int))).1
  rw [cellsL_swap' hi hj] at o
  have e : ∀ k, k ≠ g → ((w.setCell ⟨g, j, none⟩ (.int .i64 ((c i : Nat) : Int))).setCell ⟨g, i, none⟩ (.int .i64 ((c j : Nat) : Int))).heap[k]? = w.heap[k]? := fun k hk =>
    (heap_setCell_other _ _ k _ hk).trans (heap_setCell_other _ _ k _ hk)
  exact ⟨(e hb (Ne.symm h.gh)).trans h.obj, o, flAt_congr h.sp (e sb (Ne.symm h.gs)), h.gh, h.gs, h.hs, h.nc, h.n1, h.n2, h.m2⟩

set_option maxHeartbeats 4000000 in
theorem swap_any (w : World) (hb sb n scap g cap m : Nat) (c s : Nat → Nat) (h : HeadsAt w hb sb n scap g cap m c s) (i j : Nat) (hi : i < m) (hj : j < m) :
    Calls Tryd.prog 187 #[.pointer (some ⟨hb, 0, none⟩), .int .i64 i, .int .i64 j] w fun e w' => e = .returned (.tuple #[]) ∧ HeadsAt w' hb sb n scap g cap m (swp c i j) s ∧ Kept hb g w w' := by
  have H := Lib.hid h
  obtain ⟨cH, fH, zH⟩ := blkC h.obj
  have c0 : w.cell? ⟨hb, 0, none⟩ = some (.slice (some ⟨g, 0, none⟩) m cap) := cH 0
  clear cH
  have gne := h.gh
  have k1 := h.cell hi
  have k2 := h.cell hj
  have f1 := h.own.frozenAt i
  have f2 := h.own.frozenAt j
  have i1 : (i : Int) < (m : Int) := by omega
  have j1 : (j : Int) < (m : Int) := by omega
  obtain ⟨v1, y1⟩ := cell?_setCell_some (w := w) (p := ⟨g, i, none⟩) (x := .int .i64 ((c j : Nat) : Int)) (q := ⟨g, j, none⟩) (v := .int .i64 ((c j : Nat) : Int)) k2
  obtain ⟨v2, y2⟩ := cell?_setCell_some (w := w) (p := ⟨g, j, none⟩) (x := .int .i64 ((c i : Nat) : Int)) (q := ⟨g, i, none⟩) (v := .int .i64 ((c i : Nat) : Int)) k1
  have I := Lib.hid hi
  have J := Lib.hid hj
  clear h hi hj
  go_enter Tryd.func187, Tryd.ntmps187
  go_wp2
  go_region
  all_goals go_end0
  all_goals first
    | exact ⟨rfl, (heads_swap H.out I.out J.out).kept (fun _ _ => rfl), ((Kept.refl hb g w).setCell (.inr rfl) _).setCell (.inr rfl) _⟩
    | exact ⟨rfl, (heads_swap' H.out I.out J.out).kept (fun _ _ => rfl), ((Kept.refl hb g w).setCell (.inr rfl) _).setCell (.inr rfl) _⟩
    | exact ⟨rfl, (heads_swap H.out I.out J.out).kept (fun _ _ => rfl), (((Kept.refl hb g w).setCell (.inr rfl) _).setCell (.inr rfl) _).trans (Kept.drewN hb g _ 1) (.inl rfl)⟩
    | exact ⟨rfl, (heads_swap' H.out I.out J.out).kept (fun _ _ => rfl), (((Kept.refl hb g w).setCell (.inr rfl) _).setCell (.inr rfl) _).trans (Kept.drewN hb g _ 1) (.inl rfl)⟩

/-- An int in an interface value. -/
abbrev anyI (k : Nat) : Value := .iface 3 (.int .i64 (k : Int))

theorem heads_reslice {w : World} {hb sb n scap g cap m : Nat} {c s : Nat → Nat} (h : HeadsAt w hb sb n scap g cap (m + 1) c s) :
    HeadsAt (w.setCell ⟨hb, 0, none⟩ (.slice (some ⟨g, 0, none⟩) m cap)) hb sb n scap g cap m c s := by
  have e : ∀ k, k ≠ hb → (w.setCell ⟨hb, 0, none⟩ (.slice (some ⟨g, 0, none⟩) m cap)).heap[k]? = w.heap[k]? := fun k hk => heap_setCell_other _ _ k _ hk
  refine ⟨heap_setCell_same w hb 0 _ _ _ h.obj, ?_, flAt_congr h.sp (e sb (Ne.symm h.hs)), h.gh, h.gs, h.hs, h.nc, h.n1, h.n2, by have := h.m2; omega⟩
  refine ⟨by rw [cellsL_len]; omega, .inr ?_⟩
  rcases h.own.2 with ⟨h', _⟩ | ⟨g', cap', cur, h', hb', hg, a, b, d, t⟩
  · cases h'
  · cases h'
    refine ⟨g, cap, cur, rfl, hb', (e g h.gh).trans hg, by omega, b, d, ?_⟩
    have := congrArg (List.take m) t
    rw [cellsL_take, List.take_take] at this
    rw [show m * 1 = min m ((m + 1) * 1) by omega]
    exact this

set_option maxHeartbeats 1000000 in
theorem hpop_any (w : World) (hb sb n scap g cap m : Nat) (c s : Nat → Nat) (h : HeadsAt w hb sb n scap g cap (m + 1) c s) :
    Calls Tryd.prog 185 #[.pointer (some ⟨hb, 0, none⟩)] w fun e w' => e = .returned (anyI (c m)) ∧ HeadsAt w' hb sb n scap g cap m c s ∧ Kept hb g w w' := by
  have R := Lib.hid (heads_reslice h)
  obtain ⟨cH, fH, zH⟩ := blkC h.obj
  have c0 : w.cell? ⟨hb, 0, none⟩ = some (.slice (some ⟨g, 0, none⟩) (m + 1) cap) := cH 0
  have k1 := h.cell (show m < m + 1 by omega)
  obtain ⟨a1, a2, a3⟩ := h.cap1
  have b1 : (m : Int) < (m : Int) + 1 := by omega
  have b2 : ((m : Int) + 1) ≤ (cap : Int) := by omega
  have b3 : ((m : Int)) ≤ (cap : Int) := by omega
  unfold maxLen at a2
  clear h cH
  go_enter Tryd.func185, Tryd.ntmps185
  go_wp2
  go_ret
  exact ⟨rfl, R.out, (Kept.refl hb g w).setCell (.inl rfl) _⟩
end Go.Proofs.YtnbpapbpiknnnabDoor
