/- Lemmas and contracts for the proof that the last text of this claim holds. -/
import Derived.Test.YtacbemilicdklaaDoorFjB
import Derived.RangeFuncNested
import Derived.RangeFuncBound
import Derived.RangeFuncCalls
import Derived.RangeFuncLeaves
import Derived.Shelf.Abstract
import Derived.Shelf.RegionOpen
import Derived.OwnWalkIn
import Derived.TacticsInMore
import Derived.LoopNIn
import Derived.LoopIn
import Derived.OrdersIn
import Derived.StillTail
import Derived.TacticsIn
import Derived.Laws.OwnMore
import Derived.Deep.LoopGhost

/- Contracts: up, Init, Pop and Push of container/heap over the heap of cells. -/
namespace Go.Proofs.YtacbemilicdklaaDoor
open Go.RowKit Fl
set_option linter.unusedVariables false

/-- Cells that are there, with spills that have a value. -/
def OkC (n m : Nat) (c s : Nat → Nat) : Prop := ∀ i, i < m → c i < n ∧ vS (s (c i)) = some (vI (s (c i)))
theorem OkC.same {n m : Nat} {c c' s : Nat → Nat} (h : OkC n m c s) (hs : SameSet m c c') : OkC n m c' s := hs.all (P := fun x => x < n ∧ vS (s x) = some (vI (s x))) h

def UpPost (hb sb n scap g cap m : Nat) (c s : Nat → Nat) (w : World) (e : Ending) (w' : World) : Prop :=
  e = .returned (.tuple #[]) ∧ ∃ c', HeadsAt w' hb sb n scap g cap m c' s ∧ SameSet m c c' ∧ Heap m (fun x => vI (s x)) c' ∧ Kept hb g w w'

set_option maxRecDepth 100000 in
set_option maxHeartbeats 2000000 in
theorem up_any (w : World) (hb sb n scap g cap m : Nat) (c s : Nat → Nat) (h : HeadsAt w hb sb n scap g cap m c s) (hok : OkC n m c s) (j0 : Nat) (h0 : j0 < m) (hd : HeapUp m (fun x => vI (s x)) c j0) :
    Calls Tryd.prog 149 #[.iface 133 (.pointer (some ⟨hb, 0, none⟩)), .int .i64 j0] w (UpPost hb sb n scap g cap m c s w) := by
  have m2 := h.m2
  have ml := m_less
  have ms := m_swap
  have OK := Lib.hid hok
  have H := Lib.hid h
  have HD := Lib.hid hd
  clear hok h hd
  go_enter Tryd.func149, Tryd.ntmps149
  go_wp2
  go_loopw [1, 4] (fun s1 s4 wr => ∃ (j : Nat) (c' : Nat → Nat), j < m ∧ s1 = .int .i64 j ∧ HeadsAt wr hb sb n scap g cap m c' s ∧ SameSet m c c' ∧ HeapUp m (fun x => vI (s x)) c' j ∧ Kept hb g w wr)
    (fun s1 _ _ => (intOf s1).toNat)
  case atStart => exact ⟨j0, c, h0, rfl, H.out, .rfl', HD.out, Kept.refl _ _ _⟩
  case round =>
    obtain ⟨j, c', hj1, rfl, hH, hS, hD, hK⟩ := hrel
    have HH := Lib.hid hH
    have HS := Lib.hid hS
    have HU := Lib.hid hD
    have HK := Lib.hid hK
    have OK' := Lib.hid (OK.out.same hS)
    clear hH hS hD hK
    rcases Nat.eq_zero_or_pos j with rfl | hj
    · rw [show ((0 : Nat) : Int) = 0 from rfl]
      go_wp2
      go_end0
      exact ⟨rfl, c', HH.out, HS.out, up_done HU.out (.inl rfl), HK.out⟩
    · have L3 := Lib.hid (fun W (hW : HeadsAt W hb sb n scap g cap m c' s) => less_anyI W hb sb n scap g cap m c' s hW j ((j - 1) / 2) (by omega) (by omega) (OK'.out _ (by omega)).1 (OK'.out _ (by omega)).1 j (((j : Int) - 1) / 2) rfl (by omega))
      have SW := Lib.hid (fun W (hW : HeadsAt W hb sb n scap g cap m c' s) => swap_anyI W hb sb n scap g cap m c' s hW ((j - 1) / 2) j (by omega) (by omega) (((j : Int) - 1) / 2) j (by omega) rfl)
      have hne : ((((j : Int) - 1) / 2) == (j : Int)) = false := by simp; omega
      have hne' : ¬ ((((j : Int) - 1) / 2) = (j : Int)) := by omega
      have V3 := Lib.hid (ltB_val (OK'.out j (by omega)).2 (OK'.out ((j - 1) / 2) (by omega)).2)
      cases e3 : ltB (s (c' j)) (s (c' ((j - 1) / 2))) with
      | false =>
        rw [e3] at L3 V3
        clear e3
        go_wp2_with (first | (go_at_call 184; (with_reducible refine Calls.mono (L3.out _ ?_) ?_); (first | exact HH.out | exact HH.out.drewN _); rintro e w' ⟨rfl, q2, rfl⟩))
        go_end0
        exact ⟨rfl, c', (by first | exact HH.out.drewN _ | exact HH.out), HS.out, up_done HU.out (.inr (by have := V3.out; simp at this; simp; omega)), HK.out.trans (Kept.drewN _ _ _ _) (.inl rfl)⟩
      | true =>
        rw [e3] at L3 V3
        clear e3
        have HN := Lib.hid (up_swap HU.out hj (by have := V3.out; simp at this; exact this))
        go_wp2_with (first | (go_at_call 184; (with_reducible refine Calls.mono (L3.out _ ?_) ?_); (first | exact HH.out | exact HH.out.drewN _); rintro e w' ⟨rfl, q2, rfl⟩) | (go_at_call 187; (with_reducible refine Calls.mono (SW.out _ ?_) ?_); (first | exact HH.out | exact HH.out.drewN _); rintro e w3 ⟨rfl, hs3⟩; have S3 := Lib.hid hs3; clear hs3))
        go_roundw
        case rel => exact ⟨(j - 1) / 2, swp c' ((j - 1) / 2) j, by omega, num_eq (by omega), S3.out.1, HS.out.trans (same_swp (by omega) (by omega)), HN.out, (HK.out.trans (Kept.drewN _ _ _ _) (.inl rfl)).trans S3.out.2 (.inl rfl)⟩
        case measure => simp [intOf]; omega

theorem down_anyI (w : World) (hb sb n scap g cap m : Nat) (c s : Nat → Nat) (h : HeadsAt w hb sb n scap g cap m c s) (hok : OkC n m c s) (i0 n0 : Nat) (h0 : n0 ≤ m) (h1 : i0 ≤ n0)
    (hd : HeapDown i0 n0 (fun x => vI (s x)) c i0) (x y : Int) (hx : (i0 : Int) = x) (hy : (n0 : Int) = y) :
    Calls Tryd.prog 146 #[.iface 133 (.pointer (some ⟨hb, 0, none⟩)), .int .i64 x, .int .i64 y] w (DownPost hb sb n scap g cap m n0 i0 c s w) := by
  subst hx; subst hy; exact down_any w hb sb n scap g cap m c s h hok i0 n0 h0 h1 hd

set_option maxRecDepth 100000 in
set_option maxHeartbeats 2000000 in
theorem hinit_any (w : World) (hb sb n scap g cap m : Nat) (c s : Nat → Nat) (h : HeadsAt w hb sb n scap g cap m c s) (hok : OkC n m c s) :
    Calls Tryd.prog 119 #[.iface 133 (.pointer (some ⟨hb, 0, none⟩))] w (UpPost hb sb n scap g cap m c s w) := by
  have m2 := h.m2
  have ml := m_len
  have LN := Lib.hid (len_any w hb sb n scap g cap m c s h)
  have OK := Lib.hid hok
  have H := Lib.hid h
  clear hok h
  go_enter Tryd.func119, Tryd.ntmps119
  go_wp2_with (go_at_call 120; refine LN.out.mono ?_; rintro e w' ⟨rfl, rfl⟩)
  go_loopw [3] (fun s3 wr => ∃ (q : Nat) (c' : Nat → Nat), q ≤ m ∧ s3 = .int .i64 ((q : Int) - 1) ∧ HeadsAt wr hb sb n scap g cap m c' s ∧ SameSet m c c' ∧ HeapFrom q m (fun x => vI (s x)) c' ∧ Kept hb g w wr)
    (fun s3 _ => (intOf s3 + 1).toNat)
  case atStart => exact ⟨m / 2, c, by omega, num_eq (by omega), H.out, .rfl', heap_all, Kept.refl _ _ _⟩
  case round =>
    obtain ⟨q, c', hq1, rfl, hH, hS, hD, hK⟩ := hrel
    have HH := Lib.hid hH
    have HS := Lib.hid hS
    have HU := Lib.hid hD
    have HK := Lib.hid hK
    have OK' := Lib.hid (OK.out.same hS)
    clear hH hS hD hK
    rcases Nat.eq_zero_or_pos q with rfl | hq
    · rw [show (((0 : Nat) : Int) - 1) = -1 from rfl]
      go_wp2
      go_end0
      exact ⟨rfl, c', HH.out, HS.out, heap_from HU.out, HK.out⟩
    · have DN := Lib.hid (down_anyI wr hb sb n scap g cap m c' s HH.out OK'.out (q - 1) m (Nat.le_refl _) (by omega) (down_start (by rw [show q - 1 + 1 = q by omega]; exact HU.out)) ((q : Int) - 1) m (by omega) rfl)
      go_wp2_with (go_at_call 146; refine DN.out.mono ?_; rintro e w3 ⟨⟨b, rfl⟩, c3, h3⟩; have H3 := Lib.hid h3; clear h3)
      go_roundw
      case rel => exact ⟨q - 1, c3, by omega, num_eq (by omega), H3.out.1, HS.out.trans H3.out.2.1, H3.out.2.2.2.1, HK.out.trans H3.out.2.2.2.2 (.inl rfl)⟩
      case measure => simp [intOf]; omega

def PopPost (hb sb n scap g cap m : Nat) (c s : Nat → Nat) (w : World) (e : Ending) (w' : World) : Prop :=
  e = .returned (anyI (c 0)) ∧ ∃ c', HeadsAt w' hb sb n scap g cap m c' s ∧ SameSet m (swp c 0 m) c' ∧ Heap m (fun x => vI (s x)) c' ∧ Kept hb g w w'

set_option maxRecDepth 100000 in
set_option maxHeartbeats 2000000 in
theorem pop_any (w : World) (hb sb n scap g cap m : Nat) (c s : Nat → Nat) (h : HeadsAt w hb sb n scap g cap (m + 1) c s) (hok : OkC n (m + 1) c s) (hh : Heap (m + 1) (fun x => vI (s x)) c) :
    Calls Tryd.prog 121 #[.iface 133 (.pointer (some ⟨hb, 0, none⟩))] w (PopPost hb sb n scap g cap m c s w) := by
  have m2 := h.m2
  have ml := m_len
  have mp := m_pop
  have ms := m_swap
  have LN := Lib.hid (len_any w hb sb n scap g cap (m + 1) c s h)
  have SW := Lib.hid (swap_anyI w hb sb n scap g cap (m + 1) c s h 0 m (by omega) (by omega) 0 m rfl rfl)
  have DN := Lib.hid (fun W hW => down_anyI W hb sb n scap g cap (m + 1) (swp c 0 m) s hW (hok.same (same_swp (by omega) (by omega))) 0 m (by omega) (by omega) (down_start (pop_start hh)) 0 m rfl rfl)
  clear hok h hh
  go_enter Tryd.func121, Tryd.ntmps121
  go_wp2_with (first | (go_at_call 120; refine LN.out.mono ?_; rintro e w' ⟨rfl, rfl⟩) | (go_at_call 187; refine SW.out.mono ?_; rintro e w1 ⟨rfl, hs1⟩; have S1 := Lib.hid hs1; clear hs1) | (go_at_call 146; refine (DN.out _ S1.out.1).mono ?_; rintro e w2 ⟨⟨b, rfl⟩, c2, h2⟩; have H2 := Lib.hid h2; clear h2) | (go_at_call 185; refine (hpop_any _ hb sb n scap g cap m c2 s H2.out.1).mono ?_; rintro e w3 ⟨rfl, h3⟩; have H3 := Lib.hid h3; clear h3))
  go_ret
  exact ⟨by rw [H2.out.2.2.1 m (Nat.le_refl _), swp_j]; rfl, c2, H3.out.1, H2.out.2.1, heap_from H2.out.2.2.2.1, (S1.out.2.trans H2.out.2.2.2.2 (.inl rfl)).trans H3.out.2 (.inl rfl)⟩

def PushPost (hb sb n scap g m : Nat) (c s : Nat → Nat) (k : Nat) (w : World) (e : Ending) (w' : World) : Prop :=
  e = .returned (.tuple #[]) ∧ ∃ g' cap' c', HeadsAt w' hb sb n scap g' cap' (m + 1) c' s ∧ SameSet (m + 1) (updW c m k) c' ∧ Heap (m + 1) (fun x => vI (s x)) c' ∧ Kept hb g w w' ∧ (g' = g ∨ w.heap.size ≤ g')

set_option maxRecDepth 100000 in
set_option maxHeartbeats 2000000 in
theorem push_any (w : World) (hb sb n scap g cap m : Nat) (c s : Nat → Nat) (h : HeadsAt w hb sb n scap g cap m c s) (hok : OkC n m c s) (hh : Heap m (fun x => vI (s x)) c) (k : Nat) (hm : m < 131072) (hk : k < n) (hv : vS (s k) = some (vI (s k))) :
    Calls Tryd.prog 123 #[.iface 133 (.pointer (some ⟨hb, 0, none⟩)), anyI k] w (PushPost hb sb n scap g m c s k w) := by
  have ml := m_len
  have mp := m_push
  have PU := Lib.hid (hpush_any w hb sb n scap g cap m c s h k hm)
  have OK := Lib.hid (show OkC n (m + 1) (updW c m k) s from fun i hi => by
    by_cases e : i = m
    · subst e; rw [updW_same]; exact ⟨hk, hv⟩
    · rw [updW_other c e]; exact hok i (by omega))
  have HU := Lib.hid (show HeapUp (m + 1) (fun x => vI (s x)) (updW c m k) m from up_start hh (fun i hi => updW_other c (by omega)))
  clear hok h hh hv
  go_enter Tryd.func123, Tryd.ntmps123
  go_wp2_with (first | (go_at_call 186; refine PU.out.mono ?_; rintro e w1 ⟨rfl, g', cap', hs1⟩; have S1 := Lib.hid hs1; clear hs1) | (go_at_call 120; refine (len_any _ hb sb n scap g' cap' (m + 1) _ s S1.out.1).mono ?_; rintro e w' ⟨rfl, rfl⟩) | (go_at_call 149; refine (up_any _ hb sb n scap g' cap' (m + 1) _ s S1.out.1 OK.out m (by omega) HU.out).mono ?_; rintro e w2 ⟨rfl, c2, h2⟩; have H2 := Lib.hid h2; clear h2))
  go_end0
  exact ⟨rfl, g', cap', c2, H2.out.1, H2.out.2.1, H2.out.2.2.1, S1.out.2.1.trans H2.out.2.2.2 S1.out.2.2, S1.out.2.2⟩
end Go.Proofs.YtacbemilicdklaaDoor

/- Contracts: isBorder; neighbours, and the iterator that it hands back: the neighbours of a cell in the order of directions. -/
namespace Go.Proofs.YtacbemilicdklaaDoor
open Go.RowKit Fl Go.Shelf
set_option linter.unusedVariables false
attribute [local go_sem] Oper.semAt_some

set_option maxRecDepth 100000 in
set_option maxHeartbeats 2000000 in
theorem isBorder_any (X Y : Int) (W H k : Nat) (w : World) (hW1 : 1 ≤ W) (hW2 : W ≤ 512) (hH1 : 1 ≤ H) (hH2 : H ≤ 512) (hk : k < W * H) :
    Calls Tryd.prog 118 #[reg X Y W H, .int .i64 k] w fun e w' => e = .returned (.bool (bdB W H k)) ∧ Below w.heap.size w w' := by
  have BD := Lib.hid (show bdB W H k = decide (k % W = 0 ∨ k / W = 0 ∨ k % W + 1 = W ∨ k / W + 1 = H) from rfl)
  obtain ⟨a, ha⟩ : ∃ a : Nat, a = k % W := ⟨_, rfl⟩
  obtain ⟨b, hb'⟩ : ∃ b : Nat, b = k / W := ⟨_, rfl⟩
  have b1 : (a : Int) < 512 := by have := Nat.mod_lt k (show 0 < W by omega); omega
  have b2 : (b : Int) < 512 := by have : k / W < H := Nat.div_lt_of_lt_mul hk; omega
  have t1 : (k : Int).tmod (W : Int) = (a : Int) := by rw [ha]; rw [Int.tmod_eq_emod_of_nonneg (by omega)]; simp
  have t2 : (k : Int).tdiv (W : Int) = (b : Int) := by rw [hb']; rw [Int.tdiv_eq_ediv_of_nonneg (by omega)]; simp
  have t3 : (k : Int) % (W : Int) = (a : Int) := by rw [ha]; simp
  have t4 : (k : Int) / (W : Int) = (b : Int) := by rw [hb']; simp
  have u3 : IntKind.i64.wrap (b : Int) = b := IntWalk.i64_in _ (by omega)
  have w0 : ¬ ((W : Int) = 0) := by omega
  have w0' : ¬ (W = 0) := by omega
  have t6 : k % W = a := ha.symm
  have t7 : k / W = b := hb'.symm
  have w1 : (1 : Int) ≤ (W : Int) := by omega
  have i0 : (0 : Int) ≤ (k : Int) := by omega
  have BD' : Hid (bdB W H k = decide (a = 0 ∨ b = 0 ∨ a + 1 = W ∨ b + 1 = H)) := by
    have h := BD.out
    rw [t6, t7] at h
    exact Lib.hid h
  clear ha hb' BD hk
  obtain ⟨q, hq⟩ : ∃ q, q = bdB W H k := ⟨_, rfl⟩
  rw [← hq] at BD' ⊢
  clear hq
  go_enter Tryd.func118, Tryd.ntmps118
  go_wp2
  go_region
  all_goals clear t1 t2 t3 t4 t6 t7 u3 w0 w0' i0
  all_goals go_wp2
  all_goals go_ret
  all_goals exact ⟨ret_bool (by first | (rw [BD'.out]; simp; omega) | (rw [BD'.out, Bool.eq_iff_iff]; simp; omega)), by repeat (first | exact Below.refl _ _ | refine Below.drew ?_ | refine Below.alloc ?_ (by simp; try omega) _ | exact ((Below.refl _ _).alloc (Nat.le_refl _) _).trans ((below_drewN _ _).mono (by simp)))⟩

/-- What neighbours hands back: a closure of the region and of the place, each in a box of its own. -/
def NbrPost (w : World) (X Y : Int) (W H k : Nat) (e : Ending) (w' : World) : Prop :=
  ∃ q, w.heap.size < q ∧ e = .returned (.func (.func 147) #[] #[.pointer (some ⟨w.heap.size, 0, none⟩), .pointer (some ⟨q, 0, none⟩)]) ∧
    w'.heap[w.heap.size]? = some (regObj X Y W H) ∧ w'.heap[q]? = some (ptO (X + ((k % W : Nat) : Int)) (Y + ((k / W : Nat) : Int))) ∧ q < w'.heap.size ∧ Below w.heap.size w w'

set_option maxHeartbeats 1000000 in
theorem neighbours_any (X Y : Int) (W H k : Nat) (w : World) (hX1 : -4194304 ≤ X) (hX2 : X ≤ 4194304) (hY1 : -4194304 ≤ Y) (hY2 : Y ≤ 4194304) (hW1 : 1 ≤ W) (hW2 : W ≤ 512) (hi : k < 65536) :
    Calls Tryd.prog 122 #[reg X Y W H, .int .i64 k] w (NbrPost w X Y W H k) := by
  have PL := Lib.hid (fun w => place_any X Y W H k w hX1 hX2 hY1 hY2 hW1 hW2 hi)
  obtain ⟨x, hx⟩ : ∃ x, x = X + ((k % W : Nat) : Int) := ⟨_, rfl⟩
  obtain ⟨y, hy⟩ : ∃ y, y = Y + ((k / W : Nat) : Int) := ⟨_, rfl⟩
  have EX := Lib.hid hx
  have EY := Lib.hid hy
  rw [← hx, ← hy] at PL
  clear hx hy
  go_enter Tryd.func122, Tryd.ntmps122
  go_wp2_with (go_at_call 79; refine (PL.out _).mono ?_; rintro e w3 ⟨rfl, hb3⟩; have HR3 := Lib.hid (blkStay (b := w.heap.size) (o := regObj X Y W H) (by ((simp only [heap_alloc_get, if_true]) <;> ((repeat' split) <;> first | rfl | omega))) hb3); have hB3 : Below w.heap.size w w3 := Below.trans (by repeat (first | exact Below.refl _ _ | refine Below.alloc ?_ (by first | omega | (simp; done) | (simp; omega)) _ | refine Below.setCell ?_ (by first | omega | (simp; done) | (simp; omega)) _ | refine Below.drew ?_)) (Below.mono hb3 (by first | omega | (simp; done) | (simp; omega))); have hz3 : w.heap.size < w3.heap.size := (by have := hb3.size; simp at this; omega); clear hb3)
  go_ret
  exact ⟨w3.heap.size, hz3, rfl, (heap_alloc_old _ _ hz3).trans HR3.out, by rw [← EX.out, ← EY.out]; exact heap_alloc_new _ _, by simp, hB3.alloc (Nat.le_of_lt hz3) _⟩

/-- The neighbours in the directions below j: direction and number. -/
def nbrs (W H k j : Nat) : List (Nat × Nat) := (List.range j).filterMap fun d => (nbI W H k d).map fun m => (d, m)
theorem nbrs_none {W H k j : Nat} (h : nbI W H k j = none) : nbrs W H k (j + 1) = nbrs W H k j := by simp [nbrs, List.range_succ, h]
theorem nbrs_some {W H k j m : Nat} (h : nbI W H k j = some m) : nbrs W H k (j + 1) = nbrs W H k j ++ [(j, m)] := by simp [nbrs, List.range_succ, h]
theorem nbrs_len (W H k j : Nat) : (nbrs W H k j).length ≤ j := by
  unfold nbrs; exact Nat.le_trans (List.length_filterMap_le _ _) (by simp)
def encN (x : Nat × Nat) : Array Value := #[.int .i64 (x.1 : Int), .int .i64 (x.2 : Int)]

/-- What a round keeps: the iterator's two boxes and the table of directions. -/
def KpN (r q : Nat) (W W' : World) : Prop := ∀ b, b = r ∨ b = q ∨ b = 1 → W'.heap[b]? = W.heap[b]?
theorem kpN_t {r q : Nat} {A B C : World} (h : KpN r q A B) (k : KpN r q B C) : KpN r q A C := fun b hb => (k b hb).trans (h b hb)
theorem kpN_b {r q : Nat} {w : World} (hr : r < w.heap.size) (hq : q < w.heap.size) (hg : 1 < w.heap.size) (W : World) (l : Nat) (o o' : Obj) (hl : w.heap.size ≤ l) (h : W.heap[l]? = some o) (_ : o.isCells = false) (_ : o.isWalk = false) : KpN r q W (W.putObj l o') :=
  fun b hb => World.putObj_heap_other (by rcases hb with rfl | rfl | rfl <;> omega)
theorem DirsAt.congr {w w' : World} (h : DirsAt w) (e : w'.heap[1]? = w.heap[1]?) : DirsAt w' := fun d hd => by
  obtain ⟨a, b⟩ := h d hd
  exact ⟨(World.cell?_of_block (w := w) (w' := w') (a := ⟨1, d * 2, none⟩) e).trans a, (World.cell?_of_block (w := w) (w' := w') (a := ⟨1, d * 2 + 1, none⟩) e).trans b⟩

theorem grown_of {w w' : World} (h : Below w.heap.size w w') : w.grownBy w' none := ⟨h.os, h.tape, h.output, h.size, fun k hk _ => h.block k hk⟩

set_option maxRecDepth 100000 in
set_option maxHeartbeats 400000 in
/-- The iterator of neighbours, in whatever loop. -/
theorem nbr1_any (X Y x y : Int) (W H k r q : Nat) (n : Nat) (hn : 1 ≤ n) (l : Nat) (hX1 : -4194304 ≤ X) (hX2 : X ≤ 4194304) (hY1 : -4194304 ≤ Y) (hY2 : Y ≤ 4194304) (hW2 : W ≤ 512) (hH2 : H ≤ 512) (hk : k < W * H)
    (ex : x = X + ((k % W : Nat) : Int)) (ey : y = Y + ((k / W : Nat) : Int)) (x1 : -4194304 ≤ x) (x2 : x ≤ 4194304) (y1 : -4194304 ≤ y) (y2 : y ≤ 4194304) (J Jx : List (Nat × Nat) → World → Prop)
    (hJ : ∀ s W W', J s W → W.grownBy W' none → J s W')
    (hY : ∀ pre x W1, J pre W1 → pre.length < 8 → x.1 < 8 → nbI W H k x.1 = some x.2 → YieldAt Fence.wide (n - 1) Tryd.prog l (encN x) W1 fun e W' =>
      (e = .returned (.bool true) ∧ J (pre ++ [x]) W' ∧ KpN r q W1 W') ∨ (e = .returned (.bool false) ∧ Jx (pre ++ [x]) W'))
    (w : World) (hD : DirsAt w) (hr : w.heap[r]? = some (regObj X Y W H)) (hq : w.heap[q]? = some (ptO x y)) (h0 : J [] w) :
    CallsIn Fence.wide n Tryd.prog 147 #[.func (.yield l) #[] #[], .pointer (some ⟨r, 0, none⟩), .pointer (some ⟨q, 0, none⟩)] w fun e W' => (∃ v, e = .returned v) ∧
      (J (nbrs W H k 8) W' ∨ ∃ j, j ≤ 8 ∧ Jx (nbrs W H k j) W') := by
  have EX := Lib.hid ex
  have EY := Lib.hid ey
  clear ex ey
  refine callsIn_of_wp Tryd.func147 rfl trivial ?_ rfl
  simp only [Tryd.ntmps147, List.size_toArray, List.length_cons, List.length_nil, Nat.reduceAdd, Nat.reduceSub, Array.replicate_succ, Array.replicate_zero, List.push_toArray, List.append_toArray, List.nil_append, List.cons_append]
  gi_wp2
  gi_loopw [4, 5, 6, 7] (fun s4 s5 s6 s7 wr => ∃ j : Nat, j ≤ 8 ∧ s7 = .int .i64 j ∧ J (nbrs W H k j) wr ∧ DirsAt wr ∧ wr.heap[r]? = some (regObj X Y W H) ∧ wr.heap[q]? = some (ptO x y))
    (fun _ _ _ i _ => 8 - (intOf i).toNat)
  case atStart => exact ⟨0, Nat.zero_le _, rfl, h0, hD, hr, hq⟩
  case round =>
    obtain ⟨j, hj, rfl, hJs, hDs, hrs, hqs⟩ := hrel
    have HJ := Lib.hid hJs
    have HD := Lib.hid hDs
    have HR := Lib.hid hrs
    have HQ := Lib.hid hqs
    obtain ⟨cR, fR, zR⟩ := blkC hrs
    obtain ⟨cQ, fQ, zQ⟩ := blkC hqs
    clear hJs hDs hrs hqs
    by_cases hlt : j < 8
    · have BS := Lib.hid (beside_any X Y x y W H j wr HD.out hlt hX1 hX2 hY1 hY2 hW2 hH2 x1 x2 y1 y2)
      cases hnb : nbI W H k j with
      | none =>
        have hz := bes_none (X := X) (Y := Y) hnb
        rw [← EX.out, ← EY.out] at hz
        rw [hz] at BS
        have NN := Lib.hid (nbrs_none hnb)
        clear hz hnb
        generalize (y + dyI j - Y) * (W : Int) + (x + dxI j - X) = ix at *
        gi_wp2_with (refine ⟨trivial, ?_⟩; gi_at_call 148; refine (callsIn_wide.2 BS.out).mono ?_; rintro e w2 ⟨rfl, hb2⟩; have HB2 := Lib.hid hb2; clear hb2 cR fR zR cQ fQ zQ)
        refine ⟨fun _ h => (by cases h), ?_⟩
        gi_wp2
        go_roundw
        case rel => exact ⟨j + 1, by omega, by go_num, by rw [NN.out]; exact hJ _ _ _ HJ.out (grown_of HB2.out), HD.out.stay HB2.out, blkStay HR.out HB2.out, blkStay HQ.out HB2.out⟩
        case measure => simp [intOf]; omega
      | some m =>
        obtain ⟨e1, hz⟩ := bes_some (X := X) (Y := Y) hk hnb
        rw [← EX.out, ← EY.out] at hz e1
        rw [hz, e1] at BS
        have NN := Lib.hid (nbrs_some hnb)
        have LN := Lib.hid (show (nbrs W H k j).length < 8 from Nat.lt_of_le_of_lt (nbrs_len W H k j) hlt)
        have NB := Lib.hid hnb
        clear hz e1 hnb
        gi_wp2_with (refine ⟨trivial, ?_⟩; gi_at_call 148; refine (callsIn_wide.2 BS.out).mono ?_; rintro e w2 ⟨rfl, hb2⟩; have HB2 := Lib.hid hb2; clear hb2 cR fR zR cQ fQ zQ; obtain ⟨fn, tmps, assign, body, hy, hR⟩ := hY (nbrs W H k j) (j, m) w2 (hJ _ _ _ HJ.out (grown_of HB2.out)) LN.out hlt NB.out; simp only [encN] at hy; have RR := Lib.hid hR; clear hR)
        refine RR.out.mono ?_
        rintro e W3 (⟨rfl, hJ3, hk3⟩ | ⟨rfl, hJx3⟩)
        · have J3 := Lib.hid hJ3
          have K3 := Lib.hid hk3
          clear hJ3 hk3 hy
          gi_wp2
          go_roundw
          case rel => exact ⟨j + 1, by omega, by go_num, by rw [NN.out]; exact J3.out, (HD.out.stay HB2.out).congr (K3.out _ (.inr (.inr rfl))), (K3.out r (.inl rfl)).trans (blkStay HR.out HB2.out), (K3.out q (.inr (.inl rfl))).trans (blkStay HQ.out HB2.out)⟩
          case measure => simp [intOf]; omega
        · have J3 := Lib.hid hJx3
          clear hJx3 hy
          gi_wp2
          refine bodyPost_ret (results_none rfl _ _ _) rfl ?_
          exact ⟨⟨_, rfl⟩, .inr ⟨j + 1, by omega, by rw [NN.out]; exact J3.out⟩⟩
    · have hj8 : j = 8 := by omega
      subst hj8
      gi_wp2
      go_end0
      exact ⟨⟨_, rfl⟩, .inl HJ.out⟩

theorem enters_nbr1 : Enters 147 := by intro args W; simp [callFunc, Tryd.func147, Tryd.f147]

/-- A neighbour of the cell k: its direction, its number. -/
def Nb (W H k : Nat) : Type := { p : Nat × Nat // p.1 < 8 ∧ nbI W H k p.1 = some p.2 }
def encNb {W H k : Nat} (x : Nb W H k) : Array Value := encN x.1

/-- neighbours' closure, as the law of a range over a function wants it. -/
theorem nbr_stops (X Y x y : Int) (W H k r q : Nat) (n : Nat) (hn : 1 ≤ n) (hX1 : -4194304 ≤ X) (hX2 : X ≤ 4194304) (hY1 : -4194304 ≤ Y) (hY2 : Y ≤ 4194304) (hW2 : W ≤ 512) (hH2 : H ≤ 512) (hk : k < W * H)
    (ex : x = X + ((k % W : Nat) : Int)) (ey : y = Y + ((k / W : Nat) : Int)) (x1 : -4194304 ≤ x) (x2 : x ≤ 4194304) (y1 : -4194304 ≤ y) (y2 : y ≤ 4194304)
    (w : World) (hD : DirsAt w) (hr : w.heap[r]? = some (regObj X Y W H)) (hq : w.heap[q]? = some (ptO x y)) :
    SeqStopsK Fence.wide n Tryd.prog 147 #[.pointer (some ⟨r, 0, none⟩), .pointer (some ⟨q, 0, none⟩)] (encNb (W := W) (H := H) (k := k)) (KpN r q) (fun xs => xs.map (fun z => z.1) = nbrs W H k 8) (fun pre => ∃ j, j ≤ 8 ∧ pre.map (fun z => z.1) = nbrs W H k j) 8 w := fun l J Jx W1 hW hJ hJx hY h0 => by
  refine (nbr1_any X Y x y W H k r q n hn l hX1 hX2 hY1 hY2 hW2 hH2 hk ex ey x1 x2 y1 y2 (fun pre W2 => ∃ p : List (Nb W H k), p.map (fun z => z.1) = pre ∧ J p W2) (fun pre W2 => ∃ p : List (Nb W H k), p.map (fun z => z.1) = pre ∧ Jx p W2)
    (fun s A B hs hg => by obtain ⟨p, e, h⟩ := hs; exact ⟨p, e, hJ p A B none h hg (fun r e => by cases e)⟩) ?_ W1 (hD.stay hW) (blkStay hr hW) (blkStay hq hW) ⟨[], rfl, h0⟩).mono ?_
  · rintro pre z W2 ⟨p, rfl, hp⟩ hlen h8 hnb
    refine (hY p ⟨z, h8, hnb⟩ W2 hp (by simpa using hlen)).mono ?_
    rintro e W' (⟨h1, h2, h3⟩ | ⟨h1, h2⟩)
    · exact .inl ⟨h1, ⟨_, by rw [List.map_append]; rfl, h2⟩, h3⟩
    · exact .inr ⟨h1, ⟨_, by rw [List.map_append]; rfl, h2⟩⟩
  · rintro e W' ⟨hv, ⟨p, e1, h⟩ | ⟨j, hj, p, e1, h⟩⟩
    · exact ⟨hv, .inl ⟨p, e1, h⟩⟩
    · exact ⟨hv, .inr ⟨p, ⟨j, hj, e1⟩, h⟩⟩
theorem nbrs_mem {W H k e m : Nat} (he : e < 8) (h : nbI W H k e = some m) : (e, m) ∈ nbrs W H k 8 := by
  unfold nbrs
  exact List.mem_filterMap.2 ⟨e, List.mem_range.2 he, by rw [h]; rfl⟩
end Go.Proofs.YtacbemilicdklaaDoor

/- A region that draws its order, in a round of a range over a function: walked as outside of it. -/
namespace Go.Proofs.YtacbemilicdklaaDoor
set_option linter.unusedVariables false

theorem rowsIn_round {l n : Nat} {P : Program} {row : String} {args : Array Value} {w : World} {R : Value → World → Prop} (h : Rows P row args w R) : RowsIn (Fence.wide.inRound l) n P row args w R :=
  fun c cs _ => let ⟨v, w', r, s⟩ := h c cs; ⟨v, w', r, stepsIn_wide.2 s⟩
theorem uponIn_round {l n : Nat} {P : Program} {o : Oper} {a : Act} {next : Act → World → Prop} {Q : Exit → Act → World → Prop} {r : Result Next} (h : o.upon P a next Q r) : o.uponIn (Fence.wide.inRound l) n P a next Q r := by
  cases r with
  | ok x w' =>
    cases x <;> first
      | exact h
      | exact ⟨fun e => by simp [Fence.wide] at e, CallsIn.inRound l (callsIn_wide.2 h)⟩
      | exact ⟨fun e => by simp [Fence.wide] at e, rowsIn_round h⟩
      | exact h.elim
  | halt x w' =>
    cases x <;> first | exact h | exact h.elim

/-- An operation's plain walk is one in a round, where it is no defer. -/
theorem wpOpIn_round {l n : Nat} {P : Program} {ops : Array Oper} {Q : Exit → Act → World → Prop} {i : Nat} {K K' : Act → World → Prop} {a : Act} {w : World} (hd : ∀ o, ops[i]? = some o → ∀ c, o.op ≠ .defer c) (hq : ¬ LetsOut Q)
    (hk : ∀ a w, K a w → K' a w) (h : wpOp P ops Q i K a w) : wpOpIn (Fence.wide.inRound l) n P ops Q i K' a w := by
  refine wpOpIn_mono hk ?_
  unfold wpOp at h
  unfold wpOpIn
  cases ho : ops[i]? with
  | none => rw [ho] at h; exact h
  | some o =>
    rw [ho] at h
    dsimp only at h ⊢
    by_cases hw : Region.wanted o (yielded ops a.tmps) = true
    · rw [if_pos hw] at h ⊢
      rcases h with h | h
      · refine ⟨fun _ _ => trivial, ?_⟩
        rw [show o.semAt (Fence.wide.inRound l).round a.eval = execOp a.eval o from Oper.semAt_some l _ _ (hd o ho)]
        exact uponIn_round h
      · exact (hq h.2).elim
    · rw [if_neg hw] at h ⊢
      exact ⟨fun _ _ => trivial, h⟩
theorem wpAnyIn_round {l n : Nat} {P : Program} {md : Region.Mode} {ops : Array Oper} {Q : Exit → Act → World → Prop} (hd : ∀ (i : Nat) (o : Oper), ops[i]? = some o → ∀ c, o.op ≠ .defer c) (hq : ¬ LetsOut Q) :
    ∀ (fuel : Nat) (listed : Array Bool) (a : Act) (w : World), wpAny P md ops Q fuel listed a w → wpAnyIn (Fence.wide.inRound l) n P md ops Q fuel listed a w := by
  intro fuel
  induction fuel with
  | zero => intro listed a w h; exact h
  | succ fuel ih =>
    intro listed a w h
    exact ⟨h.1, fun i hi => wpOpIn_round (hd i) hq (fun a w => ih _ a w) (h.2 i hi)⟩

/-- Reads and quiet calls ahead of one store, in a round. -/
theorem wpIn_still_tail_round {l n : Nat} {P : Program} {id : Nat} {Q : Exit → Act → World → Prop} {a : Act} {w : World} {L : List Oper} (N : Nat) (hm : P.follows .mixedOrders = true) (hd : ∀ (i : Nat) (o : Oper), L.toArray[i]? = some o → ∀ c, o.op ≠ .defer c) (hq : ¬ LetsOut Q) (hB : Region.lexTailB .any L.toArray N = true)
    (h : wpStill P L.toArray { w with drawn := w.drawn + 1 } (fun a' => wpList P L.toArray Q (L.drop N) a' { w with drawn := w.drawn + 1 }) (L.take N) a) : (Code.region id L.toArray true).wpIn (Fence.wide.inRound l) n P Q a w := by
  simp only [Region.lexTailB, Bool.and_eq_true, decide_eq_true_eq] at hB
  obtain ⟨⟨⟨⟨hsel, hn⟩, hs⟩, hc⟩, hlex⟩ := hB
  have hn' : N < L.length := by simpa using hn
  have htl : (L.take N).length = N := by simp; omega
  have hdl : (L.drop N).length = L.toArray.size - N := by simp
  have inv0 : HeadInv .any L.toArray N (Array.replicate L.toArray.size false) :=
    ⟨by simp, fun j oj _ hl => (by rw [getD_replicate_false] at hl; cases hl), fun t _ ht => getD_in (by simpa using ht) (getD_replicate_false _ _)⟩
  have H := wpAnyL_lex (md := .any) (g := L.toArray.size - N) hsel hs hc hn (L.take N) 0 _ a (fun j hj => by
    have hj' : j < N := by rw [htl] at hj; exact hj
    simp [hj']) (by simpa using htl) inv0 (by rw [htl]; exact hlex) h
  refine wpIn_region_any hm (wpAnyIn_round hd hq _ _ _ _ ?_)
  have := wpAny_of_head (Q' := Q) (g := L.toArray.size - N) (fun listed a' hL => by
    have := wpAny_of_seq (md := .any) (Q' := Q) (L.drop N) N listed a' { w with drawn := w.drawn + 1 } (fun j => by simp [List.getElem?_drop]) (by rw [hdl]; exact hL.1) hL.2
    rwa [hdl] at this) _ _ _ H
  rw [htl, show N + (L.toArray.size - N) = L.toArray.size by omega] at this
  exact this
end Go.Proofs.YtacbemilicdklaaDoor

/- Contracts: slices.Clone of singles; a slice of bools; the marks that a loop over a function leaves. -/
namespace Go.Proofs.YtacbemilicdklaaDoor
open Go.RowKit Fl Go.Shelf
set_option linter.unusedVariables false

/-- What Clone answers: a new row of the same singles. -/
def ClonePost (n : Nat) (v : Nat → Nat) (w : World) (e : Ending) (w' : World) : Prop :=
  ∃ g cap, e = .returned (.slice (some ⟨g, 0, none⟩) n cap) ∧ w.heap.size ≤ g ∧ w'.ownsRow w.heap.size 27 1 (.slice (some ⟨g, 0, none⟩) n cap) n (rowL v n) ∧ Below w.heap.size w w'

set_option maxHeartbeats 1000000 in
theorem clone_any (b off n cap : Nat) (v : Nat → Nat) (w : World) (h1 : 1 ≤ n) (hn : n ≤ 65536) (hc : FlAt w b off n v) :
    Calls Tryd.prog 96 #[.slice (some ⟨b, off, none⟩) n cap] w (ClonePost n v w) := by
  have zb : b < w.heap.size := World.block_lt_of_cell? w _ (hc 0 h1)
  have hnews := Lib.hid (show ∀ j u, (rowL v n)[j]? = some u → (w.alloc (.cells #[] 27)).cell? ((⟨b, off, none⟩ : Addr).add j) = some u from fun j u hu => by
    have hj : j < n := by
      rcases Nat.lt_or_ge j n with h | h
      · exact h
      · rw [List.getElem?_eq_none (by simpa [rowL] using h)] at hu; cases hu
    have : u = .float .f32 (v j) := by simpa [rowL, hj] using hu.symm
    rw [this]
    have e := hc j hj
    have : (⟨b, off, none⟩ : Addr).add j = ⟨b, off + j, none⟩ := by simp [Addr.add]
    rw [this]
    exact (World.cell?_of_block (w := w) (a := ⟨b, off + j, none⟩) (heap_alloc_old w _ zb)).trans e)
  have hinfo : (Tryd.prog.info? 27).map (fun i => (i.zero, i.size, i.bytes)) = some (some (.float .f32 0), 1, 4) := by kernel_rfl
  obtain ⟨i0, hi, hz0, hz1, hz2⟩ := info_parts hinfo
  have qT : ∀ (w : World) (a : Option Addr) (n c n' c' : Nat), (binOp .eql 24 (.slice a n c) (.slice none n' c')).run Tryd.prog w = .ok (.bool a.isNone) w := fun w a n c n' c' => Lib.run_eql_slice_nil w _ _ a n c n' c' Tryd.underlying24
  have H1 := Lib.hid h1
  have HN := Lib.hid hn
  clear hc hinfo h1 hn
  go_enter Tryd.func96, Tryd.ntmps96
  go_wp2_with (at_builtin; refine wpList_append_own _ rfl _ _ _ rfl w.heap.size 27 i0 (.float .f32 0) 1 4 Tryd.underlying24 hi hz0 hz1 hz2 rfl (by decide) (.slice (some ⟨w.heap.size, 0, none⟩) 0 0) 0 [] rfl (World.ownsRow_lit w #[] 0 (Nat.le_refl _) (by unfold maxLen; omega) rfl) ⟨b, off, none⟩ n cap (rowL v n) rfl (by simp [rowL]) hnews.out (by simp [rowL, Value.oneCell']) (by have := HN.out; unfold maxLen; omega) (by have := HN.out; omega) (by simp) ?_; intro v' w1 hown' hgrow hnil)
  rw [Nat.zero_add, List.nil_append] at hown'
  obtain ⟨g, cap', rfl, hg, _⟩ := hown'.form H1.out
  have HO := Lib.hid hown'
  have HG := Lib.hid hgrow
  clear hown' hgrow hnil
  go_ret
  exact ⟨g, cap', rfl, hg, HO.out, Below.grown (by repeat (first | exact Below.refl _ _ | refine Below.alloc ?_ (by first | omega | (simp; done) | (simp; omega)) _ | refine Below.setCell ?_ (by first | omega | (simp; done) | (simp; omega)) _ | refine Below.drew ?_)) HG.out (by simp) (fun k e => by simp [Value.ownBlock] at e; omega)⟩

def BoolsAt (w : World) (b n : Nat) (R : Nat → Bool) : Prop := ∃ cs : Array Value, w.heap[b]? = some (.cells cs 4 (0, 0)) ∧ cs.size = n ∧ ∀ i, i < n → cs[i]? = some (.bool (R i))
theorem BoolsAt.congr {w w' : World} {b n : Nat} {R : Nat → Bool} (h : BoolsAt w b n R) (e : w'.heap[b]? = w.heap[b]?) : BoolsAt w' b n R := by
  obtain ⟨cs, h1, h2⟩ := h
  exact ⟨cs, e.trans h1, h2⟩
theorem BoolsAt.cell {w : World} {b n : Nat} {R : Nat → Bool} (h : BoolsAt w b n R) {i : Nat} (hi : i < n) : w.cell? ⟨b, i, none⟩ = some (.bool (R i)) ∧ w.frozen? ⟨b, i, none⟩ = false ∧ b < w.heap.size := by
  obtain ⟨cs, h1, h2, h3⟩ := h
  obtain ⟨c, f, z⟩ := blkC h1
  exact ⟨(c i).trans (h3 i hi), f i, z⟩
theorem BoolsAt.put {w : World} {b n : Nat} {R : Nat → Bool} (h : BoolsAt w b n R) {k : Nat} (hk : k < n) : BoolsAt (w.setCell ⟨b, k, none⟩ (.bool true)) b n (updB R k) := by
  obtain ⟨cs, h1, h2, h3⟩ := h
  refine ⟨_, heap_setCell_same w b k _ _ _ h1, by simpa using h2, fun i hi => ?_⟩
  rw [Array.getElem?_setIfInBounds]
  by_cases e : k = i
  · subst e; rw [if_pos rfl, if_pos (by omega), updB_same]
  · rw [if_neg e, updB_other R (by omega)]; exact h3 i hi

theorem make_bool (n : Nat) (hn : n ≤ 65536) (w : World) :
    (Instr.makeSlice 106 (.int .i64 (n : Int)) (.int .i64 (n : Int))).run Tryd.prog w = .ok (.slice (some ⟨w.heap.size, 0, none⟩) n n) (w.alloc (.cells (madeCells #[Value.bool false] n) 4)) := by
  have h : (Tryd.prog.info? 4).map (fun i => (i.zero, i.size, i.bytes)) = some (some (.bool false), 1, 1) := by kernel_rfl
  obtain ⟨i0, hi, hz0, hz1, hz2⟩ := info_parts h
  have hr := run_make (P := Tryd.prog) w 106 4 i0 (.bool false) Tryd.underlying106 hi hz0 .i64 .i64 n n (by omega) (by omega) (by rw [hz2]; omega) (by omega)
  rw [hz1, Nat.mul_one, Int.toNat_natCast] at hr
  exact hr
theorem made_bools (w : World) (n : Nat) : BoolsAt (w.alloc (.cells (madeCells #[Value.bool false] n) 4)) w.heap.size n (fun _ => false) :=
  ⟨_, heap_alloc_new _ _, by simp [madeCells], fun i hi => by simp [madeCells, hi, Nat.mod_one]⟩

/-- The lowest cells first: how it begins. -/
theorem fil_start {g : Gnd} (G : GndOk g) {R : Nat → Bool} {c : Nat → Nat} {m : Nat} (hR : ∀ k, k < g.n → R k = g.bd k) (hc : ∀ i, i < m → c i < g.n ∧ g.bd (c i) = true) (ha : ∀ x, x < g.n → g.bd x = true → ∃ i, i < m ∧ c i = x)
    (hh : Heap m (fun x => vI (g.h x)) c) : Fil g g.h R c m (fun _ => False) (fun _ => False) (fun _ => 0) 0 :=
  ⟨fun i hi => ⟨(hc i hi).1, by rw [hR _ (hc i hi).1]; exact (hc i hi).2⟩, fun k hk hb => ⟨by rw [hR k hk]; exact hb, rfl⟩, fun k hk _ => ⟨hgt_ok (G.hgt k hk), Nat.le_refl _⟩,
    (fun k hk h1 h2 => by rw [hR k hk, h2] at h1; cases h1), fun _ _ h => h.elim, fun _ _ h => h.elim, fun x hx h => .inr (ha x hx (by rw [← hR x hx]; exact h)), fun _ _ h => h.elim, hh, by have := unr_le g.n R; omega⟩

/-- An end that is no panic. -/
def NoPanic (Q : Exit → Act → World → Prop) : Exit → Act → World → Prop
  | .panic _, _, _ => False
  | .outgrown, _, _ => False
  | e, a, w => Q e a w
theorem noPanic_of {Q : Exit → Act → World → Prop} : ∀ e a w, NoPanic Q e a w → Q e a w
  | .normal, _, _, h => h
  | .ret, _, _, h => h
  | .exit _, _, _, h => h
  | .goto _, _, _, h => h
  | .panic _, _, _, h => h.elim
  | .outgrown, _, _, h => h.elim

/-- The marks of loops that are over. -/
def Marks (lo : Nat) (w : World) : List Deferred → Prop
  | [] => True
  | d :: ds => (∃ D, d = { target := .collected D, args := #[] } ∧ lo ≤ D ∧ w.heap[D]? = some (.deferred (some [])) ∧ ∀ e ∈ ds, e.target ≠ .collected D) ∧ Marks lo w ds
theorem Marks.kept {lo : Nat} {w w' : World} {ds : List Deferred} (h : Marks lo w ds) (hk : ∀ k, lo ≤ k → w.heap[k]? = some (.deferred (some [])) → w'.heap[k]? = some (.deferred (some []))) : Marks lo w' ds := by
  induction ds with
  | nil => trivial
  | cons d ds ih =>
    obtain ⟨⟨D, h1, h2, h3, h4⟩, h5⟩ := h
    exact ⟨⟨D, h1, h2, hk D h2 h3, h4⟩, ih h5⟩
theorem Marks.lt {lo : Nat} {w : World} {ds : List Deferred} (h : Marks lo w ds) : ∀ e ∈ ds, ∀ D, e.target = .collected D → D < w.heap.size := by
  induction ds with
  | nil => intro e he; cases he
  | cons d ds ih =>
    obtain ⟨⟨D, rfl, h2, h3, h4⟩, h5⟩ := h
    intro e he D' hD
    rcases List.mem_cons.1 he with rfl | he
    · cases hD; exact (Array.getElem?_eq_some_iff.1 h3).1
    · exact ih h5 e he D' hD
/-- The marks are taken up at the return; whatever is no deferred block stays. -/
theorem leaves_marks {n : Nat} {P : Program} {fn : Func} {tmps : Array Value} {R : Ending → World → Prop} {lo : Nat} : ∀ (ds : List Deferred) (w : World), Marks lo w ds →
    (∀ w' : World, (∀ k, k < lo → w'.heap[k]? = w.heap[k]?) → (∀ (k : Nat) (o : Obj), w.heap[k]? = some o → o ≠ .deferred (some []) → w'.heap[k]? = some o) → w'.heap.size = w.heap.size → w'.os = w.os → w'.tape = w.tape → w'.output = w.output → ∃ v, (results fn tmps).run P w' = .ok v w' ∧ R (.returned v) w') →
    LeavesInM Fence.wide n P fn tmps R ds .returning w := by
  intro ds
  induction ds with
  | nil =>
    intro w _ h
    obtain ⟨v, h1, h2⟩ := h w (fun _ _ => rfl) (fun _ _ h _ => h) rfl rfl rfl rfl
    exact ⟨v, h1, h2⟩
  | cons d ds ih =>
    intro w hm h
    obtain ⟨⟨D, rfl, h2, h3, h4⟩, h5⟩ := hm
    refine ⟨by simp, .inl ⟨D, _, rfl, run_takeDeferred h3, ih _ ?_ fun w' g1 g2 g3 g4 g5 g6 => ?_⟩⟩
    · have hne : ∀ e ∈ ds, e.target ≠ .collected D := h4
      clear ih h h4
      induction ds with
      | nil => trivial
      | cons d2 ds2 ih2 =>
        obtain ⟨⟨D2, rfl, q2, q3, q4⟩, q5⟩ := h5
        have : D2 ≠ D := fun e => hne _ (List.mem_cons_self ..) (by rw [e])
        exact ⟨⟨D2, rfl, q2, (World.putObj_heap_other this).trans q3, q4⟩, ih2 q5 fun e he => hne e (List.mem_cons_of_mem _ he)⟩
    · exact h w' (fun k hk => (g1 k hk).trans (World.putObj_heap_other (by omega))) (fun k o ho hne => by
        by_cases e : k = D
        · subst e; rw [h3] at ho; cases ho; exact (hne rfl).elim
        · exact g2 k o ((World.putObj_heap_other e).trans ho) hne) (by rw [g3]; simp [World.putObj]) g4 g5 g6
end Go.Proofs.YtacbemilicdklaaDoor

/- Contracts: Shower; the reference's Place. -/
namespace Go.Proofs.YtacbemilicdklaaDoor
open Go.RowKit Fl Go.Shelf
set_option linter.unusedVariables false

theorem make_int (n : Nat) (hn : n ≤ 65536) (w : World) :
    (Instr.makeSlice 40 (.int .i64 (n : Int)) (.int .i64 (n : Int))).run Tryd.prog w = .ok (.slice (some ⟨w.heap.size, 0, none⟩) n n) (w.alloc (.cells (madeCells #[Value.int .i64 0] n) 3)) := by
  have h : (Tryd.prog.info? 3).map (fun i => (i.zero, i.size, i.bytes)) = some (some (.int .i64 0), 1, 8) := by kernel_rfl
  obtain ⟨i0, hi, hz0, hz1, hz2⟩ := info_parts h
  have hr := run_make (P := Tryd.prog) w 40 3 i0 (.int .i64 0) Tryd.underlying40 hi hz0 .i64 .i64 n n (by omega) (by omega) (by rw [hz2]; omega) (by omega)
  rw [hz1, Nat.mul_one, Int.toNat_natCast] at hr
  exact hr
/-- A block of whole numbers. -/
def IntsAt (w : World) (b n : Nat) (c : Nat → Nat) : Prop := ∃ cs : Array Value, w.heap[b]? = some (.cells cs 3 (0, 0)) ∧ cs.size = n ∧ ∀ i, i < n → cs[i]? = some (.int .i64 ((c i : Nat) : Int))
theorem IntsAt.congr {w w' : World} {b n : Nat} {c : Nat → Nat} (h : IntsAt w b n c) (e : w'.heap[b]? = w.heap[b]?) : IntsAt w' b n c := by
  obtain ⟨cs, h1, h2⟩ := h
  exact ⟨cs, e.trans h1, h2⟩
theorem IntsAt.cell {w : World} {b n : Nat} {c : Nat → Nat} (h : IntsAt w b n c) {i : Nat} (hi : i < n) : w.cell? ⟨b, i, none⟩ = some (.int .i64 ((c i : Nat) : Int)) ∧ w.frozen? ⟨b, i, none⟩ = false ∧ b < w.heap.size := by
  obtain ⟨cs, h1, h2, h3⟩ := h
  obtain ⟨c, f, z⟩ := blkC h1
  exact ⟨(c i).trans (h3 i hi), f i, z⟩
theorem IntsAt.put {w : World} {b n : Nat} {c : Nat → Nat} (h : IntsAt w b n c) {k : Nat} (x : Nat) (hk : k < n) : IntsAt (w.setCell ⟨b, k, none⟩ (.int .i64 (x : Int))) b n (updW c k x) := by
  obtain ⟨cs, h1, h2, h3⟩ := h
  refine ⟨_, heap_setCell_same w b k _ _ _ h1, by simpa using h2, fun i hi => ?_⟩
  rw [Array.getElem?_setIfInBounds]
  by_cases e : k = i
  · subst e; rw [if_pos rfl, if_pos (by omega), updW_same]
  · rw [if_neg e, updW_other c (by omega)]; exact h3 i hi
theorem IntsAt.lt {w : World} {b n : Nat} {c : Nat → Nat} (h : IntsAt w b n c) : b < w.heap.size := by
  obtain ⟨cs, h1, _⟩ := h
  exact (blkC h1).2.2
theorem IntsAt.as {w : World} {b n : Nat} {c c' : Nat → Nat} (h : IntsAt w b n c) (e : ∀ i, i < n → c i = c' i) : IntsAt w b n c' := by
  obtain ⟨cs, h1, h2, h3⟩ := h
  exact ⟨cs, h1, h2, fun i hi => by rw [← e i hi]; exact h3 i hi⟩
theorem made_ints (w : World) (n : Nat) : IntsAt (w.alloc (.cells (madeCells #[Value.int .i64 0] n) 3)) w.heap.size n (fun _ => 0) :=
  ⟨_, heap_alloc_new _ _, by simp [madeCells], fun i hi => by simp [madeCells, hi, Nat.mod_one]⟩

/-- The shower at a cell. -/
def shwI (seed most X Y : Int) (W i : Nat) : Int := hashI seed (X + ((i % W : Nat) : Int)) (Y + ((i / W : Nat) : Int)) 2 % (most + 1)
def shwN (seed most X Y : Int) (W i : Nat) : Nat := (shwI seed most X Y W i).toNat
theorem shw_cast {seed most X Y : Int} {W i : Nat} (h : 0 ≤ most) : ((shwN seed most X Y W i : Nat) : Int) = shwI seed most X Y W i := Int.toNat_of_nonneg (Int.emod_nonneg _ (by omega))

theorem shw_val {seed most X Y : Int} {W k : Nat} (h : 0 ≤ most) (h' : most ≤ 1048576) : wrap64 ((hashI seed (X + (k : Int) % (W : Int)) (Y + (k : Int) / (W : Int)) 2).tmod (most + 1)) = ((shwN seed most X Y W k : Nat) : Int) := by
  rw [shw_cast h]
  unfold shwI
  have e1 : ((k % W : Nat) : Int) = (k : Int) % (W : Int) := by simp
  have e2 : ((k / W : Nat) : Int) = (k : Int) / (W : Int) := by simp
  rw [e1, e2]
  have q := hashI_in seed (X + (k : Int) % (W : Int)) (Y + (k : Int) / (W : Int)) 2
  generalize hashI seed (X + (k : Int) % (W : Int)) (Y + (k : Int) / (W : Int)) 2 = z at *
  rw [Int.tmod_eq_emod_of_nonneg q.1]
  have a := Int.emod_nonneg z (show most + 1 ≠ 0 by omega)
  have b := Int.emod_lt_of_pos z (show 0 < most + 1 by omega)
  exact IntWalk.wrap64_in _ ⟨by omega, by omega⟩

/-- What holds at the head of Shower's loop, when k cells have been made. -/
def ShwAt (w0 : World) (X Y W H : Int) (rb n : Nat) (f : Nat → Nat) (k : Nat) (wr : World) : Prop := ∃ c, IntsAt wr rb n c ∧ (∀ i, i < k → c i = f i) ∧ wr.heap[w0.heap.size]? = some (regObj X Y W H) ∧ Below w0.heap.size w0 wr

set_option maxHeartbeats 4000000 in
set_option maxRecDepth 100000 in
theorem shower_ok (seed most X Y : Int) (W H n : Nat) (w : World) (h0 : checkR X Y W H = 0) (hn : n = W * H) (m0 : 0 ≤ most) (m1 : most ≤ 1048576) :
    Calls Tryd.prog 61 #[reg X Y W H, .int .u32 seed, .int .i64 most] w fun e w' => ∃ rb, e = .returned (.tuple #[.slice (some ⟨rb, 0, none⟩) n n, .int .i64 0]) ∧ IntsAt w' rb n (shwN seed most X Y W) ∧ w.heap.size ≤ rb ∧ Below w.heap.size w w' := by
  obtain ⟨b1, b2, b3, b4, b5, b6, b7, b8, b9⟩ := checkR_zero h0
  have hn2 : n ≤ 65536 := by
    have : ((W : Int) * (H : Int)) = (n : Int) := by rw [hn]; simp
    omega
  have en : (W : Int) * (H : Int) = (n : Int) := by rw [hn]; simp
  have en' : wrap64 ((W : Int) * (H : Int)) = (n : Int) := by rw [en]; exact IntWalk.wrap64_in _ ⟨by omega, by omega⟩
  have RC := Lib.hid (fun w => checkRegion_any X Y W H w)
  rw [h0] at RC
  have WI := Lib.hid (fun w => within_any most 0 1048576 w)
  rw [withinB_iff.2 ⟨m0, m1⟩] at WI
  have PL := Lib.hid (fun k (hk : k < n) w => place_any X Y W H k w (by omega) (by omega) (by omega) (by omega) (by omega) (by omega) (by omega))
  have HA := Lib.hid (fun k w => hash_any seed (X + ((k % W : Nat) : Int)) (Y + ((k / W : Nat) : Int)) 2 w)
  have MK := make_int n hn2
  have q0 : ¬ (most + 1 = 0) := by omega
  have q1 : IntKind.i64.wrap (most + 1) = most + 1 := IntWalk.i64_in _ (by omega)
  have q2 : IntKind.u32.wrap (most + 1) = most + 1 := by rw [IntKind.wrap_u32]; omega
  have SC := Lib.hid (fun k => shw_cast (seed := seed) (X := X) (Y := Y) (W := W) (i := k) m0)
  clear h0 b1 b2 b3 b4 b5 b6 b7 b8 b9 hn
  go_enter Tryd.func61, Tryd.ntmps61
  go_wp2_with (first | (go_at_call 115; refine (RC.out _).mono ?_; rintro e w' ⟨rfl, rfl⟩) | (go_at_call 94; refine (WI.out _).mono ?_; rintro e w' ⟨rfl, rfl⟩))
  have ST := Lib.hid (show ShwAt w X Y W H (w.heap.size + 1 + 1) n (shwN seed most X Y W) 0 (((w.alloc (regObj X Y W H)).alloc (regObj X Y W H)).alloc (.cells (madeCells #[Value.int .i64 0] n) 3)) from
    ⟨_, by have q := made_ints ((w.alloc (regObj X Y W H)).alloc (regObj X Y W H)) n; simpa using q, fun i hi => by omega, by ((simp only [heap_alloc_get, heap_size_alloc, if_true]) <;> ((repeat' split) <;> first | rfl | omega)), (by repeat (first | exact Below.refl _ _ | refine Below.alloc ?_ (by first | omega | (simp; done) | (simp; omega)) _ | refine Below.setCell ?_ (by first | omega | (simp; done) | (simp; omega)) _ | refine Below.drew ?_))⟩)
  obtain ⟨rb, hrb⟩ : ∃ rb, rb = w.heap.size + 1 + 1 := ⟨_, rfl⟩
  have RB := Lib.hid (show w.heap.size < rb by omega)
  rw [← hrb] at ST ⊢
  clear hrb MK
  go_loopw [28] (fun s28 wr => ∃ k : Nat, k ≤ n ∧ s28 = .int .i64 k ∧ ShwAt w X Y W H rb n (shwN seed most X Y W) k wr) (fun s28 _ => n - (intOf s28).toNat)
  case atStart => exact ⟨0, Nat.zero_le _, rfl, ST.out⟩
  case round =>
    obtain ⟨k, hk, rfl, c, h1, h2, h3, h4⟩ := hrel
    by_cases hlt : k < n
    · obtain ⟨cR, fR, zR⟩ := blkC h3
      have PK := Lib.hid (PL.out k hlt)
      have k1 : (k : Int) < (n : Int) := by omega
      have H1 := Lib.hid h1
      have H2 := Lib.hid h2
      have H3 := Lib.hid h3
      have H4 := Lib.hid h4
      clear h1 h2 h3 h4
      go_wp2_with (first | (go_at_call 79; refine (PK.out _).mono ?_; rintro e w2 ⟨rfl, hb2⟩; have HB2 := Lib.hid hb2; obtain ⟨kc, kf, kz⟩ := (H1.out.congr (hb2.block _ H1.out.lt)).cell hlt; clear hb2 cR fR zR) | (go_at_call 116; refine (HA.out k _).mono ?_; rintro e w' ⟨rfl, rfl⟩))
      have zb := H1.out.lt
      have z2 := HB2.out.size
      have B2 : Below w.heap.size w w2 := H4.out.trans (HB2.out.mono H4.out.size)
      have rb0 := RB.out
      rw [shw_val m0 m1]
      go_roundw
      case rel =>
        refine ⟨k + 1, by omega, by go_num, updW c k (shwN seed most X Y W k), ?_, fun i hi => ?_, ?_, ?_⟩
        · exact ((H1.out.congr (HB2.out.block _ zb)).put _ hlt).congr (heap_alloc_old _ _ (by simp; omega))
        · by_cases e : i = k
          · subst e; rw [updW_same]
          · rw [updW_other c e]; exact H2.out i (by omega)
        · rw [heap_alloc_old _ _ (by simp; have := (blkC H3.out).2.2; omega)]
          exact (heap_setCell_other _ _ _ _ (by show w.heap.size ≠ rb; omega)).trans (blkStay H3.out HB2.out)
        · exact (B2.setCell (p := ⟨rb, k, none⟩) (by show w.heap.size ≤ rb; omega) _).alloc (by simp; have := B2.size; omega) _
      case measure => simp [intOf]; omega
    · have hkn : k = n := by omega
      subst hkn
      have H1 := Lib.hid (h1.as h2)
      have H4 := Lib.hid h4
      clear h1 h2 h3 h4
      go_wp2
      refine bodyPost_ret (v := .tuple #[.slice (some ⟨rb, 0, none⟩) k k, .int .i64 0]) (by simp [results, Tryd.results61, go_sem]) rfl ?_
      exact ⟨rb, rfl, H1.out, by have := RB.out; omega, H4.out⟩

/-- The error that the showers' law names. -/
def shwE (X Y W H most : Int) : Int := firstE (checkR X Y W H) (whenE (!withinB most 0 1048576) 3)
set_option maxHeartbeats 2000000 in
theorem shower_no (seed most X Y W H er : Int) (w : World) (he : shwE X Y W H most = er) (hz : er ≠ 0) :
    Calls Tryd.prog 61 #[reg X Y W H, .int .u32 seed, .int .i64 most] w fun e w' => e = .returned (.tuple #[.slice none 0 0, .int .i64 er]) ∧ Below w.heap.size w w' := by
  have RC := Lib.hid (fun w => checkRegion_any X Y W H w)
  have WI := Lib.hid (fun w => within_any most 0 1048576 w)
  unfold shwE firstE whenE at he
  by_cases h0 : checkR X Y W H = 0
  · rw [if_pos h0] at he
    cases hw : withinB most 0 1048576 with
    | true => rw [hw] at he; exact absurd he.symm hz
    | false =>
      rw [hw] at he WI
      rw [h0] at RC
      obtain rfl : er = 3 := he.symm
      clear he hz h0 hw
      go_enter Tryd.func61, Tryd.ntmps61
      go_wp2_with (first | (go_at_call 115; refine (RC.out _).mono ?_; rintro e w' ⟨rfl, rfl⟩) | (go_at_call 94; refine (WI.out _).mono ?_; rintro e w' ⟨rfl, rfl⟩))
      refine bodyPost_ret (v := .tuple #[.slice none 0 0, .int .i64 3]) (by simp [results, Tryd.results61, go_sem]) rfl ?_
      exact ⟨rfl, (by repeat (first | exact Below.refl _ _ | refine Below.alloc ?_ (by first | omega | (simp; done) | (simp; omega)) _ | refine Below.setCell ?_ (by first | omega | (simp; done) | (simp; omega)) _ | refine Below.drew ?_))⟩
  · rw [if_neg h0] at he
    rw [he] at RC
    clear he h0
    have h1 : (er != 0) = true := by simpa using hz
    clear hz
    go_enter Tryd.func61, Tryd.ntmps61
    go_wp2_with (first | (go_at_call 115; refine (RC.out _).mono ?_; rintro e w' ⟨rfl, rfl⟩))
    refine bodyPost_ret (v := .tuple #[.slice none 0 0, .int .i64 er]) (by simp [results, Tryd.results61, go_sem]) rfl ?_
    exact ⟨rfl, (by repeat (first | exact Below.refl _ _ | refine Below.alloc ?_ (by first | omega | (simp; done) | (simp; omega)) _ | refine Below.setCell ?_ (by first | omega | (simp; done) | (simp; omega)) _ | refine Below.drew ?_))⟩

set_option maxHeartbeats 1000000 in
theorem qPlace_any (X Y : Int) (W H i : Nat) (w : World) (hX1 : -4194304 ≤ X) (hX2 : X ≤ 4194304) (hY1 : -4194304 ≤ Y) (hY2 : Y ≤ 4194304) (hW1 : 1 ≤ W) (hW2 : W ≤ 512) (hi : i < 65536) :
    Calls Tryd.prog 38 #[reg X Y W H, .int .i64 i] w fun e w' => e = .returned (.tuple #[.int .i64 (X + ((i % W : Nat) : Int)), .int .i64 (Y + ((i / W : Nat) : Int))]) ∧ Below w.heap.size w w' := by
  obtain ⟨a, ha⟩ : ∃ a : Nat, a = i % W := ⟨_, rfl⟩
  obtain ⟨b, hb'⟩ : ∃ b : Nat, b = i / W := ⟨_, rfl⟩
  have b1 : (a : Int) < 512 := by have := Nat.mod_lt i (show 0 < W by omega); omega
  have b2 : (b : Int) < 65536 := by have := Nat.div_le_self i W; omega
  have t1 : (i : Int).tmod (W : Int) = (a : Int) := by rw [ha]; rw [Int.tmod_eq_emod_of_nonneg (by omega)]; simp
  have t2 : (i : Int).tdiv (W : Int) = (b : Int) := by rw [hb']; rw [Int.tdiv_eq_ediv_of_nonneg (by omega)]; simp
  have t3 : (i : Int) % (W : Int) = (a : Int) := by rw [ha]; simp
  have t4 : (i : Int) / (W : Int) = (b : Int) := by rw [hb']; simp
  have u1 : IntKind.i64.wrap (X + (a : Int)) = X + a := IntWalk.i64_in _ (by omega)
  have u2 : IntKind.i64.wrap (Y + (b : Int)) = Y + b := IntWalk.i64_in _ (by omega)
  have u3 : IntKind.i64.wrap (b : Int) = b := IntWalk.i64_in _ (by omega)
  have w0 : ¬ ((W : Int) = 0) := by omega
  have w0' : ¬ (W = 0) := by omega
  have t6 : i % W = a := ha.symm
  have t7 : i / W = b := hb'.symm
  have w1 : (1 : Int) ≤ (W : Int) := by omega
  have i0 : (0 : Int) ≤ (i : Int) := by omega
  rw [t6, t7]
  clear ha hb'
  go_enter Tryd.func38, Tryd.ntmps38
  go_wp2
  go_region
  all_goals go_wp2
  all_goals refine bodyPost_ret (v := .tuple #[.int .i64 (X + (a : Int)), .int .i64 (Y + (b : Int))]) (by simp [results, Tryd.results38, go_sem]) rfl ?_
  all_goals exact ⟨rfl, by repeat (first | exact Below.refl _ _ | refine Below.drew ?_ | refine Below.alloc ?_ (by simp; try omega) _ | refine Below.setCell ?_ (by simp; try omega) _)⟩
end Go.Proofs.YtacbemilicdklaaDoor

/- Contracts: the reference's Step, Has, Cell, Neighbour, Edge. -/
namespace Go.Proofs.YtacbemilicdklaaDoor
open Go.RowKit Fl
set_option linter.unusedVariables false

theorem ret_two {a b a' b' : Int} (h : a = a') (h' : b = b') : Ending.returned (.tuple #[.int .i64 a, .int .i64 b]) = .returned (.tuple #[.int .i64 a', .int .i64 b']) := by rw [h, h']

set_option maxHeartbeats 1000000 in
theorem qStep_any (d : Nat) (hd : d < 8) (w : World) :
    Calls Tryd.prog 126 #[.int .i64 d] w fun e w' => e = .returned (.tuple #[.int .i64 (dxI d), .int .i64 (dyI d)]) ∧ Below w.heap.size w w' := by
  have : d = 0 ∨ d = 1 ∨ d = 2 ∨ d = 3 ∨ d = 4 ∨ d = 5 ∨ d = 6 ∨ d = 7 := by omega
  rcases this with rfl | rfl | rfl | rfl | rfl | rfl | rfl | rfl
  all_goals
    clear hd
    go_enter Tryd.func126, Tryd.ntmps126
    go_wp2
    go_region
    all_goals go_wp2
    all_goals go_ret2
    all_goals exact ⟨ret_two (by decide) (by decide), (by repeat (first | exact Below.refl _ _ | refine Below.alloc ?_ (by first | omega | (simp; done) | (simp; omega)) _ | refine Below.setCell ?_ (by first | omega | (simp; done) | (simp; omega)) _ | refine Below.drew ?_))⟩

set_option maxHeartbeats 1000000 in
theorem qHas_any (X Y W H x y : Int) (w : World) (hX1 : -16777216 ≤ X) (hX2 : X ≤ 16777216) (hY1 : -16777216 ≤ Y) (hY2 : Y ≤ 16777216) (hW1 : 0 ≤ W) (hW2 : W ≤ 512) (hH1 : 0 ≤ H) (hH2 : H ≤ 512) :
    Calls Tryd.prog 87 #[reg X Y W H, .int .i64 x, .int .i64 y] w fun e w' => e = .returned (.bool (hasB X Y W H x y)) ∧ Below w.heap.size w w' := by
  have HB := Lib.hid (show hasB X Y W H x y = (decide (X ≤ x ∧ x ≤ X + W - 1) && decide (Y ≤ y ∧ y ≤ Y + H - 1)) by
    unfold hasB; rw [Bool.eq_iff_iff]; simp [withinB_iff])
  go_enter Tryd.func87, Tryd.ntmps87
  go_wp2
  all_goals go_ret
  all_goals exact ⟨ret_bool (by rw [HB.out, Bool.eq_iff_iff]; simp; omega), (by repeat (first | exact Below.refl _ _ | refine Below.alloc ?_ (by first | omega | (simp; done) | (simp; omega)) _ | refine Below.setCell ?_ (by first | omega | (simp; done) | (simp; omega)) _ | refine Below.drew ?_))⟩

set_option maxHeartbeats 1000000 in
theorem qCell_any (X Y W H x y : Int) (w : World) (hX1 : -16777216 ≤ X) (hX2 : X ≤ 16777216) (hY1 : -16777216 ≤ Y) (hY2 : Y ≤ 16777216) (hW1 : 0 ≤ W) (hW2 : W ≤ 512)
    (h1 : -16777216 ≤ x) (h2 : x ≤ 16777216) (h3 : -16777216 ≤ y) (h4 : y ≤ 16777216) :
    Calls Tryd.prog 88 #[reg X Y W H, .int .i64 x, .int .i64 y] w fun e w' => e = .returned (.int .i64 ((y - Y) * W + (x - X))) ∧ Below w.heap.size w w' := by
  have q1 : (y - Y) * W ≤ 33554432 * W := Int.mul_le_mul_of_nonneg_right (by omega) hW1
  have q2 : (-33554432) * W ≤ (y - Y) * W := Int.mul_le_mul_of_nonneg_right (by omega) hW1
  have e2 : wrap64 ((y - Y) * W) = (y - Y) * W := IntWalk.wrap64_in _ ⟨by omega, by omega⟩
  have e3 : wrap64 ((y - Y) * W + x) = (y - Y) * W + x := IntWalk.wrap64_in _ ⟨by omega, by omega⟩
  have e4 : wrap64 ((y - Y) * W + x - X) = (y - Y) * W + (x - X) := by rw [IntWalk.wrap64_in _ ⟨by omega, by omega⟩]; omega
  clear q1 q2
  go_enter Tryd.func88, Tryd.ntmps88
  go_wp2
  go_ret
  exact ⟨ret_int e4, (by repeat (first | exact Below.refl _ _ | refine Below.alloc ?_ (by first | omega | (simp; done) | (simp; omega)) _ | refine Below.setCell ?_ (by first | omega | (simp; done) | (simp; omega)) _ | refine Below.drew ?_))⟩

/-- The number of a neighbour, -1 where there is none. -/
def nbZ (W H k d : Nat) : Int := match nbI W H k d with | some m => (m : Int) | none => -1
theorem nbZ_some {W H k d m : Nat} (h : nbI W H k d = some m) : nbZ W H k d = (m : Int) := by unfold nbZ; rw [h]
theorem nbZ_none {W H k d : Nat} (h : nbI W H k d = none) : nbZ W H k d = -1 := by unfold nbZ; rw [h]

set_option maxRecDepth 100000 in
set_option maxHeartbeats 2000000 in
theorem qNeighbour_any (X Y : Int) (W H k d : Nat) (w : World) (hX1 : -4194304 ≤ X) (hX2 : X ≤ 4194304) (hY1 : -4194304 ≤ Y) (hY2 : Y ≤ 4194304) (hW1 : 1 ≤ W) (hW2 : W ≤ 512) (hH2 : H ≤ 512) (hk : k < W * H) (hk2 : k < 65536) (hd : d < 8) :
    Calls Tryd.prog 72 #[reg X Y W H, .int .i64 k, .int .i64 d] w fun e w' => e = .returned (.int .i64 (nbZ W H k d)) ∧ Below w.heap.size w w' := by
  have PL := Lib.hid (fun w => qPlace_any X Y W H k w (by omega) (by omega) (by omega) (by omega) (by omega) (by omega) (by omega))
  have ST := Lib.hid (fun w => qStep_any d hd w)
  obtain ⟨a1, a2⟩ := dx_in d
  obtain ⟨b1, b2⟩ := dy_in d
  obtain ⟨m0, m1, m2, m3⟩ := cell_parts hk
  clear m0 m3
  obtain ⟨p, hp⟩ : ∃ p, p = k % W := ⟨_, rfl⟩
  obtain ⟨q, hq⟩ : ∃ q, q = k / W := ⟨_, rfl⟩
  have HS := Lib.hid (fun w => qHas_any X Y W H (X + ((p : Nat) : Int) + dxI d) (Y + ((q : Nat) : Int) + dyI d) w (by omega) (by omega) (by omega) (by omega) (by omega) (by omega) (by omega) (by omega))
  have CE := Lib.hid (fun w => qCell_any X Y W H (X + ((p : Nat) : Int) + dxI d) (Y + ((q : Nat) : Int) + dyI d) w (by omega) (by omega) (by omega) (by omega) (by omega) (by omega) (by omega) (by omega) (by omega) (by omega))
  have u1 : wrap64 (X + ((p : Nat) : Int) + dxI d) = X + ((p : Nat) : Int) + dxI d := IntWalk.wrap64_in _ ⟨by omega, by omega⟩
  have u2 : wrap64 (Y + ((q : Nat) : Int) + dyI d) = Y + ((q : Nat) : Int) + dyI d := IntWalk.wrap64_in _ ⟨by omega, by omega⟩
  rw [← hp, ← hq] at PL
  cases hn : nbI W H k d with
  | none =>
    have e := bes_none (X := X) (Y := Y) hn
    rw [← hp, ← hq] at e
    rw [e] at HS
    rw [nbZ_none hn]
    clear hn hp hq e a1 a2 b1 b2 m1 m2 CE hk hd hk2 hX1 hX2 hY1 hY2 hW1 hW2 hH2
    generalize dxI d = dx at *
    generalize dyI d = dy at *
    go_enter Tryd.func72, Tryd.ntmps72
    go_wp2_with (first | (go_at_call 38; refine (PL.out _).mono ?_; rintro e w2 ⟨rfl, hb2⟩; have HR2 := Lib.hid (blkStay (b := w.heap.size) (o := regObj X Y W H) (by ((simp only [heap_alloc_get, if_true]) <;> ((repeat' split) <;> first | rfl | omega))) hb2); obtain ⟨cR, fR, zR⟩ := blkC HR2.out; have hB2 : Below w.heap.size w w2 := Below.trans (by repeat (first | exact Below.refl _ _ | refine Below.alloc ?_ (by first | omega | (simp; done) | (simp; omega)) _ | refine Below.setCell ?_ (by first | omega | (simp; done) | (simp; omega)) _ | refine Below.drew ?_)) (Below.mono hb2 (by first | omega | (simp; done) | (simp; omega))); clear hb2) | (go_at_call 126; refine (ST.out _).mono ?_; rintro e w3 ⟨rfl, hb3⟩; clear cR fR zR; have HR3 := Lib.hid (blkStay HR2.out hb3); obtain ⟨cR, fR, zR⟩ := blkC HR3.out; have hB3 := hB2.trans (hb3.mono hB2.size); clear hb3) | (go_at_call 87; refine (HS.out _).mono ?_; rintro e w4 ⟨rfl, hb4⟩; clear cR fR zR; have HR4 := Lib.hid (blkStay HR3.out hb4); obtain ⟨cR, fR, zR⟩ := blkC HR4.out; have hB4 := hB3.trans (hb4.mono hB3.size); clear hb4))
    go_ret
    exact ⟨rfl, hB4⟩
  | some m =>
    obtain ⟨e1, e⟩ := bes_some (X := X) (Y := Y) hk hn
    rw [← hp, ← hq] at e e1
    rw [e] at HS
    rw [e1] at CE
    rw [nbZ_some hn]
    clear hn hp hq e e1 a1 a2 b1 b2 m1 m2 hk hd hk2 hX1 hX2 hY1 hY2 hW1 hW2 hH2
    generalize dxI d = dx at *
    generalize dyI d = dy at *
    go_enter Tryd.func72, Tryd.ntmps72
    go_wp2_with (first | (go_at_call 38; refine (PL.out _).mono ?_; rintro e w2 ⟨rfl, hb2⟩; have HR2 := Lib.hid (blkStay (b := w.heap.size) (o := regObj X Y W H) (by ((simp only [heap_alloc_get, if_true]) <;> ((repeat' split) <;> first | rfl | omega))) hb2); obtain ⟨cR, fR, zR⟩ := blkC HR2.out; have hB2 : Below w.heap.size w w2 := Below.trans (by repeat (first | exact Below.refl _ _ | refine Below.alloc ?_ (by first | omega | (simp; done) | (simp; omega)) _ | refine Below.setCell ?_ (by first | omega | (simp; done) | (simp; omega)) _ | refine Below.drew ?_)) (Below.mono hb2 (by first | omega | (simp; done) | (simp; omega))); clear hb2) | (go_at_call 126; refine (ST.out _).mono ?_; rintro e w3 ⟨rfl, hb3⟩; clear cR fR zR; have HR3 := Lib.hid (blkStay HR2.out hb3); obtain ⟨cR, fR, zR⟩ := blkC HR3.out; have hB3 := hB2.trans (hb3.mono hB2.size); clear hb3) | (go_at_call 87; refine (HS.out _).mono ?_; rintro e w4 ⟨rfl, hb4⟩; clear cR fR zR; have HR4 := Lib.hid (blkStay HR3.out hb4); obtain ⟨cR, fR, zR⟩ := blkC HR4.out; have hB4 := hB3.trans (hb4.mono hB3.size); clear hb4) | (go_at_call 88; refine (CE.out _).mono ?_; rintro e w5 ⟨rfl, hb5⟩; have hB5 := hB4.trans (hb5.mono hB4.size); clear hb5))
    go_ret
    exact ⟨rfl, hB5⟩

theorem bd_some {W H k : Nat} (hk : k < W * H) (hb : bdB W H k = true) : ∃ d, d < 8 ∧ nbI W H k d = none := by
  have c := bdB_iff.1 hb
  obtain ⟨_, a, b, _⟩ := cell_parts hk
  have no : ∀ d, (((k % W : Nat) : Int) + dxI d < 0 ∨ (W : Int) ≤ ((k % W : Nat) : Int) + dxI d ∨ ((k / W : Nat) : Int) + dyI d < 0 ∨ (H : Int) ≤ ((k / W : Nat) : Int) + dyI d) → nbI W H k d = none := fun d h => by
    unfold nbI; rw [if_neg (by omega)]
  rcases c with c | c | c | c
  · exact ⟨4, by omega, no 4 (by have : dxI 4 = -1 := rfl; omega)⟩
  · exact ⟨6, by omega, no 6 (by have : dyI 6 = -1 := rfl; omega)⟩
  · exact ⟨0, by omega, no 0 (by have : dxI 0 = 1 := rfl; omega)⟩
  · exact ⟨2, by omega, no 2 (by have : dyI 2 = 1 := rfl; omega)⟩

set_option maxHeartbeats 2000000 in
theorem qEdge_any (X Y : Int) (W H k : Nat) (w : World) (hX1 : -4194304 ≤ X) (hX2 : X ≤ 4194304) (hY1 : -4194304 ≤ Y) (hY2 : Y ≤ 4194304) (hW1 : 1 ≤ W) (hW2 : W ≤ 512) (hH2 : H ≤ 512) (hk : k < W * H) (hn : k < 65536) :
    Calls Tryd.prog 71 #[reg X Y W H, .int .i64 k] w fun e w' => e = .returned (.bool (bdB W H k)) ∧ Below w.heap.size w w' := by
  have NE := Lib.hid (fun d (hd : d < 8) w => qNeighbour_any X Y W H k d w hX1 hX2 hY1 hY2 hW1 hW2 hH2 hk hn hd)
  have IN := Lib.hid (show bdB W H k = false → ∀ d, ∃ m, nbI W H k d = some m from fun h d => nbI_inner hk h)
  have SO := Lib.hid (show bdB W H k = true → ∃ d, d < 8 ∧ nbI W H k d = none from bd_some hk)
  generalize bdB W H k = q at *
  clear hX1 hX2 hY1 hY2 hW1 hW2 hH2 hk hn
  go_enter Tryd.func71, Tryd.ntmps71
  go_wp2
  go_loopw [6] (fun i wr => ∃ d : Nat, d ≤ 8 ∧ i = .int .i64 d ∧ (∀ j, j < d → ∃ m, nbI W H k j = some m) ∧ wr.heap[w.heap.size]? = some (regObj X Y W H) ∧ Below w.heap.size w wr) (fun i _ => 8 - (intOf i).toNat)
  case atStart => exact ⟨0, Nat.zero_le _, rfl, fun j hj => by omega, by ((simp only [heap_alloc_get, if_true]) <;> ((repeat' split) <;> first | rfl | omega)), (by repeat (first | exact Below.refl _ _ | refine Below.alloc ?_ (by first | omega | (simp; done) | (simp; omega)) _ | refine Below.setCell ?_ (by first | omega | (simp; done) | (simp; omega)) _ | refine Below.drew ?_))⟩
  case round =>
    obtain ⟨d, hd, rfl, hall, hr, hb⟩ := hrel
    have HA := Lib.hid hall
    have HB := Lib.hid hb
    have HR := Lib.hid hr
    obtain ⟨cR, fR, zR⟩ := blkC HR.out
    clear hall hb hr
    by_cases hlt : d < 8
    · have NK := Lib.hid (NE.out d hlt)
      cases hnb : nbI W H k d with
      | none =>
        rw [nbZ_none hnb] at NK
        have HQ := Lib.hid (show q = true by
          cases q with
          | true => rfl
          | false => obtain ⟨m, hm⟩ := IN.out rfl d; rw [hnb] at hm; cases hm)
        clear hnb
        go_wp2_with (go_at_call 72; refine (NK.out _).mono ?_; rintro e w2 ⟨rfl, hb2⟩; have HB2 := Lib.hid (HB.out.trans (hb2.mono HB.out.size)); have HR2 := Lib.hid (blkStay HR.out hb2); clear hb2 cR fR zR)
        go_ret
        exact ⟨ret_bool HQ.out.symm, HB2.out⟩
      | some m =>
        rw [nbZ_some hnb] at NK
        have HQ := Lib.hid (show ∀ j, j < d + 1 → ∃ m, nbI W H k j = some m from fun j hj => by
          rcases Nat.lt_or_ge j d with c | c
          · exact HA.out j c
          · exact ⟨m, by rw [show j = d by omega]; exact hnb⟩)
        have m0 : ¬ ((m : Int) < 0) := by omega
        clear hnb
        go_wp2_with (go_at_call 72; refine (NK.out _).mono ?_; rintro e w2 ⟨rfl, hb2⟩; have HB2 := Lib.hid (HB.out.trans (hb2.mono HB.out.size)); have HR2 := Lib.hid (blkStay HR.out hb2); clear hb2 cR fR zR)
        go_roundw
        case rel => exact ⟨d + 1, by omega, by go_num, HQ.out, HR2.out, HB2.out⟩
        case measure => simp [intOf]; omega
    · go_wp2
      go_ret
      have : d = 8 := by omega
      subst this
      refine ⟨ret_bool ?_, HB.out⟩
      cases q with
      | false => rfl
      | true => obtain ⟨d, h8, h⟩ := SO.out rfl; obtain ⟨m, hm⟩ := HA.out d h8; rw [h] at hm; cases hm
end Go.Proofs.YtacbemilicdklaaDoor

/- Contract: leastSpills. -/
namespace Go.Proofs.YtacbemilicdklaaDoor
open Go.RowKit Fl Go.Shelf
set_option linter.unusedVariables false

abbrev ptrO (hb : Nat) : Obj := .cells #[.pointer (some ⟨hb, 0, none⟩)] 133
abbrev boolsO (rb n : Nat) : Obj := .cells #[.slice (some ⟨rb, 0, none⟩) n n] 106
/-- What leastSpills holds throughout: the boxes of the field and of the slope, of the heap's pointer and of the cells that have been reached. -/
structure Stat (w0 w : World) (X Y : Int) (W H n b off cap sl hb : Nat) : Prop where
  fld : w.heap[w0.heap.size]? = some (fldO X Y W H (.slice (some ⟨b, off, none⟩) n cap))
  slo : w.heap[w0.heap.size + 1]? = some (flObj sl)
  ptr : w.heap[hb + 1]? = some (ptrO hb)
  rsl : w.heap[hb + 1 + 1 + 1]? = some (boolsO (hb + 1 + 1) n)
  bel : Below w0.heap.size w0 w
  lo : w0.heap.size + 1 < hb
theorem Stat.kept {w0 w w' : World} {X Y : Int} {W H n b off cap sl hb : Nat} (h : Stat w0 w X Y W H n b off cap sl hb) (hk : ∀ k, k ≤ hb + 1 + 1 + 1 → k ≠ hb → k ≠ hb + 1 + 1 → k < w0.heap.size ∨ k = w0.heap.size ∨ k = w0.heap.size + 1 ∨ hb < k → w'.heap[k]? = w.heap[k]?) (hb' : Below w0.heap.size w0 w') : Stat w0 w' X Y W H n b off cap sl hb := by
  have := h.lo
  exact ⟨(hk _ (by omega) (by omega) (by omega) (by omega)).trans h.fld, (hk _ (by omega) (by omega) (by omega) (by omega)).trans h.slo, (hk _ (by omega) (by omega) (by omega) (by omega)).trans h.ptr, (hk _ (by omega) (by omega) (by omega) (by omega)).trans h.rsl, hb', h.lo⟩

/-- The first loop, when k cells have been looked at: the border's cells among them have been reached, and lie in the heap. -/
structure L1 (w0 wr : World) (X Y : Int) (W H n b off cap sl hb sb scap : Nat) (v : Nat → Nat) (k : Nat) (ov : Value) (m : Nat) (c : Nat → Nat) : Prop where
  stat : Stat w0 wr X Y W H n b off cap sl hb
  obj : wr.heap[hb]? = some (.cells #[ov, .slice (some ⟨sb, 0, none⟩) n scap] 135)
  own : wr.ownsRow (hb + 1 + 1 + 1 + 1) 3 1 ov m (cellsL c m)
  sown : wr.ownsRow (w0.heap.size + 1 + 1) 27 1 (.slice (some ⟨sb, 0, none⟩) n scap) n (rowL v n)
  bools : BoolsAt wr (hb + 1 + 1) n (fun i => decide (i < k) && bdB W H i)
  c1 : ∀ i, i < m → c i < k ∧ bdB W H (c i) = true
  c2 : ∀ x, x < k → bdB W H x = true → ∃ i, i < m ∧ c i = x
  mle : m ≤ k
def L1At (w0 : World) (X Y : Int) (W H n b off cap sl hb sb scap : Nat) (v : Nat → Nat) (k : Nat) (wr : World) : Prop := ∃ ov m c, L1 w0 wr X Y W H n b off cap sl hb sb scap v k ov m c

theorem BoolsAt.as {w : World} {b n : Nat} {R R' : Nat → Bool} (h : BoolsAt w b n R) (e : ∀ i, i < n → R i = R' i) : BoolsAt w b n R' := by
  obtain ⟨cs, h1, h2, h3⟩ := h
  exact ⟨cs, h1, h2, fun i hi => by rw [← e i hi]; exact h3 i hi⟩
theorem BoolsAt.lt {w : World} {b n : Nat} {R : Nat → Bool} (h : BoolsAt w b n R) : b < w.heap.size := by
  obtain ⟨cs, h1, _⟩ := h
  exact (blkC h1).2.2
theorem Stat.below {w0 w w' : World} {X Y : Int} {W H n b off cap sl hb : Nat} (h : Stat w0 w X Y W H n b off cap sl hb) (hB : Below w.heap.size w w') : Stat w0 w' X Y W H n b off cap sl hb :=
  ⟨blkStay h.fld hB, blkStay h.slo hB, blkStay h.ptr hB, blkStay h.rsl hB, h.bel.trans (hB.mono h.bel.size), h.lo⟩
theorem ownsRow_congr {w w' : World} {base : Nat} {e : TypeId} {size : Nat} {v : Value} {n : Nat} {xs : List Value} (h : w.ownsRow base e size v n xs) (hk : ∀ g, v.ownBlock = some g → w'.heap[g]? = w.heap[g]?) : w'.ownsRow base e size v n xs := by
  obtain ⟨h1, h2⟩ := h
  refine ⟨h1, ?_⟩
  rcases h2 with h2 | ⟨g, cap, cur, hv, hg, hh, r⟩
  · exact .inl h2
  · exact .inr ⟨g, cap, cur, hv, hg, (hk g (by rw [hv]; rfl)).trans hh, r⟩

/-- A cell that is not of the border. -/
theorem L1.skip {w0 wr w2 : World} {X Y : Int} {W H n b off cap sl hb sb scap : Nat} {v : Nat → Nat} {k : Nat} {ov : Value} {m : Nat} {c : Nat → Nat} (h : L1 w0 wr X Y W H n b off cap sl hb sb scap v k ov m c) (hB : Below wr.heap.size wr w2) (hb' : bdB W H k = false) : L1 w0 w2 X Y W H n b off cap sl hb sb scap v (k + 1) ov m c := by
  refine ⟨h.stat.below hB, blkStay h.obj hB, ownsRow_below h.own hB, ownsRow_below h.sown hB, (h.bools.congr (hB.block _ h.bools.lt)).as fun i hi => ?_, fun i hi => ⟨by have := (h.c1 i hi).1; omega, (h.c1 i hi).2⟩, fun x hx hx' => ?_, by have := h.mle; omega⟩
  · by_cases e : i = k
    · subst e; rw [hb']; simp
    · have : decide (i < k) = decide (i < k + 1) := by simp; omega
      rw [this]
  · by_cases e : x = k
    · subst e; rw [hb'] at hx'; cases hx'
    · exact h.c2 x (by omega) hx'

/-- A cell of the border: it has been reached. -/
theorem L1.reach {w0 wr w2 : World} {X Y : Int} {W H n b off cap sl hb sb scap : Nat} {v : Nat → Nat} {k : Nat} {ov : Value} {m : Nat} {c : Nat → Nat} (h : L1 w0 wr X Y W H n b off cap sl hb sb scap v k ov m c) (hB : Below wr.heap.size wr w2) (hk : k < n) (hsb : sb < hb) :
    Stat w0 (w2.setCell ⟨hb + 1 + 1, k, none⟩ (.bool true)) X Y W H n b off cap sl hb ∧ (w2.setCell ⟨hb + 1 + 1, k, none⟩ (.bool true)).heap[hb]? = some (.cells #[ov, .slice (some ⟨sb, 0, none⟩) n scap] 135) ∧
    (w2.setCell ⟨hb + 1 + 1, k, none⟩ (.bool true)).ownsRow (hb + 1 + 1 + 1 + 1) 3 1 ov m (cellsL c m) ∧ (w2.setCell ⟨hb + 1 + 1, k, none⟩ (.bool true)).ownsRow (w0.heap.size + 1 + 1) 27 1 (.slice (some ⟨sb, 0, none⟩) n scap) n (rowL v n) ∧
    BoolsAt (w2.setCell ⟨hb + 1 + 1, k, none⟩ (.bool true)) (hb + 1 + 1) n (updB (fun i => decide (i < k) && bdB W H i) k) := by
  have e : ∀ j, j ≠ hb + 1 + 1 → (w2.setCell ⟨hb + 1 + 1, k, none⟩ (.bool true)).heap[j]? = w2.heap[j]? := fun j hj => heap_setCell_other _ _ j _ hj
  have S := h.stat.below hB
  refine ⟨S.kept (fun j h1 h2 h3 _ => e j h3) (S.bel.setCell (by show w0.heap.size ≤ hb + 1 + 1; have := S.lo; omega) _), (e hb (by omega)).trans (blkStay h.obj hB), ownsRow_setCell_below (ownsRow_below h.own hB) (show hb + 1 + 1 < hb + 1 + 1 + 1 + 1 by omega) _, ?_, (h.bools.congr (hB.block _ h.bools.lt)).put hk⟩
  exact ownsRow_congr (ownsRow_below h.sown hB) fun g hg => e g (by simp [Value.ownBlock] at hg; omega)

theorem L1.push {w0 w3 w4 : World} {X Y : Int} {W H n b off cap sl hb sb scap : Nat} {v : Nat → Nat} {k : Nat} {ov : Value} {m g' cap' : Nat} {c : Nat → Nat} {o : Obj} (hsb : sb < hb) (hbk : bdB W H k = true) (S : Stat w0 w3 X Y W H n b off cap sl hb)
    (obj : w3.heap[hb]? = some (.cells #[ov, .slice (some ⟨sb, 0, none⟩) n scap] 135)) (own : w3.ownsRow (hb + 1 + 1 + 1 + 1) 3 1 ov m (cellsL c m)) (sown : w3.ownsRow (w0.heap.size + 1 + 1) 27 1 (.slice (some ⟨sb, 0, none⟩) n scap) n (rowL v n))
    (bools : BoolsAt w3 (hb + 1 + 1) n (updB (fun i => decide (i < k) && bdB W H i) k)) (c1 : ∀ i, i < m → c i < k ∧ bdB W H (c i) = true) (c2 : ∀ x, x < k → bdB W H x = true → ∃ i, i < m ∧ c i = x) (mk : m ≤ k)
    (hgrow : (w3.alloc o).drew.grownBy w4 ov.ownBlock) (hown : w4.ownsRow (hb + 1 + 1 + 1 + 1) 3 1 (.slice (some ⟨g', 0, none⟩) (m + 1) cap') (m + 1) (cellsL c m ++ [.int .i64 (k : Int)])) :
    L1 w0 (w4.setCell ⟨hb, 0, none⟩ (.slice (some ⟨g', 0, none⟩) (m + 1) cap')) X Y W H n b off cap sl hb sb scap v (k + 1) (.slice (some ⟨g', 0, none⟩) (m + 1) cap') (m + 1) (updW c m k) := by
  have far : ∀ j, j < hb + 1 + 1 + 1 + 1 → some j ≠ ov.ownBlock := fun j hj => ownsRow_far own hj
  have z3 : hb + 1 + 1 + 1 < w3.heap.size := (blkC S.rsl).2.2
  have e4 : ∀ j, j < hb + 1 + 1 + 1 + 1 → w4.heap[j]? = w3.heap[j]? := fun j hj => (hgrow.block j (by show j < (w3.alloc o).heap.size; rw [heap_size_alloc]; omega) (far j hj)).trans (heap_alloc_old _ _ (by omega))
  have e5 : ∀ j, j ≠ hb → (w4.setCell ⟨hb, 0, none⟩ (.slice (some ⟨g', 0, none⟩) (m + 1) cap')).heap[j]? = w4.heap[j]? := fun j hj => heap_setCell_other _ _ j _ hj
  have lo := S.lo
  have B3 : Below w0.heap.size w0 (w3.alloc o) := S.bel.alloc S.bel.size o
  have B4 : Below w0.heap.size w0 w4 := ⟨hgrow.os.trans B3.os, hgrow.tape.trans B3.tape, hgrow.output.trans B3.output, Nat.le_trans B3.size hgrow.size, fun j hj => (hgrow.block j (Nat.lt_of_lt_of_le hj B3.size) (far j (by omega))).trans (B3.block j hj)⟩
  refine ⟨S.kept (fun j h1 h2 h3 _ => (e5 j h2).trans (e4 j (by omega))) (B4.setCell (by show w0.heap.size ≤ hb; omega) _), ?_, ?_, ownsRow_congr sown fun g hg => (e5 g (by simp [Value.ownBlock] at hg; omega)).trans (e4 g (by simp [Value.ownBlock] at hg; omega)), ?_, fun i hi => ?_, fun x hx hx' => ?_, by omega⟩
  · exact heap_setCell_same w4 hb 0 _ _ _ ((e4 hb (by omega)).trans obj)
  · rw [← cellsL_succ]; exact ownsRow_setCell_below hown (show hb < hb + 1 + 1 + 1 + 1 by omega) _
  · refine (bools.congr ((e5 _ (by omega)).trans (e4 _ (by omega)))).as fun i hi => ?_
    by_cases e : i = k
    · subst e; rw [updB_same, hbk]; simp
    · rw [updB_other _ e]
      have : decide (i < k) = decide (i < k + 1) := by simp; omega
      rw [this]
  · by_cases e : i = m
    · subst e; rw [updW_same]; exact ⟨by omega, hbk⟩
    · rw [updW_other c e]; exact ⟨by have := (c1 i (by omega)).1; omega, (c1 i (by omega)).2⟩
  · by_cases e : x = k
    · subst e; exact ⟨m, by omega, updW_same c m x⟩
    · obtain ⟨i, hi, q⟩ := c2 x (by omega) hx'
      exact ⟨i, by omega, by rw [updW_other c (by omega)]; exact q⟩

/-- What leastSpills answers. -/
def SpillPost (W H n : Nat) (v : Nat → Nat) (sl : Nat) (w : World) (e : Ending) (w' : World) : Prop :=
  ∃ s sb scap, e = .returned (.slice (some ⟨sb, 0, none⟩) n scap) ∧ w.heap.size ≤ sb ∧ sb < w'.heap.size ∧ n ≤ scap ∧ FlAt w' sb 0 n s ∧ Spills (gndOf W H v sl) s ∧ Below w.heap.size w w'

theorem ownsRow_lower {w : World} {base base' : Nat} {e : TypeId} {size : Nat} {v : Value} {n : Nat} {xs : List Value} (h : w.ownsRow base e size v n xs) (hb : base' ≤ base) : w.ownsRow base' e size v n xs := by
  obtain ⟨h1, h2⟩ := h
  refine ⟨h1, ?_⟩
  rcases h2 with h2 | ⟨g, cap, cur, hv, hg, r⟩
  · exact .inl h2
  · exact .inr ⟨g, cap, cur, hv, Nat.le_trans hb hg, r⟩

theorem l1_start {w0 w1 : World} {X Y : Int} {W H n b off cap sl hb sb scap base : Nat} {v : Nat → Nat} (hhb : w1.heap.size = hb) (hbase : w0.heap.size + 1 + 1 ≤ base) (hF : w1.heap[w0.heap.size]? = some (fldO X Y W H (.slice (some ⟨b, off, none⟩) n cap))) (hL : w1.heap[w0.heap.size + 1]? = some (flObj sl))
    (hB : Below w0.heap.size w0 w1) (hO : w1.ownsRow base 27 1 (.slice (some ⟨sb, 0, none⟩) n scap) n (rowL v n)) :
    L1At w0 X Y W H n b off cap sl hb sb scap v 0 ((((w1.alloc (.cells #[.slice none 0 0, .slice (some ⟨sb, 0, none⟩) n scap] 135)).alloc (ptrO hb)).alloc (.cells (madeCells #[Value.bool false] n) 4)).alloc (boolsO (hb + 1 + 1) n)) := by
  have zl := (blkC hL).2.2
  have old : ∀ j o, w1.heap[j]? = some o → ((((w1.alloc (.cells #[.slice none 0 0, .slice (some ⟨sb, 0, none⟩) n scap] 135)).alloc (ptrO hb)).alloc (.cells (madeCells #[Value.bool false] n) 4)).alloc (boolsO (hb + 1 + 1) n)).heap[j]? = some o := fun j o h => by
    have hj : j < w1.heap.size := (Array.getElem?_eq_some_iff.1 h).1
    rw [heap_alloc_old _ _ (by simp; omega), heap_alloc_old _ _ (by simp; omega), heap_alloc_old _ _ (by simp; omega), heap_alloc_old _ _ hj]; exact h
  subst hhb
  refine ⟨.slice none 0 0, 0, fun _ => 0, ⟨⟨old _ _ hF, old _ _ hL, ?_, ?_, ?_, by omega⟩, ?_, World.ownsRow_nil _ _ _ _, ownsRow_lower ((((hO.alloc _).alloc _).alloc _).alloc _) hbase, ?_, fun i hi => by omega, fun x hx => by omega, Nat.le_refl _⟩⟩
  · ((simp only [heap_alloc_get, heap_size_alloc, if_true]) <;> ((repeat' split) <;> first | rfl | omega))
  · ((simp only [heap_alloc_get, heap_size_alloc, if_true]) <;> ((repeat' split) <;> first | rfl | omega))
  · exact (((hB.alloc hB.size _).alloc (by simp; have := hB.size; omega) _).alloc (by simp; have := hB.size; omega) _).alloc (by simp; have := hB.size; omega) _
  · ((simp only [heap_alloc_get, heap_size_alloc, if_true]) <;> ((repeat' split) <;> first | rfl | omega))
  · refine ⟨_, by ((simp only [heap_alloc_get, heap_size_alloc, if_true]) <;> ((repeat' split) <;> first | rfl | omega)), by simp [madeCells], fun i hi => by simp [madeCells, hi, Nat.mod_one]⟩
end Go.Proofs.YtacbemilicdklaaDoor

/- Contract: the reference's FilledOf: the same values as the program's spills. -/
namespace Go.Proofs.YtacbemilicdklaaDoor
open Go.RowKit Fl Go.Shelf
set_option linter.unusedVariables false

/-- A block of singles. -/
def SingAt (w : World) (b n : Nat) (c : Nat → Nat) : Prop := ∃ cs : Array Value, w.heap[b]? = some (.cells cs 27 (0, 0)) ∧ cs.size = n ∧ ∀ i, i < n → cs[i]? = some (.float .f32 (c i))
theorem SingAt.congr {w w' : World} {b n : Nat} {c : Nat → Nat} (h : SingAt w b n c) (e : w'.heap[b]? = w.heap[b]?) : SingAt w' b n c := by
  obtain ⟨cs, h1, h2⟩ := h
  exact ⟨cs, e.trans h1, h2⟩
theorem SingAt.cell {w : World} {b n : Nat} {c : Nat → Nat} (h : SingAt w b n c) {i : Nat} (hi : i < n) : w.cell? ⟨b, i, none⟩ = some (.float .f32 (c i)) ∧ w.frozen? ⟨b, i, none⟩ = false ∧ b < w.heap.size := by
  obtain ⟨cs, h1, h2, h3⟩ := h
  obtain ⟨c, f, z⟩ := blkC h1
  exact ⟨(c i).trans (h3 i hi), f i, z⟩
theorem SingAt.put {w : World} {b n : Nat} {c : Nat → Nat} (h : SingAt w b n c) {k : Nat} (x : Nat) (hk : k < n) : SingAt (w.setCell ⟨b, k, none⟩ (.float .f32 x)) b n (updW c k x) := by
  obtain ⟨cs, h1, h2, h3⟩ := h
  refine ⟨_, heap_setCell_same w b k _ _ _ h1, by simpa using h2, fun i hi => ?_⟩
  rw [Array.getElem?_setIfInBounds]
  by_cases e : k = i
  · subst e; rw [if_pos rfl, if_pos (by omega), updW_same]
  · rw [if_neg e, updW_other c (by omega)]; exact h3 i hi
theorem SingAt.lt {w : World} {b n : Nat} {c : Nat → Nat} (h : SingAt w b n c) : b < w.heap.size := by
  obtain ⟨cs, h1, _⟩ := h
  exact (blkC h1).2.2
theorem SingAt.fl {w : World} {b n : Nat} {c : Nat → Nat} (h : SingAt w b n c) : FlAt w b 0 n c := fun i hi => by rw [Nat.zero_add]; exact (h.cell hi).1
theorem made_sing (w : World) (n : Nat) : SingAt (w.alloc (.cells (madeCells #[Value.float .f32 0] n) 27)) w.heap.size n (fun _ => 0) :=
  ⟨_, heap_alloc_new _ _, by simp [madeCells], fun i hi => by simp [madeCells, hi, Nat.mod_one]⟩

/-- What FilledOf holds: the box of the field, the spills so far, which are known. -/
structure FOAt (w0 w : World) (X Y : Int) (W H n b off cap : Nat) (cur : Nat → Nat) (K : Nat → Bool) : Prop where
  fld : w.heap[w0.heap.size]? = some (fldO X Y W H (.slice (some ⟨b, off, none⟩) n cap))
  sp : SingAt w (w0.heap.size + 1) n cur
  kn : BoolsAt w (w0.heap.size + 1 + 1) n K
  bel : Below w0.heap.size w0 w
theorem FOAt.below {w0 w w' : World} {X Y : Int} {W H n b off cap : Nat} {cur : Nat → Nat} {K : Nat → Bool} (h : FOAt w0 w X Y W H n b off cap cur K) (hB : Below w.heap.size w w') : FOAt w0 w' X Y W H n b off cap cur K :=
  ⟨blkStay h.fld hB, h.sp.congr (hB.block _ h.sp.lt), h.kn.congr (hB.block _ h.kn.lt), h.bel.trans (hB.mono h.bel.size)⟩
/-- A spill is written, and the cell is known. -/
theorem FOAt.put {w0 w : World} {X Y : Int} {W H n b off cap : Nat} {cur : Nat → Nat} {K : Nat → Bool} (h : FOAt w0 w X Y W H n b off cap cur K) {k : Nat} (x : Nat) (hk : k < n) :
    FOAt w0 ((w.setCell ⟨w0.heap.size + 1, k, none⟩ (.float .f32 x)).setCell ⟨w0.heap.size + 1 + 1, k, none⟩ (.bool true)) X Y W H n b off cap (updW cur k x) (updB K k) := by
  have e1 : ∀ (w : World) (p q : Nat) (x : Value), p ≠ q → (w.setCell ⟨q, k, none⟩ x).heap[p]? = w.heap[p]? := fun w p q x hq => heap_setCell_other _ _ p _ hq
  refine ⟨?_, ?_, ?_, ?_⟩
  · rw [e1 _ _ _ _ (by omega), e1 _ _ _ _ (by omega)]; exact h.fld
  · exact (h.sp.put x hk).congr (e1 _ _ _ _ (by omega))
  · exact (h.kn.congr (e1 _ _ _ _ (by omega))).put hk
  · exact (h.bel.setCell (by show w0.heap.size ≤ w0.heap.size + 1; omega) _).setCell (by show w0.heap.size ≤ w0.heap.size + 1 + 1; omega) _

/-- What FilledOf answers: values that are those of the spills s. -/
def BelPost (n : Nat) (s : Nat → Nat) (w : World) (e : Ending) (w' : World) : Prop :=
  ∃ sb c, e = .returned (.slice (some ⟨sb, 0, none⟩) n n) ∧ w.heap.size ≤ sb ∧ sb < w'.heap.size ∧ FlAt w' sb 0 n c ∧ (∀ k, k < n → OkW 65536 (c k) ∧ vI (c k) = vI (s k)) ∧ Below w.heap.size w w'

/-- The first loop: the border's cells below k are known. -/
def BL1 (W H : Nat) (v : Nat → Nat) (k : Nat) (cur : Nat → Nat) (K : Nat → Bool) : Prop := (∀ i, K i = (decide (i < k) && bdB W H i)) ∧ ∀ i, i < k → bdB W H i = true → cur i = v i
theorem BL1.skip {W H : Nat} {v : Nat → Nat} {k : Nat} {cur : Nat → Nat} {K : Nat → Bool} (h : BL1 W H v k cur K) (hb : bdB W H k = false) : BL1 W H v (k + 1) cur K := by
  refine ⟨fun i => ?_, fun i hi hbi => h.2 i ?_ hbi⟩
  · rw [h.1 i]
    by_cases e : i = k
    · subst e; rw [hb]; simp
    · have : decide (i < k) = decide (i < k + 1) := by simp; omega
      rw [this]
  · rcases Nat.lt_or_ge i k with c | c
    · exact c
    · rw [show i = k by omega, hb] at hbi; cases hbi
theorem BL1.take {W H : Nat} {v : Nat → Nat} {k : Nat} {cur : Nat → Nat} {K : Nat → Bool} (h : BL1 W H v k cur K) (hb : bdB W H k = true) : BL1 W H v (k + 1) (updW cur k (v k)) (updB K k) := by
  refine ⟨fun i => ?_, fun i hi hbi => ?_⟩
  · by_cases e : i = k
    · subst e; rw [updB_same, hb]; simp
    · rw [updB_other K e, h.1 i]
      have : decide (i < k) = decide (i < k + 1) := by simp; omega
      rw [this]
  · by_cases e : i = k
    · subst e; rw [updW_same]
    · rw [updW_other cur e]; exact h.2 i (by omega) hbi

/-- At the head of the rounds. -/
def BL2 (w0 : World) (X Y : Int) (W H n b off cap : Nat) (g : Gnd) (s : Nat → Nat) (N : Nat) (s9 : Value) (wr : World) : Prop :=
  ∃ (ag : Bool) (cur : Nat → Nat) (K : Nat → Bool) (t : Nat), s9 = .bool ag ∧ FOAt w0 wr X Y W H n b off cap cur K ∧ Bel g s cur K t ∧ N = 2 * mu n K cur + ag.toNat ∧ (ag = false → ∀ k, k < n → g.bd k = false → ∀ d, d < 8 → StabD g cur K k d)
/-- Within a round: the cells below k, and of the cell k the directions below d, have been looked at. -/
structure BIn (w0 wr : World) (X Y : Int) (W H n b off cap : Nat) (g : Gnd) (s : Nat → Nat) (M k d : Nat) (ag : Bool) (cur : Nat → Nat) (K : Nat → Bool) (t : Nat) : Prop where
  fo : FOAt w0 wr X Y W H n b off cap cur K
  bel : Bel g s cur K t
  le : mu n K cur ≤ M
  lt : ag = true → mu n K cur < M
  st : ag = false → ∀ k', k' < k → g.bd k' = false → ∀ d, d < 8 → StabD g cur K k' d
  sd : ag = false → ∀ d', d' < d → StabD g cur K k d'
def BL3 (w0 : World) (X Y : Int) (W H n b off cap : Nat) (g : Gnd) (s : Nat → Nat) (M k d : Nat) (s9 : Value) (wr : World) : Prop := ∃ ag cur K t, s9 = .bool ag ∧ BIn w0 wr X Y W H n b off cap g s M k d ag cur K t

theorem BIn.below {w0 wr w2 : World} {X Y : Int} {W H n b off cap : Nat} {g : Gnd} {s : Nat → Nat} {M k d : Nat} {ag : Bool} {cur : Nat → Nat} {K : Nat → Bool} {t : Nat} (h : BIn w0 wr X Y W H n b off cap g s M k d ag cur K t) (hB : Below wr.heap.size wr w2) : BIn w0 w2 X Y W H n b off cap g s M k d ag cur K t :=
  ⟨h.fo.below hB, h.bel, h.le, h.lt, h.st, h.sd⟩
theorem BIn.still {w0 wr : World} {X Y : Int} {W H n b off cap : Nat} {g : Gnd} {s : Nat → Nat} {M k d : Nat} {ag : Bool} {cur : Nat → Nat} {K : Nat → Bool} {t : Nat} (h : BIn w0 wr X Y W H n b off cap g s M k d ag cur K t) (hs : StabD g cur K k d) : BIn w0 wr X Y W H n b off cap g s M k (d + 1) ag cur K t :=
  ⟨h.fo, h.bel, h.le, h.lt, h.st, fun a d' hd => by rcases Nat.lt_or_ge d' d with c | c; exact h.sd a d' c; rw [show d' = d by omega]; exact hs⟩
theorem BIn.next {w0 wr : World} {X Y : Int} {W H n b off cap : Nat} {g : Gnd} {s : Nat → Nat} {M k d : Nat} {ag : Bool} {cur : Nat → Nat} {K : Nat → Bool} {t : Nat} (h : BIn w0 wr X Y W H n b off cap g s M k d ag cur K t) (hd : g.bd k = true ∨ d = 8) : BIn w0 wr X Y W H n b off cap g s M (k + 1) 0 ag cur K t :=
  ⟨h.fo, h.bel, h.le, h.lt, fun a k' hk hb e he => by
    rcases Nat.lt_or_ge k' k with c | c
    · exact h.st a k' c hb e he
    · have : k' = k := by omega
      subst this
      rcases hd with q | q
      · rw [hb] at q; cases q
      · exact h.sd a e (by omega), fun _ d' hd => by omega⟩
theorem BIn.falls {w0 wr : World} {X Y : Int} {W H n b off cap : Nat} {g : Gnd} {s : Nat → Nat} {M k d m : Nat} {ag : Bool} {cur : Nat → Nat} {K : Nat → Bool} {t : Nat} (G : GndOk g) (S : Spills g s) (hn : g.n = n) (h : BIn w0 wr X Y W H n b off cap g s M k d ag cur K t) (hk : k < n) (hb : g.bd k = false) (hd : d < 8) (hm : g.nb k d = some m) (hK : K m = true)
    (hu : K k = false ∨ vI (stepR g.sl (cur m) (g.h k)) < vI (cur k)) : ∃ t', BIn w0 ((wr.setCell ⟨w0.heap.size + 1, k, none⟩ (.float .f32 (stepR g.sl (cur m) (g.h k)))).setCell ⟨w0.heap.size + 1 + 1, k, none⟩ (.bool true)) X Y W H n b off cap g s M k (d + 1) true (updW cur k (stepR g.sl (cur m) (g.h k))) (updB K k) t' := by
  subst hn
  obtain ⟨t', B', hmu⟩ := h.bel.upd G S hk hb hd hm hK hu
  have := h.le
  exact ⟨t', ⟨h.fo.put _ hk, B', by omega, fun _ => by omega, fun c => (by cases c), fun c => (by cases c)⟩⟩
end Go.Proofs.YtacbemilicdklaaDoor

/- Contract: the reference's FilledOf, walked. -/
namespace Go.Proofs.YtacbemilicdklaaDoor
open Go.RowKit Fl Go.Shelf
set_option linter.unusedVariables false

set_option maxRecDepth 100000 in
set_option maxHeartbeats 4000000 in
theorem filledOf_any (X Y : Int) (W H n b off cap : Nat) (v : Nat → Nat) (sl : Nat) (s : Nat → Nat) (w : World) (h0 : checkR X Y W H = 0) (hn : n = W * H) (hc : FlAt w b off n v) (hh : allB n (fun i => hgtB (v i)) = true) (hs : SlW sl) (S : Spills (gndOf W H v sl) s) :
    Calls Tryd.prog 23 #[fldV X Y W H (.slice (some ⟨b, off, none⟩) n cap), .float .f32 sl] w (BelPost n s w) := by
  obtain ⟨b1, b2, b3, b4, b5, b6, b7, b8, b9⟩ := checkR_zero h0
  have hn2 : n ≤ 65536 := by
    have : ((W : Int) * (H : Int)) = (n : Int) := by rw [hn]; simp
    omega
  have hn1 : 1 ≤ n := by rw [hn]; exact Nat.mul_pos (by omega) (by omega)
  have zb : b < w.heap.size := World.block_lt_of_cell? w _ (hc 0 hn1)
  have G0 : GndOk (gndOf W H v sl) := gnd_ok (W := W) (H := H) (v := v) (sl := sl) (by omega) (by omega) (fun k hk => allB_iff.1 hh k (by omega)) hs
  have G := Lib.hid G0
  have SS := Lib.hid S
  have ED := Lib.hid (fun k (hk : k < n) w => qEdge_any X Y W H k w (by omega) (by omega) (by omega) (by omega) (by omega) (by omega) (by omega) (by omega) (by omega))
  have NE := Lib.hid (fun k (hk : k < n) d (hd : d < 8) w => qNeighbour_any X Y W H k d w (by omega) (by omega) (by omega) (by omega) (by omega) (by omega) (by omega) (by omega) (by omega) hd)
  have IN := Lib.hid (fun k (hk : k < n) (hb : bdB W H k = false) d => nbI_inner (d := d) (show k < W * H by omega) hb)
  have mk1 := make_f32 n hn2
  have mk2 := make_bool n hn2
  have HC := Lib.hid (fun W' (hB : Below w.heap.size w W') => flAt_congr hc (hB.block _ zb))
  have HN := Lib.hid hn
  have HSL := Lib.hid hs
  have HH := Lib.hid hh
  have hsf := fun (w : World) (a : Addr) (m : Mode) (k : FloatKind) (b : Nat) => run_store_float (P := Tryd.prog) (w := w) (a := a) (m := m) k b
  clear h0 hn hc hh hs S G0 b1 b2 b3 b4 b5 b6 b7 b8 b9 zb
  go_enter Tryd.func23, Tryd.ntmps23
  go_wp2
  have ST := Lib.hid (show FOAt w (((w.alloc (fldO X Y W H (.slice (some ⟨b, off, none⟩) n cap))).alloc (.cells (madeCells #[Value.float .f32 0] n) 27)).alloc (.cells (madeCells #[Value.bool false] n) 4)) X Y W H n b off cap (fun _ => 0) (fun _ => false) from
    ⟨by (first | (rw [heap_alloc_get, if_pos rfl]; done) | ((simp only [heap_alloc_get, heap_size_alloc, if_true]) <;> ((repeat' split) <;> first | rfl | omega))), ⟨_, by (first | (rw [heap_alloc_get, if_pos rfl]; done) | ((simp only [heap_alloc_get, heap_size_alloc, if_true]) <;> ((repeat' split) <;> first | rfl | omega))), by simp [madeCells], fun i hi => by simp [madeCells, hi, Nat.mod_one]⟩, ⟨_, by (first | (rw [heap_alloc_get, if_pos rfl]; done) | ((simp only [heap_alloc_get, heap_size_alloc, if_true]) <;> ((repeat' split) <;> first | rfl | omega))), by simp [madeCells], fun i hi => by simp [madeCells, hi, Nat.mod_one]⟩, (by repeat (first | exact Below.refl _ _ | refine Below.alloc ?_ (by first | omega | (simp; done) | (simp; omega)) _ | refine Below.setCell ?_ (by first | omega | (simp; done) | (simp; omega)) _ | refine Below.drew ?_))⟩)
  clear mk1 mk2
  go_loopw [26] (fun s26 wr => ∃ (k : Nat) (cur : Nat → Nat) (K : Nat → Bool), k ≤ n ∧ s26 = .int .i64 k ∧ FOAt w wr X Y W H n b off cap cur K ∧ BL1 W H v k cur K) (fun s26 _ => n - (intOf s26).toNat)
  case atStart => exact ⟨0, _, _, Nat.zero_le _, rfl, ST.out, fun i => by simp, fun i hi => by omega⟩
  case round =>
    obtain ⟨k, cur, K, hk, rfl, hfo, hl1⟩ := hrel
    have FO := Lib.hid hfo
    have L1 := Lib.hid hl1
    obtain ⟨cF, fF, zF⟩ := blkC hfo.fld
    clear hfo hl1
    by_cases hlt : k < n
    · have EK := Lib.hid (ED.out k hlt)
      have cv := HC.out _ FO.out.bel k hlt
      have k1 : (k : Int) < (n : Int) := by omega
      cases hb : bdB W H k with
      | false =>
        rw [hb] at EK
        have SK := Lib.hid (L1.out.skip hb)
        clear hb
        go_wp2_with (go_at_call 71; refine (EK.out _).mono ?_; rintro e w2 ⟨rfl, hb2⟩; have HB2 := Lib.hid hb2; clear hb2 cF fF zF cv)
        go_roundw
        case rel => exact ⟨k + 1, _, _, by omega, by go_num, FO.out.below HB2.out, SK.out⟩
        case measure => simp [intOf]; omega
      | true =>
        rw [hb] at EK
        have SK := Lib.hid (L1.out.take hb)
        clear hb
        go_wp2_with (go_at_call 71; refine (EK.out _).mono ?_; rintro e w2 ⟨rfl, hb2⟩; have F2 := Lib.hid (FO.out.below hb2); clear hb2 cF fF zF cv; obtain ⟨c1, f1, z1⟩ := F2.out.sp.cell hlt; have y1 := (F2.out.kn.cell hlt).1; have y2 := (F2.out.kn.cell hlt).2.1; have y3 := (F2.out.kn.cell hlt).2.2)
        go_roundw
        case rel => exact ⟨k + 1, _, _, by omega, by go_num, F2.out.put (v k) hlt, SK.out⟩
        case measure => simp [intOf]; omega
    · have hkn : k = n := by omega
      subst hkn
      have gr : (gndOf W H v sl).n = k := HN.out.symm
      have BS := Lib.hid (bel_start (w := cur) (K := K) G.out SS.out (fun i hi => by rw [L1.out.1 i, show decide (i < k) = true by rw [gr] at hi; simpa using hi]; rfl) (fun i hi hb => L1.out.2 i (by omega) hb))
      have GR := Lib.hid gr
      clear gr cF fF zF hlt
      go_wp2
      go_loopg [9] (2 * mu k K cur + 1) (fun N s9 wr => BL2 w X Y W H k b off cap (gndOf W H v sl) s N s9 wr)
      case atStart => exact ⟨true, cur, K, 0, rfl, FO.out, BS.out, rfl, fun h => by cases h⟩
      case round =>
        obtain ⟨ag, cu, Kn, t, rfl, hfo, hbel, hN, hst⟩ := hrel
        have FO3 := Lib.hid hfo
        have BE3 := Lib.hid hbel
        have HN3 := Lib.hid hN
        have ST3 := Lib.hid hst
        obtain ⟨cF, fF, zF⟩ := blkC hfo.fld
        clear hfo hbel hN hst
        cases ag with
        | false =>
          have DO := Lib.hid (BE3.out.done G.out SS.out (fun i hi => ST3.out rfl i (by rw [← GR.out]; exact hi)))
          go_wp2
          go_ret
          exact ⟨_, cu, rfl, by omega, FO3.out.sp.lt, FO3.out.sp.fl, fun i hi => DO.out i (by rw [GR.out]; exact hi), FO3.out.bel⟩
        | true =>
          go_wp2
          go_loopw [9, 47] (fun s9 s47 wr => ∃ i : Nat, i ≤ k ∧ s47 = .int .i64 i ∧ BL3 w X Y W H k b off cap (gndOf W H v sl) s (mu k Kn cu) i 0 s9 wr) (fun _ s47 _ => k - (intOf s47).toNat)
          case atStart => exact ⟨0, Nat.zero_le _, rfl, false, cu, Kn, t, rfl, ⟨FO3.out, BE3.out, Nat.le_refl _, fun h => (by cases h), fun _ k' hk => by omega, fun _ d' hd => by omega⟩⟩
          case round =>
            obtain ⟨i, hi, rfl, ag4, c4, K4, t4, rfl, h4⟩ := hrel
            have B4 := Lib.hid h4
            clear cF fF zF
            obtain ⟨cF, fF, zF⟩ := blkC h4.fo.fld
            clear h4
            by_cases hlt : i < k
            · have EI := Lib.hid (ED.out i hlt)
              have cv := HC.out _ B4.out.fo.bel i hlt
              have i1 : (i : Int) < (k : Int) := by omega
              cases hb : bdB W H i with
              | true =>
                rw [hb] at EI
                have SK := Lib.hid (fun w2 hB => (B4.out.below (w2 := w2) hB).next (.inl hb))
                clear hb
                go_wp2_with (go_at_call 71; refine (EI.out _).mono ?_; rintro e w2 ⟨rfl, hb2⟩; have HB2 := Lib.hid hb2; clear hb2 cF fF zF cv)
                go_roundw
                case rel => exact ⟨i + 1, by omega, by go_num, _, _, _, _, rfl, SK.out _ HB2.out⟩
                case measure => simp [intOf]; omega
              | false =>
                rw [hb] at EI
                have HB := Lib.hid hb
                clear hb
                go_wp2_with (go_at_call 71; refine (EI.out _).mono ?_; rintro e w2 ⟨rfl, hb2⟩; have C2 := Lib.hid (B4.out.below hb2); clear hb2 cF fF zF cv)
                go_loopw [9, 56] (fun s9 s56 wr => ∃ d : Nat, d ≤ 8 ∧ s56 = .int .i64 d ∧ BL3 w X Y W H k b off cap (gndOf W H v sl) s (mu k Kn cu) i d s9 wr) (fun _ s56 _ => 8 - (intOf s56).toNat)
                case atStart => exact ⟨0, Nat.zero_le _, rfl, _, _, _, _, rfl, C2.out⟩
                case round =>
                  obtain ⟨d, hd, rfl, ag5, c5, K5, t5, rfl, h5⟩ := hrel
                  have B5 := Lib.hid h5
                  obtain ⟨cF, fF, zF⟩ := blkC h5.fo.fld
                  clear h5
                  by_cases hd8 : d < 8
                  · obtain ⟨m, hm⟩ := IN.out i hlt HB.out d
                    have NI := Lib.hid (NE.out i hlt d hd8)
                    rw [nbZ_some hm] at NI
                    have HM := Lib.hid (show (gndOf W H v sl).nb i d = some m from hm)
                    have ML := Lib.hid (show m < k from by have := nbI_lt hm; have := HN.out; omega)
                    have m1 : (m : Int) < (k : Int) := by have := ML.out; omega
                    clear hm
                    cases hKm : K5 m with
                    | false =>
                      have HK := Lib.hid hKm
                      have NX := Lib.hid (fun w6 hB => (B5.out.below (w2 := w6) hB).still (fun m' hm' hK' => by rw [HM.out] at hm'; cases hm'; rw [HK.out] at hK'; cases hK'))
                      clear hKm
                      go_wp2_with (go_at_call 72; refine (NI.out _).mono ?_; rintro e w6 ⟨rfl, hb6⟩; have HB6 := Lib.hid hb6; have C6 := Lib.hid (B5.out.below hb6); clear hb6 cF fF zF; obtain ⟨p1, p2, p3⟩ := C6.out.fo.kn.cell ML.out; rw [HK.out] at p1)
                      go_roundw
                      case rel => exact ⟨d + 1, by omega, by go_num, _, _, _, _, rfl, NX.out _ HB6.out⟩
                      case measure => simp [intOf]; omega
                    | true =>
                      have HK := Lib.hid hKm
                      clear hKm
                      have okm := B5.out.bel.fin m (by rw [GR.out]; exact ML.out) HK.out
                      have ct := B5.out.bel.cnt
                      obtain ⟨r, y1, y2, _⟩ := step_parts (h := v i) okm HSL.out (allB_iff.1 HH.out i hlt) (by rw [GR.out] at ct; omega)
                      obtain ⟨ok, _⟩ := stepR_val (h := v i) okm HSL.out (allB_iff.1 HH.out i hlt) (by rw [GR.out] at ct; omega)
                      have OK := Lib.hid ok
                      have ER := Lib.hid (show stepR sl (c5 m) (v i) = if (FloatKind.f32.format.order (v i) r == some .gt) = true then v i else r by unfold stepR; rw [y2])
                      have a1 := fun (W : World) => run_float_arith (P := Tryd.prog) W .add 27 .f32 (c5 m) sl r y1
                      rename_i hrest hv2
                      clear okm ct y1 y2 ok hrest hv2
                      obtain ⟨sr, hsr⟩ : ∃ sr, sr = stepR sl (c5 m) (v i) := ⟨_, rfl⟩
                      have HSR := Lib.hid hsr
                      rw [← hsr] at ER OK
                      clear hsr
                      have FA0 := Lib.hid (fun w6 hB hu => (B5.out.below (w2 := w6) hB).falls G.out SS.out GR.out hlt HB.out hd8 HM.out HK.out hu)
                      rw [show (gndOf W H v sl).sl = sl from rfl, show (gndOf W H v sl).h i = v i from rfl, ← HSR.out] at FA0
                      cases hKi : K5 i with
                      | false =>
                        have HKI := Lib.hid hKi
                        have FA := Lib.hid (fun w6 hB => FA0.out w6 hB (.inl HKI.out))
                        clear hKi FA0
                        cases hgt : (FloatKind.f32.format.order (v i) r == some .gt) with
                        | true =>
                          have e := ER.out
                          rw [hgt, if_pos rfl] at e
                          subst e
                          go_wp2_with (go_at_call 72; refine (NI.out _).mono ?_; rintro e w6 ⟨rfl, hb6⟩; have HB6 := Lib.hid hb6; have C6 := Lib.hid (B5.out.below hb6); clear hb6 cF fF zF; obtain ⟨p1, p2, p3⟩ := C6.out.fo.kn.cell ML.out; rw [HK.out] at p1; obtain ⟨q1, q2, q3⟩ := C6.out.fo.sp.cell ML.out; obtain ⟨r1, r2, r3⟩ := C6.out.fo.sp.cell hlt; obtain ⟨u1, u2, u3⟩ := C6.out.fo.kn.cell hlt; rw [HKI.out] at u1)
                          go_roundw
                          case rel => exact ⟨d + 1, by omega, by go_num, _, _, _, _, rfl, (FA.out _ HB6.out).choose_spec⟩
                          case measure => simp [intOf]; omega
                        | false =>
                          have e := ER.out
                          rw [hgt, if_neg (by simp)] at e
                          subst e
                          go_wp2_with (go_at_call 72; refine (NI.out _).mono ?_; rintro e w6 ⟨rfl, hb6⟩; have HB6 := Lib.hid hb6; have C6 := Lib.hid (B5.out.below hb6); clear hb6 cF fF zF; obtain ⟨p1, p2, p3⟩ := C6.out.fo.kn.cell ML.out; rw [HK.out] at p1; obtain ⟨q1, q2, q3⟩ := C6.out.fo.sp.cell ML.out; obtain ⟨r1, r2, r3⟩ := C6.out.fo.sp.cell hlt; obtain ⟨u1, u2, u3⟩ := C6.out.fo.kn.cell hlt; rw [HKI.out] at u1)
                          go_roundw
                          case rel => exact ⟨d + 1, by omega, by go_num, _, _, _, _, rfl, (FA.out _ HB6.out).choose_spec⟩
                          case measure => simp [intOf]; omega
                      | true =>
                        have HKI := Lib.hid hKi
                        have oki := B5.out.bel.fin i (by rw [GR.out]; exact hlt) hKi
                        have lv := lss_val OK.out.val oki.val
                        rw [← f32f'] at lv
                        clear hKi
                        by_cases hlv : vI sr < vI (c5 i)
                        · have FA := Lib.hid (fun w6 hB => FA0.out w6 hB (.inr hlv))
                          rw [decide_eq_true hlv] at lv
                          clear hlv oki FA0
                          cases hgt : (FloatKind.f32.format.order (v i) r == some .gt) with
                          | true =>
                            have e := ER.out
                            rw [hgt, if_pos rfl] at e
                            subst e
                            go_wp2_with (go_at_call 72; refine (NI.out _).mono ?_; rintro e w6 ⟨rfl, hb6⟩; have HB6 := Lib.hid hb6; have C6 := Lib.hid (B5.out.below hb6); clear hb6 cF fF zF; obtain ⟨p1, p2, p3⟩ := C6.out.fo.kn.cell ML.out; rw [HK.out] at p1; obtain ⟨q1, q2, q3⟩ := C6.out.fo.sp.cell ML.out; obtain ⟨r1, r2, r3⟩ := C6.out.fo.sp.cell hlt; obtain ⟨u1, u2, u3⟩ := C6.out.fo.kn.cell hlt; rw [HKI.out] at u1)
                            go_roundw
                            case rel => exact ⟨d + 1, by omega, by go_num, _, _, _, _, rfl, (FA.out _ HB6.out).choose_spec⟩
                            case measure => simp [intOf]; omega
                          | false =>
                            have e := ER.out
                            rw [hgt, if_neg (by simp)] at e
                            subst e
                            go_wp2_with (go_at_call 72; refine (NI.out _).mono ?_; rintro e w6 ⟨rfl, hb6⟩; have HB6 := Lib.hid hb6; have C6 := Lib.hid (B5.out.below hb6); clear hb6 cF fF zF; obtain ⟨p1, p2, p3⟩ := C6.out.fo.kn.cell ML.out; rw [HK.out] at p1; obtain ⟨q1, q2, q3⟩ := C6.out.fo.sp.cell ML.out; obtain ⟨r1, r2, r3⟩ := C6.out.fo.sp.cell hlt; obtain ⟨u1, u2, u3⟩ := C6.out.fo.kn.cell hlt; rw [HKI.out] at u1)
                            go_roundw
                            case rel => exact ⟨d + 1, by omega, by go_num, _, _, _, _, rfl, (FA.out _ HB6.out).choose_spec⟩
                            case measure => simp [intOf]; omega
                        · have NX := Lib.hid (fun w6 hB => (B5.out.below (w2 := w6) hB).still (fun m' hm' hK' => by rw [HM.out] at hm'; cases hm'; exact ⟨HKI.out, by rw [show (gndOf W H v sl).sl = sl from rfl, show (gndOf W H v sl).h i = v i from rfl, ← HSR.out]; omega⟩))
                          rw [decide_eq_false hlv] at lv
                          clear hlv oki FA0
                          cases hgt : (FloatKind.f32.format.order (v i) r == some .gt) with
                          | true =>
                            have e := ER.out
                            rw [hgt, if_pos rfl] at e
                            subst e
                            go_wp2_with (go_at_call 72; refine (NI.out _).mono ?_; rintro e w6 ⟨rfl, hb6⟩; have HB6 := Lib.hid hb6; have C6 := Lib.hid (B5.out.below hb6); clear hb6 cF fF zF; obtain ⟨p1, p2, p3⟩ := C6.out.fo.kn.cell ML.out; rw [HK.out] at p1; obtain ⟨q1, q2, q3⟩ := C6.out.fo.sp.cell ML.out; obtain ⟨r1, r2, r3⟩ := C6.out.fo.sp.cell hlt; obtain ⟨u1, u2, u3⟩ := C6.out.fo.kn.cell hlt; rw [HKI.out] at u1)
                            go_roundw
                            case rel => exact ⟨d + 1, by omega, by go_num, _, _, _, _, rfl, NX.out _ HB6.out⟩
                            case measure => simp [intOf]; omega
                          | false =>
                            have e := ER.out
                            rw [hgt, if_neg (by simp)] at e
                            subst e
                            go_wp2_with (go_at_call 72; refine (NI.out _).mono ?_; rintro e w6 ⟨rfl, hb6⟩; have HB6 := Lib.hid hb6; have C6 := Lib.hid (B5.out.below hb6); clear hb6 cF fF zF; obtain ⟨p1, p2, p3⟩ := C6.out.fo.kn.cell ML.out; rw [HK.out] at p1; obtain ⟨q1, q2, q3⟩ := C6.out.fo.sp.cell ML.out; obtain ⟨r1, r2, r3⟩ := C6.out.fo.sp.cell hlt; obtain ⟨u1, u2, u3⟩ := C6.out.fo.kn.cell hlt; rw [HKI.out] at u1)
                            go_roundw
                            case rel => exact ⟨d + 1, by omega, by go_num, _, _, _, _, rfl, NX.out _ HB6.out⟩
                            case measure => simp [intOf]; omega
                  · have hd9 : d = 8 := by omega
                    subst hd9
                    have NX := Lib.hid (B5.out.next (.inr rfl))
                    clear cF fF zF
                    go_wp2
                    go_roundw
                    case rel => exact ⟨i + 1, by omega, by go_num, _, _, _, _, rfl, NX.out⟩
                    case measure => simp [intOf]; omega
            · have hik : i = k := by omega
              subst hik
              clear cF fF zF
              go_wp2
              go_roundg (2 * mu i K4 c4 + ag4.toNat)
              case measure =>
                have := B4.out.le
                have l := B4.out.lt
                have hN := HN3.out
                cases ag4 with
                | false => simp at *; omega
                | true => have := l rfl; simp at *; omega
              case rel => exact ⟨ag4, c4, K4, t4, rfl, B4.out.fo, B4.out.bel, rfl, B4.out.st⟩
end Go.Proofs.YtacbemilicdklaaDoor

/- Whether a single is finite, whether it is a height, as the references of chapters 4 to 10 ask it: by comparisons. -/
namespace Go.Proofs.YtacbemilicdklaaDoor.Fl
open Ieee

/-- A finite single passes all three tests. -/
theorem num_fin {x : Nat} (h : finB x = true) : (single.order x x == some .eq) = true ∧ (single.order x 2139095039 == some .gt) = false ∧ (single.order x 4286578687 == some .lt) = false := by
  unfold finB at h
  cases hv : vS x with
  | none => rw [hv] at h; cases h
  | some a =>
    obtain ⟨h1, h2⟩ := vS_le hv
    refine ⟨by rw [eql_val hv hv]; simp, by rw [gtr_val hv vS_max]; simp; omega, by rw [lss_val hv vS_min]; simp; omega⟩
/-- Any other falls at one of them. -/
theorem num_inf {x : Nat} (h : finB x = false) : (single.order x x == some .eq) = false ∨ ((single.order x x == some .eq) = true ∧ (single.order x 2139095039 == some .gt) = true) ∨
    ((single.order x x == some .eq) = true ∧ (single.order x 2139095039 == some .gt) = false ∧ (single.order x 4286578687 == some .lt) = true) := by
  unfold finB at h
  cases hv : vS x with
  | some a => rw [hv] at h; cases h
  | none =>
    rcases vS_none hv with ⟨s, hs⟩ | hn
    · right
      have e := self_eq (x := x) (by rw [hs]; rfl)
      cases s with
      | false => exact .inl ⟨e, by unfold Format.order; rw [hs, readMax]; rfl⟩
      | true => exact .inr ⟨e, by unfold Format.order; rw [hs, readMax]; rfl, by unfold Format.order; rw [hs, readMin]; rfl⟩
    · exact .inl (self_ne hn)
/-- A height passes both tests. -/
theorem num_hgt {x : Nat} (h : hgtB x = true) : (single.order x 1233125376 == some .gt) = false ∧ (single.order x 3380609024 == some .lt) = false := by
  unfold hgtB at h
  cases hv : vS x with
  | none => rw [hv] at h; cases h
  | some a =>
    rw [hv] at h
    simp at h
    refine ⟨by rw [gtr_val hv vS_top]; simp; omega, by rw [lss_val hv vS_bot]; simp; omega⟩
/-- A finite single that is none falls at one. -/
theorem num_out {x : Nat} (f : finB x = true) (h : hgtB x = false) : (single.order x 1233125376 == some .gt) = true ∨ ((single.order x 1233125376 == some .gt) = false ∧ (single.order x 3380609024 == some .lt) = true) := by
  unfold finB at f
  unfold hgtB at h
  cases hv : vS x with
  | none => rw [hv] at f; cases f
  | some a =>
    rw [hv] at h
    simp at h
    rw [gtr_val hv vS_top, lss_val hv vS_bot]
    by_cases c : vTop < a
    · exact .inl (by simp [c])
    · exact .inr ⟨by simp [c], by simp; by_cases d : -vTop ≤ a; have := h d; omega; omega⟩
end Go.Proofs.YtacbemilicdklaaDoor.Fl

/- Contract: the references' NumberError over a list of singles that is known cell by cell. -/
namespace Go.Proofs.YtacbemilicdklaaDoor
open Go.RowKit Fl
set_option linter.unusedVariables false

set_option maxHeartbeats 2000000 in
theorem qNumberError_row (b off cap n : Nat) (v : Nat → Nat) (hl : n ≤ 9223372036854775807) (w : World) (hc : FlAt w b off n v) :
    Calls Tryd.prog 18 #[.slice (some ⟨b, off, none⟩) n cap] w fun e w' => e = .returned (.int .i64 (fldE n v)) ∧ w = w' := by
  go_enter Tryd.func18, Tryd.ntmps18
  go_wp2
  go_loop [9] (fun i => ∃ k : Nat, k ≤ n ∧ i = .int .i64 k ∧ allB k (fun i => finB (v i)) = true) (fun i => n - (intOf i).toNat)
  case atStart => exact ⟨0, Nat.zero_le _, rfl, rfl⟩
  case round =>
    obtain ⟨k, hk, rfl, hall⟩ := hrel
    have HA := Lib.hid hall
    clear hall
    by_cases hlt : k < n
    · have hcell := hc k hlt
      cases hf : finB (v k) with
      | true =>
        have HB := Lib.hid hf
        obtain ⟨t1, t2, t3⟩ := num_fin hf
        rw [← f32fmt] at t1 t2 t3
        have t1' : (FloatKind.f32.format.order (v k) (v k) != some .eq) = false := by rw [bne, t1]; rfl
        clear hf t1
        go_wp2
        go_round
        case rel => exact ⟨k + 1, by omega, by go_num, allB_iff.2 fun i hi => by rcases Nat.lt_or_ge i k with c | c; exact allB_iff.1 HA.out i c; rw [show i = k by omega]; exact HB.out⟩
        case measure => simp [intOf]; omega
      | false =>
        have HB := Lib.hid hf
        rcases num_inf hf with t1 | ⟨t1, t2⟩ | ⟨t1, t2, t3⟩
        · rw [← f32fmt] at t1
          have t1' : (FloatKind.f32.format.order (v k) (v k) != some .eq) = true := by rw [bne, t1]; rfl
          clear hf t1
          go_wp2
          go_ret
          exact ⟨ret_int (by unfold fldE; rw [allB_no hlt HB.out]; rfl), rfl⟩
        · rw [← f32fmt] at t1 t2
          have t1' : (FloatKind.f32.format.order (v k) (v k) != some .eq) = false := by rw [bne, t1]; rfl
          clear hf t1
          go_wp2
          go_ret
          exact ⟨ret_int (by unfold fldE; rw [allB_no hlt HB.out]; rfl), rfl⟩
        · rw [← f32fmt] at t1 t2 t3
          have t1' : (FloatKind.f32.format.order (v k) (v k) != some .eq) = false := by rw [bne, t1]; rfl
          clear hf t1
          go_wp2
          go_ret
          exact ⟨ret_int (by unfold fldE; rw [allB_no hlt HB.out]; rfl), rfl⟩
    · have hkn : k = n := by omega
      subst hkn
      go_wp2
      go_loop [27] (fun i => ∃ j : Nat, j ≤ k ∧ i = .int .i64 j ∧ allB j (fun i => hgtB (v i)) = true) (fun i => k - (intOf i).toNat)
      case atStart => exact ⟨0, Nat.zero_le _, rfl, rfl⟩
      case round =>
        obtain ⟨j, hj, rfl, hall2⟩ := hrel
        have HH := Lib.hid hall2
        clear hall2
        by_cases hlt2 : j < k
        · have hcell := hc j hlt2
          cases hb : hgtB (v j) with
          | true =>
            have HB := Lib.hid hb
            obtain ⟨t1, t2⟩ := num_hgt hb
            rw [← f32fmt] at t1 t2
            clear hb
            go_wp2
            go_round
            case rel => exact ⟨j + 1, by omega, by go_num, allB_iff.2 fun i hi => by rcases Nat.lt_or_ge i j with c | c; exact allB_iff.1 HH.out i c; rw [show i = j by omega]; exact HB.out⟩
            case measure => simp [intOf]; omega
          | false =>
            have HB := Lib.hid hb
            rcases num_out (allB_iff.1 HA.out j hlt2) hb with t1 | ⟨t1, t2⟩
            · rw [← f32fmt] at t1
              clear hb
              go_wp2
              go_ret
              exact ⟨ret_int (by unfold fldE hgtE; rw [HA.out, allB_no hlt2 HB.out]; rfl), rfl⟩
            · rw [← f32fmt] at t1 t2
              clear hb
              go_wp2
              go_ret
              exact ⟨ret_int (by unfold fldE hgtE; rw [HA.out, allB_no hlt2 HB.out]; rfl), rfl⟩
        · go_wp2
          go_ret
          have : j = k := by omega
          subst this
          exact ⟨ret_int (by unfold fldE hgtE; rw [HA.out, HH.out]; rfl), rfl⟩
end Go.Proofs.YtacbemilicdklaaDoor

/- Contracts: Check of any field, and the references' FieldError: one answer. -/
namespace Go.Proofs.YtacbemilicdklaaDoor
open Go.RowKit Fl
set_option linter.unusedVariables false

/-- The error of a field whose numbers have the error er. -/
def fldChk (X Y W H : Int) (n : Nat) (er : Int) : Int := if checkR X Y W H ≠ 0 then checkR X Y W H else if (n : Int) ≠ W * H then 2 else er

set_option maxHeartbeats 1000000 in
theorem checkA_any (X Y W H : Int) (a : Option Addr) (n cap : Nat) (er : Int) (w : World) (CH0 : ∀ W', Below w.heap.size w W' → Calls Tryd.prog 93 #[.slice a n cap] W' fun e w' => e = .returned (.int .i64 er) ∧ W' = w') :
    Calls Tryd.prog 66 #[fldV X Y W H (.slice a n cap)] w fun e w' => e = .returned (.int .i64 (fldChk X Y W H n er)) ∧ Below w.heap.size w w' := by
  have CH := Lib.hid CH0
  clear CH0
  have RC := Lib.hid (fun w => checkRegion_any X Y W H w)
  unfold fldChk
  by_cases h0 : checkR X Y W H = 0
  · obtain ⟨b1, b2, b3, b4, b5, _⟩ := checkR_zero h0
    rw [if_neg (by simp [h0])]
    rw [h0] at RC
    have en : wrap64 (W * H) = W * H := IntWalk.wrap64_in _ ⟨by have := (mul_side b1 b2 b3 b4).1; omega, by omega⟩
    by_cases hl : (n : Int) = W * H
    · rw [if_neg (by simp [hl])]
      have en : wrap64 (W * H) = (n : Int) := by rw [en, hl]
      clear h0 b1 b2 b3 b4 b5 hl
      go_enter Tryd.func66, Tryd.ntmps66
      go_wp2_with (first | (go_at_call 115; refine (RC.out _).mono ?_; rintro e w' ⟨rfl, rfl⟩) | (go_at_call 93; refine (CH.out _ (by repeat (first | exact Below.refl _ _ | refine Below.alloc ?_ (by first | omega | (simp; done) | (simp; omega)) _ | refine Below.setCell ?_ (by first | omega | (simp; done) | (simp; omega)) _ | refine Below.drew ?_))).mono ?_; rintro e w' ⟨rfl, rfl⟩))
      go_ret
      exact ⟨rfl, (by repeat (first | exact Below.refl _ _ | refine Below.alloc ?_ (by first | omega | (simp; done) | (simp; omega)) _ | refine Below.setCell ?_ (by first | omega | (simp; done) | (simp; omega)) _ | refine Below.drew ?_))⟩
    · rw [if_pos hl]
      have hl' : ((n : Int) != W * H) = true := by simpa using hl
      clear h0 b1 b2 b3 b4 b5 hl CH
      go_enter Tryd.func66, Tryd.ntmps66
      go_wp2_with (first | (go_at_call 115; refine (RC.out _).mono ?_; rintro e w' ⟨rfl, rfl⟩))
      go_ret
      exact ⟨rfl, (by repeat (first | exact Below.refl _ _ | refine Below.alloc ?_ (by first | omega | (simp; done) | (simp; omega)) _ | refine Below.setCell ?_ (by first | omega | (simp; done) | (simp; omega)) _ | refine Below.drew ?_))⟩
  · rw [if_pos h0]
    generalize checkR X Y W H = r at *
    have h1 : (r != 0) = true := by simpa using h0
    clear h0 CH
    go_enter Tryd.func66, Tryd.ntmps66
    go_wp2_with (first | (go_at_call 115; refine (RC.out _).mono ?_; rintro e w' ⟨rfl, rfl⟩))
    go_ret
    exact ⟨rfl, (by repeat (first | exact Below.refl _ _ | refine Below.alloc ?_ (by first | omega | (simp; done) | (simp; omega)) _ | refine Below.setCell ?_ (by first | omega | (simp; done) | (simp; omega)) _ | refine Below.drew ?_))⟩

set_option maxHeartbeats 1000000 in
theorem qFieldError_any (X Y W H : Int) (a : Option Addr) (n cap : Nat) (er : Int) (w : World) (CH0 : ∀ W', Below w.heap.size w W' → Calls Tryd.prog 18 #[.slice a n cap] W' fun e w' => e = .returned (.int .i64 er) ∧ W' = w') :
    Calls Tryd.prog 17 #[fldV X Y W H (.slice a n cap)] w fun e w' => e = .returned (.int .i64 (fldChk X Y W H n er)) ∧ Below w.heap.size w w' := by
  have CH := Lib.hid CH0
  clear CH0
  have RC := Lib.hid (fun w => qRegionError_any X Y W H w)
  unfold fldChk
  by_cases h0 : checkR X Y W H = 0
  · obtain ⟨b1, b2, b3, b4, b5, _⟩ := checkR_zero h0
    rw [if_neg (by simp [h0])]
    rw [h0] at RC
    have en : wrap64 (W * H) = W * H := IntWalk.wrap64_in _ ⟨by have := (mul_side b1 b2 b3 b4).1; omega, by omega⟩
    by_cases hl : (n : Int) = W * H
    · rw [if_neg (by simp [hl])]
      have en : wrap64 (W * H) = (n : Int) := by rw [en, hl]
      clear h0 b1 b2 b3 b4 b5 hl
      go_enter Tryd.func17, Tryd.ntmps17
      go_wp2_with (first | (go_at_call 62; refine (RC.out _).mono ?_; rintro e w' ⟨rfl, rfl⟩) | (go_at_call 18; refine (CH.out _ (by repeat (first | exact Below.refl _ _ | refine Below.alloc ?_ (by first | omega | (simp; done) | (simp; omega)) _ | refine Below.setCell ?_ (by first | omega | (simp; done) | (simp; omega)) _ | refine Below.drew ?_))).mono ?_; rintro e w' ⟨rfl, rfl⟩))
      go_ret
      exact ⟨rfl, (by repeat (first | exact Below.refl _ _ | refine Below.alloc ?_ (by first | omega | (simp; done) | (simp; omega)) _ | refine Below.setCell ?_ (by first | omega | (simp; done) | (simp; omega)) _ | refine Below.drew ?_))⟩
    · rw [if_pos hl]
      have hl' : ((n : Int) != W * H) = true := by simpa using hl
      clear h0 b1 b2 b3 b4 b5 hl CH
      go_enter Tryd.func17, Tryd.ntmps17
      go_wp2_with (first | (go_at_call 62; refine (RC.out _).mono ?_; rintro e w' ⟨rfl, rfl⟩))
      go_ret
      exact ⟨rfl, (by repeat (first | exact Below.refl _ _ | refine Below.alloc ?_ (by first | omega | (simp; done) | (simp; omega)) _ | refine Below.setCell ?_ (by first | omega | (simp; done) | (simp; omega)) _ | refine Below.drew ?_))⟩
  · rw [if_pos h0]
    generalize checkR X Y W H = r at *
    have h1 : (r != 0) = true := by simpa using h0
    clear h0 CH
    go_enter Tryd.func17, Tryd.ntmps17
    go_wp2_with (first | (go_at_call 62; refine (RC.out _).mono ?_; rintro e w' ⟨rfl, rfl⟩))
    go_ret
    exact ⟨rfl, (by repeat (first | exact Below.refl _ _ | refine Below.alloc ?_ (by first | omega | (simp; done) | (simp; omega)) _ | refine Below.setCell ?_ (by first | omega | (simp; done) | (simp; omega)) _ | refine Below.drew ?_))⟩

set_option maxHeartbeats 400000 in
theorem empty_no (w : World) : Calls Tryd.prog 21 #[fldV 0 0 0 0 (.slice none 0 0)] w fun e w' => e = .returned (.bool true) ∧ Below w.heap.size w w' := by
  go_enter Tryd.func21, Tryd.ntmps21
  go_wp2
  go_ret
  exact ⟨rfl, (by repeat (first | exact Below.refl _ _ | refine Below.alloc ?_ (by first | omega | (simp; done) | (simp; omega)) _ | refine Below.setCell ?_ (by first | omega | (simp; done) | (simp; omega)) _ | refine Below.drew ?_))⟩
end Go.Proofs.YtacbemilicdklaaDoor

/- What is known at each head of leastSpills' second loop; its rounds. -/
namespace Go.Proofs.YtacbemilicdklaaDoor
open Go.RowKit Fl Go.Shelf
set_option linter.unusedVariables false

/-- The heap, the spills and the cells that have been reached, in memory. -/
structure Mem (w0 wr : World) (X Y : Int) (W H n b off cap sl hb sb scap g gcap m : Nat) (c s : Nat → Nat) (R : Nat → Bool) : Prop where
  stat : Stat w0 wr X Y W H n b off cap sl hb
  heads : HeadsAt wr hb sb n scap g gcap m c s
  sown : wr.ownsRow (w0.heap.size + 1 + 1) 27 1 (.slice (some ⟨sb, 0, none⟩) n scap) n (rowL s n)
  bools : BoolsAt wr (hb + 1 + 1) n R
  gl : hb + 1 + 1 + 1 < g
  sbl : sb < hb
theorem ownsRow_flAt' {w : World} {base b cap k : Nat} {f : Nat → Nat} (h : w.ownsRow base 27 1 (.slice (some ⟨b, 0, none⟩) k cap) k (rowL f k)) (hk : 0 < k) : FlAt w b 0 k f := (ownsRow_flAt h hk).1
theorem Mem.below {w0 w w' : World} {X Y : Int} {W H n b off cap sl hb sb scap g gcap m : Nat} {c s : Nat → Nat} {R : Nat → Bool} (h : Mem w0 w X Y W H n b off cap sl hb sb scap g gcap m c s R) (hB : Below w.heap.size w w') : Mem w0 w' X Y W H n b off cap sl hb sb scap g gcap m c s R := by
  have zh := (blkC h.heads.obj).2.2
  have zs : sb < w.heap.size := World.block_lt_of_cell? w _ (h.heads.sp 0 h.heads.n1)
  have zg := h.heads.cap1.2.2
  exact ⟨h.stat.below hB, h.heads.kept (fun k hk => hB.block k (by rcases hk with rfl | rfl | rfl <;> assumption)), ownsRow_below h.sown hB, h.bools.congr (hB.block _ h.bools.lt), h.gl, h.sbl⟩
/-- A step that turns no block of cells. -/
theorem Mem.other {w0 w w' : World} {X Y : Int} {W H n b off cap sl hb sb scap g gcap m : Nat} {c s : Nat → Nat} {R : Nat → Bool} (h : Mem w0 w X Y W H n b off cap sl hb sb scap g gcap m c s R) (hB : Below w0.heap.size w0 w') (hk : ∀ (k : Nat) (cs : Array Value) (t : TypeId) (f : Nat × Nat), w.heap[k]? = some (.cells cs t f) → w'.heap[k]? = some (.cells cs t f)) : Mem w0 w' X Y W H n b off cap sl hb sb scap g gcap m c s R := by
  have S := h.stat
  have own : ∀ {base : Nat} {e : TypeId} {v : Value} {n : Nat} {xs : List Value}, w.ownsRow base e 1 v n xs → w'.ownsRow base e 1 v n xs := fun q => by
    obtain ⟨h1, h2⟩ := q
    refine ⟨h1, ?_⟩
    rcases h2 with h2 | ⟨g, cap, cur, hv, hg, hh, r⟩
    · exact .inl h2
    · exact .inr ⟨g, cap, cur, hv, hg, hk _ _ _ _ hh, r⟩
  have so := own h.sown
  refine ⟨⟨hk _ _ _ _ S.fld, hk _ _ _ _ S.slo, hk _ _ _ _ S.ptr, hk _ _ _ _ S.rsl, hB, S.lo⟩, ⟨hk _ _ _ _ h.heads.obj, own h.heads.own, (ownsRow_flAt' so h.heads.n1), h.heads.gh, h.heads.gs, h.heads.hs, h.heads.nc, h.heads.n1, h.heads.n2, h.heads.m2⟩, so, ?_, h.gl, h.sbl⟩
  obtain ⟨cs, h1, h2⟩ := h.bools
  exact ⟨cs, hk _ _ _ _ h1, h2⟩

theorem below_kept {w0 w w' : World} {hb g : Nat} (hB : Below w0.heap.size w0 w) (K : Kept hb g w w') (h1 : w0.heap.size ≤ hb) (h2 : w0.heap.size ≤ g) : Below w0.heap.size w0 w' :=
  ⟨K.os.trans hB.os, K.tape.trans hB.tape, K.output.trans hB.output, Nat.le_trans hB.size K.size, fun j hj => (K.block j (Nat.lt_of_lt_of_le hj hB.size) (by omega) (by omega)).trans (hB.block j hj)⟩

/-- Behind a step of the heap's. -/
theorem Mem.heapStep {w0 w w' : World} {X Y : Int} {W H n b off cap sl hb sb scap g gcap m g' gcap' m' : Nat} {c s c' : Nat → Nat} {R : Nat → Bool} (h : Mem w0 w X Y W H n b off cap sl hb sb scap g gcap m c s R) (K : Kept hb g w w') (hh : HeadsAt w' hb sb n scap g' gcap' m' c' s) (hg : g' = g ∨ w.heap.size ≤ g') :
    Mem w0 w' X Y W H n b off cap sl hb sb scap g' gcap' m' c' s R := by
  have lo := h.stat.lo
  have gl := h.gl
  have sbl := h.sbl
  have zr := (blkC h.stat.rsl).2.2
  have kk : ∀ k, k ≤ hb + 1 + 1 + 1 → k ≠ hb → w'.heap[k]? = w.heap[k]? := fun k hk hne => K.block k (by omega) hne (by omega)
  exact ⟨h.stat.kept (fun k hk' h1 _ _ => kk k hk' h1) (below_kept h.stat.bel K (by omega) (by omega)), hh, ownsRow_congr h.sown fun g' hg => kk g' (by simp [Value.ownBlock] at hg; omega) (by simp [Value.ownBlock] at hg; omega), h.bools.congr (kk _ (by omega) (by omega)), by omega, h.sbl⟩

theorem rowL_set {s : Nat → Nat} {n k x : Nat} (hk : k < n) : (rowL s n).set k (.float .f32 x) = rowL (updW s k x) n := by
  apply List.ext_getElem?
  intro i
  rw [List.getElem?_set]
  by_cases e : i < n
  · have q : ∀ s : Nat → Nat, (rowL s n)[i]? = some (.float .f32 (s i)) := fun s => by simp [rowL, e]
    by_cases e1 : k = i
    · subst e1; rw [if_pos rfl, if_pos (by simpa [rowL] using e), q, updW_same]
    · rw [if_neg e1, q, q, updW_other s (by omega)]
  · have q : ∀ s : Nat → Nat, (rowL s n)[i]? = none := fun s => List.getElem?_eq_none (by simp [rowL]; omega)
    rw [if_neg (by omega), q, q]

/-- A cell is reached, its spill is stored. -/
theorem Mem.store {w0 w : World} {X Y : Int} {W H n b off cap sl hb sb scap g gcap m : Nat} {c s : Nat → Nat} {R : Nat → Bool} (h : Mem w0 w X Y W H n b off cap sl hb sb scap g gcap m c s R) {k x : Nat} (hk : k < n) :
    Mem w0 (w.setCell ⟨sb, k, none⟩ (.float .f32 x)) X Y W H n b off cap sl hb sb scap g gcap m c (updW s k x) R := by
  have lo := h.stat.lo
  have sbl := h.sbl
  have gl := h.gl
  have e : ∀ j, j ≠ sb → (w.setCell ⟨sb, k, none⟩ (.float .f32 x)).heap[j]? = w.heap[j]? := fun j hj => heap_setCell_other _ _ j _ hj
  have o := (h.sown.stored k (.float .f32 x)).1
  rw [rowL_set hk] at o
  have sl0 := (h.sown.lt sb rfl).1
  have S := h.stat
  have st : Stat w0 (w.setCell ⟨sb, k, none⟩ (.float .f32 x)) X Y W H n b off cap sl hb := ⟨(e _ (by omega)).trans S.fld, (e _ (by omega)).trans S.slo, (e _ (by omega)).trans S.ptr, (e _ (by omega)).trans S.rsl, S.bel.setCell (by show w0.heap.size ≤ sb; omega) _, S.lo⟩
  have D := h.heads
  exact ⟨st, ⟨(e _ (by omega)).trans D.obj, ownsRow_congr D.own fun g' hg => e g' (by simp [Value.ownBlock] at hg; omega), ownsRow_flAt' o D.n1, D.gh, D.gs, D.hs, D.nc, D.n1, D.n2, D.m2⟩, o, h.bools.congr (e _ (by omega)), h.gl, h.sbl⟩
theorem Mem.reach {w0 w : World} {X Y : Int} {W H n b off cap sl hb sb scap g gcap m : Nat} {c s : Nat → Nat} {R : Nat → Bool} (h : Mem w0 w X Y W H n b off cap sl hb sb scap g gcap m c s R) {k : Nat} (hk : k < n) :
    Mem w0 (w.setCell ⟨hb + 1 + 1, k, none⟩ (.bool true)) X Y W H n b off cap sl hb sb scap g gcap m c s (updB R k) := by
  have lo := h.stat.lo
  have sbl := h.sbl
  have gl := h.gl
  have e : ∀ j, j ≠ hb + 1 + 1 → (w.setCell ⟨hb + 1 + 1, k, none⟩ (.bool true)).heap[j]? = w.heap[j]? := fun j hj => heap_setCell_other _ _ j _ hj
  exact ⟨h.stat.kept (fun j h1 h2 h3 _ => e j h3) (h.stat.bel.setCell (by show w0.heap.size ≤ hb + 1 + 1; omega) _), h.heads.kept (fun j hj => e j (by omega)), ownsRow_congr h.sown fun g' hg => e g' (by simp [Value.ownBlock] at hg; omega), h.bools.put hk, h.gl, h.sbl⟩

/-- What a round may turn: the heap's blocks, the spills, the cells that have been reached. -/
structure Turn (hb sb g : Nat) (w w' : World) : Prop where
  size : w.heap.size ≤ w'.heap.size
  block : ∀ k, k < w.heap.size → k ≠ hb → k ≠ g → k ≠ sb → k ≠ hb + 1 + 1 → w'.heap[k]? = w.heap[k]?
theorem Turn.refl (hb sb g : Nat) (w : World) : Turn hb sb g w w := ⟨Nat.le_refl _, fun _ _ _ _ _ _ => rfl⟩
theorem Turn.set {hb sb g : Nat} {w w' : World} (h : Turn hb sb g w w') {p : Addr} (hp : p.block = sb ∨ p.block = hb + 1 + 1) (u : Value) : Turn hb sb g w (w'.setCell p u) :=
  ⟨by simpa using h.size, fun k hk h1 h2 h3 h4 => (heap_setCell_other _ p k u (by rcases hp with e | e <;> rw [e] <;> omega)).trans (h.block k hk h1 h2 h3 h4)⟩
theorem Turn.drew {hb sb g : Nat} {w w' : World} (h : Turn hb sb g w w') : Turn hb sb g w w'.drew := ⟨h.size, h.block⟩
theorem Turn.heap {hb sb g : Nat} {w w' w'' : World} (h : Turn hb sb g w w') (K : Kept hb g w' w'') : Turn hb sb g w w'' :=
  ⟨Nat.le_trans h.size K.size, fun k hk h1 h2 h3 h4 => (K.block k (Nat.lt_of_lt_of_le hk h.size) h1 h2).trans (h.block k hk h1 h2 h3 h4)⟩
end Go.Proofs.YtacbemilicdklaaDoor

/- The rounds over the neighbours of the lowest cell: what is known between two of them. -/
namespace Go.Proofs.YtacbemilicdklaaDoor
open Go.RowKit Fl Go.Shelf
set_option linter.unusedVariables false

theorem Doing.of {g : Gnd} {s : Nat → Nat} {R : Nat → Bool} {c : Nat → Nat} {m : Nat} {D : Nat → Prop} {rk : Nat → Nat} {t x : Nat} {P P' : Nat → Prop} (F : Doing g s R c m D rk t x P) (h : ∀ e, P' e → P e) : Doing g s R c m D rk t x P' := ⟨F.f, F.x1, F.x2, fun e he => F.upto e (h e he)⟩
def didB {W H x0 : Nat} (pre : List (Nb W H x0)) (e : Nat) : Prop := ∃ z ∈ pre, z.1.1 = e
theorem did_snoc {W H x0 : Nat} {pre : List (Nb W H x0)} {x : Nb W H x0} {e : Nat} (h : didB (pre ++ [x]) e) : didB pre e ∨ e = x.1.1 := by
  obtain ⟨z, hz, rfl⟩ := h
  rcases List.mem_append.1 hz with h | h
  · exact .inl ⟨z, h, rfl⟩
  · right; rw [List.mem_singleton.1 h]
theorem did_all {W H x0 : Nat} {xs : List (Nb W H x0)} (h : xs.map (fun z => z.1) = nbrs W H x0 8) {e m : Nat} (he : e < 8) (hm : nbI W H x0 e = some m) : didB xs e := by
  have := nbrs_mem he hm
  rw [← h] at this
  obtain ⟨z, hz, q⟩ := List.mem_map.1 this
  exact ⟨z, hz, by rw [q]⟩

theorem Marks.kept' {lo : Nat} {w w' : World} {ds : List Deferred} (h : Marks lo w ds) (hk : ∀ e ∈ ds, ∀ D, e.target = .collected D → w.heap[D]? = some (.deferred (some [])) → w'.heap[D]? = some (.deferred (some []))) : Marks lo w' ds := by
  induction ds with
  | nil => trivial
  | cons d ds ih =>
    obtain ⟨⟨D, h1, h2, h3, h4⟩, h5⟩ := h
    exact ⟨⟨D, h1, h2, hk d (List.mem_cons_self ..) D (by rw [h1]) h3, h4⟩, ih h5 fun e he => hk e (List.mem_cons_of_mem _ he)⟩

/-- Between two rounds. -/
structure In (w0 : World) (ds : List Deferred) (X Y : Int) (W H n b off cap : Nat) (v : Nat → Nat) (sl hb sb scap N q8 qq x0 : Nat) (pre : List (Nb W H x0)) (W1 : World) (c s : Nat → Nat) (R : Nat → Bool) (m g gcap : Nat) : Prop where
  mem : Mem w0 W1 X Y W H n b off cap sl hb sb scap g gcap m c s R
  did : ∃ D rk t, Doing (gndOf W H v sl) s R c m D rk t x0 (didB pre)
  lt : 2 * unr n R + m < N
  le : unr n R + m ≤ 131072
  box : W1.heap[q8]? = some (.cells #[.int .i64 (x0 : Int)] 3)
  far : g < q8 ∨ qq < g
  marks : Marks (hb + 1 + 1 + 1 + 1) W1 ds
  sz : qq < W1.heap.size
def InAt (w0 : World) (ds : List Deferred) (X Y : Int) (W H n b off cap : Nat) (v : Nat → Nat) (sl hb sb scap N q8 qq x0 : Nat) (pre : List (Nb W H x0)) (W1 : World) : Prop := ∃ c s R m g gcap, In w0 ds X Y W H n b off cap v sl hb sb scap N q8 qq x0 pre W1 c s R m g gcap

theorem in_own {w0 : World} {ds : List Deferred} {X Y : Int} {W H n b off cap : Nat} {v : Nat → Nat} {sl hb sb scap N q8 qq x0 B : Nat} (hB : w0.heap.size ≤ B) (hds : ∀ e ∈ ds, ∀ D, e.target = .collected D → D < B) : OwnFrom B (InAt w0 ds X Y W H n b off cap v sl hb sb scap N q8 qq x0) := by
  rintro pre A A' row ⟨c, s, R, m, g, gcap, h⟩ hg hr
  have kc : ∀ (k : Nat) (cs : Array Value) (t : TypeId) (f : Nat × Nat), A.heap[k]? = some (.cells cs t f) → A'.heap[k]? = some (.cells cs t f) := fun k cs t f hk => by
    refine (hg.block k (Array.getElem?_eq_some_iff.1 hk).1 fun e => ?_).trans hk
    obtain ⟨_, o, ho, hc⟩ := hr k e.symm
    rw [hk] at ho; cases ho; cases hc
  have bel : Below w0.heap.size w0 A' := ⟨hg.os.trans h.mem.stat.bel.os, hg.tape.trans h.mem.stat.bel.tape, hg.output.trans h.mem.stat.bel.output, Nat.le_trans h.mem.stat.bel.size hg.size, fun j hj =>
    (hg.block j (Nat.lt_of_lt_of_le hj h.mem.stat.bel.size) fun e => by have := (hr j e.symm).1; omega).trans (h.mem.stat.bel.block j hj)⟩
  refine ⟨c, s, R, m, g, gcap, h.mem.other bel kc, h.did, h.lt, h.le, kc _ _ _ _ h.box, h.far, h.marks.kept' (fun e he D hD hd => ?_), Nat.lt_of_lt_of_le h.sz hg.size⟩
  exact (hg.block D (Array.getElem?_eq_some_iff.1 hd).1 fun e' => by have := (hr D e'.symm).1; have := hds e he D hD; omega).trans hd

/-- A neighbour that has been reached already. -/
theorem In.skip {w0 : World} {ds : List Deferred} {X Y : Int} {W H n b off cap : Nat} {v : Nat → Nat} {sl hb sb scap N q8 qq x0 : Nat} {pre : List (Nb W H x0)} {W1 : World} {c s : Nat → Nat} {R : Nat → Bool} {m g gcap : Nat} (G : GndOk (gndOf W H v sl))
    (h : In w0 ds X Y W H n b off cap v sl hb sb scap N q8 qq x0 pre W1 c s R m g gcap) (x : Nb W H x0) (hr : R x.1.2 = true) : InAt w0 ds X Y W H n b off cap v sl hb sb scap N q8 qq x0 (pre ++ [x]) W1 := by
  obtain ⟨D, rk, t, F⟩ := h.did
  exact ⟨c, s, R, m, g, gcap, h.mem, ⟨D, rk, t, (doing_old G F x.2.2 hr).of fun e he => did_snoc he⟩, h.lt, h.le, h.box, h.far, h.marks, h.sz⟩

/-- A neighbour that is reached now: the heap ahead of the push. -/
theorem In.ready {w0 : World} {ds : List Deferred} {X Y : Int} {W H n b off cap : Nat} {v : Nat → Nat} {sl hb sb scap N q8 qq x0 : Nat} {pre : List (Nb W H x0)} {W1 : World} {c s : Nat → Nat} {R : Nat → Bool} {m g gcap : Nat} (G : GndOk (gndOf W H v sl)) (hn : n = W * H)
    (h : In w0 ds X Y W H n b off cap v sl hb sb scap N q8 qq x0 pre W1 c s R m g gcap) (x : Nb W H x0) (hr : R x.1.2 = false) :
    x.1.2 < n ∧ x0 < n ∧ m < 131072 ∧ OkC n m c (updW s x.1.2 (stepW sl (s x0) (v x.1.2))) ∧ Heap m (fun y => vI (updW s x.1.2 (stepW sl (s x0) (v x.1.2)) y)) c ∧ vS (updW s x.1.2 (stepW sl (s x0) (v x.1.2)) x.1.2) = some (vI (updW s x.1.2 (stepW sl (s x0) (v x.1.2)) x.1.2)) ∧
      (∃ r, floatBits .add .f32 (s x0) sl = some r ∧ stepW sl (s x0) (v x.1.2) = grtW (v x.1.2) r) := by
  obtain ⟨D, rk, t, F⟩ := h.did
  have hgn : (gndOf W H v sl).n = n := hn.symm
  have k1 : x.1.2 < (gndOf W H v sl).n := G.lt _ _ _ x.2.2
  have xr : R x0 = true := F.f.reach x0 F.x1 (.inr rfl)
  have hx : rk x0 ≤ 1048576 := by have := rk_le G F.f F.x1 xr; omega
  obtain ⟨r, e1, e2, _, _, okN, _⟩ := step_parts (F.f.fin x0 F.x1 xr).1 G.slo (G.hgt _ k1) hx
  have ne : ∀ i, i < m → c i ≠ x.1.2 := fun i hi e => by have := (F.f.cells i hi).2; rw [e, hr] at this; cases this
  have un : 1 ≤ unr n R := by have := unr_upd (n := n) (by rw [← hgn]; exact k1) hr; omega
  refine ⟨by rw [← hgn]; exact k1, by rw [← hgn]; exact F.x1, by have := h.le; omega, fun i hi => ?_, fun i i0 hi => ?_, by rw [updW_same]; exact okN.val, r, e1, ?_⟩
  · rw [updW_other s (ne i hi)]
    obtain ⟨a, b⟩ := F.f.okc i hi
    exact ⟨by rw [← hgn]; exact a, b⟩
  · have q := F.f.heap i i0 hi
    show vI (updW s _ _ (c ((i - 1) / 2))) ≤ vI (updW s _ _ (c i))
    rw [updW_other s (ne i hi), updW_other s (ne _ (by omega))]
    exact q
  · exact congrArg (grtW _) e2

/-- A neighbour that is reached now, behind the push. -/
theorem In.new {w0 : World} {ds : List Deferred} {X Y : Int} {W H n b off cap : Nat} {v : Nat → Nat} {sl hb sb scap N q8 qq x0 : Nat} {pre : List (Nb W H x0)} {W1 W3 W4 : World} {c s : Nat → Nat} {R : Nat → Bool} {m g gcap g' gcap' : Nat} {c' : Nat → Nat} (G : GndOk (gndOf W H v sl)) (hn : n = W * H)
    (h : In w0 ds X Y W H n b off cap v sl hb sb scap N q8 qq x0 pre W1 c s R m g gcap) (x : Nb W H x0) (hr : R x.1.2 = false)
    (M3 : Mem w0 W3 X Y W H n b off cap sl hb sb scap g gcap m c (updW s x.1.2 (stepW sl (s x0) (v x.1.2))) (updB R x.1.2)) (T3 : Turn hb sb g W1 W3) (hq : qq < W1.heap.size) (hq8 : hb + 1 + 1 < q8) (hqq : q8 ≤ qq)
    (hh : HeadsAt W4 hb sb n scap g' gcap' (m + 1) c' (updW s x.1.2 (stepW sl (s x0) (v x.1.2)))) (hs : SameSet (m + 1) (updW c m x.1.2) c') (hp : Heap (m + 1) (fun y => vI (updW s x.1.2 (stepW sl (s x0) (v x.1.2)) y)) c') (K : Kept hb g W3 W4) (hg : g' = g ∨ W3.heap.size ≤ g') :
    InAt w0 ds X Y W H n b off cap v sl hb sb scap N q8 qq x0 (pre ++ [x]) W4 ∧ Turn hb sb g W1 W4 := by
  obtain ⟨D, rk, t, F⟩ := h.did
  have k1 : x.1.2 < (gndOf W H v sl).n := G.lt _ _ _ x.2.2
  have hgn : (gndOf W H v sl).n = n := hn.symm
  have T4 := T3.heap K
  have un := unr_upd (n := n) (R := R) (by rw [← hgn]; exact k1) hr
  have sbl := h.mem.sbl
  have z3 := T3.size
  have l1 := h.lt
  have l2 := h.le
  have l3 := h.far
  have zc : ∀ k, W1.heap[k]? = some (.deferred (some [])) → k ≠ hb ∧ k ≠ g ∧ k ≠ sb ∧ k ≠ hb + 1 + 1 := fun k hk => by
    refine ⟨fun e => ?_, fun e => ?_, fun e => ?_, fun e => ?_⟩
    · rw [e, h.mem.heads.obj] at hk; cases hk
    · obtain ⟨_, _ | ⟨g2, cap2, cur, hv, hg2, hh2, _⟩⟩ := h.mem.heads.own
      · rename_i q; cases q.1
      · cases hv; rw [e, hh2] at hk; cases hk
    · obtain ⟨_, _ | ⟨g2, cap2, cur, hv, hg2, hh2, _⟩⟩ := h.mem.sown
      · rename_i q; cases q.1
      · cases hv; rw [e, hh2] at hk; cases hk
    · obtain ⟨cs, hc, _⟩ := h.mem.bools
      rw [e, hc] at hk; cases hk
  refine ⟨⟨c', _, _, m + 1, g', gcap', M3.heapStep K hh hg, ⟨D, _, _, (doing_new G F x.2.1 x.2.2 hr hs hp).of fun e he => did_snoc he⟩, by omega, by omega, ?_, by omega, h.marks.kept' (fun e he DD hD hd => ?_), Nat.lt_of_lt_of_le hq T4.size⟩, T4⟩
  · exact (T4.block q8 (by omega) (by omega) (by omega) (by omega) (by omega)).trans h.box
  · obtain ⟨a1, a2, a3, a4⟩ := zc DD hd
    exact (T4.block DD (Array.getElem?_eq_some_iff.1 hd).1 a1 a2 a3 a4).trans hd

/-- At the head of the second loop. -/
structure L2 (w0 : World) (X Y : Int) (W H n b off cap : Nat) (v : Nat → Nat) (sl hb sb scap N : Nat) (W1 : World) (c s : Nat → Nat) (R : Nat → Bool) (m g gcap : Nat) : Prop where
  mem : Mem w0 W1 X Y W H n b off cap sl hb sb scap g gcap m c s R
  fil : ∃ D rk t, Fil (gndOf W H v sl) s R c m D D rk t
  num : 2 * unr n R + m = N
  le : unr n R + m ≤ 131072
def L2At (w0 : World) (X Y : Int) (W H n b off cap : Nat) (v : Nat → Nat) (sl hb sb scap N : Nat) (W1 : World) : Prop := ∃ c s R m g gcap, L2 w0 X Y W H n b off cap v sl hb sb scap N W1 c s R m g gcap

theorem L1.heads {w0 wr : World} {X Y : Int} {W H n b off cap sl hb sb scap : Nat} {v : Nat → Nat} {g gcap m : Nat} {c : Nat → Nat} (h : L1 w0 wr X Y W H n b off cap sl hb sb scap v n (.slice (some ⟨g, 0, none⟩) m gcap) m c) (h1 : 1 ≤ n) (h2 : n ≤ 65536) (hsb : sb < hb) :
    Mem w0 wr X Y W H n b off cap sl hb sb scap g gcap m c v (fun i => decide (i < n) && bdB W H i) := by
  have gl := (h.own.lt g rfl).1
  refine ⟨h.stat, ⟨h.obj, ownsRow_lower h.own (Nat.zero_le _), ownsRow_flAt' h.sown h1, by omega, by omega, by omega, ?_, h1, h2, by have := h.mle; omega⟩, h.sown, h.bools, by omega, hsb⟩
  rcases h.sown.2 with ⟨h', _⟩ | ⟨g2, cap2, cur, hv, _, _, a, _⟩
  · cases h'
  · cases hv; exact a

theorem l2_start {w0 wr w5 : World} {X Y : Int} {W H n b off cap : Nat} {v : Nat → Nat} {sl hb sb scap g gcap m : Nat} {c c5 : Nat → Nat} (G : GndOk (gndOf W H v sl)) (hn : n = W * H) (M : Mem w0 wr X Y W H n b off cap sl hb sb scap g gcap m c v (fun i => decide (i < n) && bdB W H i)) (K : Kept hb g wr w5)
    (hh : HeadsAt w5 hb sb n scap g gcap m c5 v) (hs : SameSet m c c5) (hp : Heap m (fun x => vI (v x)) c5) (c1 : ∀ i, i < m → c i < n ∧ bdB W H (c i) = true) (c2 : ∀ x, x < n → bdB W H x = true → ∃ i, i < m ∧ c i = x) (hm : m ≤ n) (hn2 : n ≤ 65536) :
    ∃ N, L2At w0 X Y W H n b off cap v sl hb sb scap N w5 := by
  have hgn : (gndOf W H v sl).n = n := hn.symm
  refine ⟨_, c5, v, _, m, g, gcap, M.heapStep K hh (.inl rfl), ⟨_, _, _, fil_start G (fun i hi => ?_) (fun i hi => ?_) (fun x hx hb' => (hs x).1 (c2 x (by rw [← hgn]; exact hx) hb')) hp⟩, rfl, ?_⟩
  · rw [hgn] at hi
    show (decide (i < n) && bdB W H i) = bdB W H i
    simp [hi]
  · have q := hs.all (P := fun x => x < n ∧ bdB W H x = true) c1 i hi
    exact ⟨by rw [hgn]; exact q.1, q.2⟩
  · have := unr_le n (fun i => decide (i < n) && bdB W H i); omega

/-- The lowest cell has been taken; its number is in a box. -/
theorem in_start {w0 W2 : World} {ds : List Deferred} {X Y : Int} {W H n b off cap : Nat} {v : Nat → Nat} {sl hb sb scap N q8 qq g gcap m : Nat} {c s c' : Nat → Nat} {R : Nat → Bool} (M : Mem w0 W2 X Y W H n b off cap sl hb sb scap g gcap m c' s R)
    (hF : ∃ D rk t, Fil (gndOf W H v sl) s R c (m + 1) D D rk t) (hs : SameSet m (swp c 0 m) c') (hh : Heap m (fun x => vI (s x)) c') (hN : 2 * unr n R + (m + 1) = N) (hle : unr n R + (m + 1) ≤ 131072)
    (box : W2.heap[q8]? = some (.cells #[.int .i64 ((c 0 : Nat) : Int)] 3)) (far : g < q8) (mk : Marks (hb + 1 + 1 + 1 + 1) W2 ds) (sz : qq < W2.heap.size) : InAt w0 ds X Y W H n b off cap v sl hb sb scap N q8 qq (c 0) [] W2 := by
  obtain ⟨D, rk, t, F⟩ := hF
  exact ⟨c', s, R, m, g, gcap, M, ⟨D, rk, t, (fil_pop F hs hh).of fun e he => by obtain ⟨z, hz, _⟩ := he; cases hz⟩, by omega, by omega, box, .inl far, mk, sz⟩
theorem in_end {w0 W2 : World} {ds : List Deferred} {X Y : Int} {W H n b off cap : Nat} {v : Nat → Nat} {sl hb sb scap N q8 qq x0 : Nat} {xs : List (Nb W H x0)} (h : InAt w0 ds X Y W H n b off cap v sl hb sb scap N q8 qq x0 xs W2) (hx : xs.map (fun z => z.1) = nbrs W H x0 8) :
    ∃ N', N' < N ∧ L2At w0 X Y W H n b off cap v sl hb sb scap N' W2 := by
  obtain ⟨c, s, R, m, g, gcap, h⟩ := h
  obtain ⟨D, rk, t, F⟩ := h.did
  exact ⟨_, h.lt, c, s, R, m, g, gcap, h.mem, ⟨_, _, _, doing_done F fun e he k hk => did_all hx he hk⟩, rfl, h.le⟩

set_option maxRecDepth 100000 in
/-- A frame of 98 slots, written out. -/
theorem slots98 (t : Array Value) (h : t.size = 98) : ∃ u : Nat → Value, t = #[u 0, u 1, u 2, u 3, u 4, u 5, u 6, u 7, u 8, u 9, u 10, u 11, u 12, u 13, u 14, u 15, u 16, u 17, u 18, u 19, u 20, u 21, u 22, u 23, u 24, u 25, u 26, u 27, u 28, u 29, u 30, u 31, u 32, u 33, u 34, u 35, u 36, u 37, u 38, u 39, u 40, u 41, u 42, u 43, u 44, u 45, u 46, u 47, u 48, u 49, u 50, u 51, u 52, u 53, u 54, u 55, u 56, u 57, u 58, u 59, u 60, u 61, u 62, u 63, u 64, u 65, u 66, u 67, u 68, u 69, u 70, u 71, u 72, u 73, u 74, u 75, u 76, u 77, u 78, u 79, u 80, u 81, u 82, u 83, u 84, u 85, u 86, u 87, u 88, u 89, u 90, u 91, u 92, u 93, u 94, u 95, u 96, u 97] := by
  refine ⟨fun i => t.getD i undef, ?_⟩
  have e : ∀ u : Nat → Value, (#[u 0, u 1, u 2, u 3, u 4, u 5, u 6, u 7, u 8, u 9, u 10, u 11, u 12, u 13, u 14, u 15, u 16, u 17, u 18, u 19, u 20, u 21, u 22, u 23, u 24, u 25, u 26, u 27, u 28, u 29, u 30, u 31, u 32, u 33, u 34, u 35, u 36, u 37, u 38, u 39, u 40, u 41, u 42, u 43, u 44, u 45, u 46, u 47, u 48, u 49, u 50, u 51, u 52, u 53, u 54, u 55, u 56, u 57, u 58, u 59, u 60, u 61, u 62, u 63, u 64, u 65, u 66, u 67, u 68, u 69, u 70, u 71, u 72, u 73, u 74, u 75, u 76, u 77, u 78, u 79, u 80, u 81, u 82, u 83, u 84, u 85, u 86, u 87, u 88, u 89, u 90, u 91, u 92, u 93, u 94, u 95, u 96, u 97] : Array Value) = ((List.range 98).map u).toArray := fun u => rfl
  refine Eq.trans ?_ (e fun i => t.getD i undef).symm
  apply Array.ext
  · simp [h]
  · intro i h1 h2
    simp [Array.getD, h1]

/-- At the loop's end: nothing lies in the heap any more. -/
theorem spill_end {w0 wr w' : World} {X Y : Int} {W H n b off cap : Nat} {v : Nat → Nat} {sl hb sb scap g gcap lo : Nat} {c s : Nat → Nat} {R : Nat → Bool} (G : GndOk (gndOf W H v sl)) (M : Mem w0 wr X Y W H n b off cap sl hb sb scap g gcap 0 c s R) (hF : ∃ D rk t, Fil (gndOf W H v sl) s R c 0 D D rk t) (hlo : w0.heap.size ≤ lo)
    (g1 : ∀ k, k < lo → w'.heap[k]? = wr.heap[k]?) (g2 : ∀ (k : Nat) (o : Obj), wr.heap[k]? = some o → o ≠ .deferred (some []) → w'.heap[k]? = some o) (g3 : w'.heap.size = wr.heap.size) (g4 : w'.os = wr.os) (g5 : w'.tape = wr.tape) (g6 : w'.output = wr.output) :
    SpillPost W H n v sl w0 (.returned (.slice (some ⟨sb, 0, none⟩) n scap)) w' := by
  obtain ⟨D, rk, t, F⟩ := hF
  have B := M.stat.bel
  have sl0 := (M.sown.lt sb rfl)
  refine ⟨s, sb, scap, rfl, by omega, by rw [g3]; exact sl0.2, M.heads.nc, flAt_congr M.heads.sp ?_, fil_end G (gnd_joined W H sl v) F, ⟨g4.trans B.os, g5.trans B.tape, g6.trans B.output, by rw [g3]; exact B.size, fun k hk => (g1 k (by omega)).trans (B.block k hk)⟩⟩
  obtain ⟨_, _ | ⟨g2', cap2, cur, hv, hg2, hh2, _⟩⟩ := M.sown
  · rename_i q; cases q.1
  · cases hv
    rw [g2 _ _ hh2 (by simp), hh2]

/-- What the law of a range over a function asks of a round. -/
theorem In.owes {w0 : World} {ds : List Deferred} {X Y : Int} {W H n b off cap : Nat} {v : Nat → Nat} {sl hb sb scap N q8 qq x0 r B : Nat} {pre : List (Nb W H x0)} {W1 W4 : World} {c s : Nat → Nat} {R : Nat → Bool} {m g gcap : Nat}
    (h : In w0 ds X Y W H n b off cap v sl hb sb scap N q8 qq x0 pre W1 c s R m g gcap) (T : Turn hb sb g W1 W4) (hr : q8 < r) (hrq : r < qq) (h8 : hb + 1 + 1 + 1 < q8) (hd : 1 < w0.heap.size) : KeepsFrom B W1 W4 ∧ KpN r qq W1 W4 := by
  have far := h.far
  have sz := h.sz
  have lo := h.mem.stat.lo
  have sbl := h.mem.sbl
  have gl := h.mem.gl
  have sl0 := (h.mem.sown.lt sb rfl).1
  have zb := h.mem.stat.bel.size
  refine ⟨⟨T.size, fun k o _ hk ho => (T.block k (Array.getElem?_eq_some_iff.1 hk).1 (fun e => ?_) (fun e => ?_) (fun e => ?_) (fun e => ?_)).trans hk⟩, fun j hj => T.block j ?_ ?_ ?_ ?_ ?_⟩
  · rw [e, h.mem.heads.obj] at hk; cases hk; cases ho
  · obtain ⟨_, _ | ⟨g2, cap2, cur, hv, hg2, hh2, _⟩⟩ := h.mem.heads.own
    · rename_i q; cases q.1
    · cases hv; rw [e, hh2] at hk; cases hk; cases ho
  · obtain ⟨_, _ | ⟨g2, cap2, cur, hv, hg2, hh2, _⟩⟩ := h.mem.sown
    · rename_i q; cases q.1
    · cases hv; rw [e, hh2] at hk; cases hk; cases ho
  · obtain ⟨cs, hc, _⟩ := h.mem.bools
    rw [e, hc] at hk; cases hk; cases ho
  all_goals (rcases hj with rfl | rfl | rfl <;> omega)
end Go.Proofs.YtacbemilicdklaaDoor
