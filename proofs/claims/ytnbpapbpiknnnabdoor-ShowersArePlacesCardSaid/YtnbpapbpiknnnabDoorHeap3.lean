/- Contracts: up, Init, Pop and Push of container/heap over the heap of cells. -/
import Derived.Test.YtnbpapbpiknnnabDoorHeap2
namespace Go.Proofs.YtnbpapbpiknnnabDoor
open Go.RowKit Fl
set_option linter.unusedVariables false

/-- Cells that are there, with spills that have a value. -/
def OkC (n m : Nat) (c s : Nat → Nat) : Prop := ∀ i, i < m → c i < n ∧ vS (s (c i)) = some (vI (s (c i)))
theorem OkC.same {n m : Nat} {c c' s : Nat → Nat} (h : OkC n m c s) (hs : SameSet m c c') : OkC n m c' s := hs.all (P := fun x => x < n ∧ vS (s x) = some (vI (s x))) h

def UpPost (hb sb n scap g cap m : Nat) (c s : Nat → Nat) (w : World) (e : Ending) (w' : World) : Prop :=
  e = .returned (.tuple #[]) ∧ ∃ c', HeadsAt w' hb sb n scap g cap m c' s ∧ SameSet m c c' ∧ Heap m (fun x => vI (s x)) c' ∧ Kept hb g w w'

set_option maxRecDepth 100000 in
set_option maxHeartbeats 2000000 in
theorem up_any (w : World) (hb sb n scap g cap m : Nat) (c s : Nat → Nat) (h : HeadsAt w hb sb n scap g cap m c s) (hok : OkC n m c s) (j0 : Nat) (h0 : j0 < m) (hd : HeapUp m (fun x => vI (s x)) c j0) :
    Calls Tryd.prog 149 #[.iface 133 (.pointer (some ⟨hb, 0, none⟩)), .int .i64 j0] w (UpPost hb sb n scap g cap m c s w) := by
  have m2 := h.m2
  have ml := m_less
  have ms := m_swap
  have OK := Lib.hid hok
  have H := Lib.hid h
  have HD := Lib.hid hd
  clear hok h hd
  go_enter Tryd.func149, Tryd.ntmps149
  go_wp2
  go_loopw [1, 4] (fun s1 s4 wr => ∃ (j : Nat) (c' : Nat → Nat), j < m ∧ s1 = .int .i64 j ∧ HeadsAt wr hb sb n scap g cap m c' s ∧ SameSet m c c' ∧ HeapUp m (fun x => vI (s x)) c' j ∧ Kept hb g w wr)
    (fun s1 _ _ => (intOf s1).toNat)
  case atStart => exact ⟨j0, c, h0, rfl, H.out, .rfl', HD.out, Kept.refl _ _ _⟩
  case round =>
    obtain ⟨j, c', hj1, rfl, hH, hS, hD, hK⟩ := hrel
    have HH := Lib.hid hH
    have HS := Lib.hid hS
    have HU := Lib.hid hD
    have HK := Lib.hid hK
    have OK' := Lib.hid (OK.out.same hS)
    clear hH hS hD hK
    rcases Nat.eq_zero_or_pos j with rfl | hj
    · rw [show ((0 : Nat) : Int) = 0 from rfl]
      go_wp2
      go_end0
      exact ⟨rfl, c', HH.out, HS.out, up_done HU.out (.inl rfl), HK.out⟩
    · have L3 := Lib.hid (fun W (hW : HeadsAt W hb sb n scap g cap m c' s) => less_anyI W hb sb n scap g cap m c' s hW j ((j - 1) / 2) (by omega) (by omega) (OK'.out _ (by omega)).1 (OK'.out _ (by omega)).1 j (((j : Int) - 1) / 2) rfl (by omega))
      have SW := Lib.hid (fun W (hW : HeadsAt W hb sb n scap g cap m c' s) => swap_anyI W hb sb n scap g cap m c' s hW ((j - 1) / 2) j (by omega) (by omega) (((j : Int) - 1) / 2) j (by omega) rfl)
      have hne : ((((j : Int) - 1) / 2) == (j : Int)) = false := by simp; omega
      have hne' : ¬ ((((j : Int) - 1) / 2) = (j : Int)) := by omega
      have V3 := Lib.hid (ltB_val (OK'.out j (by omega)).2 (OK'.out ((j - 1) / 2) (by omega)).2)
      cases e3 : ltB (s (c' j)) (s (c' ((j - 1) / 2))) with
      | false =>
        rw [e3] at L3 V3
        clear e3
        go_wp2_with (first | (go_at_call 184; (with_reducible refine Calls.mono (L3.out _ ?_) ?_); (first | exact HH.out | exact HH.out.drewN _); rintro e w' ⟨rfl, q2, rfl⟩))
        go_end0
        exact ⟨rfl, c', (by first | exact HH.out.drewN _ | exact HH.out), HS.out, up_done HU.out (.inr (by have := V3.out; simp at this; simp; omega)), HK.out.trans (Kept.drewN _ _ _ _) (.inl rfl)⟩
      | true =>
        rw [e3] at L3 V3
        clear e3
        have HN := Lib.hid (up_swap HU.out hj (by have := V3.out; simp at this; exact this))
        go_wp2_with (first | (go_at_call 184; (with_reducible refine Calls.mono (L3.out _ ?_) ?_); (first | exact HH.out | exact HH.out.drewN _); rintro e w' ⟨rfl, q2, rfl⟩) | (go_at_call 187; (with_reducible refine Calls.mono (SW.out _ ?_) ?_); (first | exact HH.out | exact HH.out.drewN _); rintro e w3 ⟨rfl, hs3⟩; have S3 := Lib.hid hs3; clear hs3))
        go_roundw
        case rel => exact ⟨(j - 1) / 2, swp c' ((j - 1) / 2) j, by omega, num_eq (by omega), S3.out.1, HS.out.trans (same_swp (by omega) (by omega)), HN.out, (HK.out.trans (Kept.drewN _ _ _ _) (.inl rfl)).trans S3.out.2 (.inl rfl)⟩
        case measure => simp [intOf]; omega

theorem down_anyI (w : World) (hb sb n scap g cap m : Nat) (c s : Nat → Nat) (h : HeadsAt w hb sb n scap g cap m c s) (hok : OkC n m c s) (i0 n0 : Nat) (h0 : n0 ≤ m) (h1 : i0 ≤ n0)
    (hd : HeapDown i0 n0 (fun x => vI (s x)) c i0) (x y : Int) (hx : (i0 : Int) = x) (hy : (n0 : Int) = y) :
    Calls Tryd.prog 146 #[.iface 133 (.pointer (some ⟨hb, 0, none⟩)), .int .i64 x, .int .i64 y] w (DownPost hb sb n scap g cap m n0 i0 c s w) := by
  subst hx; subst hy; exact down_any w hb sb n scap g cap m c s h hok i0 n0 h0 h1 hd

set_option maxRecDepth 100000 in
set_option maxHeartbeats 2000000 in
theorem hinit_any (w : World) (hb sb n scap g cap m : Nat) (c s : Nat → Nat) (h : HeadsAt w hb sb n scap g cap m c s) (hok : OkC n m c s) :
    Calls Tryd.prog 119 #[.iface 133 (.pointer (some ⟨hb, 0, none⟩))] w (UpPost hb sb n scap g cap m c s w) := by
  have m2 := h.m2
  have ml := m_len
  have LN := Lib.hid (len_any w hb sb n scap g cap m c s h)
  have OK := Lib.hid hok
  have H := Lib.hid h
  clear hok h
  go_enter Tryd.func119, Tryd.ntmps119
  go_wp2_with (go_at_call 120; refine LN.out.mono ?_; rintro e w' ⟨rfl, rfl⟩)
  go_loopw [3] (fun s3 wr => ∃ (q : Nat) (c' : Nat → Nat), q ≤ m ∧ s3 = .int .i64 ((q : Int) - 1) ∧ HeadsAt wr hb sb n scap g cap m c' s ∧ SameSet m c c' ∧ HeapFrom q m (fun x => vI (s x)) c' ∧ Kept hb g w wr)
    (fun s3 _ => (intOf s3 + 1).toNat)
  case atStart => exact ⟨m / 2, c, by omega, num_eq (by omega), H.out, .rfl', heap_all, Kept.refl _ _ _⟩
  case round =>
    obtain ⟨q, c', hq1, rfl, hH, hS, hD, hK⟩ := hrel
    have HH := Lib.hid hH
    have HS := Lib.hid hS
    have HU := Lib.hid hD
    have HK := Lib.hid hK
    have OK' := Lib.hid (OK.out.same hS)
    clear hH hS hD hK
    rcases Nat.eq_zero_or_pos q with rfl | hq
    · rw [show (((0 : Nat) : Int) - 1) = -1 from rfl]
      go_wp2
      go_end0
      exact ⟨rfl, c', HH.out, HS.out, heap_from HU.out, HK.out⟩
    · have DN := Lib.hid (down_anyI wr hb sb n scap g cap m c' s HH.out OK'.out (q - 1) m (Nat.le_refl _) (by omega) (down_start (by rw [show q - 1 + 1 = q by omega]; exact HU.out)) ((q : Int) - 1) m (by omega) rfl)
      go_wp2_with (go_at_call 146; refine DN.out.mono ?_; rintro e w3 ⟨⟨b, rfl⟩, c3, h3⟩; have H3 := Lib.hid h3; clear h3)
      go_roundw
      case rel => exact ⟨q - 1, c3, by omega, num_eq (by omega), H3.out.1, HS.out.trans H3.out.2.1, H3.out.2.2.2.1, HK.out.trans H3.out.2.2.2.2 (.inl rfl)⟩
      case measure => simp [intOf]; omega

def PopPost (hb sb n scap g cap m : Nat) (c s : Nat → Nat) (w : World) (e : Ending) (w' : World) : Prop :=
  e = .returned (anyI (c 0)) ∧ ∃ c', HeadsAt w' hb sb n scap g cap m c' s ∧ SameSet m (swp c 0 m) c' ∧ Heap m (fun x => vI (s x)) c' ∧ Kept hb g w w'

set_option maxRecDepth 100000 in
set_option maxHeartbeats 2000000 in
theorem pop_any (w : World) (hb sb n scap g cap m : Nat) (c s : Nat → Nat) (h : HeadsAt w hb sb n scap g cap (m + 1) c s) (hok : OkC n (m + 1) c s) (hh : Heap (m + 1) (fun x => vI (s x)) c) :
    Calls Tryd.prog 121 #[.iface 133 (.pointer (some ⟨hb, 0, none⟩))] w (PopPost hb sb n scap g cap m c s w) := by
  have m2 := h.m2
  have ml := m_len
  have mp := m_pop
  have ms := m_swap
  have LN := Lib.hid (len_any w hb sb n scap g cap (m + 1) c s h)
  have SW := Lib.hid (swap_anyI w hb sb n scap g cap (m + 1) c s h 0 m (by omega) (by omega) 0 m rfl rfl)
  have DN := Lib.hid (fun W hW => down_anyI W hb sb n scap g cap (m + 1) (swp c 0 m) s hW (hok.same (same_swp (by omega) (by omega))) 0 m (by omega) (by omega) (down_start (pop_start hh)) 0 m rfl rfl)
  clear hok h hh
  go_enter Tryd.func121, Tryd.ntmps121
  go_wp2_with (first | (go_at_call 120; refine LN.out.mono ?_; rintro e w' ⟨rfl, rfl⟩) | (go_at_call 187; refine SW.out.mono ?_; rintro e w1 ⟨rfl, hs1⟩; have S1 := Lib.hid hs1; clear hs1) | (go_at_call 146; refine (DN.out _ S1.out.1).mono ?_; rintro e w2 ⟨⟨b, rfl⟩, c2, h2⟩; have H2 := Lib.hid h2; clear h2) | (go_at_call 185; refine (hpop_any _ hb sb n scap g cap m c2 s H2.out.1).mono ?_; rintro e w3 ⟨rfl, h3⟩; have H3 := Lib.hid h3; clear h3))
  go_ret
  exact ⟨by rw [H2.out.2.2.1 m (Nat.le_refl _), swp_j]; rfl, c2, H3.out.1, H2.out.2.1, heap_from H2.out.2.2.2.1, (S1.out.2.trans H2.out.2.2.2.2 (.inl rfl)).trans H3.out.2 (.inl rfl)⟩

def PushPost (hb sb n scap g m : Nat) (c s : Nat → Nat) (k : Nat) (w : World) (e : Ending) (w' : World) : Prop :=
  e = .returned (.tuple #[]) ∧ ∃ g' cap' c', HeadsAt w' hb sb n scap g' cap' (m + 1) c' s ∧ SameSet (m + 1) (updW c m k) c' ∧ Heap (m + 1) (fun x => vI (s x)) c' ∧ Kept hb g w w' ∧ (g' = g ∨ w.heap.size ≤ g')

set_option maxRecDepth 100000 in
set_option maxHeartbeats 2000000 in
theorem push_any (w : World) (hb sb n scap g cap m : Nat) (c s : Nat → Nat) (h : HeadsAt w hb sb n scap g cap m c s) (hok : OkC n m c s) (hh : Heap m (fun x => vI (s x)) c) (k : Nat) (hm : m < 131072) (hk : k < n) (hv : vS (s k) = some (vI (s k))) :
    Calls Tryd.prog 123 #[.iface 133 (.pointer (some ⟨hb, 0, none⟩)), anyI k] w (PushPost hb sb n scap g m c s k w) := by
  have ml := m_len
  have mp := m_push
  have PU := Lib.hid (hpush_any w hb sb n scap g cap m c s h k hm)
  have OK := Lib.hid (show OkC n (m + 1) (updW c m k) s from fun i hi => by
    by_cases e : i = m
    · subst e; rw [updW_same]; exact ⟨hk, hv⟩
    · rw [updW_other c e]; exact hok i (by omega))
  have HU := Lib.hid (show HeapUp (m + 1) (fun x => vI (s x)) (updW c m k) m from up_start hh (fun i hi => updW_other c (by omega)))
  clear hok h hh hv
  go_enter Tryd.func123, Tryd.ntmps123
  go_wp2_with (first | (go_at_call 186; refine PU.out.mono ?_; rintro e w1 ⟨rfl, g', cap', hs1⟩; have S1 := Lib.hid hs1; clear hs1) | (go_at_call 120; refine (len_any _ hb sb n scap g' cap' (m + 1) _ s S1.out.1).mono ?_; rintro e w' ⟨rfl, rfl⟩) | (go_at_call 149; refine (up_any _ hb sb n scap g' cap' (m + 1) _ s S1.out.1 OK.out m (by omega) HU.out).mono ?_; rintro e w2 ⟨rfl, c2, h2⟩; have H2 := Lib.hid h2; clear h2))
  go_end0
  exact ⟨rfl, g', cap', c2, H2.out.1, H2.out.2.1, H2.out.2.2.1, S1.out.2.1.trans H2.out.2.2.2 S1.out.2.2, S1.out.2.2⟩
end Go.Proofs.YtnbpapbpiknnnabDoor
