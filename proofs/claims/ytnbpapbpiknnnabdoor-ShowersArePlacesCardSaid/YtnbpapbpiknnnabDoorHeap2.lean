/- Contracts: Push of the heap of cells; up, down, Init, Push and Pop of container/heap over it. -/
import Derived.Test.YtnbpapbpiknnnabDoorHeap
namespace Go.Proofs.YtnbpapbpiknnnabDoor
open Go.RowKit Fl
set_option linter.unusedVariables false

theorem assert_int (X : TypeId) (k : Int) (w : World) : (Instr.typeAssert (.iface 3 (.int .i64 k)) X 3 false).run Tryd.prog w = .ok (.int .i64 k) w := by kernel_rfl

theorem heads_push {w w3 : World} {hb sb n scap g cap m g' cap' k : Nat} {c s : Nat → Nat} {o : Obj} (h : HeadsAt w hb sb n scap g cap m c s) (hm : m < 131072) (zH : hb < w.heap.size)
    (hown : w3.ownsRow 0 3 1 (.slice (some ⟨g', 0, none⟩) (m + 1) cap') (m + 1) (cellsL c m ++ [.int .i64 (k : Int)])) (hg : (w.alloc o).drew.grownBy w3 (Value.slice (some ⟨g, 0, none⟩) m cap).ownBlock)
    (hat : (Value.slice (some ⟨g, 0, none⟩) m cap).ownBlock = some g' ∨ g' = w.heap.size + 1) (hobj : w3.heap[hb]? = some (headsO g m cap sb n scap)) :
    HeadsAt (w3.setCell ⟨hb, 0, none⟩ (.slice (some ⟨g', 0, none⟩) (m + 1) cap')) hb sb n scap g' cap' (m + 1) (updW c m k) s ∧ Kept hb g w (w3.setCell ⟨hb, 0, none⟩ (.slice (some ⟨g', 0, none⟩) (m + 1) cap')) ∧ (g' = g ∨ w.heap.size ≤ g') := by
  have hg' : g' = g ∨ w.heap.size < g' := by
    rcases hat with e | e
    · left; simpa [Value.ownBlock] using e.symm
    · right; omega
  have gk : ∀ i, i < w.heap.size → i ≠ g → w3.heap[i]? = w.heap[i]? := fun i hi hne => (hg.block i (by show i < (w.alloc o).heap.size; rw [heap_size_alloc]; omega) (by simp [Value.ownBlock]; exact hne)).trans (heap_alloc_old _ _ hi)
  have zs : sb < w.heap.size := World.block_lt_of_cell? w _ (h.sp 0 h.n1)
  have zg := h.cap1.2.2
  have e : ∀ i, i ≠ hb → (w3.setCell ⟨hb, 0, none⟩ (.slice (some ⟨g', 0, none⟩) (m + 1) cap')).heap[i]? = w3.heap[i]? := fun i hi => heap_setCell_other _ _ i _ hi
  have gh := h.gh
  have gs := h.gs
  have hz : w.heap.size ≤ w3.heap.size := Nat.le_trans (by show w.heap.size ≤ (w.alloc o).heap.size; rw [heap_size_alloc]; omega) hg.size
  refine ⟨⟨heap_setCell_same w3 hb 0 _ _ _ hobj, ?_, flAt_congr h.sp ((e sb (Ne.symm h.hs)).trans (gk sb zs (Ne.symm h.gs))), by omega, by omega, h.hs, h.nc, h.n1, h.n2, by omega⟩, ⟨hg.os, hg.tape, hg.output, by simpa using hz, fun i hi h1 h2 => (e i h1).trans (gk i hi h2)⟩, by omega⟩
  rw [← cellsL_succ]
  refine ⟨hown.1, ?_⟩
  rcases hown.2 with ⟨h', _⟩ | ⟨g2, cap2, cur, hv, hb2, hh, r⟩
  · cases h'
  · cases hv
    exact .inr ⟨g', cap', cur, rfl, hb2, (e g' (by omega)).trans hh, r⟩

set_option maxRecDepth 100000 in
set_option maxHeartbeats 2000000 in
theorem hpush_any (w : World) (hb sb n scap g cap m : Nat) (c s : Nat → Nat) (h : HeadsAt w hb sb n scap g cap m c s) (k : Nat) (hm : m < 131072) :
    Calls Tryd.prog 186 #[.pointer (some ⟨hb, 0, none⟩), anyI k] w fun e w' => e = .returned (.tuple #[]) ∧ ∃ g' cap', HeadsAt w' hb sb n scap g' cap' (m + 1) (updW c m k) s ∧ Kept hb g w w' ∧ (g' = g ∨ w.heap.size ≤ g') := by
  have H := Lib.hid h
  obtain ⟨cH, fH, zH⟩ := blkC h.obj
  have c0 : w.cell? ⟨hb, 0, none⟩ = some (.slice (some ⟨g, 0, none⟩) m cap) := cH 0
  have hinfo : (Tryd.prog.info? 3).map (fun i => (i.zero, i.size, i.bytes)) = some (some (.int .i64 0), 1, 8) := by kernel_rfl
  obtain ⟨i0, hi, hz0, hz1, hz2⟩ := info_parts hinfo
  have HM := Lib.hid hm
  have ta := assert_int
  clear h cH hinfo hm
  go_enter Tryd.func186, Tryd.ntmps186
  go_wp2
  go_region_law (refine step_append_lies _ (by rfl) _ _ _ (by rfl) 0 3 i0 _ 1 8 Tryd.underlying40 hi hz0 hz1 hz2 rfl (by omega) (.slice (some ⟨g, 0, none⟩) m cap) m (cellsL c m) (by rfl) (H.out.own.alloc _) ⟨w.heap.size, 0, none⟩ 1 1 [.int .i64 (k : Int)] (by rfl) (by rfl) (World.news_of_block (cs := #[.int .i64 (k : Int)]) (t := 3) (fr := (0, 0)) (heap_alloc_new w _)) (by simp [Value.oneCell']) (by omega) (by have := HM.out; unfold maxLen; omega) (by have := HM.out; omega) (by simp) (w.heap.size + 1) (by simp) ?_; intro g' cap' w3 hown3 hgrow hat hlt3; have out3 := Lib.hid ((hgrow.block hb (by simp; omega) (by simp [Value.ownBlock]; exact Ne.symm H.out.gh)).trans ((heap_alloc_old _ _ zH).trans H.out.obj)); obtain ⟨cV3, fV3, zV3⟩ := blkC out3.out)
  all_goals
    have HO := Lib.hid hown3
    have HG := Lib.hid hgrow
    have HA := Lib.hid hat
    have HL := Lib.hid hlt3
    clear hown3 hgrow hat hlt3 cV3 fV3 zV3
    go_wp2
    go_end0
    exact ⟨rfl, g', cap', heads_push H.out HM.out zH HO.out HG.out HA.out out3.out⟩

theorem m_len (f : Nat) (a : Addr) (w : World) : (method (f + 1) 133 (.pointer (some a)) "Len").run Tryd.prog w = .ok (120, .pointer (some a)) w := by kernel_rfl
theorem m_less (f : Nat) (a : Addr) (w : World) : (method (f + 1) 133 (.pointer (some a)) "Less").run Tryd.prog w = .ok (184, .pointer (some a)) w := by kernel_rfl
theorem m_swap (f : Nat) (a : Addr) (w : World) : (method (f + 1) 133 (.pointer (some a)) "Swap").run Tryd.prog w = .ok (187, .pointer (some a)) w := by kernel_rfl
theorem m_push (f : Nat) (a : Addr) (w : World) : (method (f + 1) 133 (.pointer (some a)) "Push").run Tryd.prog w = .ok (186, .pointer (some a)) w := by kernel_rfl
theorem m_pop (f : Nat) (a : Addr) (w : World) : (method (f + 1) 133 (.pointer (some a)) "Pop").run Tryd.prog w = .ok (185, .pointer (some a)) w := by kernel_rfl

theorem ltB_val {x y : Nat} (hx : vS x = some (vI x)) (hy : vS y = some (vI y)) : ltB x y = decide (vI x < vI y) := by
  unfold ltB; rw [f32f', lss_val hx hy]

theorem num_eq {a b : Int} (h : a = b) : Value.int .i64 a = .int .i64 b := by rw [h]
theorem less_anyI (w : World) (hb sb n scap g cap m : Nat) (c s : Nat → Nat) (h : HeadsAt w hb sb n scap g cap m c s) (i j : Nat) (hi : i < m) (hj : j < m) (ci : c i < n) (cj : c j < n) (x y : Int) (hx : (i : Int) = x) (hy : (j : Int) = y) :
    Calls Tryd.prog 184 #[.pointer (some ⟨hb, 0, none⟩), .int .i64 x, .int .i64 y] w fun e w' => e = .returned (.bool (ltB (s (c i)) (s (c j)))) ∧ ∃ q, w' = w.drewN q := by
  subst hx; subst hy; exact less_any w hb sb n scap g cap m c s h i j hi hj ci cj
theorem swap_anyI (w : World) (hb sb n scap g cap m : Nat) (c s : Nat → Nat) (h : HeadsAt w hb sb n scap g cap m c s) (i j : Nat) (hi : i < m) (hj : j < m) (x y : Int) (hx : (i : Int) = x) (hy : (j : Int) = y) :
    Calls Tryd.prog 187 #[.pointer (some ⟨hb, 0, none⟩), .int .i64 x, .int .i64 y] w fun e w' => e = .returned (.tuple #[]) ∧ HeadsAt w' hb sb n scap g cap m (swp c i j) s ∧ Kept hb g w w' := by
  subst hx; subst hy; exact swap_any w hb sb n scap g cap m c s h i j hi hj

/-- What down answers: the heap's cells at the first n0 places exchanged among themselves, so that they are a heap from L on. -/
def DownPost (hb sb n scap g cap m n0 L : Nat) (c s : Nat → Nat) (w : World) (e : Ending) (w' : World) : Prop :=
  (∃ b, e = .returned (.bool b)) ∧ ∃ c', HeadsAt w' hb sb n scap g cap m c' s ∧ SameSet n0 c c' ∧ (∀ i, n0 ≤ i → c' i = c i) ∧ HeapFrom L n0 (fun x => vI (s x)) c' ∧ Kept hb g w w'

set_option maxRecDepth 100000 in
set_option maxHeartbeats 4000000 in
theorem down_any (w : World) (hb sb n scap g cap m : Nat) (c s : Nat → Nat) (h : HeadsAt w hb sb n scap g cap m c s) (hok : ∀ i, i < m → c i < n ∧ vS (s (c i)) = some (vI (s (c i)))) (i0 n0 : Nat) (h0 : n0 ≤ m) (h1 : i0 ≤ n0)
    (hd : HeapDown i0 n0 (fun x => vI (s x)) c i0) :
    Calls Tryd.prog 146 #[.iface 133 (.pointer (some ⟨hb, 0, none⟩)), .int .i64 i0, .int .i64 n0] w (DownPost hb sb n scap g cap m n0 i0 c s w) := by
  have m2 := h.m2
  have ml := m_less
  have ms := m_swap
  have OK := Lib.hid hok
  have H := Lib.hid h
  have HD := Lib.hid hd
  clear hok h hd
  go_enter Tryd.func146, Tryd.ntmps146
  go_wp2
  go_loopw [7, 8, 9, 10] (fun s7 s8 s9 s10 wr => ∃ (p : Nat) (c' : Nat → Nat), p ≤ n0 ∧ i0 ≤ p ∧ s7 = .int .i64 p ∧ HeadsAt wr hb sb n scap g cap m c' s ∧ SameSet n0 c c' ∧ (∀ i, n0 ≤ i → c' i = c i) ∧ HeapDown i0 n0 (fun x => vI (s x)) c' p ∧ Kept hb g w wr)
    (fun s7 _ _ _ _ => n0 - (intOf s7).toNat)
  case atStart => exact ⟨i0, c, h1, Nat.le_refl _, rfl, H.out, .rfl', fun _ _ => rfl, HD.out, Kept.refl _ _ _⟩
  case round =>
    obtain ⟨p, c', hp1, hp2, rfl, hH, hS, hF, hD, hK⟩ := hrel
    have HH := Lib.hid hH
    have HS := Lib.hid hS
    have HF := Lib.hid hF
    have HDn := Lib.hid hD
    have HK := Lib.hid hK
    have OK' := Lib.hid (show ∀ i, i < m → c' i < n ∧ vS (s (c' i)) = some (vI (s (c' i))) from fun i hi => by
      by_cases e : i < n0
      · exact hS.all (P := fun x => x < n ∧ vS (s x) = some (vI (s x))) (fun i hi => OK.out i (by omega)) i e
      · rw [hF i (by omega)]; exact OK.out i hi)
    clear hH hS hF hD hK
    by_cases hk : 2 * p + 1 < n0
    · by_cases h2 : 2 * p + 2 < n0
      · have L12 := Lib.hid (fun W (hW : HeadsAt W hb sb n scap g cap m c' s) => less_anyI W hb sb n scap g cap m c' s hW (2 * p + 2) (2 * p + 1) (by omega) (by omega) (OK'.out _ (by omega)).1 (OK'.out _ (by omega)).1 (2 * (p : Int) + 1 + 1) (2 * (p : Int) + 1) (by omega) (by omega))
        have V12 := Lib.hid (ltB_val (OK'.out (2 * p + 2) (by omega)).2 (OK'.out (2 * p + 1) (by omega)).2)
        cases e12 : ltB (s (c' (2 * p + 2))) (s (c' (2 * p + 1))) with
        | true =>
          rw [e12] at L12 V12
          have MIN := Lib.hid (kids (n := n0) (p := p) (K := fun x => vI (s x)) (c := c') (j := 2 * p + 2) (.inr rfl) (fun h => by omega) (fun _ => by have := V12.out; simp at this; exact Int.le_of_lt this))
          have L3 := Lib.hid (fun W (hW : HeadsAt W hb sb n scap g cap m c' s) => less_anyI W hb sb n scap g cap m c' s hW (2 * p + 2) p (by omega) (by omega) (OK'.out _ (by omega)).1 (OK'.out _ (by omega)).1 (2 * (p : Int) + 1 + 1) p (by omega) rfl)
          clear e12 V12

          cases e3 : ltB (s (c' (2 * p + 2))) (s (c' p)) with
          | false =>
            rw [e3] at L3
            have HN := Lib.hid (show HeapFrom i0 n0 (fun x => vI (s x)) c' from down_done HDn.out (fun i a b d => Int.le_trans (by rw [ltB_val (OK'.out _ (by omega)).2 (OK'.out _ (by omega)).2] at e3; simpa using e3) (MIN.out i a b d)))
            clear e3
            go_wp2_with (first | (go_at_call 184; (with_reducible refine Calls.mono (L12.out _ ?_) ?_); (first | exact HH.out | exact HH.out.drewN _ | exact (HH.out.drewN _).drewN _); rintro e w' ⟨rfl, q1, rfl⟩) | (go_at_call 184; (with_reducible refine Calls.mono (L3.out _ ?_) ?_); (first | exact HH.out | exact HH.out.drewN _ | exact (HH.out.drewN _).drewN _); rintro e w' ⟨rfl, q2, rfl⟩))
            go_ret
            exact ⟨⟨_, rfl⟩, c', (by first | exact HH.out.drewN _ | exact (HH.out.drewN _).drewN _), HS.out, HF.out, HN.out, by first | exact HK.out.trans (Kept.drewN _ _ _ _) (.inl rfl) | exact (HK.out.trans (Kept.drewN _ _ _ _) (.inl rfl)).trans (Kept.drewN _ _ _ _) (.inl rfl)⟩
          | true =>
            rw [e3] at L3
            have HN := Lib.hid (show HeapDown i0 n0 (fun x => vI (s x)) (swp c' p (2 * p + 2)) (2 * p + 2) from down_swap HDn.out hp2 (by omega) (by omega) (by omega) (by rw [ltB_val (OK'.out _ (by omega)).2 (OK'.out _ (by omega)).2] at e3; simpa using e3) MIN.out)
            have SW := Lib.hid (fun W (hW : HeadsAt W hb sb n scap g cap m c' s) => swap_anyI W hb sb n scap g cap m c' s hW p (2 * p + 2) (by omega) (by omega) p (2 * (p : Int) + 1 + 1) rfl (by omega))
            clear e3
            go_wp2_with (first | (go_at_call 184; (with_reducible refine Calls.mono (L12.out _ ?_) ?_); (first | exact HH.out | exact HH.out.drewN _ | exact (HH.out.drewN _).drewN _); rintro e w' ⟨rfl, q1, rfl⟩) | (go_at_call 184; (with_reducible refine Calls.mono (L3.out _ ?_) ?_); (first | exact HH.out | exact HH.out.drewN _ | exact (HH.out.drewN _).drewN _); rintro e w' ⟨rfl, q2, rfl⟩) | (go_at_call 187; (with_reducible refine Calls.mono (SW.out _ ?_) ?_); (first | exact HH.out | exact HH.out.drewN _ | exact (HH.out.drewN _).drewN _); rintro e w3 ⟨rfl, hs3⟩; have S3 := Lib.hid hs3; clear hs3))
            go_roundw
            case rel => exact ⟨2 * p + 2, swp c' p (2 * p + 2), by omega, by omega, num_eq (by omega), S3.out.1, HS.out.trans (same_swp (by omega) (by omega)), (fun i hi => by rw [swp_o c' (by omega) (by omega)]; exact HF.out i hi), HN.out, by first | exact (HK.out.trans (Kept.drewN _ _ _ _) (.inl rfl)).trans S3.out.2 (.inl rfl) | exact ((HK.out.trans (Kept.drewN _ _ _ _) (.inl rfl)).trans (Kept.drewN _ _ _ _) (.inl rfl)).trans S3.out.2 (.inl rfl)⟩
            case measure => simp [intOf]; omega
        | false =>
          rw [e12] at L12 V12
          have MIN := Lib.hid (kids (n := n0) (p := p) (K := fun x => vI (s x)) (c := c') (j := 2 * p + 1) (.inl rfl) (fun _ _ => by have := V12.out; simp at this; exact this) (fun h => by omega))
          have L3 := Lib.hid (fun W (hW : HeadsAt W hb sb n scap g cap m c' s) => less_anyI W hb sb n scap g cap m c' s hW (2 * p + 1) p (by omega) (by omega) (OK'.out _ (by omega)).1 (OK'.out _ (by omega)).1 (2 * (p : Int) + 1) p (by omega) rfl)
          clear e12 V12

          cases e3 : ltB (s (c' (2 * p + 1))) (s (c' p)) with
          | false =>
            rw [e3] at L3
            have HN := Lib.hid (show HeapFrom i0 n0 (fun x => vI (s x)) c' from down_done HDn.out (fun i a b d => Int.le_trans (by rw [ltB_val (OK'.out _ (by omega)).2 (OK'.out _ (by omega)).2] at e3; simpa using e3) (MIN.out i a b d)))
            clear e3
            go_wp2_with (first | (go_at_call 184; (with_reducible refine Calls.mono (L12.out _ ?_) ?_); (first | exact HH.out | exact HH.out.drewN _ | exact (HH.out.drewN _).drewN _); rintro e w' ⟨rfl, q1, rfl⟩) | (go_at_call 184; (with_reducible refine Calls.mono (L3.out _ ?_) ?_); (first | exact HH.out | exact HH.out.drewN _ | exact (HH.out.drewN _).drewN _); rintro e w' ⟨rfl, q2, rfl⟩))
            go_ret
            exact ⟨⟨_, rfl⟩, c', (by first | exact HH.out.drewN _ | exact (HH.out.drewN _).drewN _), HS.out, HF.out, HN.out, by first | exact HK.out.trans (Kept.drewN _ _ _ _) (.inl rfl) | exact (HK.out.trans (Kept.drewN _ _ _ _) (.inl rfl)).trans (Kept.drewN _ _ _ _) (.inl rfl)⟩
          | true =>
            rw [e3] at L3
            have HN := Lib.hid (show HeapDown i0 n0 (fun x => vI (s x)) (swp c' p (2 * p + 1)) (2 * p + 1) from down_swap HDn.out hp2 (by omega) (by omega) (by omega) (by rw [ltB_val (OK'.out _ (by omega)).2 (OK'.out _ (by omega)).2] at e3; simpa using e3) MIN.out)
            have SW := Lib.hid (fun W (hW : HeadsAt W hb sb n scap g cap m c' s) => swap_anyI W hb sb n scap g cap m c' s hW p (2 * p + 1) (by omega) (by omega) p (2 * (p : Int) + 1) rfl (by omega))
            clear e3
            go_wp2_with (first | (go_at_call 184; (with_reducible refine Calls.mono (L12.out _ ?_) ?_); (first | exact HH.out | exact HH.out.drewN _ | exact (HH.out.drewN _).drewN _); rintro e w' ⟨rfl, q1, rfl⟩) | (go_at_call 184; (with_reducible refine Calls.mono (L3.out _ ?_) ?_); (first | exact HH.out | exact HH.out.drewN _ | exact (HH.out.drewN _).drewN _); rintro e w' ⟨rfl, q2, rfl⟩) | (go_at_call 187; (with_reducible refine Calls.mono (SW.out _ ?_) ?_); (first | exact HH.out | exact HH.out.drewN _ | exact (HH.out.drewN _).drewN _); rintro e w3 ⟨rfl, hs3⟩; have S3 := Lib.hid hs3; clear hs3))
            go_roundw
            case rel => exact ⟨2 * p + 1, swp c' p (2 * p + 1), by omega, by omega, num_eq (by omega), S3.out.1, HS.out.trans (same_swp (by omega) (by omega)), (fun i hi => by rw [swp_o c' (by omega) (by omega)]; exact HF.out i hi), HN.out, by first | exact (HK.out.trans (Kept.drewN _ _ _ _) (.inl rfl)).trans S3.out.2 (.inl rfl) | exact ((HK.out.trans (Kept.drewN _ _ _ _) (.inl rfl)).trans (Kept.drewN _ _ _ _) (.inl rfl)).trans S3.out.2 (.inl rfl)⟩
            case measure => simp [intOf]; omega
      · have h2' : decide ((2 * (p : Int) + 1 + 1) < (n0 : Int)) = false := by simp; omega
        have MIN := Lib.hid (kids (n := n0) (p := p) (K := fun x => vI (s x)) (c := c') (j := 2 * p + 1) (.inl rfl) (fun _ h => by omega) (fun h => by omega))
        have L3 := Lib.hid (fun W (hW : HeadsAt W hb sb n scap g cap m c' s) => less_anyI W hb sb n scap g cap m c' s hW (2 * p + 1) p (by omega) (by omega) (OK'.out _ (by omega)).1 (OK'.out _ (by omega)).1 (2 * (p : Int) + 1) p (by omega) rfl)

        cases e3 : ltB (s (c' (2 * p + 1))) (s (c' p)) with
        | false =>
          rw [e3] at L3
          have HN := Lib.hid (show HeapFrom i0 n0 (fun x => vI (s x)) c' from down_done HDn.out (fun i a b d => Int.le_trans (by rw [ltB_val (OK'.out _ (by omega)).2 (OK'.out _ (by omega)).2] at e3; simpa using e3) (MIN.out i a b d)))
          clear e3
          go_wp2_with (first | (go_at_call 184; (with_reducible refine Calls.mono (L3.out _ ?_) ?_); (first | exact HH.out | exact HH.out.drewN _ | exact (HH.out.drewN _).drewN _); rintro e w' ⟨rfl, q2, rfl⟩))
          go_ret
          exact ⟨⟨_, rfl⟩, c', (by first | exact HH.out.drewN _ | exact (HH.out.drewN _).drewN _), HS.out, HF.out, HN.out, by first | exact HK.out.trans (Kept.drewN _ _ _ _) (.inl rfl) | exact (HK.out.trans (Kept.drewN _ _ _ _) (.inl rfl)).trans (Kept.drewN _ _ _ _) (.inl rfl)⟩
        | true =>
          rw [e3] at L3
          have HN := Lib.hid (show HeapDown i0 n0 (fun x => vI (s x)) (swp c' p (2 * p + 1)) (2 * p + 1) from down_swap HDn.out hp2 (by omega) (by omega) (by omega) (by rw [ltB_val (OK'.out _ (by omega)).2 (OK'.out _ (by omega)).2] at e3; simpa using e3) MIN.out)
          have SW := Lib.hid (fun W (hW : HeadsAt W hb sb n scap g cap m c' s) => swap_anyI W hb sb n scap g cap m c' s hW p (2 * p + 1) (by omega) (by omega) p (2 * (p : Int) + 1) rfl (by omega))
          clear e3
          go_wp2_with (first | (go_at_call 184; (with_reducible refine Calls.mono (L3.out _ ?_) ?_); (first | exact HH.out | exact HH.out.drewN _ | exact (HH.out.drewN _).drewN _); rintro e w' ⟨rfl, q2, rfl⟩) | (go_at_call 187; (with_reducible refine Calls.mono (SW.out _ ?_) ?_); (first | exact HH.out | exact HH.out.drewN _ | exact (HH.out.drewN _).drewN _); rintro e w3 ⟨rfl, hs3⟩; have S3 := Lib.hid hs3; clear hs3))
          go_roundw
          case rel => exact ⟨2 * p + 1, swp c' p (2 * p + 1), by omega, by omega, num_eq (by omega), S3.out.1, HS.out.trans (same_swp (by omega) (by omega)), (fun i hi => by rw [swp_o c' (by omega) (by omega)]; exact HF.out i hi), HN.out, by first | exact (HK.out.trans (Kept.drewN _ _ _ _) (.inl rfl)).trans S3.out.2 (.inl rfl) | exact ((HK.out.trans (Kept.drewN _ _ _ _) (.inl rfl)).trans (Kept.drewN _ _ _ _) (.inl rfl)).trans S3.out.2 (.inl rfl)⟩
          case measure => simp [intOf]; omega
    · have hk' : decide ((2 * (p : Int) + 1) < (n0 : Int)) = false := by simp; omega
      go_wp2
      go_ret
      exact ⟨⟨_, rfl⟩, c', HH.out, HS.out, HF.out, down_done HDn.out (fun i a b d => by omega), HK.out⟩
end Go.Proofs.YtnbpapbpiknnnabDoor
