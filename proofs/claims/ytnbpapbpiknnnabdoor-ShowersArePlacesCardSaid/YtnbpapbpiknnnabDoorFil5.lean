/- The rounds over the neighbours of the lowest cell: what is known between two of them. -/
import Derived.Test.YtnbpapbpiknnnabDoorFil4
namespace Go.Proofs.YtnbpapbpiknnnabDoor
open Go.RowKit Fl Go.Shelf
set_option linter.unusedVariables false

theorem Doing.of {g : Gnd} {s : Nat → Nat} {R : Nat → Bool} {c : Nat → Nat} {m : Nat} {D : Nat → Prop} {rk : Nat → Nat} {t x : Nat} {P P' : Nat → Prop} (F : Doing g s R c m D rk t x P) (h : ∀ e, P' e → P e) : Doing g s R c m D rk t x P' := ⟨F.f, F.x1, F.x2, fun e he => F.upto e (h e he)⟩
def didB {W H x0 : Nat} (pre : List (Nb W H x0)) (e : Nat) : Prop := ∃ z ∈ pre, z.1.1 = e
theorem did_snoc {W H x0 : Nat} {pre : List (Nb W H x0)} {x : Nb W H x0} {e : Nat} (h : didB (pre ++ [x]) e) : didB pre e ∨ e = x.1.1 := by
  obtain ⟨z, hz, rfl⟩ := h
  rcases List.mem_append.1 hz with h | h
  · exact .inl ⟨z, h, rfl⟩
  · right; rw [List.mem_singleton.1 h]
theorem did_all {W H x0 : Nat} {xs : List (Nb W H x0)} (h : xs.map (fun z => z.1) = nbrs W H x0 8) {e m : Nat} (he : e < 8) (hm : nbI W H x0 e = some m) : didB xs e := by
  have := nbrs_mem he hm
  rw [← h] at this
  obtain ⟨z, hz, q⟩ := List.mem_map.1 this
  exact ⟨z, hz, by rw [q]⟩

theorem Marks.kept' {lo : Nat} {w w' : World} {ds : List Deferred} (h : Marks lo w ds) (hk : ∀ e ∈ ds, ∀ D, e.target = .collected D → w.heap[D]? = some (.deferred (some [])) → w'.heap[D]? = some (.deferred (some []))) : Marks lo w' ds := by
  induction ds with
  | nil => trivial
  | cons d ds ih =>
    obtain ⟨⟨D, h1, h2, h3, h4⟩, h5⟩ := h
    exact ⟨⟨D, h1, h2, hk d (List.mem_cons_self ..) D (by rw [h1]) h3, h4⟩, ih h5 fun e he => hk e (List.mem_cons_of_mem _ he)⟩

/-- Between two rounds. -/
structure In (w0 : World) (ds : List Deferred) (X Y : Int) (W H n b cap : Nat) (v : Nat → Nat) (sl hb sb scap N q8 qq x0 : Nat) (pre : List (Nb W H x0)) (W1 : World) (c s : Nat → Nat) (R : Nat → Bool) (m g gcap : Nat) : Prop where
  mem : Mem w0 W1 X Y W H n b cap sl hb sb scap g gcap m c s R
  did : ∃ D rk t, Doing (gndOf W H v sl) s R c m D rk t x0 (didB pre)
  lt : 2 * unr n R + m < N
  le : unr n R + m ≤ 131072
  box : W1.heap[q8]? = some (.cells #[.int .i64 (x0 : Int)] 3)
  far : g < q8 ∨ qq < g
  marks : Marks (hb + 1 + 1 + 1 + 1) W1 ds
  sz : qq < W1.heap.size
def InAt (w0 : World) (ds : List Deferred) (X Y : Int) (W H n b cap : Nat) (v : Nat → Nat) (sl hb sb scap N q8 qq x0 : Nat) (pre : List (Nb W H x0)) (W1 : World) : Prop := ∃ c s R m g gcap, In w0 ds X Y W H n b cap v sl hb sb scap N q8 qq x0 pre W1 c s R m g gcap

theorem in_own {w0 : World} {ds : List Deferred} {X Y : Int} {W H n b cap : Nat} {v : Nat → Nat} {sl hb sb scap N q8 qq x0 B : Nat} (hB : w0.heap.size ≤ B) (hds : ∀ e ∈ ds, ∀ D, e.target = .collected D → D < B) : OwnFrom B (InAt w0 ds X Y W H n b cap v sl hb sb scap N q8 qq x0) := by
  rintro pre A A' row ⟨c, s, R, m, g, gcap, h⟩ hg hr
  have kc : ∀ (k : Nat) (cs : Array Value) (t : TypeId) (f : Nat × Nat), A.heap[k]? = some (.cells cs t f) → A'.heap[k]? = some (.cells cs t f) := fun k cs t f hk => by
    refine (hg.block k (Array.getElem?_eq_some_iff.1 hk).1 fun e => ?_).trans hk
    obtain ⟨_, o, ho, hc⟩ := hr k e.symm
    rw [hk] at ho; cases ho; cases hc
  have bel : Below w0.heap.size w0 A' := ⟨hg.os.trans h.mem.stat.bel.os, hg.tape.trans h.mem.stat.bel.tape, hg.output.trans h.mem.stat.bel.output, Nat.le_trans h.mem.stat.bel.size hg.size, fun j hj =>
    (hg.block j (Nat.lt_of_lt_of_le hj h.mem.stat.bel.size) fun e => by have := (hr j e.symm).1; omega).trans (h.mem.stat.bel.block j hj)⟩
  refine ⟨c, s, R, m, g, gcap, h.mem.other bel kc, h.did, h.lt, h.le, kc _ _ _ _ h.box, h.far, h.marks.kept' (fun e he D hD hd => ?_), Nat.lt_of_lt_of_le h.sz hg.size⟩
  exact (hg.block D (Array.getElem?_eq_some_iff.1 hd).1 fun e' => by have := (hr D e'.symm).1; have := hds e he D hD; omega).trans hd

/-- A neighbour that has been reached already. -/
theorem In.skip {w0 : World} {ds : List Deferred} {X Y : Int} {W H n b cap : Nat} {v : Nat → Nat} {sl hb sb scap N q8 qq x0 : Nat} {pre : List (Nb W H x0)} {W1 : World} {c s : Nat → Nat} {R : Nat → Bool} {m g gcap : Nat} (G : GndOk (gndOf W H v sl))
    (h : In w0 ds X Y W H n b cap v sl hb sb scap N q8 qq x0 pre W1 c s R m g gcap) (x : Nb W H x0) (hr : R x.1.2 = true) : InAt w0 ds X Y W H n b cap v sl hb sb scap N q8 qq x0 (pre ++ [x]) W1 := by
  obtain ⟨D, rk, t, F⟩ := h.did
  exact ⟨c, s, R, m, g, gcap, h.mem, ⟨D, rk, t, (doing_old G F x.2.2 hr).of fun e he => did_snoc he⟩, h.lt, h.le, h.box, h.far, h.marks, h.sz⟩

/-- A neighbour that is reached now: the heap ahead of the push. -/
theorem In.ready {w0 : World} {ds : List Deferred} {X Y : Int} {W H n b cap : Nat} {v : Nat → Nat} {sl hb sb scap N q8 qq x0 : Nat} {pre : List (Nb W H x0)} {W1 : World} {c s : Nat → Nat} {R : Nat → Bool} {m g gcap : Nat} (G : GndOk (gndOf W H v sl)) (hn : n = W * H)
    (h : In w0 ds X Y W H n b cap v sl hb sb scap N q8 qq x0 pre W1 c s R m g gcap) (x : Nb W H x0) (hr : R x.1.2 = false) :
    x.1.2 < n ∧ x0 < n ∧ m < 131072 ∧ OkC n m c (updW s x.1.2 (stepW sl (s x0) (v x.1.2))) ∧ Heap m (fun y => vI (updW s x.1.2 (stepW sl (s x0) (v x.1.2)) y)) c ∧ vS (updW s x.1.2 (stepW sl (s x0) (v x.1.2)) x.1.2) = some (vI (updW s x.1.2 (stepW sl (s x0) (v x.1.2)) x.1.2)) ∧
      (∃ r, floatBits .add .f32 (s x0) sl = some r ∧ stepW sl (s x0) (v x.1.2) = grtW (v x.1.2) r) := by
  obtain ⟨D, rk, t, F⟩ := h.did
  have hgn : (gndOf W H v sl).n = n := hn.symm
  have k1 : x.1.2 < (gndOf W H v sl).n := G.lt _ _ _ x.2.2
  have xr : R x0 = true := F.f.reach x0 F.x1 (.inr rfl)
  have hx : rk x0 ≤ 1048576 := by have := rk_le G F.f F.x1 xr; omega
  obtain ⟨r, e1, e2, _, _, okN, _⟩ := step_parts (F.f.fin x0 F.x1 xr).1 G.slo (G.hgt _ k1) hx
  have ne : ∀ i, i < m → c i ≠ x.1.2 := fun i hi e => by have := (F.f.cells i hi).2; rw [e, hr] at this; cases this
  have un : 1 ≤ unr n R := by have := unr_upd (n := n) (by rw [← hgn]; exact k1) hr; omega
  refine ⟨by rw [← hgn]; exact k1, by rw [← hgn]; exact F.x1, by have := h.le; omega, fun i hi => ?_, fun i i0 hi => ?_, by rw [updW_same]; exact okN.val, r, e1, ?_⟩
  · rw [updW_other s (ne i hi)]
    obtain ⟨a, b⟩ := F.f.okc i hi
    exact ⟨by rw [← hgn]; exact a, b⟩
  · have q := F.f.heap i i0 hi
    show vI (updW s _ _ (c ((i - 1) / 2))) ≤ vI (updW s _ _ (c i))
    rw [updW_other s (ne i hi), updW_other s (ne _ (by omega))]
    exact q
  · exact congrArg (grtW _) e2

/-- A neighbour that is reached now, behind the push. -/
theorem In.new {w0 : World} {ds : List Deferred} {X Y : Int} {W H n b cap : Nat} {v : Nat → Nat} {sl hb sb scap N q8 qq x0 : Nat} {pre : List (Nb W H x0)} {W1 W3 W4 : World} {c s : Nat → Nat} {R : Nat → Bool} {m g gcap g' gcap' : Nat} {c' : Nat → Nat} (G : GndOk (gndOf W H v sl)) (hn : n = W * H)
    (h : In w0 ds X Y W H n b cap v sl hb sb scap N q8 qq x0 pre W1 c s R m g gcap) (x : Nb W H x0) (hr : R x.1.2 = false)
    (M3 : Mem w0 W3 X Y W H n b cap sl hb sb scap g gcap m c (updW s x.1.2 (stepW sl (s x0) (v x.1.2))) (updB R x.1.2)) (T3 : Turn hb sb g W1 W3) (hq : qq < W1.heap.size) (hq8 : hb + 1 + 1 < q8) (hqq : q8 ≤ qq)
    (hh : HeadsAt W4 hb sb n scap g' gcap' (m + 1) c' (updW s x.1.2 (stepW sl (s x0) (v x.1.2)))) (hs : SameSet (m + 1) (updW c m x.1.2) c') (hp : Heap (m + 1) (fun y => vI (updW s x.1.2 (stepW sl (s x0) (v x.1.2)) y)) c') (K : Kept hb g W3 W4) (hg : g' = g ∨ W3.heap.size ≤ g') :
    InAt w0 ds X Y W H n b cap v sl hb sb scap N q8 qq x0 (pre ++ [x]) W4 ∧ Turn hb sb g W1 W4 := by
  obtain ⟨D, rk, t, F⟩ := h.did
  have k1 : x.1.2 < (gndOf W H v sl).n := G.lt _ _ _ x.2.2
  have hgn : (gndOf W H v sl).n = n := hn.symm
  have T4 := T3.heap K
  have un := unr_upd (n := n) (R := R) (by rw [← hgn]; exact k1) hr
  have sbl := h.mem.sbl
  have z3 := T3.size
  have l1 := h.lt
  have l2 := h.le
  have l3 := h.far
  have zc : ∀ k, W1.heap[k]? = some (.deferred (some [])) → k ≠ hb ∧ k ≠ g ∧ k ≠ sb ∧ k ≠ hb + 1 + 1 := fun k hk => by
    refine ⟨fun e => ?_, fun e => ?_, fun e => ?_, fun e => ?_⟩
    · rw [e, h.mem.heads.obj] at hk; cases hk
    · obtain ⟨_, _ | ⟨g2, cap2, cur, hv, hg2, hh2, _⟩⟩ := h.mem.heads.own
      · rename_i q; cases q.1
      · cases hv; rw [e, hh2] at hk; cases hk
    · obtain ⟨_, _ | ⟨g2, cap2, cur, hv, hg2, hh2, _⟩⟩ := h.mem.sown
      · rename_i q; cases q.1
      · cases hv; rw [e, hh2] at hk; cases hk
    · obtain ⟨cs, hc, _⟩ := h.mem.bools
      rw [e, hc] at hk; cases hk
  refine ⟨⟨c', _, _, m + 1, g', gcap', M3.heapStep K hh hg, ⟨D, _, _, (doing_new G F x.2.1 x.2.2 hr hs hp).of fun e he => did_snoc he⟩, by omega, by omega, ?_, by omega, h.marks.kept' (fun e he DD hD hd => ?_), Nat.lt_of_lt_of_le hq T4.size⟩, T4⟩
  · exact (T4.block q8 (by omega) (by omega) (by omega) (by omega) (by omega)).trans h.box
  · obtain ⟨a1, a2, a3, a4⟩ := zc DD hd
    exact (T4.block DD (Array.getElem?_eq_some_iff.1 hd).1 a1 a2 a3 a4).trans hd

/-- At the head of the second loop. -/
structure L2 (w0 : World) (X Y : Int) (W H n b cap : Nat) (v : Nat → Nat) (sl hb sb scap N : Nat) (W1 : World) (c s : Nat → Nat) (R : Nat → Bool) (m g gcap : Nat) : Prop where
  mem : Mem w0 W1 X Y W H n b cap sl hb sb scap g gcap m c s R
  fil : ∃ D rk t, Fil (gndOf W H v sl) s R c m D D rk t
  num : 2 * unr n R + m = N
  le : unr n R + m ≤ 131072
def L2At (w0 : World) (X Y : Int) (W H n b cap : Nat) (v : Nat → Nat) (sl hb sb scap N : Nat) (W1 : World) : Prop := ∃ c s R m g gcap, L2 w0 X Y W H n b cap v sl hb sb scap N W1 c s R m g gcap

theorem L1.heads {w0 wr : World} {X Y : Int} {W H n b cap sl hb sb scap : Nat} {v : Nat → Nat} {g gcap m : Nat} {c : Nat → Nat} (h : L1 w0 wr X Y W H n b cap sl hb sb scap v n (.slice (some ⟨g, 0, none⟩) m gcap) m c) (h1 : 1 ≤ n) (h2 : n ≤ 65536) (hsb : sb < hb) :
    Mem w0 wr X Y W H n b cap sl hb sb scap g gcap m c v (fun i => decide (i < n) && bdB W H i) := by
  have gl := (h.own.lt g rfl).1
  refine ⟨h.stat, ⟨h.obj, ownsRow_lower h.own (Nat.zero_le _), ownsRow_flAt' h.sown h1, by omega, by omega, by omega, ?_, h1, h2, by have := h.mle; omega⟩, h.sown, h.bools, by omega, hsb⟩
  rcases h.sown.2 with ⟨h', _⟩ | ⟨g2, cap2, cur, hv, _, _, a, _⟩
  · cases h'
  · cases hv; exact a

theorem l2_start {w0 wr w5 : World} {X Y : Int} {W H n b cap : Nat} {v : Nat → Nat} {sl hb sb scap g gcap m : Nat} {c c5 : Nat → Nat} (G : GndOk (gndOf W H v sl)) (hn : n = W * H) (M : Mem w0 wr X Y W H n b cap sl hb sb scap g gcap m c v (fun i => decide (i < n) && bdB W H i)) (K : Kept hb g wr w5)
    (hh : HeadsAt w5 hb sb n scap g gcap m c5 v) (hs : SameSet m c c5) (hp : Heap m (fun x => vI (v x)) c5) (c1 : ∀ i, i < m → c i < n ∧ bdB W H (c i) = true) (c2 : ∀ x, x < n → bdB W H x = true → ∃ i, i < m ∧ c i = x) (hm : m ≤ n) (hn2 : n ≤ 65536) :
    ∃ N, L2At w0 X Y W H n b cap v sl hb sb scap N w5 := by
  have hgn : (gndOf W H v sl).n = n := hn.symm
  refine ⟨_, c5, v, _, m, g, gcap, M.heapStep K hh (.inl rfl), ⟨_, _, _, fil_start G (fun i hi => ?_) (fun i hi => ?_) (fun x hx hb' => (hs x).1 (c2 x (by rw [← hgn]; exact hx) hb')) hp⟩, rfl, ?_⟩
  · rw [hgn] at hi
    show (decide (i < n) && bdB W H i) = bdB W H i
    simp [hi]
  · have q := hs.all (P := fun x => x < n ∧ bdB W H x = true) c1 i hi
    exact ⟨by rw [hgn]; exact q.1, q.2⟩
  · have := unr_le n (fun i => decide (i < n) && bdB W H i); omega

/-- The lowest cell has been taken; its number is in a box. -/
theorem in_start {w0 W2 : World} {ds : List Deferred} {X Y : Int} {W H n b cap : Nat} {v : Nat → Nat} {sl hb sb scap N q8 qq g gcap m : Nat} {c s c' : Nat → Nat} {R : Nat → Bool} (M : Mem w0 W2 X Y W H n b cap sl hb sb scap g gcap m c' s R)
    (hF : ∃ D rk t, Fil (gndOf W H v sl) s R c (m + 1) D D rk t) (hs : SameSet m (swp c 0 m) c') (hh : Heap m (fun x => vI (s x)) c') (hN : 2 * unr n R + (m + 1) = N) (hle : unr n R + (m + 1) ≤ 131072)
    (box : W2.heap[q8]? = some (.cells #[.int .i64 ((c 0 : Nat) : Int)] 3)) (far : g < q8) (mk : Marks (hb + 1 + 1 + 1 + 1) W2 ds) (sz : qq < W2.heap.size) : InAt w0 ds X Y W H n b cap v sl hb sb scap N q8 qq (c 0) [] W2 := by
  obtain ⟨D, rk, t, F⟩ := hF
  exact ⟨c', s, R, m, g, gcap, M, ⟨D, rk, t, (fil_pop F hs hh).of fun e he => by obtain ⟨z, hz, _⟩ := he; cases hz⟩, by omega, by omega, box, .inl far, mk, sz⟩
theorem in_end {w0 W2 : World} {ds : List Deferred} {X Y : Int} {W H n b cap : Nat} {v : Nat → Nat} {sl hb sb scap N q8 qq x0 : Nat} {xs : List (Nb W H x0)} (h : InAt w0 ds X Y W H n b cap v sl hb sb scap N q8 qq x0 xs W2) (hx : xs.map (fun z => z.1) = nbrs W H x0 8) :
    ∃ N', N' < N ∧ L2At w0 X Y W H n b cap v sl hb sb scap N' W2 := by
  obtain ⟨c, s, R, m, g, gcap, h⟩ := h
  obtain ⟨D, rk, t, F⟩ := h.did
  exact ⟨_, h.lt, c, s, R, m, g, gcap, h.mem, ⟨_, _, _, doing_done F fun e he k hk => did_all hx he hk⟩, rfl, h.le⟩

set_option maxRecDepth 100000 in
/-- A frame of 98 slots, written out. -/
theorem slots98 (t : Array Value) (h : t.size = 98) : ∃ u : Nat → Value, t = #[u 0, u 1, u 2, u 3, u 4, u 5, u 6, u 7, u 8, u 9, u 10, u 11, u 12, u 13, u 14, u 15, u 16, u 17, u 18, u 19, u 20, u 21, u 22, u 23, u 24, u 25, u 26, u 27, u 28, u 29, u 30, u 31, u 32, u 33, u 34, u 35, u 36, u 37, u 38, u 39, u 40, u 41, u 42, u 43, u 44, u 45, u 46, u 47, u 48, u 49, u 50, u 51, u 52, u 53, u 54, u 55, u 56, u 57, u 58, u 59, u 60, u 61, u 62, u 63, u 64, u 65, u 66, u 67, u 68, u 69, u 70, u 71, u 72, u 73, u 74, u 75, u 76, u 77, u 78, u 79, u 80, u 81, u 82, u 83, u 84, u 85, u 86, u 87, u 88, u 89, u 90, u 91, u 92, u 93, u 94, u 95, u 96, u 97] := by
  refine ⟨fun i => t.getD i undef, ?_⟩
  have e : ∀ u : Nat → Value, (#[u 0, u 1, u 2, u 3, u 4, u 5, u 6, u 7, u 8, u 9, u 10, u 11, u 12, u 13, u 14, u 15, u 16, u 17, u 18, u 19, u 20, u 21, u 22, u 23, u 24, u 25, u 26, u 27, u 28, u 29, u 30, u 31, u 32, u 33, u 34, u 35, u 36, u 37, u 38, u 39, u 40, u 41, u 42, u 43, u 44, u 45, u 46, u 47, u 48, u 49, u 50, u 51, u 52, u 53, u 54, u 55, u 56, u 57, u 58, u 59, u 60, u 61, u 62, u 63, u 64, u 65, u 66, u 67, u 68, u 69, u 70, u 71, u 72, u 73, u 74, u 75, u 76, u 77, u 78, u 79, u 80, u 81, u 82, u 83, u 84, u 85, u 86, u 87, u 88, u 89, u 90, u 91, u 92, u 93, u 94, u 95, u 96, u 97] : Array Value) = ((List.range 98).map u).toArray := fun u => rfl
  refine Eq.trans ?_ (e fun i => t.getD i undef).symm
  apply Array.ext
  · simp [h]
  · intro i h1 h2
    simp [Array.getD, h1]

/-- At the loop's end: nothing lies in the heap any more. -/
theorem spill_end {w0 wr w' : World} {X Y : Int} {W H n b cap : Nat} {v : Nat → Nat} {sl hb sb scap g gcap lo : Nat} {c s : Nat → Nat} {R : Nat → Bool} (G : GndOk (gndOf W H v sl)) (M : Mem w0 wr X Y W H n b cap sl hb sb scap g gcap 0 c s R) (hF : ∃ D rk t, Fil (gndOf W H v sl) s R c 0 D D rk t) (hlo : w0.heap.size ≤ lo)
    (g1 : ∀ k, k < lo → w'.heap[k]? = wr.heap[k]?) (g2 : ∀ (k : Nat) (o : Obj), wr.heap[k]? = some o → o ≠ .deferred (some []) → w'.heap[k]? = some o) (g3 : w'.heap.size = wr.heap.size) (g4 : w'.os = wr.os) (g5 : w'.tape = wr.tape) (g6 : w'.output = wr.output) :
    SpillPost W H n v sl w0 (.returned (.slice (some ⟨sb, 0, none⟩) n scap)) w' := by
  obtain ⟨D, rk, t, F⟩ := hF
  have B := M.stat.bel
  have sl0 := (M.sown.lt sb rfl)
  refine ⟨s, sb, scap, rfl, by omega, by rw [g3]; exact sl0.2, M.heads.nc, flAt_congr M.heads.sp ?_, fil_end G (gnd_joined W H sl v) F, ⟨g4.trans B.os, g5.trans B.tape, g6.trans B.output, by rw [g3]; exact B.size, fun k hk => (g1 k (by omega)).trans (B.block k hk)⟩⟩
  obtain ⟨_, _ | ⟨g2', cap2, cur, hv, hg2, hh2, _⟩⟩ := M.sown
  · rename_i q; cases q.1
  · cases hv
    rw [g2 _ _ hh2 (by simp), hh2]

/-- What the law of a range over a function asks of a round. -/
theorem In.owes {w0 : World} {ds : List Deferred} {X Y : Int} {W H n b cap : Nat} {v : Nat → Nat} {sl hb sb scap N q8 qq x0 r B : Nat} {pre : List (Nb W H x0)} {W1 W4 : World} {c s : Nat → Nat} {R : Nat → Bool} {m g gcap : Nat}
    (h : In w0 ds X Y W H n b cap v sl hb sb scap N q8 qq x0 pre W1 c s R m g gcap) (T : Turn hb sb g W1 W4) (hr : q8 < r) (hrq : r < qq) (h8 : hb + 1 + 1 + 1 < q8) (hd : 1 < w0.heap.size) : KeepsFrom B W1 W4 ∧ KpN r qq W1 W4 := by
  have far := h.far
  have sz := h.sz
  have lo := h.mem.stat.lo
  have sbl := h.mem.sbl
  have gl := h.mem.gl
  have sl0 := (h.mem.sown.lt sb rfl).1
  have zb := h.mem.stat.bel.size
  refine ⟨⟨T.size, fun k o _ hk ho => (T.block k (Array.getElem?_eq_some_iff.1 hk).1 (fun e => ?_) (fun e => ?_) (fun e => ?_) (fun e => ?_)).trans hk⟩, fun j hj => T.block j ?_ ?_ ?_ ?_ ?_⟩
  · rw [e, h.mem.heads.obj] at hk; cases hk; cases ho
  · obtain ⟨_, _ | ⟨g2, cap2, cur, hv, hg2, hh2, _⟩⟩ := h.mem.heads.own
    · rename_i q; cases q.1
    · cases hv; rw [e, hh2] at hk; cases hk; cases ho
  · obtain ⟨_, _ | ⟨g2, cap2, cur, hv, hg2, hh2, _⟩⟩ := h.mem.sown
    · rename_i q; cases q.1
    · cases hv; rw [e, hh2] at hk; cases hk; cases ho
  · obtain ⟨cs, hc, _⟩ := h.mem.bools
    rw [e, hc] at hk; cases hk; cases ho
  all_goals (rcases hj with rfl | rfl | rfl <;> omega)
end Go.Proofs.YtnbpapbpiknnnabDoor
