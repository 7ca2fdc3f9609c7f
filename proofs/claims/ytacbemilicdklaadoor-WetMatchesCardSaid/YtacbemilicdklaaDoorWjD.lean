/- Lemmas and contracts for the proof that the last text of this claim holds. -/
import Derived.Test.YtacbemilicdklaaDoorWjC
import Derived.Deep.LoopGhost

/- The rounds over the neighbours of the lowest cell: what is known between two of them. -/
namespace Go.Proofs.YtacbemilicdklaaDoor
open Go.RowKit Fl Go.Shelf
set_option linter.unusedVariables false

theorem Doing.of {g : Gnd} {s : Nat → Nat} {R : Nat → Bool} {c : Nat → Nat} {m : Nat} {D : Nat → Prop} {rk : Nat → Nat} {t x : Nat} {P P' : Nat → Prop} (F : Doing g s R c m D rk t x P) (h : ∀ e, P' e → P e) : Doing g s R c m D rk t x P' := ⟨F.f, F.x1, F.x2, fun e he => F.upto e (h e he)⟩
def didB {W H x0 : Nat} (pre : List (Nb W H x0)) (e : Nat) : Prop := ∃ z ∈ pre, z.1.1 = e
theorem did_snoc {W H x0 : Nat} {pre : List (Nb W H x0)} {x : Nb W H x0} {e : Nat} (h : didB (pre ++ [x]) e) : didB pre e ∨ e = x.1.1 := by
  obtain ⟨z, hz, rfl⟩ := h
  rcases List.mem_append.1 hz with h | h
  · exact .inl ⟨z, h, rfl⟩
  · right; rw [List.mem_singleton.1 h]
theorem did_all {W H x0 : Nat} {xs : List (Nb W H x0)} (h : xs.map (fun z => z.1) = nbrs W H x0 8) {e m : Nat} (he : e < 8) (hm : nbI W H x0 e = some m) : didB xs e := by
  have := nbrs_mem he hm
  rw [← h] at this
  obtain ⟨z, hz, q⟩ := List.mem_map.1 this
  exact ⟨z, hz, by rw [q]⟩

theorem Marks.kept' {lo : Nat} {w w' : World} {ds : List Deferred} (h : Marks lo w ds) (hk : ∀ e ∈ ds, ∀ D, e.target = .collected D → w.heap[D]? = some (.deferred (some [])) → w'.heap[D]? = some (.deferred (some []))) : Marks lo w' ds := by
  induction ds with
  | nil => trivial
  | cons d ds ih =>
    obtain ⟨⟨D, h1, h2, h3, h4⟩, h5⟩ := h
    exact ⟨⟨D, h1, h2, hk d (List.mem_cons_self ..) D (by rw [h1]) h3, h4⟩, ih h5 fun e he => hk e (List.mem_cons_of_mem _ he)⟩

/-- Between two rounds. -/
structure In (w0 : World) (ds : List Deferred) (X Y : Int) (W H n b off cap : Nat) (v : Nat → Nat) (sl hb sb scap N q8 qq x0 : Nat) (pre : List (Nb W H x0)) (W1 : World) (c s : Nat → Nat) (R : Nat → Bool) (m g gcap : Nat) : Prop where
  mem : Mem w0 W1 X Y W H n b off cap sl hb sb scap g gcap m c s R
  did : ∃ D rk t, Doing (gndOf W H v sl) s R c m D rk t x0 (didB pre)
  lt : 2 * unr n R + m < N
  le : unr n R + m ≤ 131072
  box : W1.heap[q8]? = some (.cells #[.int .i64 (x0 : Int)] 3)
  far : g < q8 ∨ qq < g
  marks : Marks (hb + 1 + 1 + 1 + 1) W1 ds
  sz : qq < W1.heap.size
def InAt (w0 : World) (ds : List Deferred) (X Y : Int) (W H n b off cap : Nat) (v : Nat → Nat) (sl hb sb scap N q8 qq x0 : Nat) (pre : List (Nb W H x0)) (W1 : World) : Prop := ∃ c s R m g gcap, In w0 ds X Y W H n b off cap v sl hb sb scap N q8 qq x0 pre W1 c s R m g gcap

theorem in_own {w0 : World} {ds : List Deferred} {X Y : Int} {W H n b off cap : Nat} {v : Nat → Nat} {sl hb sb scap N q8 qq x0 B : Nat} (hB : w0.heap.size ≤ B) (hds : ∀ e ∈ ds, ∀ D, e.target = .collected D → D < B) : OwnFrom B (InAt w0 ds X Y W H n b off cap v sl hb sb scap N q8 qq x0) := by
  rintro pre A A' row ⟨c, s, R, m, g, gcap, h⟩ hg hr
  have kc : ∀ (k : Nat) (cs : Array Value) (t : TypeId) (f : Nat × Nat), A.heap[k]? = some (.cells cs t f) → A'.heap[k]? = some (.cells cs t f) := fun k cs t f hk => by
    refine (hg.block k (Array.getElem?_eq_some_iff.1 hk).1 fun e => ?_).trans hk
    obtain ⟨_, o, ho, hc⟩ := hr k e.symm
    rw [hk] at ho; cases ho; cases hc
  have bel : Below w0.heap.size w0 A' := ⟨hg.os.trans h.mem.stat.bel.os, hg.tape.trans h.mem.stat.bel.tape, hg.output.trans h.mem.stat.bel.output, Nat.le_trans h.mem.stat.bel.size hg.size, fun j hj =>
    (hg.block j (Nat.lt_of_lt_of_le hj h.mem.stat.bel.size) fun e => by have := (hr j e.symm).1; omega).trans (h.mem.stat.bel.block j hj)⟩
  refine ⟨c, s, R, m, g, gcap, h.mem.other bel kc, h.did, h.lt, h.le, kc _ _ _ _ h.box, h.far, h.marks.kept' (fun e he D hD hd => ?_), Nat.lt_of_lt_of_le h.sz hg.size⟩
  exact (hg.block D (Array.getElem?_eq_some_iff.1 hd).1 fun e' => by have := (hr D e'.symm).1; have := hds e he D hD; omega).trans hd

/-- A neighbour that has been reached already. -/
theorem In.skip {w0 : World} {ds : List Deferred} {X Y : Int} {W H n b off cap : Nat} {v : Nat → Nat} {sl hb sb scap N q8 qq x0 : Nat} {pre : List (Nb W H x0)} {W1 : World} {c s : Nat → Nat} {R : Nat → Bool} {m g gcap : Nat} (G : GndOk (gndOf W H v sl))
    (h : In w0 ds X Y W H n b off cap v sl hb sb scap N q8 qq x0 pre W1 c s R m g gcap) (x : Nb W H x0) (hr : R x.1.2 = true) : InAt w0 ds X Y W H n b off cap v sl hb sb scap N q8 qq x0 (pre ++ [x]) W1 := by
  obtain ⟨D, rk, t, F⟩ := h.did
  exact ⟨c, s, R, m, g, gcap, h.mem, ⟨D, rk, t, (doing_old G F x.2.2 hr).of fun e he => did_snoc he⟩, h.lt, h.le, h.box, h.far, h.marks, h.sz⟩

/-- A neighbour that is reached now: the heap ahead of the push. -/
theorem In.ready {w0 : World} {ds : List Deferred} {X Y : Int} {W H n b off cap : Nat} {v : Nat → Nat} {sl hb sb scap N q8 qq x0 : Nat} {pre : List (Nb W H x0)} {W1 : World} {c s : Nat → Nat} {R : Nat → Bool} {m g gcap : Nat} (G : GndOk (gndOf W H v sl)) (hn : n = W * H)
    (h : In w0 ds X Y W H n b off cap v sl hb sb scap N q8 qq x0 pre W1 c s R m g gcap) (x : Nb W H x0) (hr : R x.1.2 = false) :
    x.1.2 < n ∧ x0 < n ∧ m < 131072 ∧ OkC n m c (updW s x.1.2 (stepW sl (s x0) (v x.1.2))) ∧ Heap m (fun y => vI (updW s x.1.2 (stepW sl (s x0) (v x.1.2)) y)) c ∧ vS (updW s x.1.2 (stepW sl (s x0) (v x.1.2)) x.1.2) = some (vI (updW s x.1.2 (stepW sl (s x0) (v x.1.2)) x.1.2)) ∧
      (∃ r, floatBits .add .f32 (s x0) sl = some r ∧ stepW sl (s x0) (v x.1.2) = grtW (v x.1.2) r) := by
  obtain ⟨D, rk, t, F⟩ := h.did
  have hgn : (gndOf W H v sl).n = n := hn.symm
  have k1 : x.1.2 < (gndOf W H v sl).n := G.lt _ _ _ x.2.2
  have xr : R x0 = true := F.f.reach x0 F.x1 (.inr rfl)
  have hx : rk x0 ≤ 1048576 := by have := rk_le G F.f F.x1 xr; omega
  obtain ⟨r, e1, e2, _, _, okN, _⟩ := step_parts (F.f.fin x0 F.x1 xr).1 G.slo (G.hgt _ k1) hx
  have ne : ∀ i, i < m → c i ≠ x.1.2 := fun i hi e => by have := (F.f.cells i hi).2; rw [e, hr] at this; cases this
  have un : 1 ≤ unr n R := by have := unr_upd (n := n) (by rw [← hgn]; exact k1) hr; omega
  refine ⟨by rw [← hgn]; exact k1, by rw [← hgn]; exact F.x1, by have := h.le; omega, fun i hi => ?_, fun i i0 hi => ?_, by rw [updW_same]; exact okN.val, r, e1, ?_⟩
  · rw [updW_other s (ne i hi)]
    obtain ⟨a, b⟩ := F.f.okc i hi
    exact ⟨by rw [← hgn]; exact a, b⟩
  · have q := F.f.heap i i0 hi
    show vI (updW s _ _ (c ((i - 1) / 2))) ≤ vI (updW s _ _ (c i))
    rw [updW_other s (ne i hi), updW_other s (ne _ (by omega))]
    exact q
  · exact congrArg (grtW _) e2

/-- A neighbour that is reached now, behind the push. -/
theorem In.new {w0 : World} {ds : List Deferred} {X Y : Int} {W H n b off cap : Nat} {v : Nat → Nat} {sl hb sb scap N q8 qq x0 : Nat} {pre : List (Nb W H x0)} {W1 W3 W4 : World} {c s : Nat → Nat} {R : Nat → Bool} {m g gcap g' gcap' : Nat} {c' : Nat → Nat} (G : GndOk (gndOf W H v sl)) (hn : n = W * H)
    (h : In w0 ds X Y W H n b off cap v sl hb sb scap N q8 qq x0 pre W1 c s R m g gcap) (x : Nb W H x0) (hr : R x.1.2 = false)
    (M3 : Mem w0 W3 X Y W H n b off cap sl hb sb scap g gcap m c (updW s x.1.2 (stepW sl (s x0) (v x.1.2))) (updB R x.1.2)) (T3 : Turn hb sb g W1 W3) (hq : qq < W1.heap.size) (hq8 : hb + 1 + 1 < q8) (hqq : q8 ≤ qq)
    (hh : HeadsAt W4 hb sb n scap g' gcap' (m + 1) c' (updW s x.1.2 (stepW sl (s x0) (v x.1.2)))) (hs : SameSet (m + 1) (updW c m x.1.2) c') (hp : Heap (m + 1) (fun y => vI (updW s x.1.2 (stepW sl (s x0) (v x.1.2)) y)) c') (K : Kept hb g W3 W4) (hg : g' = g ∨ W3.heap.size ≤ g') :
    InAt w0 ds X Y W H n b off cap v sl hb sb scap N q8 qq x0 (pre ++ [x]) W4 ∧ Turn hb sb g W1 W4 := by
  obtain ⟨D, rk, t, F⟩ := h.did
  have k1 : x.1.2 < (gndOf W H v sl).n := G.lt _ _ _ x.2.2
  have hgn : (gndOf W H v sl).n = n := hn.symm
  have T4 := T3.heap K
  have un := unr_upd (n := n) (R := R) (by rw [← hgn]; exact k1) hr
  have sbl := h.mem.sbl
  have z3 := T3.size
  have l1 := h.lt
  have l2 := h.le
  have l3 := h.far
  have zc : ∀ k, W1.heap[k]? = some (.deferred (some [])) → k ≠ hb ∧ k ≠ g ∧ k ≠ sb ∧ k ≠ hb + 1 + 1 := fun k hk => by
    refine ⟨fun e => ?_, fun e => ?_, fun e => ?_, fun e => ?_⟩
    · rw [e, h.mem.heads.obj] at hk; cases hk
    · obtain ⟨_, _ | ⟨g2, cap2, cur, hv, hg2, hh2, _⟩⟩ := h.mem.heads.own
      · rename_i q; cases q.1
      · cases hv; rw [e, hh2] at hk; cases hk
    · obtain ⟨_, _ | ⟨g2, cap2, cur, hv, hg2, hh2, _⟩⟩ := h.mem.sown
      · rename_i q; cases q.1
      · cases hv; rw [e, hh2] at hk; cases hk
    · obtain ⟨cs, hc, _⟩ := h.mem.bools
      rw [e, hc] at hk; cases hk
  refine ⟨⟨c', _, _, m + 1, g', gcap', M3.heapStep K hh hg, ⟨D, _, _, (doing_new G F x.2.1 x.2.2 hr hs hp).of fun e he => did_snoc he⟩, by omega, by omega, ?_, by omega, h.marks.kept' (fun e he DD hD hd => ?_), Nat.lt_of_lt_of_le hq T4.size⟩, T4⟩
  · exact (T4.block q8 (by omega) (by omega) (by omega) (by omega) (by omega)).trans h.box
  · obtain ⟨a1, a2, a3, a4⟩ := zc DD hd
    exact (T4.block DD (Array.getElem?_eq_some_iff.1 hd).1 a1 a2 a3 a4).trans hd

/-- At the head of the second loop. -/
structure L2 (w0 : World) (X Y : Int) (W H n b off cap : Nat) (v : Nat → Nat) (sl hb sb scap N : Nat) (W1 : World) (c s : Nat → Nat) (R : Nat → Bool) (m g gcap : Nat) : Prop where
  mem : Mem w0 W1 X Y W H n b off cap sl hb sb scap g gcap m c s R
  fil : ∃ D rk t, Fil (gndOf W H v sl) s R c m D D rk t
  num : 2 * unr n R + m = N
  le : unr n R + m ≤ 131072
def L2At (w0 : World) (X Y : Int) (W H n b off cap : Nat) (v : Nat → Nat) (sl hb sb scap N : Nat) (W1 : World) : Prop := ∃ c s R m g gcap, L2 w0 X Y W H n b off cap v sl hb sb scap N W1 c s R m g gcap

theorem L1.heads {w0 wr : World} {X Y : Int} {W H n b off cap sl hb sb scap : Nat} {v : Nat → Nat} {g gcap m : Nat} {c : Nat → Nat} (h : L1 w0 wr X Y W H n b off cap sl hb sb scap v n (.slice (some ⟨g, 0, none⟩) m gcap) m c) (h1 : 1 ≤ n) (h2 : n ≤ 65536) (hsb : sb < hb) :
    Mem w0 wr X Y W H n b off cap sl hb sb scap g gcap m c v (fun i => decide (i < n) && bdB W H i) := by
  have gl := (h.own.lt g rfl).1
  refine ⟨h.stat, ⟨h.obj, ownsRow_lower h.own (Nat.zero_le _), ownsRow_flAt' h.sown h1, by omega, by omega, by omega, ?_, h1, h2, by have := h.mle; omega⟩, h.sown, h.bools, by omega, hsb⟩
  rcases h.sown.2 with ⟨h', _⟩ | ⟨g2, cap2, cur, hv, _, _, a, _⟩
  · cases h'
  · cases hv; exact a

theorem l2_start {w0 wr w5 : World} {X Y : Int} {W H n b off cap : Nat} {v : Nat → Nat} {sl hb sb scap g gcap m : Nat} {c c5 : Nat → Nat} (G : GndOk (gndOf W H v sl)) (hn : n = W * H) (M : Mem w0 wr X Y W H n b off cap sl hb sb scap g gcap m c v (fun i => decide (i < n) && bdB W H i)) (K : Kept hb g wr w5)
    (hh : HeadsAt w5 hb sb n scap g gcap m c5 v) (hs : SameSet m c c5) (hp : Heap m (fun x => vI (v x)) c5) (c1 : ∀ i, i < m → c i < n ∧ bdB W H (c i) = true) (c2 : ∀ x, x < n → bdB W H x = true → ∃ i, i < m ∧ c i = x) (hm : m ≤ n) (hn2 : n ≤ 65536) :
    ∃ N, L2At w0 X Y W H n b off cap v sl hb sb scap N w5 := by
  have hgn : (gndOf W H v sl).n = n := hn.symm
  refine ⟨_, c5, v, _, m, g, gcap, M.heapStep K hh (.inl rfl), ⟨_, _, _, fil_start G (fun i hi => ?_) (fun i hi => ?_) (fun x hx hb' => (hs x).1 (c2 x (by rw [← hgn]; exact hx) hb')) hp⟩, rfl, ?_⟩
  · rw [hgn] at hi
    show (decide (i < n) && bdB W H i) = bdB W H i
    simp [hi]
  · have q := hs.all (P := fun x => x < n ∧ bdB W H x = true) c1 i hi
    exact ⟨by rw [hgn]; exact q.1, q.2⟩
  · have := unr_le n (fun i => decide (i < n) && bdB W H i); omega

/-- The lowest cell has been taken; its number is in a box. -/
theorem in_start {w0 W2 : World} {ds : List Deferred} {X Y : Int} {W H n b off cap : Nat} {v : Nat → Nat} {sl hb sb scap N q8 qq g gcap m : Nat} {c s c' : Nat → Nat} {R : Nat → Bool} (M : Mem w0 W2 X Y W H n b off cap sl hb sb scap g gcap m c' s R)
    (hF : ∃ D rk t, Fil (gndOf W H v sl) s R c (m + 1) D D rk t) (hs : SameSet m (swp c 0 m) c') (hh : Heap m (fun x => vI (s x)) c') (hN : 2 * unr n R + (m + 1) = N) (hle : unr n R + (m + 1) ≤ 131072)
    (box : W2.heap[q8]? = some (.cells #[.int .i64 ((c 0 : Nat) : Int)] 3)) (far : g < q8) (mk : Marks (hb + 1 + 1 + 1 + 1) W2 ds) (sz : qq < W2.heap.size) : InAt w0 ds X Y W H n b off cap v sl hb sb scap N q8 qq (c 0) [] W2 := by
  obtain ⟨D, rk, t, F⟩ := hF
  exact ⟨c', s, R, m, g, gcap, M, ⟨D, rk, t, (fil_pop F hs hh).of fun e he => by obtain ⟨z, hz, _⟩ := he; cases hz⟩, by omega, by omega, box, .inl far, mk, sz⟩
theorem in_end {w0 W2 : World} {ds : List Deferred} {X Y : Int} {W H n b off cap : Nat} {v : Nat → Nat} {sl hb sb scap N q8 qq x0 : Nat} {xs : List (Nb W H x0)} (h : InAt w0 ds X Y W H n b off cap v sl hb sb scap N q8 qq x0 xs W2) (hx : xs.map (fun z => z.1) = nbrs W H x0 8) :
    ∃ N', N' < N ∧ L2At w0 X Y W H n b off cap v sl hb sb scap N' W2 := by
  obtain ⟨c, s, R, m, g, gcap, h⟩ := h
  obtain ⟨D, rk, t, F⟩ := h.did
  exact ⟨_, h.lt, c, s, R, m, g, gcap, h.mem, ⟨_, _, _, doing_done F fun e he k hk => did_all hx he hk⟩, rfl, h.le⟩

set_option maxRecDepth 100000 in
/-- A frame of 98 slots, written out. -/
theorem slots98 (t : Array Value) (h : t.size = 98) : ∃ u : Nat → Value, t = #[u 0, u 1, u 2, u 3, u 4, u 5, u 6, u 7, u 8, u 9, u 10, u 11, u 12, u 13, u 14, u 15, u 16, u 17, u 18, u 19, u 20, u 21, u 22, u 23, u 24, u 25, u 26, u 27, u 28, u 29, u 30, u 31, u 32, u 33, u 34, u 35, u 36, u 37, u 38, u 39, u 40, u 41, u 42, u 43, u 44, u 45, u 46, u 47, u 48, u 49, u 50, u 51, u 52, u 53, u 54, u 55, u 56, u 57, u 58, u 59, u 60, u 61, u 62, u 63, u 64, u 65, u 66, u 67, u 68, u 69, u 70, u 71, u 72, u 73, u 74, u 75, u 76, u 77, u 78, u 79, u 80, u 81, u 82, u 83, u 84, u 85, u 86, u 87, u 88, u 89, u 90, u 91, u 92, u 93, u 94, u 95, u 96, u 97] := by
  refine ⟨fun i => t.getD i undef, ?_⟩
  have e : ∀ u : Nat → Value, (#[u 0, u 1, u 2, u 3, u 4, u 5, u 6, u 7, u 8, u 9, u 10, u 11, u 12, u 13, u 14, u 15, u 16, u 17, u 18, u 19, u 20, u 21, u 22, u 23, u 24, u 25, u 26, u 27, u 28, u 29, u 30, u 31, u 32, u 33, u 34, u 35, u 36, u 37, u 38, u 39, u 40, u 41, u 42, u 43, u 44, u 45, u 46, u 47, u 48, u 49, u 50, u 51, u 52, u 53, u 54, u 55, u 56, u 57, u 58, u 59, u 60, u 61, u 62, u 63, u 64, u 65, u 66, u 67, u 68, u 69, u 70, u 71, u 72, u 73, u 74, u 75, u 76, u 77, u 78, u 79, u 80, u 81, u 82, u 83, u 84, u 85, u 86, u 87, u 88, u 89, u 90, u 91, u 92, u 93, u 94, u 95, u 96, u 97] : Array Value) = ((List.range 98).map u).toArray := fun u => rfl
  refine Eq.trans ?_ (e fun i => t.getD i undef).symm
  apply Array.ext
  · simp [h]
  · intro i h1 h2
    simp [Array.getD, h1]

/-- At the loop's end: nothing lies in the heap any more. -/
theorem spill_end {w0 wr w' : World} {X Y : Int} {W H n b off cap : Nat} {v : Nat → Nat} {sl hb sb scap g gcap lo : Nat} {c s : Nat → Nat} {R : Nat → Bool} (G : GndOk (gndOf W H v sl)) (M : Mem w0 wr X Y W H n b off cap sl hb sb scap g gcap 0 c s R) (hF : ∃ D rk t, Fil (gndOf W H v sl) s R c 0 D D rk t) (hlo : w0.heap.size ≤ lo)
    (g1 : ∀ k, k < lo → w'.heap[k]? = wr.heap[k]?) (g2 : ∀ (k : Nat) (o : Obj), wr.heap[k]? = some o → o ≠ .deferred (some []) → w'.heap[k]? = some o) (g3 : w'.heap.size = wr.heap.size) (g4 : w'.os = wr.os) (g5 : w'.tape = wr.tape) (g6 : w'.output = wr.output) :
    SpillPost W H n v sl w0 (.returned (.slice (some ⟨sb, 0, none⟩) n scap)) w' := by
  obtain ⟨D, rk, t, F⟩ := hF
  have B := M.stat.bel
  have sl0 := (M.sown.lt sb rfl)
  refine ⟨s, sb, scap, rfl, by omega, by rw [g3]; exact sl0.2, M.heads.nc, flAt_congr M.heads.sp ?_, fil_end G (gnd_joined W H sl v) F, ⟨g4.trans B.os, g5.trans B.tape, g6.trans B.output, by rw [g3]; exact B.size, fun k hk => (g1 k (by omega)).trans (B.block k hk)⟩⟩
  obtain ⟨_, _ | ⟨g2', cap2, cur, hv, hg2, hh2, _⟩⟩ := M.sown
  · rename_i q; cases q.1
  · cases hv
    rw [g2 _ _ hh2 (by simp), hh2]

/-- What the law of a range over a function asks of a round. -/
theorem In.owes {w0 : World} {ds : List Deferred} {X Y : Int} {W H n b off cap : Nat} {v : Nat → Nat} {sl hb sb scap N q8 qq x0 r B : Nat} {pre : List (Nb W H x0)} {W1 W4 : World} {c s : Nat → Nat} {R : Nat → Bool} {m g gcap : Nat}
    (h : In w0 ds X Y W H n b off cap v sl hb sb scap N q8 qq x0 pre W1 c s R m g gcap) (T : Turn hb sb g W1 W4) (hr : q8 < r) (hrq : r < qq) (h8 : hb + 1 + 1 + 1 < q8) (hd : 1 < w0.heap.size) : KeepsFrom B W1 W4 ∧ KpN r qq W1 W4 := by
  have far := h.far
  have sz := h.sz
  have lo := h.mem.stat.lo
  have sbl := h.mem.sbl
  have gl := h.mem.gl
  have sl0 := (h.mem.sown.lt sb rfl).1
  have zb := h.mem.stat.bel.size
  refine ⟨⟨T.size, fun k o _ hk ho => (T.block k (Array.getElem?_eq_some_iff.1 hk).1 (fun e => ?_) (fun e => ?_) (fun e => ?_) (fun e => ?_)).trans hk⟩, fun j hj => T.block j ?_ ?_ ?_ ?_ ?_⟩
  · rw [e, h.mem.heads.obj] at hk; cases hk; cases ho
  · obtain ⟨_, _ | ⟨g2, cap2, cur, hv, hg2, hh2, _⟩⟩ := h.mem.heads.own
    · rename_i q; cases q.1
    · cases hv; rw [e, hh2] at hk; cases hk; cases ho
  · obtain ⟨_, _ | ⟨g2, cap2, cur, hv, hg2, hh2, _⟩⟩ := h.mem.sown
    · rename_i q; cases q.1
    · cases hv; rw [e, hh2] at hk; cases hk; cases ho
  · obtain ⟨cs, hc, _⟩ := h.mem.bools
    rw [e, hc] at hk; cases hk; cases ho
  all_goals (rcases hj with rfl | rfl | rfl <;> omega)
end Go.Proofs.YtacbemilicdklaaDoor

/- Contract: leastSpills. -/
namespace Go.Proofs.YtacbemilicdklaaDoor
open Go.RowKit Fl Go.Shelf
set_option linter.unusedVariables false
attribute [local go_sem] Oper.semAt_some

set_option maxRecDepth 100000 in
set_option maxHeartbeats 4000000 in
theorem leastSpills_any (X Y : Int) (W H n b off cap : Nat) (v : Nat → Nat) (sl : Nat) (w : World) (h0 : checkR X Y W H = 0) (hn : n = W * H) (hc : FlAt w b off n v) (hh : allB n (fun i => hgtB (v i)) = true) (hs : SlW sl) (hD : DirsAt w) :
    Calls Tryd.prog 68 #[fldV X Y W H (.slice (some ⟨b, off, none⟩) n cap), .float .f32 sl] w (SpillPost W H n v sl w) := by
  obtain ⟨b1, b2, b3, b4, b5, b6, b7, b8, b9⟩ := checkR_zero h0
  have hn2 : n ≤ 65536 := by
    have : ((W : Int) * (H : Int)) = (n : Int) := by rw [hn]; simp
    omega
  have hn1 : 1 ≤ n := by rw [hn]; exact Nat.mul_pos (by omega) (by omega)
  have zb : b < w.heap.size := World.block_lt_of_cell? w _ (hc 0 hn1)
  have G := Lib.hid (gnd_ok (W := W) (H := H) (v := v) (sl := sl) (by omega) (by omega) (fun k hk => allB_iff.1 hh k (by omega)) hs)
  have CL := Lib.hid (fun W' (hb : Below w.heap.size w W') => clone_any b off n cap v W' hn1 hn2 (flAt_congr hc (hb.block _ zb)))
  have IB := Lib.hid (fun k (hk : k < n) w => isBorder_any X Y W H k w (by omega) (by omega) (by omega) (by omega) (by omega))
  have mk := make_bool n hn2
  have HD := Lib.hid hD
  have HC := Lib.hid hc
  have HN := Lib.hid hn
  have HS := Lib.hid hs
  have HH := Lib.hid hh
  clear hD hc hn hs hh h0
  refine (callsIn_wide (n := 4)).1 (callsIn_of_wp_marks Tryd.func68 rfl trivial (wpIn_wide.2 (wp_mono (Q := NoPanic (bodyPostM Fence.wide 4 Tryd.prog Tryd.f68 (SpillPost W H n v sl w))) ?_ noPanic_of)) rfl)
  simp only [Tryd.ntmps68, List.size_toArray, List.length_cons, List.length_nil, Nat.reduceAdd, Nat.reduceSub, Array.replicate_succ, Array.replicate_zero, List.push_toArray, List.append_toArray, List.nil_append, List.cons_append]
  go_wp2_with (first | (go_at_call 96; refine (CL.out _ (by repeat (first | exact Below.refl _ _ | refine Below.alloc ?_ (by first | omega | (simp; done) | (simp; omega)) _ | refine Below.setCell ?_ (by first | omega | (simp; done) | (simp; omega)) _ | refine Below.drew ?_))).mono ?_; rintro e w1 ⟨sb, scap, rfl, hg1, how1, hb1⟩; have HO1 := Lib.hid how1; have GB1 := Lib.hid hg1; have HF1 := Lib.hid (blkStay (b := w.heap.size) (o := fldO X Y W H (.slice (some ⟨b, off, none⟩) n cap)) (by ((simp only [heap_alloc_get, heap_size_alloc, if_true]) <;> ((repeat' split) <;> first | rfl | omega))) hb1); have HL1 := Lib.hid (blkStay (b := w.heap.size + 1) (o := flObj sl) (by ((simp only [heap_alloc_get, heap_size_alloc, if_true]) <;> ((repeat' split) <;> first | rfl | omega))) hb1); have hB1 : Below w.heap.size w w1 := Below.trans (by repeat (first | exact Below.refl _ _ | refine Below.alloc ?_ (by first | omega | (simp; done) | (simp; omega)) _ | refine Below.setCell ?_ (by first | omega | (simp; done) | (simp; omega)) _ | refine Below.drew ?_)) (Below.mono hb1 (by first | omega | (simp; done) | (simp; omega))); obtain ⟨cF, fF, zF⟩ := blkC HF1.out; have zF1 : w.heap.size < w1.heap.size + 1 := (by omega); have zF2 : w.heap.size < w1.heap.size + 1 + 1 := (by omega); have zF3 : w.heap.size < w1.heap.size + 1 + 1 + 1 := (by omega); clear hb1 how1 hg1))
  have S1 := Lib.hid (l1_start (v := v) (b := b) (off := off) (cap := cap) (sl := sl) (X := X) (Y := Y) (W := W) (H := H) rfl (by simp) HF1.out HL1.out hB1 HO1.out)
  have ZSB := Lib.hid (HO1.out.lt sb rfl).2
  generalize w1.heap.size = hb at *
  clear cF fF zF zF1 zF2 zF3 HF1 HL1 hB1 HO1 GB1 mk CL
  have hinfo : (Tryd.prog.info? 3).map (fun i => (i.zero, i.size, i.bytes)) = some (some (.int .i64 0), 1, 8) := by kernel_rfl
  obtain ⟨i0, hi, hz0, hz1, hz2⟩ := info_parts hinfo
  clear hinfo
  go_loopw [23] (fun s23 wr => ∃ k : Nat, k ≤ n ∧ s23 = .int .i64 k ∧ L1At w X Y W H n b off cap sl hb sb scap v k wr) (fun s23 _ => n - (intOf s23).toNat)
  case atStart => exact ⟨0, Nat.zero_le _, rfl, S1.out⟩
  case round =>
    obtain ⟨k, hk, rfl, ov, m, c, h1⟩ := hrel
    have HL := Lib.hid h1
    obtain ⟨cF, fF, zF⟩ := blkC h1.stat.fld
    by_cases hlt : k < n
    · have IK := Lib.hid (IB.out k hlt)
      cases hbk : bdB W H k with
      | false =>
        rw [hbk] at IK
        have SK := Lib.hid (fun w2 hB => h1.skip (w2 := w2) hB hbk)
        clear hbk h1
        go_wp2_with (go_at_call 118; refine (IK.out _).mono ?_; rintro e w2 ⟨rfl, hb2⟩; have HB2 := Lib.hid hb2; clear hb2 cF fF zF)
        go_roundw
        case rel => exact ⟨k + 1, by omega, by go_num, ov, m, c, SK.out w2 HB2.out⟩
        case measure => simp [intOf]; omega
      | true =>
        rw [hbk] at IK
        have HBK := Lib.hid hbk
        clear hbk h1
        have k1 : (k : Int) < (n : Int) := by omega
        go_wp2_with (go_at_call 118; refine (IK.out _).mono ?_; rintro e w2 ⟨rfl, hb2⟩; have HB2 := Lib.hid hb2; clear hb2 cF fF zF; have ST2 := Lib.hid (HL.out.stat.below HB2.out); obtain ⟨cQ, fQ, zQ⟩ := blkC ST2.out.rsl; obtain ⟨b2, g2, z2⟩ := (HL.out.bools.congr (HB2.out.block _ HL.out.bools.lt)).cell hlt)
        obtain ⟨S3, obj3, own3, sown3, bools3⟩ := HL.out.reach HB2.out hlt ZSB.out
        obtain ⟨w3, hw3⟩ : ∃ w3, w2.setCell ⟨hb + 1 + 1, k, none⟩ (.bool true) = w3 := ⟨_, rfl⟩
        rw [hw3] at S3 obj3 own3 sown3 bools3 ⊢
        clear hw3 cQ fQ zQ b2 g2 z2
        obtain ⟨cP, fP, zP⟩ := blkC S3.ptr
        have p0 : w3.cell? ⟨hb + 1, 0, none⟩ = some (.pointer (some ⟨hb, 0, none⟩)) := cP 0
        obtain ⟨cO, fO, zO⟩ := blkC obj3
        have o0 : w3.cell? ⟨hb, 0, none⟩ = some ov := cO 0
        have ST3 := Lib.hid S3
        have OB3 := Lib.hid obj3
        have OW3 := Lib.hid own3
        have SO3 := Lib.hid sown3
        have BO3 := Lib.hid bools3
        have ML := Lib.hid HL.out.mle
        have LO := Lib.hid HL.out.stat.lo
        clear S3 obj3 own3 sown3 bools3 cP cO
        go_region_law (refine step_append_lies _ (by rfl) _ _ _ (by rfl) (hb + 1 + 1 + 1 + 1) 3 i0 _ 1 8 Tryd.underlying40 hi hz0 hz1 hz2 rfl (by omega) ov m (cellsL c m) (by rfl) (OW3.out.alloc _) ⟨w3.heap.size, 0, none⟩ 1 1 [.int .i64 (k : Int)] (by rfl) (by rfl) (World.news_of_block (cs := #[.int .i64 (k : Int)]) (t := 3) (fr := (0, 0)) (heap_alloc_new w3 _)) (by simp [Value.oneCell']) (by omega) (by have := ML.out; unfold maxLen; omega) (by have := ML.out; omega) (by have := (blkC ST3.out.rsl).2.2; simp; omega) (w3.heap.size + 1) (by simp) ?_; intro g' cap' w4 hown4 hgrow hat hlt4; have out4 := Lib.hid ((hgrow.block hb (by simp; omega) (ownsRow_far OW3.out (by omega))).trans ((heap_alloc_old _ _ zO).trans OB3.out)); obtain ⟨cV4, fV4, zV4⟩ := blkC out4.out; have pt4 := Lib.hid ((hgrow.block (hb + 1) (by simp; omega) (ownsRow_far OW3.out (by omega))).trans ((heap_alloc_old _ _ zP).trans ST3.out.ptr)); obtain ⟨cP4, fP4, zP4⟩ := blkC pt4.out)
        all_goals
          have HN1 := Lib.hid (L1.push ZSB.out HBK.out ST3.out OB3.out OW3.out SO3.out BO3.out HL.out.c1 HL.out.c2 HL.out.mle hgrow hown4)
          clear hown4 hgrow hat hlt4 cV4 fV4 zV4 cP4 fP4 zP4 o0 p0 fP fO zP zO
          go_wp2
          go_roundw
          case rel => exact ⟨k + 1, by omega, by go_num, _, _, _, HN1.out⟩
          case measure => simp [intOf]; omega
    · have hkn : k = n := by omega
      subst hkn
      have bd0 : bdB W H 0 = true := bdB_iff.2 (.inl (Nat.zero_mod _))
      obtain ⟨z0, hz0', _⟩ := h1.c2 0 (by omega) bd0
      obtain ⟨g, gcap, rfl, _, _⟩ := h1.own.form (show 0 < m by omega)
      have ME := Lib.hid (h1.heads hn1 hn2 ZSB.out)
      have gr : (gndOf W H v sl).n = k := HN.out.symm
      have C1 := Lib.hid h1.c1
      have C2 := Lib.hid h1.c2
      have OK := Lib.hid (show OkC k m c v from fun i hi => ⟨(h1.c1 i hi).1, (hgt_ok (G.out.hgt (c i) (by rw [gr]; exact (h1.c1 i hi).1))).val⟩)
      have GR := Lib.hid gr
      have ML := Lib.hid h1.mle
      obtain ⟨cP, fP, zP⟩ := blkC h1.stat.ptr
      clear h1 gr bd0 cF fF zF hlt
      go_wp2_with (go_at_call 119; refine (hinit_any _ hb sb k scap g gcap m c v ME.out.heads OK.out).mono ?_; rintro e w5 ⟨rfl, c5, hs5⟩; have S5 := Lib.hid hs5; clear hs5 cP fP zP)
      have L2S := Lib.hid (l2_start G.out HN.out ME.out S5.out.2.2.2 S5.out.1 S5.out.2.1 S5.out.2.2.1 C1.out C2.out ML.out hn2)
      clear ME C1 C2 OK S5 ML
      obtain ⟨N0, l2⟩ := L2S.out
      clear L2S
      refine wp_loop_ghost (fun N a wr => a.tmps.size = 98 ∧ (a.tmps[0]? = some (fldV X Y W H (.slice (some ⟨b, off, none⟩) k cap)) ∧ a.tmps[1]? = some (.float .f32 sl) ∧ a.tmps[2]? = some (.pointer (some ⟨w.heap.size, 0, none⟩)) ∧ a.tmps[3]? = some (.pointer (some ⟨w.heap.size + 1, 0, none⟩)) ∧
        a.tmps[5]? = some (.pointer (some ⟨hb + 1, 0, none⟩)) ∧ a.tmps[6]? = some (.pointer (some ⟨hb + 1 + 1 + 1, 0, none⟩))) ∧ Marks (hb + 1 + 1 + 1 + 1) wr a.defers ∧ L2At w X Y W H k b off cap v sl hb sb scap N wr) N0 ⟨rfl, ⟨rfl, rfl, rfl, rfl, rfl, rfl⟩, trivial, l2⟩ ?_
      rintro N ⟨tm, ds⟩ wr ⟨hsz, ⟨t0, t1, t2, t3, t5, t6⟩, hmk, c', s, R, m', g', gcap', h2⟩
      dsimp only at hsz t0 t1 t2 t3 t5 t6 hmk
      obtain ⟨u, rfl⟩ := slots98 tm hsz
      have q0 : u 0 = _ := Option.some.inj t0
      have q1 : u 1 = _ := Option.some.inj t1
      have q2 : u 2 = _ := Option.some.inj t2
      have q3 : u 3 = _ := Option.some.inj t3
      have q5 : u 5 = _ := Option.some.inj t5
      have q6 : u 6 = _ := Option.some.inj t6
      rw [q0, q1, q2, q3, q5, q6]
      clear q0 q1 q2 q3 q5 q6 t0 t1 t2 t3 t5 t6 hsz
      have HM := Lib.hid h2.mem
      have HF := Lib.hid h2.fil
      have HNUM := Lib.hid h2.num
      have HLE := Lib.hid h2.le
      have MK := Lib.hid hmk
      clear h2 hmk l2
      obtain ⟨cP, fP, zP⟩ := blkC HM.out.stat.ptr
      rcases Nat.eq_zero_or_pos m' with rfl | hm0
      · obtain ⟨cO, fO, zO⟩ := blkC HM.out.heads.obj
        go_wp2_with (go_at_call 120; refine (len_any wr hb sb k scap g' gcap' 0 c' s HM.out.heads).mono ?_; rintro e w' ⟨rfl, rfl⟩)
        exact leaves_marks ds wr MK.out fun w' g1 g2 g3 g4 g5 g6 => by refine ⟨_, results_tmp rfl _ _ _, ?_⟩; exact spill_end G.out HM.out HF.out (by have := HM.out.stat.lo; omega) g1 g2 g3 g4 g5 g6
      · obtain ⟨m, rfl⟩ : ∃ m, m' = m + 1 := ⟨m' - 1, by omega⟩
        obtain ⟨hok, hhp⟩ : OkC k (m + 1) c' s ∧ Heap (m + 1) (fun x => vI (s x)) c' := by
          obtain ⟨D, rk, t, F⟩ := HF.out
          exact ⟨fun i hi => by have q := F.okc i hi; exact ⟨by rw [← GR.out]; exact q.1, q.2⟩, F.heap⟩
        have m1 : (0 : Int) < ((m : Int) + 1) := by omega
        have PO := Lib.hid (pop_any wr hb sb k scap g' gcap' m c' s HM.out.heads hok hhp)
        have X0 := Lib.hid (hok 0 (by omega)).1
        have NE := Lib.hid (fun W' => neighbours_any X Y W H (c' 0) W' (by omega) (by omega) (by omega) (by omega) (by omega) (by omega) (by have := (hok 0 (by omega)).1; omega))
        have ta := assert_int
        clear hok hhp
        go_wp2_with (first | (go_at_call 120; refine (len_any wr hb sb k scap g' gcap' (m + 1) c' s HM.out.heads).mono ?_; rintro e w' ⟨rfl, rfl⟩) | (go_at_call 121; refine PO.out.mono ?_; rintro e w6 ⟨rfl, c6, hs6⟩; have S6 := Lib.hid hs6; have M6 := Lib.hid (HM.out.heapStep hs6.2.2.2 hs6.1 (.inl rfl)); clear hs6 cP fP zP; obtain ⟨cF, fF, zF⟩ := blkC M6.out.stat.fld) | (go_at_call 122; refine (NE.out _).mono ?_; rintro e w8 ⟨q, hq, rfl, hr8, hq8, hql, hb8⟩; have HQ := Lib.hid hq; have HR8 := Lib.hid hr8; have HQ8 := Lib.hid hq8; have HQL := Lib.hid hql; have HB8 := Lib.hid hb8; clear hq hr8 hq8 hql hb8 cF fF zF))
        have B8 := Lib.hid (show Below w6.heap.size w6 w8 from Below.trans (by repeat (first | exact Below.refl _ _ | refine Below.alloc ?_ (by first | omega | (simp; done) | (simp; omega)) _ | refine Below.setCell ?_ (by first | omega | (simp; done) | (simp; omega)) _ | refine Below.drew ?_)) (Below.mono HB8.out (by simp)))
        have M8 := Lib.hid (M6.out.below B8.out)
        have hlo := M8.out.stat.lo
        have zw8 : w.heap.size ≤ w8.heap.size := M8.out.stat.bel.size
        have z68 := B8.out.size
        have hl8 : hb + 1 + 1 + 1 < w6.heap.size := (blkC M6.out.stat.rsl).2.2
        have MK8 := Lib.hid (show Marks (hb + 1 + 1 + 1 + 1) w8 ds from MK.out.kept fun j hj hd => by
          have n1 : j ≠ g' := fun e => by
            obtain ⟨_, _ | ⟨g2, cap2, cur, hv, hg2, hh2, _⟩⟩ := HM.out.heads.own
            · rename_i q; cases q.1
            · cases hv; rw [e, hh2] at hd; cases hd
          exact blkStay ((S6.out.2.2.2.block j (Array.getElem?_eq_some_iff.1 hd).1 (by omega) n1).trans hd) B8.out)
        have DS := Lib.hid (fun e he D hD => MK8.out.lt e he D hD)
        have XB := Lib.hid (show X + ((c' 0 % W : Nat) : Int) ≤ 4194304 ∧ -4194304 ≤ X + ((c' 0 % W : Nat) : Int) from by
          have h : (c' 0) % W < W := Nat.mod_lt _ (by omega)
          generalize c' 0 % W = z at *
          omega)
        have YB := Lib.hid (show Y + ((c' 0 / W : Nat) : Int) ≤ 4194304 ∧ -4194304 ≤ Y + ((c' 0 / W : Nat) : Int) from by
          have h : (c' 0) / W < H := Nat.div_lt_of_lt_mul (by have := X0.out; have := HN.out; omega)
          generalize c' 0 / W = z at *
          omega)
        have D8 := Lib.hid (HD.out.stay M8.out.stat.bel)
        have I0 := Lib.hid (in_start (qq := q) M8.out HF.out S6.out.2.1 S6.out.2.2.1 HNUM.out HLE.out (blkStay (b := w6.heap.size) (o := .cells #[.int .i64 ((c' 0 : Nat) : Int)] 3) (by ((simp only [heap_alloc_get, if_true]) <;> ((repeat' split) <;> first | rfl | omega))) HB8.out) S6.out.1.cap1.2.2 MK8.out HQL.out)
        have r8 := HR8.out
        simp only [World.size_alloc] at r8
        have R8 := Lib.hid r8
        have q9 : w6.heap.size < q := by have := HQ.out; simp at this; omega
        clear r8
        refine (wpIn_wide (n := 4)).1 (wpIn_rangeFunc_ownG rfl (by omega) (gf := 147) (lb := #[.pointer (some ⟨w6.heap.size + 1, 0, none⟩), .pointer (some ⟨q, 0, none⟩)]) rfl trivial enters_nbr1
          (nbr_stops X Y (X + ((c' 0 % W : Nat) : Int)) (Y + ((c' 0 / W : Nat) : Int)) W H (c' 0) (w6.heap.size + 1) q 3 (by omega) (by omega) (by omega) (by omega) (by omega) (by omega) (by omega) (by have := X0.out; have := HN.out; omega) rfl rfl XB.out.2 XB.out.1 YB.out.2 YB.out.1 w8 D8.out R8.out HQ8.out)
          kpN_t (kpN_b (by have := HQL.out; omega) HQL.out D8.out.lt) (Below.refl _ _) (fun _ => rfl)
          (InAt w ds X Y W H k b off cap v sl hb sb scap N w6.heap.size q (c' 0)) (fun _ _ _ => False) (in_own zw8 DS.out) (fun _ _ _ _ _ h _ _ => h) I0.out
          (fun x => { tmps := #[fldV X Y W H (.slice (some ⟨b, off, none⟩) k cap), .float .f32 sl, .pointer (some ⟨w.heap.size, 0, none⟩), .pointer (some ⟨w.heap.size + 1, 0, none⟩), u 4, .pointer (some ⟨hb + 1, 0, none⟩), .pointer (some ⟨hb + 1 + 1 + 1, 0, none⟩), u 7, .pointer (some ⟨w6.heap.size, 0, none⟩), u 9, .int .i64 (x.1.2 : Int), u 11, u 12, u 13, u 14, u 15, u 16, u 17, u 18, u 19, u 20, u 21, u 22, u 23, u 24, u 25, u 26, u 27, u 28, u 29, u 30, u 31, u 32, u 33, u 34, u 35, u 36, u 37, u 38, u 39, u 40, u 41, u 42, u 43, u 44, u 45, u 46,
            .pointer (some ⟨hb, 0, none⟩), .int .i64 ((m : Int) + 1), .bool true, .pointer (some ⟨hb, 0, none⟩), .iface 133 (.pointer (some ⟨hb, 0, none⟩)), anyI (c' 0), .int .i64 ((c' 0 : Nat) : Int), .pointer (some ⟨w.heap.size, 0, none⟩), reg X Y W H, .int .i64 ((c' 0 : Nat) : Int),
            .func (.func 147) #[] #[.pointer (some ⟨w6.heap.size + 1, 0, none⟩), .pointer (some ⟨q, 0, none⟩)], .int .i64 (x.1.1 : Int), .int .i64 (x.1.2 : Int), u 60, u 61, u 62, u 63, u 64, u 65, u 66, u 67, u 68, u 69, u 70, u 71, u 72, u 73, u 74, u 75, u 76, u 77, u 78, u 79, u 80, u 81, u 82, u 83, u 84, u 85, u 86, u 87, u 88, u 89, u 90, u 91, u 92, u 93, u 94, u 95, u 96, u 97], defers := [] }) ?assign ?body ?done ?stop)
        case assign =>
          intro l x W1 K hK
          simp only [encNb, encN]
          gi_wp2
          exact hK
        case body =>
          rintro l pre x W1 ⟨c1, s1, R1, m1', g1, gcap1, hI⟩ hlen
          have HI := Lib.hid hI
          have XL := Lib.hid (show x.1.2 < k from by rw [← GR.out]; exact G.out.lt _ _ _ x.2.2)
          have xl : (x.1.2 : Int) < (k : Int) := by have := XL.out; omega
          obtain ⟨cQ, fQ, zQ⟩ := blkC hI.mem.stat.rsl
          obtain ⟨bl, bf, bz⟩ := hI.mem.bools.cell XL.out
          have OW := Lib.hid (fun W4 T => hI.owes (W4 := W4) (r := w6.heap.size + 1) (B := w8.heap.size) T (by omega) (by have := HQ.out; simp at this; omega) hl8 HD.out.lt)
          clear hI hlen
          cases hr : R1 x.1.2 with
          | true =>
            rw [hr] at bl
            have SK := Lib.hid (HI.out.skip G.out x hr)
            clear hr
            gi_wp2
            exact ⟨(OW.out _ (Turn.refl _ _ _ _)).1, (OW.out _ (Turn.refl _ _ _ _)).2, SK.out⟩
          | false =>
            rw [hr] at bl
            obtain ⟨y1, y2, y3, y4, y5, y6, rr, y7, y8⟩ := HI.out.ready G.out HN.out x hr
            have HR := Lib.hid hr
            clear hr
            gi_wp2
            have M2 := Lib.hid (HI.out.mem.reach XL.out)
            have T2 := Lib.hid ((Turn.refl hb sb g1 W1).set (p := ⟨hb + 1 + 1, x.1.2, none⟩) (.inr rfl) (.bool true))
            have BX := Lib.hid (show (W1.setCell ⟨hb + 1 + 1, x.1.2, none⟩ (.bool true)).heap[w6.heap.size]? = some (.cells #[.int .i64 ((c' 0 : Nat) : Int)] 3) from (heap_setCell_other _ _ _ _ (by show w6.heap.size ≠ hb + 1 + 1; omega)).trans HI.out.box)
            obtain ⟨W2, hW2⟩ : ∃ W2, W1.setCell ⟨hb + 1 + 1, x.1.2, none⟩ (.bool true) = W2 := ⟨_, rfl⟩
            rw [hW2] at M2 T2 BX ⊢
            clear hW2 cQ fQ zQ bl bf bz
            obtain ⟨cP, fP, zP⟩ := blkC M2.out.stat.ptr
            obtain ⟨cO, fO, zO⟩ := blkC M2.out.heads.obj
            obtain ⟨cF, fF, zF⟩ := blkC M2.out.stat.fld
            obtain ⟨cS, fS, zS⟩ := blkC M2.out.stat.slo
            obtain ⟨cB, fB, zB⟩ := blkC BX.out
            have d1 := (flAt_congr HC.out (M2.out.stat.bel.block b zb)) x.1.2 XL.out
            have d2 := M2.out.heads.sp (c' 0) X0.out
            have d3 := M2.out.heads.sp x.1.2 XL.out
            have f3 := M2.out.sown.frozenAt x.1.2
            rw [Nat.zero_add] at d2 d3
            have xc : ((c' 0 : Nat) : Int) < (k : Int) := by have := X0.out; omega
            have a1 := fun (W : World) => run_float_arith (P := Tryd.prog) W .add 27 .f32 (s1 (c' 0)) sl rr y7
            have ST := fun (w : World) (a : Addr) (m : Mode) => run_store_float (P := Tryd.prog) (w := w) (a := a) (m := m)
            refine wpIn_still_tail_round 21 (by kernel_rfl) ?nd ?nl (by kernel_rfl) ?_
            case nd =>
              intro i o h c e
              have hm := Array.mem_of_getElem? h
              simp only [List.mem_toArray, List.mem_cons, List.not_mem_nil, or_false] at hm
              rcases hm with rfl | rfl | rfl | rfl | rfl | rfl | rfl | rfl | rfl | rfl | rfl | rfl | rfl | rfl | rfl | rfl | rfl | rfl | rfl | rfl | rfl | rfl <;> cases e
            case nl => exact fun ⟨_, _, h⟩ => h
            simp only [List.take_succ_cons, List.take_zero, List.drop_succ_cons, List.drop_zero]
            repeat still_step
            still_call ((greater_any _ _ _).mono fun _ _ h => ⟨h.1, h.2.symm⟩)
            repeat still_step
            refine wpStill_nil ?_
            change wpList _ _ _ _ _ W2.drew
            have MD := Lib.hid (M2.out.below (Below.refl _ _).drew)
            have TD := Lib.hid T2.out.drew
            clear cP fP zP cO fO zO cF fF zF cS fS zS cB fB zB d1 d2 d3 f3 a1 T2 M2 BX
            generalize W2.drew = W3 at *
            have d3 := MD.out.heads.sp x.1.2 XL.out
            have f3 := MD.out.sown.frozenAt x.1.2
            rw [Nat.zero_add] at d3
            go_wp2
            have M4 := Lib.hid (MD.out.store (x := grtW (v x.1.2) rr) XL.out)
            have T4 := Lib.hid (TD.out.set (p := ⟨sb, x.1.2, none⟩) (.inl rfl) (.float .f32 (grtW (v x.1.2) rr)))
            obtain ⟨W5, hW5⟩ : ∃ W5, W3.setCell ⟨sb, x.1.2, none⟩ (.float .f32 (grtW (v x.1.2) rr)) = W5 := ⟨_, rfl⟩
            rw [hW5] at M4 T4 ⊢
            rw [← y8] at M4
            clear hW5 d3 f3
            obtain ⟨cP, fP, zP⟩ := blkC M4.out.stat.ptr
            have PU := Lib.hid (push_any W5 hb sb k scap g1 gcap1 m1' c1 _ M4.out.heads y4 y5 x.1.2 y3 XL.out y6)
            gi_wp2_with (refine ⟨trivial, ?_⟩; gi_at_call 123; refine (CallsIn.inRound l (callsIn_wide.2 PU.out)).mono ?_; rintro e W6 ⟨rfl, g', cap', c2, q1, q2, q3, q4, q5⟩; have Q := Lib.hid (And.intro q1 (And.intro q2 (And.intro q3 (And.intro q4 q5)))); clear q1 q2 q3 q4 q5 cP fP zP)
            have A := In.new G.out HN.out HI.out x HR.out M4.out T4.out HI.out.sz (by omega) (by omega) Q.out.1 Q.out.2.1 Q.out.2.2.1 Q.out.2.2.2.1 Q.out.2.2.2.2
            exact ⟨(OW.out _ A.2).1, (OW.out _ A.2).2, A.1⟩
        case done =>
          rintro D xs W1 hD hS hI hK
          obtain ⟨N', hlt, hl2⟩ := in_end hI hS
          obtain ⟨_, _, _, _, _, _, hIn⟩ := hI
          exact ⟨N', hlt, rfl, ⟨rfl, rfl, rfl, rfl, rfl, rfl⟩, ⟨⟨D, rfl, by omega, hK, fun e he hc => by have := DS.out e he D hc; omega⟩, hIn.marks⟩, hl2⟩
        case stop =>
          rintro D c pre W1 _ _ h _
          exact h.elim
end Go.Proofs.YtacbemilicdklaaDoor

/- Contracts: water's byCell, whatever function it is given; Filled over a right field and slope. -/
namespace Go.Proofs.YtacbemilicdklaaDoor
open Go.RowKit Fl Go.Shelf
set_option linter.unusedVariables false

theorem enters_wbyCell1 : Enters 125 := by intro args W; simp [callFunc, Tryd.func125, Tryd.f125]
theorem enters_Filled1 : Enters 70 := by intro args W; simp [callFunc, Tryd.func70, Tryd.f70]
theorem Clos1.stay {g : Nat} {caps : Array Value} {n : Nat} {f : Nat → Nat} {w w' : World} (h : Clos1 g caps n f w) (hb : Below w.heap.size w w') : Clos1 g caps n f w' :=
  fun i W' h1 hb' => h i W' h1 (hb.trans (hb'.mono hb.size))

/-- A function of a cell's number in a box. -/
abbrev fn1Obj (g : Nat) (caps : Array Value) : Obj := .cells #[.func (.func g) #[] caps] 104

set_option maxHeartbeats 4000000 in
set_option maxRecDepth 100000 in
theorem wbyCell1_any (X Y : Int) (W H n : Nat) (f : Nat → Nat) (g : Nat) (caps : Array Value) (p q : Nat) (w : World) (hcall : Enters g) (hcl : Clos1 g caps n f w)
    (hp : w.heap[p]? = some (regObj X Y W H)) (hq : w.heap[q]? = some (fn1Obj g caps)) (hn : n ≤ 65536)
    (hX1 : -16777216 ≤ X) (hX2 : X ≤ 16777216) (hY1 : -16777216 ≤ Y) (hY2 : Y ≤ 16777216) (hW1 : 1 ≤ W) (hW2 : W ≤ 512) (hH2 : H ≤ 512) (hnn : n = H * W) :
    Clos2 125 #[.pointer (some ⟨q, 0, none⟩), .pointer (some ⟨p, 0, none⟩)] X Y W H f w := by
  intro x y i w2 h1 h2 h3 h4 h5 hb
  have hi : i < n := num_lt hW1 h1 h2 h4 h5 hnn
  have CC := Lib.hid (fun W' (hB : Below w2.heap.size w2 W') => hcl i W' hi (hb.trans (hB.mono hb.size)))
  have IX := Lib.hid (fun w => index_any X Y W H i x y w hX1 hX2 hY1 hY2 hW1 hW2 hH2 h1 h2 h3 h4 h5 (by omega))
  have P := blkStay hp hb
  have Q := blkStay hq hb
  have HP := Lib.hid P
  have HQ := Lib.hid Q
  obtain ⟨cP, fP, zP⟩ := blkC P
  obtain ⟨cQ, fQ, zQ⟩ := blkC Q
  unfold Enters at hcall
  clear hp hq P Q hb h1 h2 h3 h4 h5 hX1 hX2 hY1 hY2 hW1 hW2 hH2 hnn hcl hi hn
  go_enter Tryd.func125, Tryd.ntmps125
  go_wp2
  go_region_held3 (fun w' => (∀ o, w'.cell? ⟨p, o, none⟩ = #[.int .i64 X, .int .i64 Y, .int .i64 W, .int .i64 H][o]?) ∧ (∀ o, w'.cell? ⟨q, o, none⟩ = #[.func (.func g) #[] caps][o]?) ∧ Below w2.heap.size w2 w') (first | exact ⟨(blkC (blkStay HP.out hb9)).1, (blkC (blkStay HQ.out hb9)).1, hb9⟩ | exact ⟨(blkC (blkStay HP.out (by repeat (first | exact Below.refl _ _ | refine Below.alloc ?_ (by first | omega | (simp; done) | (simp; omega)) _ | refine Below.setCell ?_ (by first | omega | (simp; done) | (simp; omega)) _ | refine Below.drew ?_)))).1, (blkC (blkStay HQ.out (by repeat (first | exact Below.refl _ _ | refine Below.alloc ?_ (by first | omega | (simp; done) | (simp; omega)) _ | refine Below.setCell ?_ (by first | omega | (simp; done) | (simp; omega)) _ | refine Below.drew ?_)))).1, (by repeat (first | exact Below.refl _ _ | refine Below.alloc ?_ (by first | omega | (simp; done) | (simp; omega)) _ | refine Below.setCell ?_ (by first | omega | (simp; done) | (simp; omega)) _ | refine Below.drew ?_))⟩) (first | (go_at_call 78; (with_reducible refine Calls.mono (IX.out _) ?_); rintro e w' ⟨rfl, rfl⟩) | (go_simp; (with_reducible refine Calls.mono (CC.out _ ?_) ?_); exact (by repeat (first | exact Below.refl _ _ | refine Below.alloc ?_ (by first | omega | (simp; done) | (simp; omega)) _ | refine Below.setCell ?_ (by first | omega | (simp; done) | (simp; omega)) _ | refine Below.drew ?_)); rintro e w' ⟨rfl, hb8⟩; have hb9 : Below w2.heap.size w2 w' := Below.trans (by repeat (first | exact Below.refl _ _ | refine Below.alloc ?_ (by first | omega | (simp; done) | (simp; omega)) _ | refine Below.setCell ?_ (by first | omega | (simp; done) | (simp; omega)) _ | refine Below.drew ?_)) (Below.mono hb8 (by first | exact Nat.le_refl _ | (simp; done) | (simp; omega))); clear hb8))
  rename_i hHeld
  go_wp2
  go_ret
  exact ⟨rfl, hHeld.2.2⟩

set_option maxHeartbeats 2000000 in
theorem wbyCell_any (X Y : Int) (W H n : Nat) (f : Nat → Nat) (g : Nat) (caps : Array Value) (w : World) (hcall : Enters g) (hcl : Clos1 g caps n f w) (h0 : checkR X Y W H = 0) (hnn : n = H * W) :
    Calls Tryd.prog 69 #[reg X Y W H, .func (.func g) #[] caps] w (MadePost w X Y W H n f) := by
  obtain ⟨b1, b2, b3, b4, b5, b6, b7, b8, b9⟩ := checkR_zero h0
  have hn2 : n ≤ 65536 := by
    have : ((W : Int) * (H : Int)) = (n : Int) := by rw [hnn, Nat.mul_comm]; simp
    omega
  have hB : Below w.heap.size w (((w.alloc (regObj X Y W H)).alloc (fn1Obj g caps)).alloc (fldO 0 0 0 0 (.slice none 0 0))) := (by repeat (first | exact Below.refl _ _ | refine Below.alloc ?_ (by first | omega | (simp; done) | (simp; omega)) _ | refine Below.setCell ?_ (by first | omega | (simp; done) | (simp; omega)) _ | refine Below.drew ?_))
  have MK := Lib.hid (make_ok X Y W H n 125 #[.pointer (some ⟨w.heap.size + 1, 0, none⟩), .pointer (some ⟨w.heap.size, 0, none⟩)] f (((w.alloc (regObj X Y W H)).alloc (fn1Obj g caps)).alloc (fldO 0 0 0 0 (.slice none 0 0))) enters_wbyCell1
    (wbyCell1_any X Y W H n f g caps w.heap.size (w.heap.size + 1) _ hcall (hcl.stay hB) (by ((simp only [heap_alloc_get, heap_size_alloc, if_true]) <;> ((repeat' split) <;> first | rfl | omega))) (by ((simp only [heap_alloc_get, heap_size_alloc, if_true]) <;> ((repeat' split) <;> first | rfl | omega))) hn2 (by omega) (by omega) (by omega) (by omega) (by omega) (by omega) (by omega) hnn) h0 hnn)
  clear hcl hcall h0 b1 b2 b3 b4 b5 b6 b7 b8 b9 hnn hn2 hB
  go_enter Tryd.func69, Tryd.ntmps69
  go_wp2_with fail
  refine MK.out.mono ?_
  intro e w4 hmade
  rcases hmade with ⟨hall, b', cap', rfl, hb', hlt', hrow, hbel⟩ | ⟨hall, rfl, hbel⟩
  · have hS := Lib.hid (blkStay (b := w.heap.size + 1 + 1) (o := fldO 0 0 0 0 (.slice none 0 0)) (by ((simp only [heap_alloc_get, heap_size_alloc, if_true]) <;> ((repeat' split) <;> first | rfl | omega))) hbel)
    have hB : Below w.heap.size w w4 := Below.trans (by repeat (first | exact Below.refl _ _ | refine Below.alloc ?_ (by first | omega | (simp; done) | (simp; omega)) _ | refine Below.setCell ?_ (by first | omega | (simp; done) | (simp; omega)) _ | refine Below.drew ?_)) (Below.mono hbel (by simp; omega))
    obtain ⟨cS, fS, zS⟩ := blkC hS.out
    have HB := Lib.hid hb'
    clear hb'
    go_wp2
    refine bodyPost_ret (v := .tuple #[fldV X Y W H (.slice (some ⟨b', 0, none⟩) n cap'), .int .i64 0]) (by simp [results, Tryd.results69, go_sem, cS]) rfl ?_
    have hb' := HB.out
    simp only [heap_size_alloc] at hb'
    exact .inl ⟨hall, b', cap', rfl, by omega, by rw [set5_size]; exact hlt', flAt_congr hrow (set5_heap w4 _ _ _ _ _ _ _ (by omega)), set5_below hB _ _ _ _ _ _ (by omega)⟩
  · have hS := Lib.hid (blkStay (b := w.heap.size + 1 + 1) (o := fldO 0 0 0 0 (.slice none 0 0)) (by ((simp only [heap_alloc_get, heap_size_alloc, if_true]) <;> ((repeat' split) <;> first | rfl | omega))) hbel)
    have hB : Below w.heap.size w w4 := Below.trans (by repeat (first | exact Below.refl _ _ | refine Below.alloc ?_ (by first | omega | (simp; done) | (simp; omega)) _ | refine Below.setCell ?_ (by first | omega | (simp; done) | (simp; omega)) _ | refine Below.drew ?_)) (Below.mono hbel (by simp; omega))
    obtain ⟨cS, fS, zS⟩ := blkC hS.out
    go_wp2
    refine bodyPost_ret (v := .tuple #[fldV 0 0 0 0 (.slice none 0 0), .int .i64 3]) (by simp [results, Tryd.results69, go_sem, cS]) rfl ?_
    exact .inr ⟨hall, rfl, set5_below hB _ _ _ _ _ _ (by omega)⟩

/-- A list of singles in a box. -/
abbrev rowO (b n cap : Nat) : Obj := .cells #[.slice (some ⟨b, 0, none⟩) n cap] 24

set_option maxHeartbeats 2000000 in
theorem filled1_any (n b cap : Nat) (s : Nat → Nat) (p : Nat) (w : World) (hp : w.heap[p]? = some (rowO b n cap)) (hc : FlAt w b 0 n s) (hn : n ≤ 65536) :
    Clos1 70 #[.pointer (some ⟨p, 0, none⟩)] n s w := by
  intro i w2 hi hb
  have hcell : w2.cell? ⟨b, i, none⟩ = some (.float .f32 (s i)) := by
    have := flAt_congr hc (hb.block b (World.block_lt_of_cell? w _ (hc i hi))) i hi
    rwa [Nat.zero_add] at this
  obtain ⟨cP, fP, zP⟩ := blkC (blkStay hp hb)
  have hi2 : (i : Int) < (n : Int) := by omega
  have hi3 : (0 : Int) ≤ (i : Int) := by omega
  clear hp hb hc hi hn
  go_enter Tryd.func70, Tryd.ntmps70
  go_wp2
  go_ret
  exact ⟨rfl, (by repeat (first | exact Below.refl _ _ | refine Below.alloc ?_ (by first | omega | (simp; done) | (simp; omega)) _ | refine Below.setCell ?_ (by first | omega | (simp; done) | (simp; omega)) _ | refine Below.drew ?_))⟩

set_option maxHeartbeats 1000000 in
theorem check_off (X Y : Int) (W H n b off cap : Nat) (v : Nat → Nat) (w : World) (h0 : checkR X Y W H = 0) (hn : n = W * H) (hc : FlAt w b off n v) (hh : allB n (fun i => hgtB (v i)) = true) :
    Calls Tryd.prog 66 #[fldV X Y W H (.slice (some ⟨b, off, none⟩) n cap)] w fun e w' => e = .returned (.int .i64 0) ∧ Below w.heap.size w w' := by
  have HH := Lib.hid (fldE_zero.2 hh)
  obtain ⟨b1, b2, b3, b4, b5, _⟩ := checkR_zero h0
  have en : wrap64 ((W : Int) * (H : Int)) = (n : Int) := by
    have : ((W : Int) * (H : Int)) = (n : Int) := by rw [hn]; simp
    rw [this]; rw [this] at b5; exact IntWalk.wrap64_in _ ⟨by omega, by omega⟩
  have hn2 : n ≤ 65536 := by
    have : ((W : Int) * (H : Int)) = (n : Int) := by rw [hn]; simp
    omega
  have h1 : 1 ≤ n := by
    have := Nat.mul_pos (by omega : 0 < W) (by omega : 0 < H)
    omega
  have hlt : b < w.heap.size := World.block_lt_of_cell? w _ (hc 0 h1)
  have CH := Lib.hid (fun W' (hb : Below w.heap.size w W') => CheckHeights_row b off cap n v (by omega) W' (flAt_congr hc (hb.block _ hlt)))
  rw [HH.out] at CH
  have RC := Lib.hid (fun w => checkRegion_any X Y W H w)
  rw [h0] at RC
  clear hn hc hh h0 b5
  go_enter Tryd.func66, Tryd.ntmps66
  go_wp2_with (first | (go_at_call 115; refine (RC.out _).mono ?_; rintro e w' ⟨rfl, rfl⟩) | (go_at_call 93; refine (CH.out _ (by repeat (first | exact Below.refl _ _ | refine Below.alloc ?_ (by first | omega | (simp; done) | (simp; omega)) _ | refine Below.setCell ?_ (by first | omega | (simp; done) | (simp; omega)) _ | refine Below.drew ?_))).mono ?_; rintro e w' ⟨rfl, rfl⟩))
  go_ret
  exact ⟨rfl, (by repeat (first | exact Below.refl _ _ | refine Below.alloc ?_ (by first | omega | (simp; done) | (simp; omega)) _ | refine Below.setCell ?_ (by first | omega | (simp; done) | (simp; omega)) _ | refine Below.drew ?_))⟩

/-- What Filled answers over a right field and slope. -/
def FilledPost (w : World) (X Y : Int) (W H n : Nat) (v : Nat → Nat) (sl : Nat) (e : Ending) (w' : World) : Prop := ∃ s, Spills (gndOf W H v sl) s ∧ MadePost w X Y W H n s e w'

set_option maxHeartbeats 2000000 in
theorem filled_any (X Y : Int) (W H n b off cap : Nat) (v : Nat → Nat) (sl : Nat) (w : World) (h0 : checkR X Y W H = 0) (hn : n = W * H) (hc : FlAt w b off n v) (hh : allB n (fun i => hgtB (v i)) = true) (hs : SlW sl) (hw : wiE sl 0 1149239296 = 0) (hD : DirsAt w) :
    Calls Tryd.prog 15 #[fldV X Y W H (.slice (some ⟨b, off, none⟩) n cap), .float .f32 sl] w (FilledPost w X Y W H n v sl) := by
  obtain ⟨b1, b2, b3, b4, b5, b6, b7, b8, b9⟩ := checkR_zero h0
  have hn2 : n ≤ 65536 := by
    have : ((W : Int) * (H : Int)) = (n : Int) := by rw [hn]; simp
    omega
  have hnn : n = H * W := by rw [hn]; exact Nat.mul_comm _ _
  have n1 : 1 ≤ n := by rw [hn]; exact Nat.mul_pos (by omega) (by omega)
  have hlt : b < w.heap.size := World.block_lt_of_cell? w _ (hc 0 n1)
  have CK := Lib.hid (fun W' (hB : Below w.heap.size w W') => check_off X Y W H n b off cap v W' h0 hn (flAt_congr hc (hB.block b hlt)) hh)
  have CW := Lib.hid (fun w => checkWithin_any sl 0 1149239296 w)
  rw [hw] at CW
  have LS := Lib.hid (fun W' (hB : Below w.heap.size w W') => leastSpills_any X Y W H n b off cap v sl W' h0 hn (flAt_congr hc (hB.block b hlt)) hh hs (hD.stay hB))
  have BY := Lib.hid (fun W' p sb scap s (kp : W'.heap[p]? = some (rowO sb n scap)) (ks : FlAt W' sb 0 n s) => wbyCell_any X Y W H n s 70 #[.pointer (some ⟨p, 0, none⟩)] W' enters_Filled1 (filled1_any n sb scap s p W' kp ks hn2) h0 hnn)
  clear h0 hn hc hh hs hw hD b1 b2 b3 b4 b5 b6 b7 b8 b9 hn2 hnn n1 hlt
  go_enter Tryd.func15, Tryd.ntmps15
  go_wp2_with (first | (go_at_call 66; refine (CK.out _ (by repeat (first | exact Below.refl _ _ | refine Below.alloc ?_ (by first | omega | (simp; done) | (simp; omega)) _ | refine Below.setCell ?_ (by first | omega | (simp; done) | (simp; omega)) _ | refine Below.drew ?_))).mono ?_; rintro e w2 ⟨rfl, hb2⟩; have HF2 := Lib.hid (blkStay (b := w.heap.size) (o := fldO X Y W H (.slice (some ⟨b, off, none⟩) n cap)) (by ((simp only [heap_alloc_get, heap_size_alloc, if_true]) <;> ((repeat' split) <;> first | rfl | omega))) hb2); have HL2 := Lib.hid (blkStay (b := w.heap.size + 1) (o := fldO 0 0 0 0 (.slice none 0 0)) (by ((simp only [heap_alloc_get, heap_size_alloc, if_true]) <;> ((repeat' split) <;> first | rfl | omega))) hb2); have hB2 : Below w.heap.size w w2 := Below.trans (by repeat (first | exact Below.refl _ _ | refine Below.alloc ?_ (by first | omega | (simp; done) | (simp; omega)) _ | refine Below.setCell ?_ (by first | omega | (simp; done) | (simp; omega)) _ | refine Below.drew ?_)) (Below.mono hb2 (by first | omega | (simp; done) | (simp; omega))); obtain ⟨cF, fF, zF⟩ := blkC HF2.out; clear hb2) | (go_at_call 67; refine (CW.out _).mono ?_; rintro e w' ⟨rfl, rfl⟩) | (go_at_call 68; refine (LS.out _ hB2).mono ?_; rintro e w3 ⟨s, sb, scap, rfl, s1, s2, s3, s4, s5, hb3⟩; clear cF fF zF; have HF3 := Lib.hid (blkStay HF2.out hb3); have HL3 := Lib.hid (blkStay HL2.out hb3); have hB3 := Lib.hid (hB2.trans (hb3.mono hB2.size)); obtain ⟨cF, fF, zF⟩ := blkC HF3.out; have S2 := Lib.hid s2; have S4 := Lib.hid s4; have S5 := Lib.hid s5; clear s1 s2 s3 s4 s5 hb3 hB2 HF2 HL2))
  refine (BY.out _ _ sb scap s (heap_alloc_new _ _) (flAt_congr S4.out (heap_alloc_old _ _ S2.out))).mono ?_
  intro e w4 hmade
  have hA : Below w3.heap.size w3 (w3.alloc (rowO sb n scap)) := (by repeat (first | exact Below.refl _ _ | refine Below.alloc ?_ (by first | omega | (simp; done) | (simp; omega)) _ | refine Below.setCell ?_ (by first | omega | (simp; done) | (simp; omega)) _ | refine Below.drew ?_))
  clear cF fF zF
  rcases hmade with ⟨hall, b', cap', rfl, hb', hlt', hrow, hbel⟩ | ⟨hall, rfl, hbel⟩
  · have h34 := hA.trans (hbel.mono hA.size)
    obtain ⟨cS, fS, zS⟩ := blkC (blkStay HL3.out h34)
    have zS3 := (blkC HL3.out).2.2
    have B4 := Lib.hid (hB3.out.trans (h34.mono hB3.out.size))
    have HB := Lib.hid (Nat.le_trans hA.size hb')
    clear hb' hA hbel h34
    go_wp2
    refine bodyPost_ret (v := .tuple #[fldV X Y W H (.slice (some ⟨b', 0, none⟩) n cap'), .int .i64 0]) (by simp [results, Tryd.results15, go_sem, cS]) rfl ?_
    have hb' := HB.out
    have z3 := hB3.out.size
    exact ⟨s, S5.out, .inl ⟨hall, b', cap', rfl, by omega, by rw [set5_size]; exact hlt', flAt_congr hrow (set5_heap w4 _ _ _ _ _ _ _ (by omega)), set5_below B4.out _ _ _ _ _ _ (by omega)⟩⟩
  · have h34 := hA.trans (hbel.mono hA.size)
    obtain ⟨cS, fS, zS⟩ := blkC (blkStay HL3.out h34)
    have zS3 := (blkC HL3.out).2.2
    have B4 := Lib.hid (hB3.out.trans (h34.mono hB3.out.size))
    clear hA hbel h34
    go_wp2
    refine bodyPost_ret (v := .tuple #[fldV 0 0 0 0 (.slice none 0 0), .int .i64 3]) (by simp [results, Tryd.results15, go_sem, cS]) rfl ?_
    exact ⟨s, S5.out, .inr ⟨hall, rfl, set5_below B4.out _ _ _ _ _ _ (by omega)⟩⟩
end Go.Proofs.YtacbemilicdklaaDoor

/- Contracts: checkList; Wet over a right field and right amounts. -/
namespace Go.Proofs.YtacbemilicdklaaDoor
open Go.RowKit Fl Go.Shelf
set_option linter.unusedVariables false

/-- Whole numbers in a slice. -/
def NumAt (w : World) (b off n : Nat) (c : Nat → Int) : Prop := ∀ i, i < n → w.cell? ⟨b, off + i, none⟩ = some (.int .i64 (c i))
theorem numAt_congr {w w' : World} {b off n : Nat} {c : Nat → Int} (h : NumAt w b off n c) (e : w'.heap[b]? = w.heap[b]?) : NumAt w' b off n c := fun i hi => by
  rw [← h i hi]; exact World.cell?_of_block (w := w) (a := ⟨b, off + i, none⟩) e
/-- A slice of whole numbers: empty, or known cell by cell. -/
def LsAt (w : World) (a : Option Addr) (n : Nat) (c : Nat → Int) : Prop := n = 0 ∨ ∃ b off, a = some ⟨b, off, none⟩ ∧ NumAt w b off n c
theorem LsAt.stay {w w' : World} {a : Option Addr} {n : Nat} {c : Nat → Int} (h : LsAt w a n c) (hB : Below w.heap.size w w') : LsAt w' a n c := by
  rcases h with h | ⟨b, off, rfl, h⟩
  · exact .inl h
  · rcases Nat.eq_zero_or_pos n with z | z
    · exact .inl z
    · exact .inr ⟨b, off, rfl, numAt_congr h (hB.block _ (World.block_lt_of_cell? w _ (h 0 z)))⟩

/-- The error of a list of numbers for m cells. -/
def lstE (m n : Nat) (c : Nat → Int) (most : Int) : Int := if n ≠ m then 2 else if allB n (fun i => withinB (c i) 0 most) = true then 0 else 3

set_option maxHeartbeats 2000000 in
theorem checkList_any (X Y : Int) (W H m n cap : Nat) (a : Option Addr) (c : Nat → Int) (most : Int) (w : World) (hm : m = W * H) (h5 : m ≤ 65536) (hc : LsAt w a n c) (hl : n ≤ 9223372036854775807) :
    Calls Tryd.prog 80 #[reg X Y W H, .slice a n cap, .int .i64 most] w fun e w' => e = .returned (.int .i64 (lstE m n c most)) ∧ Below w.heap.size w w' := by
  have en : wrap64 ((W : Int) * (H : Int)) = (m : Int) := by
    have : ((W : Int) * (H : Int)) = (m : Int) := by rw [hm]; simp
    rw [this]; exact IntWalk.wrap64_in _ ⟨by omega, by omega⟩
  have HC := Lib.hid hc
  clear hc hm
  by_cases hn : n = m
  · subst hn
    have R1 := Lib.hid (show allB n (fun i => withinB (c i) 0 most) = true → lstE n n c most = 0 from fun h => by unfold lstE; rw [if_neg (by simp), if_pos h])
    have R2 := Lib.hid (show ∀ k, k < n → withinB (c k) 0 most = false → lstE n n c most = 3 from fun k hk h => by unfold lstE; rw [if_neg (by simp), allB_no hk h]; rfl)
    generalize lstE n n c most = r at *
    go_enter Tryd.func80, Tryd.ntmps80
    go_wp2
    clear en
    go_loopw [19] (fun i wr => ∃ k : Nat, k ≤ n ∧ i = .int .i64 k ∧ allB k (fun i => withinB (c i) 0 most) = true ∧ Below w.heap.size w wr) (fun i _ => n - (intOf i).toNat)
    case atStart => exact ⟨0, Nat.zero_le _, rfl, rfl, (by repeat (first | exact Below.refl _ _ | refine Below.alloc ?_ (by first | omega | (simp; done) | (simp; omega)) _ | refine Below.setCell ?_ (by first | omega | (simp; done) | (simp; omega)) _ | refine Below.drew ?_))⟩
    case round =>
      obtain ⟨k, hk, rfl, hall, hb⟩ := hrel
      have HA := Lib.hid hall
      have HBel := Lib.hid hb
      clear hall hb
      by_cases hlt : k < n
      · obtain ⟨b, off, ha, hcell⟩ : ∃ b off, a = some ⟨b, off, none⟩ ∧ NumAt w b off n c := by
          rcases HC.out with z | h
          · omega
          · exact h
        subst ha
        have zb : b < w.heap.size := World.block_lt_of_cell? w _ (hcell k hlt)
        have cc := numAt_congr hcell (HBel.out.block b zb) k hlt
        have WI := Lib.hid (fun w => within_any (c k) 0 most w)
        clear hcell
        cases hb : withinB (c k) 0 most with
        | true =>
          have HB := Lib.hid hb
          rw [hb] at WI
          clear hb
          go_wp2_with (go_at_call 94; refine (WI.out _).mono ?_; rintro e w' ⟨rfl, rfl⟩)
          go_roundw
          case rel =>
            have HA1 : allB (k + 1) (fun i => withinB (c i) 0 most) = true := allB_iff.2 fun i hi => by
              rcases Nat.lt_or_ge i k with q | q
              · exact allB_iff.1 HA.out i q
              · rw [show i = k by omega]; exact HB.out
            first | exact ⟨k + 1, by omega, by go_num, HA1, HBel.out⟩ | ((repeat apply Exists.intro); exact ⟨⟨k + 1, by omega, by go_num, HA1, HBel.out⟩, rfl⟩)
          case measure => simp [intOf]; omega
        | false =>
          have HB := Lib.hid hb
          rw [hb] at WI
          clear hb
          go_wp2_with (go_at_call 94; refine (WI.out _).mono ?_; rintro e w' ⟨rfl, rfl⟩)
          go_ret
          exact ⟨ret_int (R2.out k hlt HB.out).symm, HBel.out⟩
      · go_wp2
        go_ret
        have : k = n := by omega
        subst this
        exact ⟨ret_int (R1.out HA.out).symm, HBel.out⟩
  · have R3 := Lib.hid (show lstE m n c most = 2 by unfold lstE; rw [if_pos hn])
    rw [R3.out]
    have hn' : ((n : Int) != (m : Int)) = true := by rw [bne_iff_ne]; omega
    go_enter Tryd.func80, Tryd.ntmps80
    go_wp2
    go_ret
    exact ⟨rfl, (by repeat (first | exact Below.refl _ _ | refine Below.alloc ?_ (by first | omega | (simp; done) | (simp; omega)) _ | refine Below.setCell ?_ (by first | omega | (simp; done) | (simp; omega)) _ | refine Below.drew ?_))⟩

/-- How wet a cell is. -/
def wetW (a : Int) (dr : Nat) : Nat := (floatBits .quo .f32 (rootW (floatOfInt .f32 a)) ((floatBits .add .f32 1065353216 dr).getD 0)).getD 0
structure WetAt (a : Int) (dr s q : Nat) : Prop where
  s1 : floatBits .add .f32 1065353216 dr = some s
  q1 : floatBits .quo .f32 (rootW (floatOfInt .f32 a)) s = some q
  w : wetW a dr = q
  fin : finB q = true
theorem wet_parts {a : Int} {dr : Nat} (h0 : 0 ≤ a) (h1 : a ≤ 1099511627776) (hd : NonNeg dr) : ∃ s q, WetAt a dr s q := by
  obtain ⟨c, vc, c0, bc⟩ := hd
  have b1 : Bd 21 1065353216 := by
    obtain ⟨j, hj⟩ : ∃ j : Nat, j = 1074 := ⟨_, rfl⟩
    have f21 : (2 : Nat) ^ 21 = 2097152 := by decide
    exact bd_val' (j := 21 + j) vS_one (by omega) (by rw [Nat.pow_add, f21, ← one_pow hj]; omega)
  obtain ⟨_, _, _, s, _, _, _, _, e1, bs⟩ := (add_same (k := 21) (by omega) b1 bc).ex
  obtain ⟨d, vd, hd⟩ := val_bd bc
  rw [vc] at vd
  cases vd
  obtain ⟨j, hj⟩ : ∃ j : Nat, j = 1074 := ⟨_, rfl⟩
  have f22 : (2 : Nat) ^ 22 = 4194304 := by decide
  have f21 : (2 : Nat) ^ 21 = 2097152 := by decide
  have vs := vS_add (B := 22 + j) e1 vS_one vc (by
    have e : 2 ^ (1074 + 21) = 2097152 * one := by rw [one_pow hj, show 1074 + 21 = 21 + j by omega, Nat.pow_add, f21]
    rw [e] at hd
    rw [Nat.pow_add, f22, ← one_pow hj]
    have := one_pos
    omega) (by omega)
  have lo : (one : Int) ≤ rdS ((one : Int) + c) := by
    have := rdS_mono (show (one : Int) ≤ (one : Int) + c by omega)
    rwa [rdS_self vS_one] at this
  obtain ⟨ra, X, Z, rc, R, hrc⟩ := amt_root h0 h1
  have r0 := R.nn
  have f20 : (2 : Nat) ^ 20 = 1048576 := by decide
  have D := div_val (k := 20) R.val vs (by have := Int.natCast_pos.2 one_pos; omega) (by omega) (by rw [f20]; omega)
  obtain ⟨_, _, _, q, _, _, _, _, e2, bq⟩ := D.ex
  refine ⟨s, q, e1, e2, by unfold wetW; rw [e1]; show (floatBits .quo .f32 _ s).getD 0 = q; rw [e2]; rfl, ?_⟩
  obtain ⟨x, vx, _⟩ := val_bd bq
  unfold finB
  rw [vx]; rfl

/-- How wet the cell i of a field is. -/
def wetF (W H : Nat) (v : Nat → Nat) (c : Nat → Int) (i : Nat) : Nat := wetW (c i) (stp v i (nbrs W H i 8)).2

theorem enters_Wet1 : Enters 102 := by intro args W; simp [callFunc, Tryd.func102, Tryd.f102]
abbrev numsO (b off n cap : Nat) : Obj := .cells #[.slice (some ⟨b, off, none⟩) n cap] 40

set_option maxRecDepth 100000 in
set_option maxHeartbeats 2000000 in
theorem wet1_any (X Y : Int) (W H n b off cap b2 off2 cap2 : Nat) (v : Nat → Nat) (c : Nat → Int) (p q : Nat) (w : World) (h0 : checkR X Y W H = 0) (hn : n = W * H) (hc : FlAt w b off n v) (hh : allB n (fun i => hgtB (v i)) = true) (hc2 : NumAt w b2 off2 n c) (ha : allB n (fun i => withinB (c i) 0 1099511627776) = true) (hD : DirsAt w)
    (hp : w.heap[p]? = some (fldO X Y W H (.slice (some ⟨b, off, none⟩) n cap))) (hq : w.heap[q]? = some (numsO b2 off2 n cap2)) :
    Clos1 102 #[.pointer (some ⟨p, 0, none⟩), .pointer (some ⟨q, 0, none⟩)] n (wetF W H v c) w := by
  intro i w2 hi hb
  have z1 : b < w.heap.size := World.block_lt_of_cell? w _ (hc i hi)
  have z2 : b2 < w.heap.size := World.block_lt_of_cell? w _ (hc2 i hi)
  have SP := Lib.hid (steepest_any X Y W H n b off cap i v w2 h0 hn (flAt_congr hc (hb.block _ z1)) hh hi (hD.stay hb))
  have hn2 : n ≤ 65536 := by
    obtain ⟨_, _, _, _, b5, _⟩ := checkR_zero h0
    have : ((W : Int) * (H : Int)) = (n : Int) := by rw [hn]; simp
    omega
  obtain ⟨a0, a1⟩ := withinB_iff.1 (allB_iff.1 ha i hi)
  obtain ⟨s, qq, D⟩ := wet_parts a0 a1 (stp_nn hn hi (fun i hi => allB_iff.1 hh i hi) _ (fun x hx => by rw [hn]; exact nbrs_lt (j := 8) (k := i) x hx))
  obtain ⟨ra, X', Z, rc, R, _⟩ := amt_root a0 a1
  have RO := Lib.hid (fun w => root_any R w)
  have e1 := fun (ww : World) => run_float_arith (P := Tryd.prog) ww .add 27 .f32 1065353216 (stp v i (nbrs W H i 8)).2 s D.s1
  have e2 := fun (ww : World) => run_float_arith (P := Tryd.prog) ww .quo 27 .f32 (rootW (floatOfInt .f32 (c i))) s qq D.q1
  have EW := Lib.hid (show wetF W H v c i = qq from D.w)
  have HC2 := Lib.hid (numAt_congr hc2 (hb.block _ z2) i hi)
  have HQ := Lib.hid (blkStay hq hb)
  obtain ⟨cP, fP, zP⟩ := blkC (blkStay hp hb)
  have i1 : (i : Int) < (n : Int) := by omega
  rw [EW.out]
  clear h0 hn hc hh hc2 ha hD hp hq hb a0 a1 R D z1 z2 hi hn2
  generalize (stp v i (nbrs W H i 8)).1 = sw at *
  generalize (stp v i (nbrs W H i 8)).2 = sd at *
  generalize rootW (floatOfInt .f32 (c i)) = rr at *
  go_enter Tryd.func102, Tryd.ntmps102
  go_wp2_with (first | (go_at_call 103; refine SP.out.mono ?_; rintro e w3 ⟨rfl, hb3⟩; clear cP fP zP; obtain ⟨cQ, fQ, zQ⟩ := blkC (blkStay HQ.out hb3); have c2 := (World.cell?_of_block (w := w2) (w' := w3) (a := ⟨b2, off2 + i, none⟩) (hb3.block b2 (World.block_lt_of_cell? w2 _ HC2.out))).trans HC2.out; have HB3 := Lib.hid hb3; clear hb3) | (go_at_call 104; refine (RO.out _).mono ?_; rintro e w' ⟨rfl, rfl⟩))
  go_ret
  exact ⟨rfl, HB3.out⟩

set_option maxHeartbeats 2000000 in
theorem wet_ok (X Y : Int) (W H n b off cap b2 off2 cap2 : Nat) (v : Nat → Nat) (c : Nat → Int) (w : World) (h0 : checkR X Y W H = 0) (hn : n = W * H) (hc : FlAt w b off n v) (hh : allB n (fun i => hgtB (v i)) = true) (hc2 : NumAt w b2 off2 n c) (ha : allB n (fun i => withinB (c i) 0 1099511627776) = true) (hD : DirsAt w) :
    Calls Tryd.prog 54 #[fldV X Y W H (.slice (some ⟨b, off, none⟩) n cap), .slice (some ⟨b2, off2, none⟩) n cap2] w (MadePost w X Y W H n (wetF W H v c)) := by
  obtain ⟨b1, b2', b3, b4, b5, b6, b7, b8, b9⟩ := checkR_zero h0
  have hn2 : n ≤ 65536 := by
    have : ((W : Int) * (H : Int)) = (n : Int) := by rw [hn]; simp
    omega
  have hnn : n = H * W := by rw [hn]; exact Nat.mul_comm _ _
  have n1 : 1 ≤ n := by rw [hn]; exact Nat.mul_pos (by omega) (by omega)
  have z1 : b < w.heap.size := World.block_lt_of_cell? w _ (hc 0 n1)
  have z2 : b2 < w.heap.size := World.block_lt_of_cell? w _ (hc2 0 n1)
  have CK := Lib.hid (fun W' (hB : Below w.heap.size w W') => check_off X Y W H n b off cap v W' h0 hn (flAt_congr hc (hB.block b z1)) hh)
  have CL := Lib.hid (fun W' (hB : Below w.heap.size w W') => checkList_any X Y W H n n cap2 (some ⟨b2, off2, none⟩) c 1099511627776 W' hn hn2 (.inr ⟨b2, off2, rfl, numAt_congr hc2 (hB.block b2 z2)⟩) (by omega))
  rw [show lstE n n c 1099511627776 = 0 by unfold lstE; rw [if_neg (by simp), if_pos ha]] at CL
  have BY := Lib.hid (fun W' (hB : Below w.heap.size w W') p q (kp : W'.heap[p]? = some (fldO X Y W H (.slice (some ⟨b, off, none⟩) n cap))) (kq : W'.heap[q]? = some (numsO b2 off2 n cap2)) => wbyCell_any X Y W H n (wetF W H v c) 102 #[.pointer (some ⟨p, 0, none⟩), .pointer (some ⟨q, 0, none⟩)] W' enters_Wet1
    (wet1_any X Y W H n b off cap b2 off2 cap2 v c p q W' h0 hn (flAt_congr hc (hB.block b z1)) hh (numAt_congr hc2 (hB.block b2 z2)) ha (hD.stay hB) kp kq) h0 hnn)
  clear h0 hn hc hh hc2 ha hD b1 b2' b3 b4 b5 b6 b7 b8 b9 hn2 hnn n1 z1 z2
  go_enter Tryd.func54, Tryd.ntmps54
  go_wp2_with (first | (go_at_call 66; refine (CK.out _ (by repeat (first | exact Below.refl _ _ | refine Below.alloc ?_ (by first | omega | (simp; done) | (simp; omega)) _ | refine Below.setCell ?_ (by first | omega | (simp; done) | (simp; omega)) _ | refine Below.drew ?_))).mono ?_; rintro e w2 ⟨rfl, hb2⟩; have HF2 := Lib.hid (blkStay (b := w.heap.size) (o := fldO X Y W H (.slice (some ⟨b, off, none⟩) n cap)) (by (first | (rw [heap_alloc_get, if_pos rfl]; done) | ((simp only [heap_alloc_get, heap_size_alloc, if_true]) <;> ((repeat' split) <;> first | rfl | omega)))) hb2); have HA2 := Lib.hid (blkStay (b := w.heap.size + 1) (o := numsO b2 off2 n cap2) (by (first | (rw [heap_alloc_get, if_pos rfl]; done) | ((simp only [heap_alloc_get, heap_size_alloc, if_true]) <;> ((repeat' split) <;> first | rfl | omega)))) hb2); have HL2 := Lib.hid (blkStay (b := w.heap.size + 1 + 1) (o := fldO 0 0 0 0 (.slice none 0 0)) (by (first | (rw [heap_alloc_get, if_pos rfl]; done) | ((simp only [heap_alloc_get, heap_size_alloc, if_true]) <;> ((repeat' split) <;> first | rfl | omega)))) hb2); have hB2 : Below w.heap.size w w2 := Below.trans (by repeat (first | exact Below.refl _ _ | refine Below.alloc ?_ (by first | omega | (simp; done) | (simp; omega)) _ | refine Below.setCell ?_ (by first | omega | (simp; done) | (simp; omega)) _ | refine Below.drew ?_)) (Below.mono hb2 (by first | omega | (simp; done) | (simp; omega))); obtain ⟨cF, fF, zF⟩ := blkC HF2.out; obtain ⟨cA, fA, zA⟩ := blkC HA2.out; clear hb2) | (go_at_call 80; refine (CL.out _ hB2).mono ?_; rintro e w3 ⟨rfl, hb3⟩; clear cF fF zF cA fA zA; have HF3 := Lib.hid (blkStay HF2.out hb3); have HA3 := Lib.hid (blkStay HA2.out hb3); have HL3 := Lib.hid (blkStay HL2.out hb3); have hB3 := Lib.hid (hB2.trans (hb3.mono hB2.size)); obtain ⟨cF, fF, zF⟩ := blkC HF3.out; clear hb3 hB2 HF2 HA2 HL2))
  refine (BY.out _ hB3.out _ _ HF3.out HA3.out).mono ?_
  intro e w4 hmade
  clear cF fF zF
  rcases hmade with ⟨hall, b', cap', rfl, hb', hlt', hrow, hbel⟩ | ⟨hall, rfl, hbel⟩
  · obtain ⟨cS, fS, zS⟩ := blkC (blkStay HL3.out hbel)
    have zS3 := (blkC HL3.out).2.2
    have B4 := Lib.hid (hB3.out.trans (hbel.mono hB3.out.size))
    have HB := Lib.hid hb'
    clear hb' hbel
    go_wp2
    refine bodyPost_ret (v := .tuple #[fldV X Y W H (.slice (some ⟨b', 0, none⟩) n cap'), .int .i64 0]) (by simp [results, Tryd.results54, go_sem, cS]) rfl ?_
    have hb' := HB.out
    have z3 := hB3.out.size
    exact .inl ⟨hall, b', cap', rfl, by omega, by rw [set5_size]; exact hlt', flAt_congr hrow (set5_heap w4 _ _ _ _ _ _ _ (by omega)), set5_below B4.out _ _ _ _ _ _ (by omega)⟩
  · obtain ⟨cS, fS, zS⟩ := blkC (blkStay HL3.out hbel)
    have zS3 := (blkC HL3.out).2.2
    have B4 := Lib.hid (hB3.out.trans (hbel.mono hB3.out.size))
    clear hbel
    go_wp2
    refine bodyPost_ret (v := .tuple #[fldV 0 0 0 0 (.slice none 0 0), .int .i64 3]) (by simp [results, Tryd.results54, go_sem, cS]) rfl ?_
    exact .inr ⟨hall, rfl, set5_below B4.out _ _ _ _ _ _ (by omega)⟩
end Go.Proofs.YtacbemilicdklaaDoor

/- Plain mathematics of the reference's filling: cell by cell, until nothing falls any more. -/
namespace Go.Proofs.YtacbemilicdklaaDoor
open Go.RowKit Fl
set_option linter.unusedVariables false

/-- The spill at a cell of the height h, from a spill, as the reference reckons it. -/
def stepR (sl a h : Nat) : Nat := if (FloatKind.f32.format.order h (addW a sl) == some .gt) = true then h else addW a sl

theorem OkW.as {q x y : Nat} (h : OkW q x) {a : Int} (hy : vS y = some a) (e : vI x = a) : OkW q y := by
  obtain ⟨b, h1, h2, h3⟩ := h
  rw [vI_of h1] at e
  subst e
  exact ⟨b, hy, h2, h3⟩

theorem stepR_val {sl a h q : Nat} (ha : OkW q a) (hs : SlW sl) (hh : hgtB h = true) (hq : q ≤ 1048576) : OkW (q + 1) (stepR sl a h) ∧ vI (stepR sl a h) = vI (stepW sl a h) := by
  obtain ⟨r, r1, hw, _, vr, ok, l1, l2, l3, _⟩ := step_parts ha hs hh hq
  obtain ⟨hv, vh, h1, h2⟩ := hgt_vT hh
  rw [vI_of vh] at l1 l3
  generalize rdS (vI a + vI sl) = R at *
  unfold stepR
  rw [hw, f32f', gtr_val vh vr]
  by_cases c : R < hv
  · rw [if_pos (by simpa using c), vI_of vh]
    have e : vI (stepW sl a h) = hv := by omega
    exact ⟨(hgt_ok hh).mono (by omega), e.symm⟩
  · rw [if_neg (by simpa using c), vI_of vr]
    have e : vI (stepW sl a h) = R := by omega
    exact ⟨ok.as vr e, e.symm⟩

/-- The reference on its way: w spills so far, K known ones. -/
structure Bel (g : Gnd) (s w : Nat → Nat) (K : Nat → Bool) (t : Nat) : Prop where
  bor : ∀ k, k < g.n → g.bd k = true → K k = true ∧ w k = g.h k
  fin : ∀ k, k < g.n → K k = true → OkW t (w k)
  low : ∀ k, k < g.n → K k = true → vI (s k) ≤ vI (w k)
  cnt : t + unr g.n K ≤ g.n

/-- What a cell counts for. -/
def mu1 (K : Nat → Bool) (w : Nat → Nat) (k : Nat) : Nat := if K k = true then (vI (w k) + vTop).toNat else 400000000 * one + 1
def mu : Nat → (Nat → Bool) → (Nat → Nat) → Nat
  | 0, _, _ => 0
  | n + 1, K, w => mu n K w + mu1 K w n
theorem mu_same {n k x : Nat} {K : Nat → Bool} {w : Nat → Nat} (h : n ≤ k) : mu n (updB K k) (updW w k x) = mu n K w := by
  induction n with
  | zero => rfl
  | succ n ih =>
    unfold mu
    rw [ih (by omega)]
    unfold mu1
    rw [updB_other K (show n ≠ k by omega), updW_other w (show n ≠ k by omega)]
theorem mu_less {n k x : Nat} {K : Nat → Bool} {w : Nat → Nat} (hk : k < n) (h : mu1 (updB K k) (updW w k x) k < mu1 K w k) : mu n (updB K k) (updW w k x) < mu n K w := by
  induction n with
  | zero => omega
  | succ n ih =>
    unfold mu
    by_cases e : k = n
    · subst e; rw [mu_same (Nat.le_refl _)]; omega
    · have := ih (by omega)
      have e2 : mu1 (updB K k) (updW w k x) n = mu1 K w n := by
        unfold mu1
        rw [updB_other K (show n ≠ k by omega), updW_other w (show n ≠ k by omega)]
      omega

theorem OkW.top {t x : Nat} (h : OkW t x) (ht : t ≤ 65536) : -vTop ≤ vI x ∧ (vI x + vTop).toNat < 400000000 * one + 1 := by
  obtain ⟨a, h1, h2, h3⟩ := h
  rw [vI_of h1]
  refine ⟨h2, ?_⟩
  rw [top_one] at *
  have h4 : ((4096 * (256 + t) : Nat) : Int) * (one : Int) ≤ 300000000 * (one : Int) := Int.mul_le_mul_of_nonneg_right (by omega) (Int.natCast_nonneg _)
  generalize one = o at *
  omega

theorem unr_known {n : Nat} {K : Nat → Bool} {k : Nat} (h : K k = true) : unr n (updB K k) = unr n K := by
  unfold unr
  congr 1
  apply List.filter_congr
  intro i _
  by_cases e : i = k
  · subst e; rw [updB_same, h]
  · rw [updB_other K e]

/-- One cell falls, or is reached. -/
theorem Bel.upd {g : Gnd} (G : GndOk g) {s w : Nat → Nat} (S : Spills g s) {K : Nat → Bool} {t k m d : Nat} (B : Bel g s w K t) (hk : k < g.n) (hb : g.bd k = false) (hd : d < 8) (hm : g.nb k d = some m) (hK : K m = true)
    (hu : K k = false ∨ vI (stepR g.sl (w m) (g.h k)) < vI (w k)) : ∃ t', Bel g s (updW w k (stepR g.sl (w m) (g.h k))) (updB K k) t' ∧ mu g.n (updB K k) (updW w k (stepR g.sl (w m) (g.h k))) < mu g.n K w := by
  have hm' := G.lt _ _ _ hm
  have n2 := G.n2
  have ct := B.cnt
  have okm := B.fin m hm' hK
  obtain ⟨ok, ev⟩ := stepR_val okm G.slo (G.hgt k hk) (by omega)
  have lo : vI (s k) ≤ vI (stepR g.sl (w m) (g.h k)) := by
    rw [ev]
    refine Int.le_trans (S.least m hm' k (G.back k d m hk hd hm) hb) ?_
    exact step_mono ((S.fin m hm').mono (show 65536 ≤ 1048576 by omega)) (okm.mono (by omega)) G.slo (G.hgt k hk) (Nat.le_refl _) (B.low m hm' hK)
  generalize stepR g.sl (w m) (g.h k) = x at *
  have bor : ∀ j, j < g.n → g.bd j = true → updB K k j = true ∧ updW w k x j = g.h j := fun j hj hbj => by
    have ne : j ≠ k := by rintro rfl; rw [hb] at hbj; cases hbj
    rw [updB_other K ne, updW_other w ne]; exact B.bor j hj hbj
  have low : ∀ j, j < g.n → updB K k j = true → vI (s j) ≤ vI (updW w k x j) := fun j hj hKj => by
    by_cases e : j = k
    · subst e; rw [updW_same]; exact lo
    · rw [updW_other w e]; rw [updB_other K e] at hKj; exact B.low j hj hKj
  by_cases hKk : K k = true
  · have lt : vI x < vI (w k) := by rcases hu with h | h; · rw [hKk] at h; cases h
                                    · exact h
    have okx : OkW t x := by
      obtain ⟨a, h1, h2, h3⟩ := ok
      obtain ⟨b, q1, q2, q3⟩ := B.fin k hk hKk
      rw [vI_of h1, vI_of q1] at lt
      exact ⟨a, h1, h2, by omega⟩
    refine ⟨t, ⟨bor, fun j hj hKj => ?_, low, by rw [unr_known hKk]; exact ct⟩, mu_less hk ?_⟩
    · by_cases e : j = k
      · subst e; rw [updW_same]; exact okx
      · rw [updW_other w e]; rw [updB_other K e] at hKj; exact B.fin j hj hKj
    · unfold mu1
      rw [updB_same, updW_same, if_pos rfl, if_pos hKk]
      have a := (okx.top (by omega)).1
      omega
  · have hKk' : K k = false := by simpa using hKk
    have un := unr_upd (n := g.n) hk hKk'
    refine ⟨t + 1, ⟨bor, fun j hj hKj => ?_, low, by omega⟩, mu_less hk ?_⟩
    · by_cases e : j = k
      · subst e; rw [updW_same]; exact ok
      · rw [updW_other w e]; rw [updB_other K e] at hKj; exact (B.fin j hj hKj).mono (by omega)
    · unfold mu1
      rw [updB_same, updW_same, if_pos rfl, if_neg hKk]
      exact (ok.top (by omega)).2

/-- The direction d of the cell k asks for no change. -/
def StabD (g : Gnd) (w : Nat → Nat) (K : Nat → Bool) (k d : Nat) : Prop := ∀ m, g.nb k d = some m → K m = true → K k = true ∧ vI (w k) ≤ vI (stepR g.sl (w m) (g.h k))

/-- Where nothing asks for a change all spills are the least ones. -/
theorem Bel.done {g : Gnd} (G : GndOk g) {s w : Nat → Nat} (S : Spills g s) {K : Nat → Bool} {t : Nat} (B : Bel g s w K t) (h : ∀ k, k < g.n → g.bd k = false → ∀ d, d < 8 → StabD g w K k d) : ∀ k, k < g.n → OkW 65536 (w k) ∧ vI (w k) = vI (s k) := by
  have n2 := G.n2
  have ct := B.cnt
  obtain ⟨rk, hr⟩ := S.par
  have key : ∀ r k, k < g.n → rk k ≤ r → K k = true ∧ vI (w k) ≤ vI (s k) := by
    intro r
    induction r with
    | zero =>
      intro k hk hrk
      cases hb : g.bd k with
      | true => obtain ⟨a, b⟩ := B.bor k hk hb; rw [b, S.bor k hk hb]; exact ⟨a, Int.le_refl _⟩
      | false => obtain ⟨p, _, _, hlt, _⟩ := hr k hk hb; omega
    | succ r ih =>
      intro k hk hrk
      cases hb : g.bd k with
      | true => obtain ⟨a, b⟩ := B.bor k hk hb; rw [b, S.bor k hk hb]; exact ⟨a, Int.le_refl _⟩
      | false =>
        obtain ⟨p, hp, ⟨d, hd, hn⟩, hlt, e⟩ := hr k hk hb
        obtain ⟨e8, h8, hn2⟩ := G.back p d k hp hd hn
        obtain ⟨i1, i2⟩ := ih p hp (by omega)
        obtain ⟨j1, j2⟩ := h k hk hb e8 h8 p hn2 i1
        refine ⟨j1, Int.le_trans j2 ?_⟩
        rw [(stepR_val (B.fin p hp i1) G.slo (G.hgt k hk) (by omega)).2, e]
        exact step_mono ((B.fin p hp i1).mono (by omega)) ((S.fin p hp).mono (show 65536 ≤ 1048576 by omega)) G.slo (G.hgt k hk) (Nat.le_refl _) i2
  intro k hk
  obtain ⟨a, b⟩ := key (rk k) k hk (Nat.le_refl _)
  have := B.low k hk a
  exact ⟨(B.fin k hk a).mono (by omega), by omega⟩

/-- How it begins: the border is known. -/
theorem bel_start {g : Gnd} (G : GndOk g) {s w : Nat → Nat} (S : Spills g s) {K : Nat → Bool} (hK : ∀ k, k < g.n → K k = g.bd k) (hw : ∀ k, k < g.n → g.bd k = true → w k = g.h k) : Bel g s w K 0 :=
  ⟨fun k hk hb => ⟨by rw [hK k hk]; exact hb, hw k hk hb⟩, fun k hk h => by rw [hK k hk] at h; rw [hw k hk h]; exact hgt_ok (G.hgt k hk), fun k hk h => by rw [hK k hk] at h; rw [hw k hk h, S.bor k hk h]; exact Int.le_refl _, by have := unr_le g.n K; omega⟩
end Go.Proofs.YtacbemilicdklaaDoor

/- Contracts: Shower; the reference's Place. -/
namespace Go.Proofs.YtacbemilicdklaaDoor
open Go.RowKit Fl Go.Shelf
set_option linter.unusedVariables false

theorem make_int (n : Nat) (hn : n ≤ 65536) (w : World) :
    (Instr.makeSlice 40 (.int .i64 (n : Int)) (.int .i64 (n : Int))).run Tryd.prog w = .ok (.slice (some ⟨w.heap.size, 0, none⟩) n n) (w.alloc (.cells (madeCells #[Value.int .i64 0] n) 3)) := by
  have h : (Tryd.prog.info? 3).map (fun i => (i.zero, i.size, i.bytes)) = some (some (.int .i64 0), 1, 8) := by kernel_rfl
  obtain ⟨i0, hi, hz0, hz1, hz2⟩ := info_parts h
  have hr := run_make (P := Tryd.prog) w 40 3 i0 (.int .i64 0) Tryd.underlying40 hi hz0 .i64 .i64 n n (by omega) (by omega) (by rw [hz2]; omega) (by omega)
  rw [hz1, Nat.mul_one, Int.toNat_natCast] at hr
  exact hr
/-- A block of whole numbers. -/
def IntsAt (w : World) (b n : Nat) (c : Nat → Nat) : Prop := ∃ cs : Array Value, w.heap[b]? = some (.cells cs 3 (0, 0)) ∧ cs.size = n ∧ ∀ i, i < n → cs[i]? = some (.int .i64 ((c i : Nat) : Int))
theorem IntsAt.congr {w w' : World} {b n : Nat} {c : Nat → Nat} (h : IntsAt w b n c) (e : w'.heap[b]? = w.heap[b]?) : IntsAt w' b n c := by
  obtain ⟨cs, h1, h2⟩ := h
  exact ⟨cs, e.trans h1, h2⟩
theorem IntsAt.cell {w : World} {b n : Nat} {c : Nat → Nat} (h : IntsAt w b n c) {i : Nat} (hi : i < n) : w.cell? ⟨b, i, none⟩ = some (.int .i64 ((c i : Nat) : Int)) ∧ w.frozen? ⟨b, i, none⟩ = false ∧ b < w.heap.size := by
  obtain ⟨cs, h1, h2, h3⟩ := h
  obtain ⟨c, f, z⟩ := blkC h1
  exact ⟨(c i).trans (h3 i hi), f i, z⟩
theorem IntsAt.put {w : World} {b n : Nat} {c : Nat → Nat} (h : IntsAt w b n c) {k : Nat} (x : Nat) (hk : k < n) : IntsAt (w.setCell ⟨b, k, none⟩ (.int .i64 (x : Int))) b n (updW c k x) := by
  obtain ⟨cs, h1, h2, h3⟩ := h
  refine ⟨_, heap_setCell_same w b k _ _ _ h1, by simpa using h2, fun i hi => ?_⟩
  rw [Array.getElem?_setIfInBounds]
  by_cases e : k = i
  · subst e; rw [if_pos rfl, if_pos (by omega), updW_same]
  · rw [if_neg e, updW_other c (by omega)]; exact h3 i hi
theorem IntsAt.lt {w : World} {b n : Nat} {c : Nat → Nat} (h : IntsAt w b n c) : b < w.heap.size := by
  obtain ⟨cs, h1, _⟩ := h
  exact (blkC h1).2.2
theorem IntsAt.as {w : World} {b n : Nat} {c c' : Nat → Nat} (h : IntsAt w b n c) (e : ∀ i, i < n → c i = c' i) : IntsAt w b n c' := by
  obtain ⟨cs, h1, h2, h3⟩ := h
  exact ⟨cs, h1, h2, fun i hi => by rw [← e i hi]; exact h3 i hi⟩
theorem made_ints (w : World) (n : Nat) : IntsAt (w.alloc (.cells (madeCells #[Value.int .i64 0] n) 3)) w.heap.size n (fun _ => 0) :=
  ⟨_, heap_alloc_new _ _, by simp [madeCells], fun i hi => by simp [madeCells, hi, Nat.mod_one]⟩

/-- The shower at a cell. -/
def shwI (seed most X Y : Int) (W i : Nat) : Int := hashI seed (X + ((i % W : Nat) : Int)) (Y + ((i / W : Nat) : Int)) 2 % (most + 1)
def shwN (seed most X Y : Int) (W i : Nat) : Nat := (shwI seed most X Y W i).toNat
theorem shw_cast {seed most X Y : Int} {W i : Nat} (h : 0 ≤ most) : ((shwN seed most X Y W i : Nat) : Int) = shwI seed most X Y W i := Int.toNat_of_nonneg (Int.emod_nonneg _ (by omega))

theorem shw_val {seed most X Y : Int} {W k : Nat} (h : 0 ≤ most) (h' : most ≤ 1048576) : wrap64 ((hashI seed (X + (k : Int) % (W : Int)) (Y + (k : Int) / (W : Int)) 2).tmod (most + 1)) = ((shwN seed most X Y W k : Nat) : Int) := by
  rw [shw_cast h]
  unfold shwI
  have e1 : ((k % W : Nat) : Int) = (k : Int) % (W : Int) := by simp
  have e2 : ((k / W : Nat) : Int) = (k : Int) / (W : Int) := by simp
  rw [e1, e2]
  have q := hashI_in seed (X + (k : Int) % (W : Int)) (Y + (k : Int) / (W : Int)) 2
  generalize hashI seed (X + (k : Int) % (W : Int)) (Y + (k : Int) / (W : Int)) 2 = z at *
  rw [Int.tmod_eq_emod_of_nonneg q.1]
  have a := Int.emod_nonneg z (show most + 1 ≠ 0 by omega)
  have b := Int.emod_lt_of_pos z (show 0 < most + 1 by omega)
  exact IntWalk.wrap64_in _ ⟨by omega, by omega⟩

/-- What holds at the head of Shower's loop, when k cells have been made. -/
def ShwAt (w0 : World) (X Y W H : Int) (rb n : Nat) (f : Nat → Nat) (k : Nat) (wr : World) : Prop := ∃ c, IntsAt wr rb n c ∧ (∀ i, i < k → c i = f i) ∧ wr.heap[w0.heap.size]? = some (regObj X Y W H) ∧ Below w0.heap.size w0 wr

set_option maxHeartbeats 4000000 in
set_option maxRecDepth 100000 in
theorem shower_ok (seed most X Y : Int) (W H n : Nat) (w : World) (h0 : checkR X Y W H = 0) (hn : n = W * H) (m0 : 0 ≤ most) (m1 : most ≤ 1048576) :
    Calls Tryd.prog 61 #[reg X Y W H, .int .u32 seed, .int .i64 most] w fun e w' => ∃ rb, e = .returned (.tuple #[.slice (some ⟨rb, 0, none⟩) n n, .int .i64 0]) ∧ IntsAt w' rb n (shwN seed most X Y W) ∧ w.heap.size ≤ rb ∧ Below w.heap.size w w' := by
  obtain ⟨b1, b2, b3, b4, b5, b6, b7, b8, b9⟩ := checkR_zero h0
  have hn2 : n ≤ 65536 := by
    have : ((W : Int) * (H : Int)) = (n : Int) := by rw [hn]; simp
    omega
  have en : (W : Int) * (H : Int) = (n : Int) := by rw [hn]; simp
  have en' : wrap64 ((W : Int) * (H : Int)) = (n : Int) := by rw [en]; exact IntWalk.wrap64_in _ ⟨by omega, by omega⟩
  have RC := Lib.hid (fun w => checkRegion_any X Y W H w)
  rw [h0] at RC
  have WI := Lib.hid (fun w => within_any most 0 1048576 w)
  rw [withinB_iff.2 ⟨m0, m1⟩] at WI
  have PL := Lib.hid (fun k (hk : k < n) w => place_any X Y W H k w (by omega) (by omega) (by omega) (by omega) (by omega) (by omega) (by omega))
  have HA := Lib.hid (fun k w => hash_any seed (X + ((k % W : Nat) : Int)) (Y + ((k / W : Nat) : Int)) 2 w)
  have MK := make_int n hn2
  have q0 : ¬ (most + 1 = 0) := by omega
  have q1 : IntKind.i64.wrap (most + 1) = most + 1 := IntWalk.i64_in _ (by omega)
  have q2 : IntKind.u32.wrap (most + 1) = most + 1 := by rw [IntKind.wrap_u32]; omega
  have SC := Lib.hid (fun k => shw_cast (seed := seed) (X := X) (Y := Y) (W := W) (i := k) m0)
  clear h0 b1 b2 b3 b4 b5 b6 b7 b8 b9 hn
  go_enter Tryd.func61, Tryd.ntmps61
  go_wp2_with (first | (go_at_call 115; refine (RC.out _).mono ?_; rintro e w' ⟨rfl, rfl⟩) | (go_at_call 94; refine (WI.out _).mono ?_; rintro e w' ⟨rfl, rfl⟩))
  have ST := Lib.hid (show ShwAt w X Y W H (w.heap.size + 1 + 1) n (shwN seed most X Y W) 0 (((w.alloc (regObj X Y W H)).alloc (regObj X Y W H)).alloc (.cells (madeCells #[Value.int .i64 0] n) 3)) from
    ⟨_, by have q := made_ints ((w.alloc (regObj X Y W H)).alloc (regObj X Y W H)) n; simpa using q, fun i hi => by omega, by ((simp only [heap_alloc_get, heap_size_alloc, if_true]) <;> ((repeat' split) <;> first | rfl | omega)), (by repeat (first | exact Below.refl _ _ | refine Below.alloc ?_ (by first | omega | (simp; done) | (simp; omega)) _ | refine Below.setCell ?_ (by first | omega | (simp; done) | (simp; omega)) _ | refine Below.drew ?_))⟩)
  obtain ⟨rb, hrb⟩ : ∃ rb, rb = w.heap.size + 1 + 1 := ⟨_, rfl⟩
  have RB := Lib.hid (show w.heap.size < rb by omega)
  rw [← hrb] at ST ⊢
  clear hrb MK
  go_loopw [28] (fun s28 wr => ∃ k : Nat, k ≤ n ∧ s28 = .int .i64 k ∧ ShwAt w X Y W H rb n (shwN seed most X Y W) k wr) (fun s28 _ => n - (intOf s28).toNat)
  case atStart => exact ⟨0, Nat.zero_le _, rfl, ST.out⟩
  case round =>
    obtain ⟨k, hk, rfl, c, h1, h2, h3, h4⟩ := hrel
    by_cases hlt : k < n
    · obtain ⟨cR, fR, zR⟩ := blkC h3
      have PK := Lib.hid (PL.out k hlt)
      have k1 : (k : Int) < (n : Int) := by omega
      have H1 := Lib.hid h1
      have H2 := Lib.hid h2
      have H3 := Lib.hid h3
      have H4 := Lib.hid h4
      clear h1 h2 h3 h4
      go_wp2_with (first | (go_at_call 79; refine (PK.out _).mono ?_; rintro e w2 ⟨rfl, hb2⟩; have HB2 := Lib.hid hb2; obtain ⟨kc, kf, kz⟩ := (H1.out.congr (hb2.block _ H1.out.lt)).cell hlt; clear hb2 cR fR zR) | (go_at_call 116; refine (HA.out k _).mono ?_; rintro e w' ⟨rfl, rfl⟩))
      have zb := H1.out.lt
      have z2 := HB2.out.size
      have B2 : Below w.heap.size w w2 := H4.out.trans (HB2.out.mono H4.out.size)
      have rb0 := RB.out
      rw [shw_val m0 m1]
      go_roundw
      case rel =>
        refine ⟨k + 1, by omega, by go_num, updW c k (shwN seed most X Y W k), ?_, fun i hi => ?_, ?_, ?_⟩
        · exact ((H1.out.congr (HB2.out.block _ zb)).put _ hlt).congr (heap_alloc_old _ _ (by simp; omega))
        · by_cases e : i = k
          · subst e; rw [updW_same]
          · rw [updW_other c e]; exact H2.out i (by omega)
        · rw [heap_alloc_old _ _ (by simp; have := (blkC H3.out).2.2; omega)]
          exact (heap_setCell_other _ _ _ _ (by show w.heap.size ≠ rb; omega)).trans (blkStay H3.out HB2.out)
        · exact (B2.setCell (p := ⟨rb, k, none⟩) (by show w.heap.size ≤ rb; omega) _).alloc (by simp; have := B2.size; omega) _
      case measure => simp [intOf]; omega
    · have hkn : k = n := by omega
      subst hkn
      have H1 := Lib.hid (h1.as h2)
      have H4 := Lib.hid h4
      clear h1 h2 h3 h4
      go_wp2
      refine bodyPost_ret (v := .tuple #[.slice (some ⟨rb, 0, none⟩) k k, .int .i64 0]) (by simp [results, Tryd.results61, go_sem]) rfl ?_
      exact ⟨rb, rfl, H1.out, by have := RB.out; omega, H4.out⟩

/-- The error that the showers' law names. -/
def shwE (X Y W H most : Int) : Int := firstE (checkR X Y W H) (whenE (!withinB most 0 1048576) 3)
set_option maxHeartbeats 2000000 in
theorem shower_no (seed most X Y W H er : Int) (w : World) (he : shwE X Y W H most = er) (hz : er ≠ 0) :
    Calls Tryd.prog 61 #[reg X Y W H, .int .u32 seed, .int .i64 most] w fun e w' => e = .returned (.tuple #[.slice none 0 0, .int .i64 er]) ∧ Below w.heap.size w w' := by
  have RC := Lib.hid (fun w => checkRegion_any X Y W H w)
  have WI := Lib.hid (fun w => within_any most 0 1048576 w)
  unfold shwE firstE whenE at he
  by_cases h0 : checkR X Y W H = 0
  · rw [if_pos h0] at he
    cases hw : withinB most 0 1048576 with
    | true => rw [hw] at he; exact absurd he.symm hz
    | false =>
      rw [hw] at he WI
      rw [h0] at RC
      obtain rfl : er = 3 := he.symm
      clear he hz h0 hw
      go_enter Tryd.func61, Tryd.ntmps61
      go_wp2_with (first | (go_at_call 115; refine (RC.out _).mono ?_; rintro e w' ⟨rfl, rfl⟩) | (go_at_call 94; refine (WI.out _).mono ?_; rintro e w' ⟨rfl, rfl⟩))
      refine bodyPost_ret (v := .tuple #[.slice none 0 0, .int .i64 3]) (by simp [results, Tryd.results61, go_sem]) rfl ?_
      exact ⟨rfl, (by repeat (first | exact Below.refl _ _ | refine Below.alloc ?_ (by first | omega | (simp; done) | (simp; omega)) _ | refine Below.setCell ?_ (by first | omega | (simp; done) | (simp; omega)) _ | refine Below.drew ?_))⟩
  · rw [if_neg h0] at he
    rw [he] at RC
    clear he h0
    have h1 : (er != 0) = true := by simpa using hz
    clear hz
    go_enter Tryd.func61, Tryd.ntmps61
    go_wp2_with (first | (go_at_call 115; refine (RC.out _).mono ?_; rintro e w' ⟨rfl, rfl⟩))
    refine bodyPost_ret (v := .tuple #[.slice none 0 0, .int .i64 er]) (by simp [results, Tryd.results61, go_sem]) rfl ?_
    exact ⟨rfl, (by repeat (first | exact Below.refl _ _ | refine Below.alloc ?_ (by first | omega | (simp; done) | (simp; omega)) _ | refine Below.setCell ?_ (by first | omega | (simp; done) | (simp; omega)) _ | refine Below.drew ?_))⟩

set_option maxHeartbeats 1000000 in
theorem qPlace_any (X Y : Int) (W H i : Nat) (w : World) (hX1 : -4194304 ≤ X) (hX2 : X ≤ 4194304) (hY1 : -4194304 ≤ Y) (hY2 : Y ≤ 4194304) (hW1 : 1 ≤ W) (hW2 : W ≤ 512) (hi : i < 65536) :
    Calls Tryd.prog 38 #[reg X Y W H, .int .i64 i] w fun e w' => e = .returned (.tuple #[.int .i64 (X + ((i % W : Nat) : Int)), .int .i64 (Y + ((i / W : Nat) : Int))]) ∧ Below w.heap.size w w' := by
  obtain ⟨a, ha⟩ : ∃ a : Nat, a = i % W := ⟨_, rfl⟩
  obtain ⟨b, hb'⟩ : ∃ b : Nat, b = i / W := ⟨_, rfl⟩
  have b1 : (a : Int) < 512 := by have := Nat.mod_lt i (show 0 < W by omega); omega
  have b2 : (b : Int) < 65536 := by have := Nat.div_le_self i W; omega
  have t1 : (i : Int).tmod (W : Int) = (a : Int) := by rw [ha]; rw [Int.tmod_eq_emod_of_nonneg (by omega)]; simp
  have t2 : (i : Int).tdiv (W : Int) = (b : Int) := by rw [hb']; rw [Int.tdiv_eq_ediv_of_nonneg (by omega)]; simp
  have t3 : (i : Int) % (W : Int) = (a : Int) := by rw [ha]; simp
  have t4 : (i : Int) / (W : Int) = (b : Int) := by rw [hb']; simp
  have u1 : IntKind.i64.wrap (X + (a : Int)) = X + a := IntWalk.i64_in _ (by omega)
  have u2 : IntKind.i64.wrap (Y + (b : Int)) = Y + b := IntWalk.i64_in _ (by omega)
  have u3 : IntKind.i64.wrap (b : Int) = b := IntWalk.i64_in _ (by omega)
  have w0 : ¬ ((W : Int) = 0) := by omega
  have w0' : ¬ (W = 0) := by omega
  have t6 : i % W = a := ha.symm
  have t7 : i / W = b := hb'.symm
  have w1 : (1 : Int) ≤ (W : Int) := by omega
  have i0 : (0 : Int) ≤ (i : Int) := by omega
  rw [t6, t7]
  clear ha hb'
  go_enter Tryd.func38, Tryd.ntmps38
  go_wp2
  go_region
  all_goals go_wp2
  all_goals refine bodyPost_ret (v := .tuple #[.int .i64 (X + (a : Int)), .int .i64 (Y + (b : Int))]) (by simp [results, Tryd.results38, go_sem]) rfl ?_
  all_goals exact ⟨rfl, by repeat (first | exact Below.refl _ _ | refine Below.drew ?_ | refine Below.alloc ?_ (by simp; try omega) _ | refine Below.setCell ?_ (by simp; try omega) _)⟩
end Go.Proofs.YtacbemilicdklaaDoor

/- Contracts: the reference's Step, Has, Cell, Neighbour, Edge. -/
namespace Go.Proofs.YtacbemilicdklaaDoor
open Go.RowKit Fl
set_option linter.unusedVariables false

theorem ret_two {a b a' b' : Int} (h : a = a') (h' : b = b') : Ending.returned (.tuple #[.int .i64 a, .int .i64 b]) = .returned (.tuple #[.int .i64 a', .int .i64 b']) := by rw [h, h']

set_option maxHeartbeats 1000000 in
theorem qStep_any (d : Nat) (hd : d < 8) (w : World) :
    Calls Tryd.prog 126 #[.int .i64 d] w fun e w' => e = .returned (.tuple #[.int .i64 (dxI d), .int .i64 (dyI d)]) ∧ Below w.heap.size w w' := by
  have : d = 0 ∨ d = 1 ∨ d = 2 ∨ d = 3 ∨ d = 4 ∨ d = 5 ∨ d = 6 ∨ d = 7 := by omega
  rcases this with rfl | rfl | rfl | rfl | rfl | rfl | rfl | rfl
  all_goals
    clear hd
    go_enter Tryd.func126, Tryd.ntmps126
    go_wp2
    go_region
    all_goals go_wp2
    all_goals go_ret2
    all_goals exact ⟨ret_two (by decide) (by decide), (by repeat (first | exact Below.refl _ _ | refine Below.alloc ?_ (by first | omega | (simp; done) | (simp; omega)) _ | refine Below.setCell ?_ (by first | omega | (simp; done) | (simp; omega)) _ | refine Below.drew ?_))⟩

set_option maxHeartbeats 1000000 in
theorem qHas_any (X Y W H x y : Int) (w : World) (hX1 : -16777216 ≤ X) (hX2 : X ≤ 16777216) (hY1 : -16777216 ≤ Y) (hY2 : Y ≤ 16777216) (hW1 : 0 ≤ W) (hW2 : W ≤ 512) (hH1 : 0 ≤ H) (hH2 : H ≤ 512) :
    Calls Tryd.prog 87 #[reg X Y W H, .int .i64 x, .int .i64 y] w fun e w' => e = .returned (.bool (hasB X Y W H x y)) ∧ Below w.heap.size w w' := by
  have HB := Lib.hid (show hasB X Y W H x y = (decide (X ≤ x ∧ x ≤ X + W - 1) && decide (Y ≤ y ∧ y ≤ Y + H - 1)) by
    unfold hasB; rw [Bool.eq_iff_iff]; simp [withinB_iff])
  go_enter Tryd.func87, Tryd.ntmps87
  go_wp2
  all_goals go_ret
  all_goals exact ⟨ret_bool (by rw [HB.out, Bool.eq_iff_iff]; simp; omega), (by repeat (first | exact Below.refl _ _ | refine Below.alloc ?_ (by first | omega | (simp; done) | (simp; omega)) _ | refine Below.setCell ?_ (by first | omega | (simp; done) | (simp; omega)) _ | refine Below.drew ?_))⟩

set_option maxHeartbeats 1000000 in
theorem qCell_any (X Y W H x y : Int) (w : World) (hX1 : -16777216 ≤ X) (hX2 : X ≤ 16777216) (hY1 : -16777216 ≤ Y) (hY2 : Y ≤ 16777216) (hW1 : 0 ≤ W) (hW2 : W ≤ 512)
    (h1 : -16777216 ≤ x) (h2 : x ≤ 16777216) (h3 : -16777216 ≤ y) (h4 : y ≤ 16777216) :
    Calls Tryd.prog 88 #[reg X Y W H, .int .i64 x, .int .i64 y] w fun e w' => e = .returned (.int .i64 ((y - Y) * W + (x - X))) ∧ Below w.heap.size w w' := by
  have q1 : (y - Y) * W ≤ 33554432 * W := Int.mul_le_mul_of_nonneg_right (by omega) hW1
  have q2 : (-33554432) * W ≤ (y - Y) * W := Int.mul_le_mul_of_nonneg_right (by omega) hW1
  have e2 : wrap64 ((y - Y) * W) = (y - Y) * W := IntWalk.wrap64_in _ ⟨by omega, by omega⟩
  have e3 : wrap64 ((y - Y) * W + x) = (y - Y) * W + x := IntWalk.wrap64_in _ ⟨by omega, by omega⟩
  have e4 : wrap64 ((y - Y) * W + x - X) = (y - Y) * W + (x - X) := by rw [IntWalk.wrap64_in _ ⟨by omega, by omega⟩]; omega
  clear q1 q2
  go_enter Tryd.func88, Tryd.ntmps88
  go_wp2
  go_ret
  exact ⟨ret_int e4, (by repeat (first | exact Below.refl _ _ | refine Below.alloc ?_ (by first | omega | (simp; done) | (simp; omega)) _ | refine Below.setCell ?_ (by first | omega | (simp; done) | (simp; omega)) _ | refine Below.drew ?_))⟩

/-- The number of a neighbour, -1 where there is none. -/
def nbZ (W H k d : Nat) : Int := match nbI W H k d with | some m => (m : Int) | none => -1
theorem nbZ_some {W H k d m : Nat} (h : nbI W H k d = some m) : nbZ W H k d = (m : Int) := by unfold nbZ; rw [h]
theorem nbZ_none {W H k d : Nat} (h : nbI W H k d = none) : nbZ W H k d = -1 := by unfold nbZ; rw [h]

set_option maxRecDepth 100000 in
set_option maxHeartbeats 2000000 in
theorem qNeighbour_any (X Y : Int) (W H k d : Nat) (w : World) (hX1 : -4194304 ≤ X) (hX2 : X ≤ 4194304) (hY1 : -4194304 ≤ Y) (hY2 : Y ≤ 4194304) (hW1 : 1 ≤ W) (hW2 : W ≤ 512) (hH2 : H ≤ 512) (hk : k < W * H) (hk2 : k < 65536) (hd : d < 8) :
    Calls Tryd.prog 72 #[reg X Y W H, .int .i64 k, .int .i64 d] w fun e w' => e = .returned (.int .i64 (nbZ W H k d)) ∧ Below w.heap.size w w' := by
  have PL := Lib.hid (fun w => qPlace_any X Y W H k w (by omega) (by omega) (by omega) (by omega) (by omega) (by omega) (by omega))
  have ST := Lib.hid (fun w => qStep_any d hd w)
  obtain ⟨a1, a2⟩ := dx_in d
  obtain ⟨b1, b2⟩ := dy_in d
  obtain ⟨m0, m1, m2, m3⟩ := cell_parts hk
  clear m0 m3
  obtain ⟨p, hp⟩ : ∃ p, p = k % W := ⟨_, rfl⟩
  obtain ⟨q, hq⟩ : ∃ q, q = k / W := ⟨_, rfl⟩
  have HS := Lib.hid (fun w => qHas_any X Y W H (X + ((p : Nat) : Int) + dxI d) (Y + ((q : Nat) : Int) + dyI d) w (by omega) (by omega) (by omega) (by omega) (by omega) (by omega) (by omega) (by omega))
  have CE := Lib.hid (fun w => qCell_any X Y W H (X + ((p : Nat) : Int) + dxI d) (Y + ((q : Nat) : Int) + dyI d) w (by omega) (by omega) (by omega) (by omega) (by omega) (by omega) (by omega) (by omega) (by omega) (by omega))
  have u1 : wrap64 (X + ((p : Nat) : Int) + dxI d) = X + ((p : Nat) : Int) + dxI d := IntWalk.wrap64_in _ ⟨by omega, by omega⟩
  have u2 : wrap64 (Y + ((q : Nat) : Int) + dyI d) = Y + ((q : Nat) : Int) + dyI d := IntWalk.wrap64_in _ ⟨by omega, by omega⟩
  rw [← hp, ← hq] at PL
  cases hn : nbI W H k d with
  | none =>
    have e := bes_none (X := X) (Y := Y) hn
    rw [← hp, ← hq] at e
    rw [e] at HS
    rw [nbZ_none hn]
    clear hn hp hq e a1 a2 b1 b2 m1 m2 CE hk hd hk2 hX1 hX2 hY1 hY2 hW1 hW2 hH2
    generalize dxI d = dx at *
    generalize dyI d = dy at *
    go_enter Tryd.func72, Tryd.ntmps72
    go_wp2_with (first | (go_at_call 38; refine (PL.out _).mono ?_; rintro e w2 ⟨rfl, hb2⟩; have HR2 := Lib.hid (blkStay (b := w.heap.size) (o := regObj X Y W H) (by ((simp only [heap_alloc_get, if_true]) <;> ((repeat' split) <;> first | rfl | omega))) hb2); obtain ⟨cR, fR, zR⟩ := blkC HR2.out; have hB2 : Below w.heap.size w w2 := Below.trans (by repeat (first | exact Below.refl _ _ | refine Below.alloc ?_ (by first | omega | (simp; done) | (simp; omega)) _ | refine Below.setCell ?_ (by first | omega | (simp; done) | (simp; omega)) _ | refine Below.drew ?_)) (Below.mono hb2 (by first | omega | (simp; done) | (simp; omega))); clear hb2) | (go_at_call 126; refine (ST.out _).mono ?_; rintro e w3 ⟨rfl, hb3⟩; clear cR fR zR; have HR3 := Lib.hid (blkStay HR2.out hb3); obtain ⟨cR, fR, zR⟩ := blkC HR3.out; have hB3 := hB2.trans (hb3.mono hB2.size); clear hb3) | (go_at_call 87; refine (HS.out _).mono ?_; rintro e w4 ⟨rfl, hb4⟩; clear cR fR zR; have HR4 := Lib.hid (blkStay HR3.out hb4); obtain ⟨cR, fR, zR⟩ := blkC HR4.out; have hB4 := hB3.trans (hb4.mono hB3.size); clear hb4))
    go_ret
    exact ⟨rfl, hB4⟩
  | some m =>
    obtain ⟨e1, e⟩ := bes_some (X := X) (Y := Y) hk hn
    rw [← hp, ← hq] at e e1
    rw [e] at HS
    rw [e1] at CE
    rw [nbZ_some hn]
    clear hn hp hq e e1 a1 a2 b1 b2 m1 m2 hk hd hk2 hX1 hX2 hY1 hY2 hW1 hW2 hH2
    generalize dxI d = dx at *
    generalize dyI d = dy at *
    go_enter Tryd.func72, Tryd.ntmps72
    go_wp2_with (first | (go_at_call 38; refine (PL.out _).mono ?_; rintro e w2 ⟨rfl, hb2⟩; have HR2 := Lib.hid (blkStay (b := w.heap.size) (o := regObj X Y W H) (by ((simp only [heap_alloc_get, if_true]) <;> ((repeat' split) <;> first | rfl | omega))) hb2); obtain ⟨cR, fR, zR⟩ := blkC HR2.out; have hB2 : Below w.heap.size w w2 := Below.trans (by repeat (first | exact Below.refl _ _ | refine Below.alloc ?_ (by first | omega | (simp; done) | (simp; omega)) _ | refine Below.setCell ?_ (by first | omega | (simp; done) | (simp; omega)) _ | refine Below.drew ?_)) (Below.mono hb2 (by first | omega | (simp; done) | (simp; omega))); clear hb2) | (go_at_call 126; refine (ST.out _).mono ?_; rintro e w3 ⟨rfl, hb3⟩; clear cR fR zR; have HR3 := Lib.hid (blkStay HR2.out hb3); obtain ⟨cR, fR, zR⟩ := blkC HR3.out; have hB3 := hB2.trans (hb3.mono hB2.size); clear hb3) | (go_at_call 87; refine (HS.out _).mono ?_; rintro e w4 ⟨rfl, hb4⟩; clear cR fR zR; have HR4 := Lib.hid (blkStay HR3.out hb4); obtain ⟨cR, fR, zR⟩ := blkC HR4.out; have hB4 := hB3.trans (hb4.mono hB3.size); clear hb4) | (go_at_call 88; refine (CE.out _).mono ?_; rintro e w5 ⟨rfl, hb5⟩; have hB5 := hB4.trans (hb5.mono hB4.size); clear hb5))
    go_ret
    exact ⟨rfl, hB5⟩

theorem bd_some {W H k : Nat} (hk : k < W * H) (hb : bdB W H k = true) : ∃ d, d < 8 ∧ nbI W H k d = none := by
  have c := bdB_iff.1 hb
  obtain ⟨_, a, b, _⟩ := cell_parts hk
  have no : ∀ d, (((k % W : Nat) : Int) + dxI d < 0 ∨ (W : Int) ≤ ((k % W : Nat) : Int) + dxI d ∨ ((k / W : Nat) : Int) + dyI d < 0 ∨ (H : Int) ≤ ((k / W : Nat) : Int) + dyI d) → nbI W H k d = none := fun d h => by
    unfold nbI; rw [if_neg (by omega)]
  rcases c with c | c | c | c
  · exact ⟨4, by omega, no 4 (by have : dxI 4 = -1 := rfl; omega)⟩
  · exact ⟨6, by omega, no 6 (by have : dyI 6 = -1 := rfl; omega)⟩
  · exact ⟨0, by omega, no 0 (by have : dxI 0 = 1 := rfl; omega)⟩
  · exact ⟨2, by omega, no 2 (by have : dyI 2 = 1 := rfl; omega)⟩

set_option maxHeartbeats 2000000 in
theorem qEdge_any (X Y : Int) (W H k : Nat) (w : World) (hX1 : -4194304 ≤ X) (hX2 : X ≤ 4194304) (hY1 : -4194304 ≤ Y) (hY2 : Y ≤ 4194304) (hW1 : 1 ≤ W) (hW2 : W ≤ 512) (hH2 : H ≤ 512) (hk : k < W * H) (hn : k < 65536) :
    Calls Tryd.prog 71 #[reg X Y W H, .int .i64 k] w fun e w' => e = .returned (.bool (bdB W H k)) ∧ Below w.heap.size w w' := by
  have NE := Lib.hid (fun d (hd : d < 8) w => qNeighbour_any X Y W H k d w hX1 hX2 hY1 hY2 hW1 hW2 hH2 hk hn hd)
  have IN := Lib.hid (show bdB W H k = false → ∀ d, ∃ m, nbI W H k d = some m from fun h d => nbI_inner hk h)
  have SO := Lib.hid (show bdB W H k = true → ∃ d, d < 8 ∧ nbI W H k d = none from bd_some hk)
  generalize bdB W H k = q at *
  clear hX1 hX2 hY1 hY2 hW1 hW2 hH2 hk hn
  go_enter Tryd.func71, Tryd.ntmps71
  go_wp2
  go_loopw [6] (fun i wr => ∃ d : Nat, d ≤ 8 ∧ i = .int .i64 d ∧ (∀ j, j < d → ∃ m, nbI W H k j = some m) ∧ wr.heap[w.heap.size]? = some (regObj X Y W H) ∧ Below w.heap.size w wr) (fun i _ => 8 - (intOf i).toNat)
  case atStart => exact ⟨0, Nat.zero_le _, rfl, fun j hj => by omega, by ((simp only [heap_alloc_get, if_true]) <;> ((repeat' split) <;> first | rfl | omega)), (by repeat (first | exact Below.refl _ _ | refine Below.alloc ?_ (by first | omega | (simp; done) | (simp; omega)) _ | refine Below.setCell ?_ (by first | omega | (simp; done) | (simp; omega)) _ | refine Below.drew ?_))⟩
  case round =>
    obtain ⟨d, hd, rfl, hall, hr, hb⟩ := hrel
    have HA := Lib.hid hall
    have HB := Lib.hid hb
    have HR := Lib.hid hr
    obtain ⟨cR, fR, zR⟩ := blkC HR.out
    clear hall hb hr
    by_cases hlt : d < 8
    · have NK := Lib.hid (NE.out d hlt)
      cases hnb : nbI W H k d with
      | none =>
        rw [nbZ_none hnb] at NK
        have HQ := Lib.hid (show q = true by
          cases q with
          | true => rfl
          | false => obtain ⟨m, hm⟩ := IN.out rfl d; rw [hnb] at hm; cases hm)
        clear hnb
        go_wp2_with (go_at_call 72; refine (NK.out _).mono ?_; rintro e w2 ⟨rfl, hb2⟩; have HB2 := Lib.hid (HB.out.trans (hb2.mono HB.out.size)); have HR2 := Lib.hid (blkStay HR.out hb2); clear hb2 cR fR zR)
        go_ret
        exact ⟨ret_bool HQ.out.symm, HB2.out⟩
      | some m =>
        rw [nbZ_some hnb] at NK
        have HQ := Lib.hid (show ∀ j, j < d + 1 → ∃ m, nbI W H k j = some m from fun j hj => by
          rcases Nat.lt_or_ge j d with c | c
          · exact HA.out j c
          · exact ⟨m, by rw [show j = d by omega]; exact hnb⟩)
        have m0 : ¬ ((m : Int) < 0) := by omega
        clear hnb
        go_wp2_with (go_at_call 72; refine (NK.out _).mono ?_; rintro e w2 ⟨rfl, hb2⟩; have HB2 := Lib.hid (HB.out.trans (hb2.mono HB.out.size)); have HR2 := Lib.hid (blkStay HR.out hb2); clear hb2 cR fR zR)
        go_roundw
        case rel => exact ⟨d + 1, by omega, by go_num, HQ.out, HR2.out, HB2.out⟩
        case measure => simp [intOf]; omega
    · go_wp2
      go_ret
      have : d = 8 := by omega
      subst this
      refine ⟨ret_bool ?_, HB.out⟩
      cases q with
      | false => rfl
      | true => obtain ⟨d, h8, h⟩ := SO.out rfl; obtain ⟨m, hm⟩ := HA.out d h8; rw [h] at hm; cases hm
end Go.Proofs.YtacbemilicdklaaDoor

/- Contract: the reference's FilledOf: the same values as the program's spills. -/
namespace Go.Proofs.YtacbemilicdklaaDoor
open Go.RowKit Fl Go.Shelf
set_option linter.unusedVariables false

/-- A block of singles. -/
def SingAt (w : World) (b n : Nat) (c : Nat → Nat) : Prop := ∃ cs : Array Value, w.heap[b]? = some (.cells cs 27 (0, 0)) ∧ cs.size = n ∧ ∀ i, i < n → cs[i]? = some (.float .f32 (c i))
theorem SingAt.congr {w w' : World} {b n : Nat} {c : Nat → Nat} (h : SingAt w b n c) (e : w'.heap[b]? = w.heap[b]?) : SingAt w' b n c := by
  obtain ⟨cs, h1, h2⟩ := h
  exact ⟨cs, e.trans h1, h2⟩
theorem SingAt.cell {w : World} {b n : Nat} {c : Nat → Nat} (h : SingAt w b n c) {i : Nat} (hi : i < n) : w.cell? ⟨b, i, none⟩ = some (.float .f32 (c i)) ∧ w.frozen? ⟨b, i, none⟩ = false ∧ b < w.heap.size := by
  obtain ⟨cs, h1, h2, h3⟩ := h
  obtain ⟨c, f, z⟩ := blkC h1
  exact ⟨(c i).trans (h3 i hi), f i, z⟩
theorem SingAt.put {w : World} {b n : Nat} {c : Nat → Nat} (h : SingAt w b n c) {k : Nat} (x : Nat) (hk : k < n) : SingAt (w.setCell ⟨b, k, none⟩ (.float .f32 x)) b n (updW c k x) := by
  obtain ⟨cs, h1, h2, h3⟩ := h
  refine ⟨_, heap_setCell_same w b k _ _ _ h1, by simpa using h2, fun i hi => ?_⟩
  rw [Array.getElem?_setIfInBounds]
  by_cases e : k = i
  · subst e; rw [if_pos rfl, if_pos (by omega), updW_same]
  · rw [if_neg e, updW_other c (by omega)]; exact h3 i hi
theorem SingAt.lt {w : World} {b n : Nat} {c : Nat → Nat} (h : SingAt w b n c) : b < w.heap.size := by
  obtain ⟨cs, h1, _⟩ := h
  exact (blkC h1).2.2
theorem SingAt.fl {w : World} {b n : Nat} {c : Nat → Nat} (h : SingAt w b n c) : FlAt w b 0 n c := fun i hi => by rw [Nat.zero_add]; exact (h.cell hi).1
theorem made_sing (w : World) (n : Nat) : SingAt (w.alloc (.cells (madeCells #[Value.float .f32 0] n) 27)) w.heap.size n (fun _ => 0) :=
  ⟨_, heap_alloc_new _ _, by simp [madeCells], fun i hi => by simp [madeCells, hi, Nat.mod_one]⟩

/-- What FilledOf holds: the box of the field, the spills so far, which are known. -/
structure FOAt (w0 w : World) (X Y : Int) (W H n b off cap : Nat) (cur : Nat → Nat) (K : Nat → Bool) : Prop where
  fld : w.heap[w0.heap.size]? = some (fldO X Y W H (.slice (some ⟨b, off, none⟩) n cap))
  sp : SingAt w (w0.heap.size + 1) n cur
  kn : BoolsAt w (w0.heap.size + 1 + 1) n K
  bel : Below w0.heap.size w0 w
theorem FOAt.below {w0 w w' : World} {X Y : Int} {W H n b off cap : Nat} {cur : Nat → Nat} {K : Nat → Bool} (h : FOAt w0 w X Y W H n b off cap cur K) (hB : Below w.heap.size w w') : FOAt w0 w' X Y W H n b off cap cur K :=
  ⟨blkStay h.fld hB, h.sp.congr (hB.block _ h.sp.lt), h.kn.congr (hB.block _ h.kn.lt), h.bel.trans (hB.mono h.bel.size)⟩
/-- A spill is written, and the cell is known. -/
theorem FOAt.put {w0 w : World} {X Y : Int} {W H n b off cap : Nat} {cur : Nat → Nat} {K : Nat → Bool} (h : FOAt w0 w X Y W H n b off cap cur K) {k : Nat} (x : Nat) (hk : k < n) :
    FOAt w0 ((w.setCell ⟨w0.heap.size + 1, k, none⟩ (.float .f32 x)).setCell ⟨w0.heap.size + 1 + 1, k, none⟩ (.bool true)) X Y W H n b off cap (updW cur k x) (updB K k) := by
  have e1 : ∀ (w : World) (p q : Nat) (x : Value), p ≠ q → (w.setCell ⟨q, k, none⟩ x).heap[p]? = w.heap[p]? := fun w p q x hq => heap_setCell_other _ _ p _ hq
  refine ⟨?_, ?_, ?_, ?_⟩
  · rw [e1 _ _ _ _ (by omega), e1 _ _ _ _ (by omega)]; exact h.fld
  · exact (h.sp.put x hk).congr (e1 _ _ _ _ (by omega))
  · exact (h.kn.congr (e1 _ _ _ _ (by omega))).put hk
  · exact (h.bel.setCell (by show w0.heap.size ≤ w0.heap.size + 1; omega) _).setCell (by show w0.heap.size ≤ w0.heap.size + 1 + 1; omega) _

/-- What FilledOf answers: values that are those of the spills s. -/
def BelPost (n : Nat) (s : Nat → Nat) (w : World) (e : Ending) (w' : World) : Prop :=
  ∃ sb c, e = .returned (.slice (some ⟨sb, 0, none⟩) n n) ∧ w.heap.size ≤ sb ∧ sb < w'.heap.size ∧ FlAt w' sb 0 n c ∧ (∀ k, k < n → OkW 65536 (c k) ∧ vI (c k) = vI (s k)) ∧ Below w.heap.size w w'

/-- The first loop: the border's cells below k are known. -/
def BL1 (W H : Nat) (v : Nat → Nat) (k : Nat) (cur : Nat → Nat) (K : Nat → Bool) : Prop := (∀ i, K i = (decide (i < k) && bdB W H i)) ∧ ∀ i, i < k → bdB W H i = true → cur i = v i
theorem BL1.skip {W H : Nat} {v : Nat → Nat} {k : Nat} {cur : Nat → Nat} {K : Nat → Bool} (h : BL1 W H v k cur K) (hb : bdB W H k = false) : BL1 W H v (k + 1) cur K := by
  refine ⟨fun i => ?_, fun i hi hbi => h.2 i ?_ hbi⟩
  · rw [h.1 i]
    by_cases e : i = k
    · subst e; rw [hb]; simp
    · have : decide (i < k) = decide (i < k + 1) := by simp; omega
      rw [this]
  · rcases Nat.lt_or_ge i k with c | c
    · exact c
    · rw [show i = k by omega, hb] at hbi; cases hbi
theorem BL1.take {W H : Nat} {v : Nat → Nat} {k : Nat} {cur : Nat → Nat} {K : Nat → Bool} (h : BL1 W H v k cur K) (hb : bdB W H k = true) : BL1 W H v (k + 1) (updW cur k (v k)) (updB K k) := by
  refine ⟨fun i => ?_, fun i hi hbi => ?_⟩
  · by_cases e : i = k
    · subst e; rw [updB_same, hb]; simp
    · rw [updB_other K e, h.1 i]
      have : decide (i < k) = decide (i < k + 1) := by simp; omega
      rw [this]
  · by_cases e : i = k
    · subst e; rw [updW_same]
    · rw [updW_other cur e]; exact h.2 i (by omega) hbi

/-- At the head of the rounds. -/
def BL2 (w0 : World) (X Y : Int) (W H n b off cap : Nat) (g : Gnd) (s : Nat → Nat) (N : Nat) (s9 : Value) (wr : World) : Prop :=
  ∃ (ag : Bool) (cur : Nat → Nat) (K : Nat → Bool) (t : Nat), s9 = .bool ag ∧ FOAt w0 wr X Y W H n b off cap cur K ∧ Bel g s cur K t ∧ N = 2 * mu n K cur + ag.toNat ∧ (ag = false → ∀ k, k < n → g.bd k = false → ∀ d, d < 8 → StabD g cur K k d)
/-- Within a round: the cells below k, and of the cell k the directions below d, have been looked at. -/
structure BIn (w0 wr : World) (X Y : Int) (W H n b off cap : Nat) (g : Gnd) (s : Nat → Nat) (M k d : Nat) (ag : Bool) (cur : Nat → Nat) (K : Nat → Bool) (t : Nat) : Prop where
  fo : FOAt w0 wr X Y W H n b off cap cur K
  bel : Bel g s cur K t
  le : mu n K cur ≤ M
  lt : ag = true → mu n K cur < M
  st : ag = false → ∀ k', k' < k → g.bd k' = false → ∀ d, d < 8 → StabD g cur K k' d
  sd : ag = false → ∀ d', d' < d → StabD g cur K k d'
def BL3 (w0 : World) (X Y : Int) (W H n b off cap : Nat) (g : Gnd) (s : Nat → Nat) (M k d : Nat) (s9 : Value) (wr : World) : Prop := ∃ ag cur K t, s9 = .bool ag ∧ BIn w0 wr X Y W H n b off cap g s M k d ag cur K t

theorem BIn.below {w0 wr w2 : World} {X Y : Int} {W H n b off cap : Nat} {g : Gnd} {s : Nat → Nat} {M k d : Nat} {ag : Bool} {cur : Nat → Nat} {K : Nat → Bool} {t : Nat} (h : BIn w0 wr X Y W H n b off cap g s M k d ag cur K t) (hB : Below wr.heap.size wr w2) : BIn w0 w2 X Y W H n b off cap g s M k d ag cur K t :=
  ⟨h.fo.below hB, h.bel, h.le, h.lt, h.st, h.sd⟩
theorem BIn.still {w0 wr : World} {X Y : Int} {W H n b off cap : Nat} {g : Gnd} {s : Nat → Nat} {M k d : Nat} {ag : Bool} {cur : Nat → Nat} {K : Nat → Bool} {t : Nat} (h : BIn w0 wr X Y W H n b off cap g s M k d ag cur K t) (hs : StabD g cur K k d) : BIn w0 wr X Y W H n b off cap g s M k (d + 1) ag cur K t :=
  ⟨h.fo, h.bel, h.le, h.lt, h.st, fun a d' hd => by rcases Nat.lt_or_ge d' d with c | c; exact h.sd a d' c; rw [show d' = d by omega]; exact hs⟩
theorem BIn.next {w0 wr : World} {X Y : Int} {W H n b off cap : Nat} {g : Gnd} {s : Nat → Nat} {M k d : Nat} {ag : Bool} {cur : Nat → Nat} {K : Nat → Bool} {t : Nat} (h : BIn w0 wr X Y W H n b off cap g s M k d ag cur K t) (hd : g.bd k = true ∨ d = 8) : BIn w0 wr X Y W H n b off cap g s M (k + 1) 0 ag cur K t :=
  ⟨h.fo, h.bel, h.le, h.lt, fun a k' hk hb e he => by
    rcases Nat.lt_or_ge k' k with c | c
    · exact h.st a k' c hb e he
    · have : k' = k := by omega
      subst this
      rcases hd with q | q
      · rw [hb] at q; cases q
      · exact h.sd a e (by omega), fun _ d' hd => by omega⟩
theorem BIn.falls {w0 wr : World} {X Y : Int} {W H n b off cap : Nat} {g : Gnd} {s : Nat → Nat} {M k d m : Nat} {ag : Bool} {cur : Nat → Nat} {K : Nat → Bool} {t : Nat} (G : GndOk g) (S : Spills g s) (hn : g.n = n) (h : BIn w0 wr X Y W H n b off cap g s M k d ag cur K t) (hk : k < n) (hb : g.bd k = false) (hd : d < 8) (hm : g.nb k d = some m) (hK : K m = true)
    (hu : K k = false ∨ vI (stepR g.sl (cur m) (g.h k)) < vI (cur k)) : ∃ t', BIn w0 ((wr.setCell ⟨w0.heap.size + 1, k, none⟩ (.float .f32 (stepR g.sl (cur m) (g.h k)))).setCell ⟨w0.heap.size + 1 + 1, k, none⟩ (.bool true)) X Y W H n b off cap g s M k (d + 1) true (updW cur k (stepR g.sl (cur m) (g.h k))) (updB K k) t' := by
  subst hn
  obtain ⟨t', B', hmu⟩ := h.bel.upd G S hk hb hd hm hK hu
  have := h.le
  exact ⟨t', ⟨h.fo.put _ hk, B', by omega, fun _ => by omega, fun c => (by cases c), fun c => (by cases c)⟩⟩
end Go.Proofs.YtacbemilicdklaaDoor

/- Contract: the reference's FilledOf, walked. -/
namespace Go.Proofs.YtacbemilicdklaaDoor
open Go.RowKit Fl Go.Shelf
set_option linter.unusedVariables false

set_option maxRecDepth 100000 in
set_option maxHeartbeats 4000000 in
theorem filledOf_any (X Y : Int) (W H n b off cap : Nat) (v : Nat → Nat) (sl : Nat) (s : Nat → Nat) (w : World) (h0 : checkR X Y W H = 0) (hn : n = W * H) (hc : FlAt w b off n v) (hh : allB n (fun i => hgtB (v i)) = true) (hs : SlW sl) (S : Spills (gndOf W H v sl) s) :
    Calls Tryd.prog 23 #[fldV X Y W H (.slice (some ⟨b, off, none⟩) n cap), .float .f32 sl] w (BelPost n s w) := by
  obtain ⟨b1, b2, b3, b4, b5, b6, b7, b8, b9⟩ := checkR_zero h0
  have hn2 : n ≤ 65536 := by
    have : ((W : Int) * (H : Int)) = (n : Int) := by rw [hn]; simp
    omega
  have hn1 : 1 ≤ n := by rw [hn]; exact Nat.mul_pos (by omega) (by omega)
  have zb : b < w.heap.size := World.block_lt_of_cell? w _ (hc 0 hn1)
  have G0 : GndOk (gndOf W H v sl) := gnd_ok (W := W) (H := H) (v := v) (sl := sl) (by omega) (by omega) (fun k hk => allB_iff.1 hh k (by omega)) hs
  have G := Lib.hid G0
  have SS := Lib.hid S
  have ED := Lib.hid (fun k (hk : k < n) w => qEdge_any X Y W H k w (by omega) (by omega) (by omega) (by omega) (by omega) (by omega) (by omega) (by omega) (by omega))
  have NE := Lib.hid (fun k (hk : k < n) d (hd : d < 8) w => qNeighbour_any X Y W H k d w (by omega) (by omega) (by omega) (by omega) (by omega) (by omega) (by omega) (by omega) (by omega) hd)
  have IN := Lib.hid (fun k (hk : k < n) (hb : bdB W H k = false) d => nbI_inner (d := d) (show k < W * H by omega) hb)
  have mk1 := make_f32 n hn2
  have mk2 := make_bool n hn2
  have HC := Lib.hid (fun W' (hB : Below w.heap.size w W') => flAt_congr hc (hB.block _ zb))
  have HN := Lib.hid hn
  have HSL := Lib.hid hs
  have HH := Lib.hid hh
  have hsf := fun (w : World) (a : Addr) (m : Mode) (k : FloatKind) (b : Nat) => run_store_float (P := Tryd.prog) (w := w) (a := a) (m := m) k b
  clear h0 hn hc hh hs S G0 b1 b2 b3 b4 b5 b6 b7 b8 b9 zb
  go_enter Tryd.func23, Tryd.ntmps23
  go_wp2
  have ST := Lib.hid (show FOAt w (((w.alloc (fldO X Y W H (.slice (some ⟨b, off, none⟩) n cap))).alloc (.cells (madeCells #[Value.float .f32 0] n) 27)).alloc (.cells (madeCells #[Value.bool false] n) 4)) X Y W H n b off cap (fun _ => 0) (fun _ => false) from
    ⟨by (first | (rw [heap_alloc_get, if_pos rfl]; done) | ((simp only [heap_alloc_get, heap_size_alloc, if_true]) <;> ((repeat' split) <;> first | rfl | omega))), ⟨_, by (first | (rw [heap_alloc_get, if_pos rfl]; done) | ((simp only [heap_alloc_get, heap_size_alloc, if_true]) <;> ((repeat' split) <;> first | rfl | omega))), by simp [madeCells], fun i hi => by simp [madeCells, hi, Nat.mod_one]⟩, ⟨_, by (first | (rw [heap_alloc_get, if_pos rfl]; done) | ((simp only [heap_alloc_get, heap_size_alloc, if_true]) <;> ((repeat' split) <;> first | rfl | omega))), by simp [madeCells], fun i hi => by simp [madeCells, hi, Nat.mod_one]⟩, (by repeat (first | exact Below.refl _ _ | refine Below.alloc ?_ (by first | omega | (simp; done) | (simp; omega)) _ | refine Below.setCell ?_ (by first | omega | (simp; done) | (simp; omega)) _ | refine Below.drew ?_))⟩)
  clear mk1 mk2
  go_loopw [26] (fun s26 wr => ∃ (k : Nat) (cur : Nat → Nat) (K : Nat → Bool), k ≤ n ∧ s26 = .int .i64 k ∧ FOAt w wr X Y W H n b off cap cur K ∧ BL1 W H v k cur K) (fun s26 _ => n - (intOf s26).toNat)
  case atStart => exact ⟨0, _, _, Nat.zero_le _, rfl, ST.out, fun i => by simp, fun i hi => by omega⟩
  case round =>
    obtain ⟨k, cur, K, hk, rfl, hfo, hl1⟩ := hrel
    have FO := Lib.hid hfo
    have L1 := Lib.hid hl1
    obtain ⟨cF, fF, zF⟩ := blkC hfo.fld
    clear hfo hl1
    by_cases hlt : k < n
    · have EK := Lib.hid (ED.out k hlt)
      have cv := HC.out _ FO.out.bel k hlt
      have k1 : (k : Int) < (n : Int) := by omega
      cases hb : bdB W H k with
      | false =>
        rw [hb] at EK
        have SK := Lib.hid (L1.out.skip hb)
        clear hb
        go_wp2_with (go_at_call 71; refine (EK.out _).mono ?_; rintro e w2 ⟨rfl, hb2⟩; have HB2 := Lib.hid hb2; clear hb2 cF fF zF cv)
        go_roundw
        case rel => exact ⟨k + 1, _, _, by omega, by go_num, FO.out.below HB2.out, SK.out⟩
        case measure => simp [intOf]; omega
      | true =>
        rw [hb] at EK
        have SK := Lib.hid (L1.out.take hb)
        clear hb
        go_wp2_with (go_at_call 71; refine (EK.out _).mono ?_; rintro e w2 ⟨rfl, hb2⟩; have F2 := Lib.hid (FO.out.below hb2); clear hb2 cF fF zF cv; obtain ⟨c1, f1, z1⟩ := F2.out.sp.cell hlt; have y1 := (F2.out.kn.cell hlt).1; have y2 := (F2.out.kn.cell hlt).2.1; have y3 := (F2.out.kn.cell hlt).2.2)
        go_roundw
        case rel => exact ⟨k + 1, _, _, by omega, by go_num, F2.out.put (v k) hlt, SK.out⟩
        case measure => simp [intOf]; omega
    · have hkn : k = n := by omega
      subst hkn
      have gr : (gndOf W H v sl).n = k := HN.out.symm
      have BS := Lib.hid (bel_start (w := cur) (K := K) G.out SS.out (fun i hi => by rw [L1.out.1 i, show decide (i < k) = true by rw [gr] at hi; simpa using hi]; rfl) (fun i hi hb => L1.out.2 i (by omega) hb))
      have GR := Lib.hid gr
      clear gr cF fF zF hlt
      go_wp2
      go_loopg [9] (2 * mu k K cur + 1) (fun N s9 wr => BL2 w X Y W H k b off cap (gndOf W H v sl) s N s9 wr)
      case atStart => exact ⟨true, cur, K, 0, rfl, FO.out, BS.out, rfl, fun h => by cases h⟩
      case round =>
        obtain ⟨ag, cu, Kn, t, rfl, hfo, hbel, hN, hst⟩ := hrel
        have FO3 := Lib.hid hfo
        have BE3 := Lib.hid hbel
        have HN3 := Lib.hid hN
        have ST3 := Lib.hid hst
        obtain ⟨cF, fF, zF⟩ := blkC hfo.fld
        clear hfo hbel hN hst
        cases ag with
        | false =>
          have DO := Lib.hid (BE3.out.done G.out SS.out (fun i hi => ST3.out rfl i (by rw [← GR.out]; exact hi)))
          go_wp2
          go_ret
          exact ⟨_, cu, rfl, by omega, FO3.out.sp.lt, FO3.out.sp.fl, fun i hi => DO.out i (by rw [GR.out]; exact hi), FO3.out.bel⟩
        | true =>
          go_wp2
          go_loopw [9, 47] (fun s9 s47 wr => ∃ i : Nat, i ≤ k ∧ s47 = .int .i64 i ∧ BL3 w X Y W H k b off cap (gndOf W H v sl) s (mu k Kn cu) i 0 s9 wr) (fun _ s47 _ => k - (intOf s47).toNat)
          case atStart => exact ⟨0, Nat.zero_le _, rfl, false, cu, Kn, t, rfl, ⟨FO3.out, BE3.out, Nat.le_refl _, fun h => (by cases h), fun _ k' hk => by omega, fun _ d' hd => by omega⟩⟩
          case round =>
            obtain ⟨i, hi, rfl, ag4, c4, K4, t4, rfl, h4⟩ := hrel
            have B4 := Lib.hid h4
            clear cF fF zF
            obtain ⟨cF, fF, zF⟩ := blkC h4.fo.fld
            clear h4
            by_cases hlt : i < k
            · have EI := Lib.hid (ED.out i hlt)
              have cv := HC.out _ B4.out.fo.bel i hlt
              have i1 : (i : Int) < (k : Int) := by omega
              cases hb : bdB W H i with
              | true =>
                rw [hb] at EI
                have SK := Lib.hid (fun w2 hB => (B4.out.below (w2 := w2) hB).next (.inl hb))
                clear hb
                go_wp2_with (go_at_call 71; refine (EI.out _).mono ?_; rintro e w2 ⟨rfl, hb2⟩; have HB2 := Lib.hid hb2; clear hb2 cF fF zF cv)
                go_roundw
                case rel => exact ⟨i + 1, by omega, by go_num, _, _, _, _, rfl, SK.out _ HB2.out⟩
                case measure => simp [intOf]; omega
              | false =>
                rw [hb] at EI
                have HB := Lib.hid hb
                clear hb
                go_wp2_with (go_at_call 71; refine (EI.out _).mono ?_; rintro e w2 ⟨rfl, hb2⟩; have C2 := Lib.hid (B4.out.below hb2); clear hb2 cF fF zF cv)
                go_loopw [9, 56] (fun s9 s56 wr => ∃ d : Nat, d ≤ 8 ∧ s56 = .int .i64 d ∧ BL3 w X Y W H k b off cap (gndOf W H v sl) s (mu k Kn cu) i d s9 wr) (fun _ s56 _ => 8 - (intOf s56).toNat)
                case atStart => exact ⟨0, Nat.zero_le _, rfl, _, _, _, _, rfl, C2.out⟩
                case round =>
                  obtain ⟨d, hd, rfl, ag5, c5, K5, t5, rfl, h5⟩ := hrel
                  have B5 := Lib.hid h5
                  obtain ⟨cF, fF, zF⟩ := blkC h5.fo.fld
                  clear h5
                  by_cases hd8 : d < 8
                  · obtain ⟨m, hm⟩ := IN.out i hlt HB.out d
                    have NI := Lib.hid (NE.out i hlt d hd8)
                    rw [nbZ_some hm] at NI
                    have HM := Lib.hid (show (gndOf W H v sl).nb i d = some m from hm)
                    have ML := Lib.hid (show m < k from by have := nbI_lt hm; have := HN.out; omega)
                    have m1 : (m : Int) < (k : Int) := by have := ML.out; omega
                    clear hm
                    cases hKm : K5 m with
                    | false =>
                      have HK := Lib.hid hKm
                      have NX := Lib.hid (fun w6 hB => (B5.out.below (w2 := w6) hB).still (fun m' hm' hK' => by rw [HM.out] at hm'; cases hm'; rw [HK.out] at hK'; cases hK'))
                      clear hKm
                      go_wp2_with (go_at_call 72; refine (NI.out _).mono ?_; rintro e w6 ⟨rfl, hb6⟩; have HB6 := Lib.hid hb6; have C6 := Lib.hid (B5.out.below hb6); clear hb6 cF fF zF; obtain ⟨p1, p2, p3⟩ := C6.out.fo.kn.cell ML.out; rw [HK.out] at p1)
                      go_roundw
                      case rel => exact ⟨d + 1, by omega, by go_num, _, _, _, _, rfl, NX.out _ HB6.out⟩
                      case measure => simp [intOf]; omega
                    | true =>
                      have HK := Lib.hid hKm
                      clear hKm
                      have okm := B5.out.bel.fin m (by rw [GR.out]; exact ML.out) HK.out
                      have ct := B5.out.bel.cnt
                      obtain ⟨r, y1, y2, _⟩ := step_parts (h := v i) okm HSL.out (allB_iff.1 HH.out i hlt) (by rw [GR.out] at ct; omega)
                      obtain ⟨ok, _⟩ := stepR_val (h := v i) okm HSL.out (allB_iff.1 HH.out i hlt) (by rw [GR.out] at ct; omega)
                      have OK := Lib.hid ok
                      have ER := Lib.hid (show stepR sl (c5 m) (v i) = if (FloatKind.f32.format.order (v i) r == some .gt) = true then v i else r by unfold stepR; rw [y2])
                      have a1 := fun (W : World) => run_float_arith (P := Tryd.prog) W .add 27 .f32 (c5 m) sl r y1
                      rename_i hrest hv2
                      clear okm ct y1 y2 ok hrest hv2
                      obtain ⟨sr, hsr⟩ : ∃ sr, sr = stepR sl (c5 m) (v i) := ⟨_, rfl⟩
                      have HSR := Lib.hid hsr
                      rw [← hsr] at ER OK
                      clear hsr
                      have FA0 := Lib.hid (fun w6 hB hu => (B5.out.below (w2 := w6) hB).falls G.out SS.out GR.out hlt HB.out hd8 HM.out HK.out hu)
                      rw [show (gndOf W H v sl).sl = sl from rfl, show (gndOf W H v sl).h i = v i from rfl, ← HSR.out] at FA0
                      cases hKi : K5 i with
                      | false =>
                        have HKI := Lib.hid hKi
                        have FA := Lib.hid (fun w6 hB => FA0.out w6 hB (.inl HKI.out))
                        clear hKi FA0
                        cases hgt : (FloatKind.f32.format.order (v i) r == some .gt) with
                        | true =>
                          have e := ER.out
                          rw [hgt, if_pos rfl] at e
                          subst e
                          go_wp2_with (go_at_call 72; refine (NI.out _).mono ?_; rintro e w6 ⟨rfl, hb6⟩; have HB6 := Lib.hid hb6; have C6 := Lib.hid (B5.out.below hb6); clear hb6 cF fF zF; obtain ⟨p1, p2, p3⟩ := C6.out.fo.kn.cell ML.out; rw [HK.out] at p1; obtain ⟨q1, q2, q3⟩ := C6.out.fo.sp.cell ML.out; obtain ⟨r1, r2, r3⟩ := C6.out.fo.sp.cell hlt; obtain ⟨u1, u2, u3⟩ := C6.out.fo.kn.cell hlt; rw [HKI.out] at u1)
                          go_roundw
                          case rel => exact ⟨d + 1, by omega, by go_num, _, _, _, _, rfl, (FA.out _ HB6.out).choose_spec⟩
                          case measure => simp [intOf]; omega
                        | false =>
                          have e := ER.out
                          rw [hgt, if_neg (by simp)] at e
                          subst e
                          go_wp2_with (go_at_call 72; refine (NI.out _).mono ?_; rintro e w6 ⟨rfl, hb6⟩; have HB6 := Lib.hid hb6; have C6 := Lib.hid (B5.out.below hb6); clear hb6 cF fF zF; obtain ⟨p1, p2, p3⟩ := C6.out.fo.kn.cell ML.out; rw [HK.out] at p1; obtain ⟨q1, q2, q3⟩ := C6.out.fo.sp.cell ML.out; obtain ⟨r1, r2, r3⟩ := C6.out.fo.sp.cell hlt; obtain ⟨u1, u2, u3⟩ := C6.out.fo.kn.cell hlt; rw [HKI.out] at u1)
                          go_roundw
                          case rel => exact ⟨d + 1, by omega, by go_num, _, _, _, _, rfl, (FA.out _ HB6.out).choose_spec⟩
                          case measure => simp [intOf]; omega
                      | true =>
                        have HKI := Lib.hid hKi
                        have oki := B5.out.bel.fin i (by rw [GR.out]; exact hlt) hKi
                        have lv := lss_val OK.out.val oki.val
                        rw [← f32f'] at lv
                        clear hKi
                        by_cases hlv : vI sr < vI (c5 i)
                        · have FA := Lib.hid (fun w6 hB => FA0.out w6 hB (.inr hlv))
                          rw [decide_eq_true hlv] at lv
                          clear hlv oki FA0
                          cases hgt : (FloatKind.f32.format.order (v i) r == some .gt) with
                          | true =>
                            have e := ER.out
                            rw [hgt, if_pos rfl] at e
                            subst e
                            go_wp2_with (go_at_call 72; refine (NI.out _).mono ?_; rintro e w6 ⟨rfl, hb6⟩; have HB6 := Lib.hid hb6; have C6 := Lib.hid (B5.out.below hb6); clear hb6 cF fF zF; obtain ⟨p1, p2, p3⟩ := C6.out.fo.kn.cell ML.out; rw [HK.out] at p1; obtain ⟨q1, q2, q3⟩ := C6.out.fo.sp.cell ML.out; obtain ⟨r1, r2, r3⟩ := C6.out.fo.sp.cell hlt; obtain ⟨u1, u2, u3⟩ := C6.out.fo.kn.cell hlt; rw [HKI.out] at u1)
                            go_roundw
                            case rel => exact ⟨d + 1, by omega, by go_num, _, _, _, _, rfl, (FA.out _ HB6.out).choose_spec⟩
                            case measure => simp [intOf]; omega
                          | false =>
                            have e := ER.out
                            rw [hgt, if_neg (by simp)] at e
                            subst e
                            go_wp2_with (go_at_call 72; refine (NI.out _).mono ?_; rintro e w6 ⟨rfl, hb6⟩; have HB6 := Lib.hid hb6; have C6 := Lib.hid (B5.out.below hb6); clear hb6 cF fF zF; obtain ⟨p1, p2, p3⟩ := C6.out.fo.kn.cell ML.out; rw [HK.out] at p1; obtain ⟨q1, q2, q3⟩ := C6.out.fo.sp.cell ML.out; obtain ⟨r1, r2, r3⟩ := C6.out.fo.sp.cell hlt; obtain ⟨u1, u2, u3⟩ := C6.out.fo.kn.cell hlt; rw [HKI.out] at u1)
                            go_roundw
                            case rel => exact ⟨d + 1, by omega, by go_num, _, _, _, _, rfl, (FA.out _ HB6.out).choose_spec⟩
                            case measure => simp [intOf]; omega
                        · have NX := Lib.hid (fun w6 hB => (B5.out.below (w2 := w6) hB).still (fun m' hm' hK' => by rw [HM.out] at hm'; cases hm'; exact ⟨HKI.out, by rw [show (gndOf W H v sl).sl = sl from rfl, show (gndOf W H v sl).h i = v i from rfl, ← HSR.out]; omega⟩))
                          rw [decide_eq_false hlv] at lv
                          clear hlv oki FA0
                          cases hgt : (FloatKind.f32.format.order (v i) r == some .gt) with
                          | true =>
                            have e := ER.out
                            rw [hgt, if_pos rfl] at e
                            subst e
                            go_wp2_with (go_at_call 72; refine (NI.out _).mono ?_; rintro e w6 ⟨rfl, hb6⟩; have HB6 := Lib.hid hb6; have C6 := Lib.hid (B5.out.below hb6); clear hb6 cF fF zF; obtain ⟨p1, p2, p3⟩ := C6.out.fo.kn.cell ML.out; rw [HK.out] at p1; obtain ⟨q1, q2, q3⟩ := C6.out.fo.sp.cell ML.out; obtain ⟨r1, r2, r3⟩ := C6.out.fo.sp.cell hlt; obtain ⟨u1, u2, u3⟩ := C6.out.fo.kn.cell hlt; rw [HKI.out] at u1)
                            go_roundw
                            case rel => exact ⟨d + 1, by omega, by go_num, _, _, _, _, rfl, NX.out _ HB6.out⟩
                            case measure => simp [intOf]; omega
                          | false =>
                            have e := ER.out
                            rw [hgt, if_neg (by simp)] at e
                            subst e
                            go_wp2_with (go_at_call 72; refine (NI.out _).mono ?_; rintro e w6 ⟨rfl, hb6⟩; have HB6 := Lib.hid hb6; have C6 := Lib.hid (B5.out.below hb6); clear hb6 cF fF zF; obtain ⟨p1, p2, p3⟩ := C6.out.fo.kn.cell ML.out; rw [HK.out] at p1; obtain ⟨q1, q2, q3⟩ := C6.out.fo.sp.cell ML.out; obtain ⟨r1, r2, r3⟩ := C6.out.fo.sp.cell hlt; obtain ⟨u1, u2, u3⟩ := C6.out.fo.kn.cell hlt; rw [HKI.out] at u1)
                            go_roundw
                            case rel => exact ⟨d + 1, by omega, by go_num, _, _, _, _, rfl, NX.out _ HB6.out⟩
                            case measure => simp [intOf]; omega
                  · have hd9 : d = 8 := by omega
                    subst hd9
                    have NX := Lib.hid (B5.out.next (.inr rfl))
                    clear cF fF zF
                    go_wp2
                    go_roundw
                    case rel => exact ⟨i + 1, by omega, by go_num, _, _, _, _, rfl, NX.out⟩
                    case measure => simp [intOf]; omega
            · have hik : i = k := by omega
              subst hik
              clear cF fF zF
              go_wp2
              go_roundg (2 * mu i K4 c4 + ag4.toNat)
              case measure =>
                have := B4.out.le
                have l := B4.out.lt
                have hN := HN3.out
                cases ag4 with
                | false => simp at *; omega
                | true => have := l rfl; simp at *; omega
              case rel => exact ⟨ag4, c4, K4, t4, rfl, B4.out.fo, B4.out.bel, rfl, B4.out.st⟩
end Go.Proofs.YtacbemilicdklaaDoor

/- Contracts: Check of any field, and the references' FieldError: one answer. -/
namespace Go.Proofs.YtacbemilicdklaaDoor
open Go.RowKit Fl
set_option linter.unusedVariables false

/-- The error of a field whose numbers have the error er. -/
def fldChk (X Y W H : Int) (n : Nat) (er : Int) : Int := if checkR X Y W H ≠ 0 then checkR X Y W H else if (n : Int) ≠ W * H then 2 else er

set_option maxHeartbeats 1000000 in
theorem checkA_any (X Y W H : Int) (a : Option Addr) (n cap : Nat) (er : Int) (w : World) (CH0 : ∀ W', Below w.heap.size w W' → Calls Tryd.prog 93 #[.slice a n cap] W' fun e w' => e = .returned (.int .i64 er) ∧ W' = w') :
    Calls Tryd.prog 66 #[fldV X Y W H (.slice a n cap)] w fun e w' => e = .returned (.int .i64 (fldChk X Y W H n er)) ∧ Below w.heap.size w w' := by
  have CH := Lib.hid CH0
  clear CH0
  have RC := Lib.hid (fun w => checkRegion_any X Y W H w)
  unfold fldChk
  by_cases h0 : checkR X Y W H = 0
  · obtain ⟨b1, b2, b3, b4, b5, _⟩ := checkR_zero h0
    rw [if_neg (by simp [h0])]
    rw [h0] at RC
    have en : wrap64 (W * H) = W * H := IntWalk.wrap64_in _ ⟨by have := (mul_side b1 b2 b3 b4).1; omega, by omega⟩
    by_cases hl : (n : Int) = W * H
    · rw [if_neg (by simp [hl])]
      have en : wrap64 (W * H) = (n : Int) := by rw [en, hl]
      clear h0 b1 b2 b3 b4 b5 hl
      go_enter Tryd.func66, Tryd.ntmps66
      go_wp2_with (first | (go_at_call 115; refine (RC.out _).mono ?_; rintro e w' ⟨rfl, rfl⟩) | (go_at_call 93; refine (CH.out _ (by repeat (first | exact Below.refl _ _ | refine Below.alloc ?_ (by first | omega | (simp; done) | (simp; omega)) _ | refine Below.setCell ?_ (by first | omega | (simp; done) | (simp; omega)) _ | refine Below.drew ?_))).mono ?_; rintro e w' ⟨rfl, rfl⟩))
      go_ret
      exact ⟨rfl, (by repeat (first | exact Below.refl _ _ | refine Below.alloc ?_ (by first | omega | (simp; done) | (simp; omega)) _ | refine Below.setCell ?_ (by first | omega | (simp; done) | (simp; omega)) _ | refine Below.drew ?_))⟩
    · rw [if_pos hl]
      have hl' : ((n : Int) != W * H) = true := by simpa using hl
      clear h0 b1 b2 b3 b4 b5 hl CH
      go_enter Tryd.func66, Tryd.ntmps66
      go_wp2_with (first | (go_at_call 115; refine (RC.out _).mono ?_; rintro e w' ⟨rfl, rfl⟩))
      go_ret
      exact ⟨rfl, (by repeat (first | exact Below.refl _ _ | refine Below.alloc ?_ (by first | omega | (simp; done) | (simp; omega)) _ | refine Below.setCell ?_ (by first | omega | (simp; done) | (simp; omega)) _ | refine Below.drew ?_))⟩
  · rw [if_pos h0]
    generalize checkR X Y W H = r at *
    have h1 : (r != 0) = true := by simpa using h0
    clear h0 CH
    go_enter Tryd.func66, Tryd.ntmps66
    go_wp2_with (first | (go_at_call 115; refine (RC.out _).mono ?_; rintro e w' ⟨rfl, rfl⟩))
    go_ret
    exact ⟨rfl, (by repeat (first | exact Below.refl _ _ | refine Below.alloc ?_ (by first | omega | (simp; done) | (simp; omega)) _ | refine Below.setCell ?_ (by first | omega | (simp; done) | (simp; omega)) _ | refine Below.drew ?_))⟩

set_option maxHeartbeats 1000000 in
theorem qFieldError_any (X Y W H : Int) (a : Option Addr) (n cap : Nat) (er : Int) (w : World) (CH0 : ∀ W', Below w.heap.size w W' → Calls Tryd.prog 18 #[.slice a n cap] W' fun e w' => e = .returned (.int .i64 er) ∧ W' = w') :
    Calls Tryd.prog 17 #[fldV X Y W H (.slice a n cap)] w fun e w' => e = .returned (.int .i64 (fldChk X Y W H n er)) ∧ Below w.heap.size w w' := by
  have CH := Lib.hid CH0
  clear CH0
  have RC := Lib.hid (fun w => qRegionError_any X Y W H w)
  unfold fldChk
  by_cases h0 : checkR X Y W H = 0
  · obtain ⟨b1, b2, b3, b4, b5, _⟩ := checkR_zero h0
    rw [if_neg (by simp [h0])]
    rw [h0] at RC
    have en : wrap64 (W * H) = W * H := IntWalk.wrap64_in _ ⟨by have := (mul_side b1 b2 b3 b4).1; omega, by omega⟩
    by_cases hl : (n : Int) = W * H
    · rw [if_neg (by simp [hl])]
      have en : wrap64 (W * H) = (n : Int) := by rw [en, hl]
      clear h0 b1 b2 b3 b4 b5 hl
      go_enter Tryd.func17, Tryd.ntmps17
      go_wp2_with (first | (go_at_call 62; refine (RC.out _).mono ?_; rintro e w' ⟨rfl, rfl⟩) | (go_at_call 18; refine (CH.out _ (by repeat (first | exact Below.refl _ _ | refine Below.alloc ?_ (by first | omega | (simp; done) | (simp; omega)) _ | refine Below.setCell ?_ (by first | omega | (simp; done) | (simp; omega)) _ | refine Below.drew ?_))).mono ?_; rintro e w' ⟨rfl, rfl⟩))
      go_ret
      exact ⟨rfl, (by repeat (first | exact Below.refl _ _ | refine Below.alloc ?_ (by first | omega | (simp; done) | (simp; omega)) _ | refine Below.setCell ?_ (by first | omega | (simp; done) | (simp; omega)) _ | refine Below.drew ?_))⟩
    · rw [if_pos hl]
      have hl' : ((n : Int) != W * H) = true := by simpa using hl
      clear h0 b1 b2 b3 b4 b5 hl CH
      go_enter Tryd.func17, Tryd.ntmps17
      go_wp2_with (first | (go_at_call 62; refine (RC.out _).mono ?_; rintro e w' ⟨rfl, rfl⟩))
      go_ret
      exact ⟨rfl, (by repeat (first | exact Below.refl _ _ | refine Below.alloc ?_ (by first | omega | (simp; done) | (simp; omega)) _ | refine Below.setCell ?_ (by first | omega | (simp; done) | (simp; omega)) _ | refine Below.drew ?_))⟩
  · rw [if_pos h0]
    generalize checkR X Y W H = r at *
    have h1 : (r != 0) = true := by simpa using h0
    clear h0 CH
    go_enter Tryd.func17, Tryd.ntmps17
    go_wp2_with (first | (go_at_call 62; refine (RC.out _).mono ?_; rintro e w' ⟨rfl, rfl⟩))
    go_ret
    exact ⟨rfl, (by repeat (first | exact Below.refl _ _ | refine Below.alloc ?_ (by first | omega | (simp; done) | (simp; omega)) _ | refine Below.setCell ?_ (by first | omega | (simp; done) | (simp; omega)) _ | refine Below.drew ?_))⟩

set_option maxHeartbeats 400000 in
theorem empty_no (w : World) : Calls Tryd.prog 21 #[fldV 0 0 0 0 (.slice none 0 0)] w fun e w' => e = .returned (.bool true) ∧ Below w.heap.size w w' := by
  go_enter Tryd.func21, Tryd.ntmps21
  go_wp2
  go_ret
  exact ⟨rfl, (by repeat (first | exact Below.refl _ _ | refine Below.alloc ?_ (by first | omega | (simp; done) | (simp; omega)) _ | refine Below.setCell ?_ (by first | omega | (simp; done) | (simp; omega)) _ | refine Below.drew ?_))⟩
end Go.Proofs.YtacbemilicdklaaDoor

/- Contract: flows, which each law of chapters 4, 5, 6, 9 and 10 asks first. -/
namespace Go.Proofs.YtacbemilicdklaaDoor
open Go.RowKit Fl Go.Shelf
set_option linter.unusedVariables false

/-- The heights of flows' field: a pit within a wall. -/
def flowV (i : Nat) : Nat := if i = 4 then 0 else 1084227584
theorem flow_step : stepW 0 1084227584 0 = 1084227584 := by kernel_rfl
theorem flow_hgt : hgtB 1084227584 = true := by kernel_rfl
theorem flow_hgt0 : hgtB 0 = true := by kernel_rfl
theorem flow_wiE : wiE 0 0 1149239296 = 0 := by
  have e : decide (wiE 0 0 1149239296 = 0) = true := by kernel_rfl
  exact of_decide_eq_true e
theorem flow_slope : SlW 0 := ⟨0, vS_zero, Int.le_refl _, Int.mul_nonneg (by decide) (Int.natCast_nonneg _)⟩
theorem flow_checkR : checkR 0 0 3 3 = 0 := by decide
theorem flow_all : allB 9 (fun i => hgtB (flowV i)) = true := allB_iff.2 fun i hi => by
  unfold flowV
  by_cases h : i = 4
  · rw [if_pos h]; exact flow_hgt0
  · rw [if_neg h]; exact flow_hgt
theorem flow_spill {s : Nat → Nat} (S : Spills (gndOf 3 3 flowV 0) s) : s 4 = 1084227584 ∧ allB 9 (fun i => hgtB (s i)) = true := by
  have b : ∀ k, k < 9 → k ≠ 4 → s k = 1084227584 := fun k hk h4 => by
    have e : bdB 3 3 k = true := bdB_iff.2 (by omega)
    have q : s k = flowV k := S.bor k hk e
    rw [q]; unfold flowV; rw [if_neg h4]
  have c : s 4 = 1084227584 := by
    obtain ⟨rk, hr⟩ := S.par
    obtain ⟨p, hp, _, hlt, e⟩ := hr 4 (by show 4 < 3 * 3; omega) (by show bdB 3 3 4 = false; decide)
    have ne : p ≠ 4 := by rintro rfl; omega
    have q : s 4 = stepW 0 (s p) 0 := e
    rw [q, b p hp ne]; exact flow_step
  refine ⟨c, allB_iff.2 fun i hi => ?_⟩
  have : s i = 1084227584 := by
    by_cases h : i = 4
    · subst h; exact c
    · exact b i hi h
  rw [this]; exact flow_hgt

theorem flow_row (w : World) : FlAt (w.alloc (.cells #[.float .f32 1084227584, .float .f32 1084227584, .float .f32 1084227584, .float .f32 1084227584, .float .f32 0, .float .f32 1084227584, .float .f32 1084227584, .float .f32 1084227584, .float .f32 1084227584] 27)) w.heap.size 0 9 flowV := by
  intro i hi
  rw [Nat.zero_add, (blkC (heap_alloc_new w _)).1 i]
  have : i = 0 ∨ i = 1 ∨ i = 2 ∨ i = 3 ∨ i = 4 ∨ i = 5 ∨ i = 6 ∨ i = 7 ∨ i = 8 := by omega
  rcases this with rfl | rfl | rfl | rfl | rfl | rfl | rfl | rfl | rfl <;> rfl

theorem flowFilled_any (w : World) (b : Nat) (hc : FlAt w b 0 9 flowV) (hD : DirsAt w) :
    Calls Tryd.prog 15 #[fldV 0 0 3 3 (.slice (some ⟨b, 0, none⟩) 9 9), .float .f32 0] w (fun e w' => ∃ b' cap', e = .returned (.tuple #[fldV 0 0 3 3 (.slice (some ⟨b', 0, none⟩) 9 cap'), .int .i64 0]) ∧ w'.cell? ⟨b', 4, none⟩ = some (.float .f32 1084227584) ∧ Below w.heap.size w w') := by
  have F := filled_any 0 0 3 3 9 b 0 9 flowV 0 w flow_checkR rfl hc flow_all flow_slope flow_wiE hD
  refine Calls.mono F ?_
  rintro e w' ⟨s, S, h⟩
  obtain ⟨s4, sh⟩ := flow_spill S
  rcases h with ⟨_, b', cap', rfl, h1, h2, h3, h4⟩ | ⟨hno, _⟩
  · have q := h3 4 (by omega)
    rw [s4] at q
    exact ⟨b', cap', rfl, q, h4⟩
  · rw [sh] at hno; cases hno

set_option maxRecDepth 100000 in
set_option maxHeartbeats 4000000 in
theorem flows_any (w : World) (hD : DirsAt w) : Calls Tryd.prog 20 #[] w fun e w' => e = .returned (.bool true) ∧ Below w.heap.size w w' := by
  have FA := Lib.hid (fun W' b (hc : FlAt W' b 0 9 flowV) (hB : Below w.heap.size w W') => flowFilled_any W' b hc (hD.stay hB))
  clear hD
  go_enter Tryd.func20, Tryd.ntmps20
  go_wp2_with (first | (go_at_call 15; refine (FA.out _ _ (flow_row _) (by repeat (first | exact Below.refl _ _ | refine Below.alloc ?_ (by first | omega | (simp; done) | (simp; omega)) _ | refine Below.setCell ?_ (by first | omega | (simp; done) | (simp; omega)) _ | refine Below.drew ?_))).mono ?_; rintro e w2 ⟨b', cap', rfl, q, hb⟩; have hB2 : Below w.heap.size w w2 := Below.trans (by repeat (first | exact Below.refl _ _ | refine Below.alloc ?_ (by first | omega | (simp; done) | (simp; omega)) _ | refine Below.setCell ?_ (by first | omega | (simp; done) | (simp; omega)) _ | refine Below.drew ?_)) (Below.mono hb (by first | omega | (simp; done) | (simp; omega))); have z2 := World.block_lt_of_cell? w2 _ q; clear hb))
  go_ret
  exact ⟨rfl, hB2.alloc hB2.size _⟩
end Go.Proofs.YtacbemilicdklaaDoor
