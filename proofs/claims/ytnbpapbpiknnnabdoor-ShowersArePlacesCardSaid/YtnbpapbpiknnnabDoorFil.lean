/- Contracts: slices.Clone of singles; a slice of bools; the marks that a loop over a function leaves. -/
import Derived.Test.YtnbpapbpiknnnabDoorHeap3
import Derived.Test.YtnbpapbpiknnnabDoorWat2
import Derived.Test.YtnbpapbpiknnnabDoorRound
import Derived.Laws.OwnMore
namespace Go.Proofs.YtnbpapbpiknnnabDoor
open Go.RowKit Fl Go.Shelf
set_option linter.unusedVariables false

/-- What Clone answers: a new row of the same singles. -/
def ClonePost (n : Nat) (v : Nat → Nat) (w : World) (e : Ending) (w' : World) : Prop :=
  ∃ g cap, e = .returned (.slice (some ⟨g, 0, none⟩) n cap) ∧ w.heap.size ≤ g ∧ w'.ownsRow w.heap.size 27 1 (.slice (some ⟨g, 0, none⟩) n cap) n (rowL v n) ∧ Below w.heap.size w w'

set_option maxHeartbeats 1000000 in
theorem clone_any (b n cap : Nat) (v : Nat → Nat) (w : World) (h1 : 1 ≤ n) (hn : n ≤ 65536) (hc : FlAt w b 0 n v) :
    Calls Tryd.prog 96 #[.slice (some ⟨b, 0, none⟩) n cap] w (ClonePost n v w) := by
  have zb : b < w.heap.size := World.block_lt_of_cell? w _ (hc 0 h1)
  have hnews := Lib.hid (show ∀ j u, (rowL v n)[j]? = some u → (w.alloc (.cells #[] 27)).cell? ((⟨b, 0, none⟩ : Addr).add j) = some u from fun j u hu => by
    have hj : j < n := by
      rcases Nat.lt_or_ge j n with h | h
      · exact h
      · rw [List.getElem?_eq_none (by simpa [rowL] using h)] at hu; cases hu
    have : u = .float .f32 (v j) := by simpa [rowL, hj] using hu.symm
    rw [this]
    have e := hc j hj
    have : (⟨b, 0, none⟩ : Addr).add j = ⟨b, 0 + j, none⟩ := by simp [Addr.add]; omega
    rw [this]
    exact (World.cell?_of_block (w := w) (a := ⟨b, 0 + j, none⟩) (heap_alloc_old w _ zb)).trans e)
  have hinfo : (Tryd.prog.info? 27).map (fun i => (i.zero, i.size, i.bytes)) = some (some (.float .f32 0), 1, 4) := by kernel_rfl
  obtain ⟨i0, hi, hz0, hz1, hz2⟩ := info_parts hinfo
  have qT : ∀ (w : World) (a : Option Addr) (n c n' c' : Nat), (binOp .eql 24 (.slice a n c) (.slice none n' c')).run Tryd.prog w = .ok (.bool a.isNone) w := fun w a n c n' c' => Lib.run_eql_slice_nil w _ _ a n c n' c' Tryd.underlying24
  have H1 := Lib.hid h1
  have HN := Lib.hid hn
  clear hc hinfo h1 hn
  go_enter Tryd.func96, Tryd.ntmps96
  go_wp2_with (at_builtin; refine wpList_append_own _ rfl _ _ _ rfl w.heap.size 27 i0 (.float .f32 0) 1 4 Tryd.underlying24 hi hz0 hz1 hz2 rfl (by decide) (.slice (some ⟨w.heap.size, 0, none⟩) 0 0) 0 [] rfl (World.ownsRow_lit w #[] 0 (Nat.le_refl _) (by unfold maxLen; omega) rfl) ⟨b, 0, none⟩ n cap (rowL v n) rfl (by simp [rowL]) hnews.out (by simp [rowL, Value.oneCell']) (by have := HN.out; unfold maxLen; omega) (by have := HN.out; omega) (by simp) ?_; intro v' w1 hown' hgrow hnil)
  rw [Nat.zero_add, List.nil_append] at hown'
  obtain ⟨g, cap', rfl, hg, _⟩ := hown'.form H1.out
  have HO := Lib.hid hown'
  have HG := Lib.hid hgrow
  clear hown' hgrow hnil
  go_ret
  exact ⟨g, cap', rfl, hg, HO.out, Below.grown (by repeat (first | exact Below.refl _ _ | refine Below.alloc ?_ (by first | omega | (simp; done) | (simp; omega)) _ | refine Below.setCell ?_ (by first | omega | (simp; done) | (simp; omega)) _ | refine Below.drew ?_)) HG.out (by simp) (fun k e => by simp [Value.ownBlock] at e; omega)⟩

def BoolsAt (w : World) (b n : Nat) (R : Nat → Bool) : Prop := ∃ cs : Array Value, w.heap[b]? = some (.cells cs 4 (0, 0)) ∧ cs.size = n ∧ ∀ i, i < n → cs[i]? = some (.bool (R i))
theorem BoolsAt.congr {w w' : World} {b n : Nat} {R : Nat → Bool} (h : BoolsAt w b n R) (e : w'.heap[b]? = w.heap[b]?) : BoolsAt w' b n R := by
  obtain ⟨cs, h1, h2⟩ := h
  exact ⟨cs, e.trans h1, h2⟩
theorem BoolsAt.cell {w : World} {b n : Nat} {R : Nat → Bool} (h : BoolsAt w b n R) {i : Nat} (hi : i < n) : w.cell? ⟨b, i, none⟩ = some (.bool (R i)) ∧ w.frozen? ⟨b, i, none⟩ = false ∧ b < w.heap.size := by
  obtain ⟨cs, h1, h2, h3⟩ := h
  obtain ⟨c, f, z⟩ := blkC h1
  exact ⟨(c i).trans (h3 i hi), f i, z⟩
theorem BoolsAt.put {w : World} {b n : Nat} {R : Nat → Bool} (h : BoolsAt w b n R) {k : Nat} (hk : k < n) : BoolsAt (w.setCell ⟨b, k, none⟩ (.bool true)) b n (updB R k) := by
  obtain ⟨cs, h1, h2, h3⟩ := h
  refine ⟨_, heap_setCell_same w b k _ _ _ h1, by simpa using h2, fun i hi => ?_⟩
  rw [Array.getElem?_setIfInBounds]
  by_cases e : k = i
  · subst e; rw [if_pos rfl, if_pos (by omega), updB_same]
  · rw [if_neg e, updB_other R (by omega)]; exact h3 i hi

theorem make_bool (n : Nat) (hn : n ≤ 65536) (w : World) :
    (Instr.makeSlice 106 (.int .i64 (n : Int)) (.int .i64 (n : Int))).run Tryd.prog w = .ok (.slice (some ⟨w.heap.size, 0, none⟩) n n) (w.alloc (.cells (madeCells #[Value.bool false] n) 4)) := by
  have h : (Tryd.prog.info? 4).map (fun i => (i.zero, i.size, i.bytes)) = some (some (.bool false), 1, 1) := by kernel_rfl
  obtain ⟨i0, hi, hz0, hz1, hz2⟩ := info_parts h
  have hr := run_make (P := Tryd.prog) w 106 4 i0 (.bool false) Tryd.underlying106 hi hz0 .i64 .i64 n n (by omega) (by omega) (by rw [hz2]; omega) (by omega)
  rw [hz1, Nat.mul_one, Int.toNat_natCast] at hr
  exact hr
theorem made_bools (w : World) (n : Nat) : BoolsAt (w.alloc (.cells (madeCells #[Value.bool false] n) 4)) w.heap.size n (fun _ => false) :=
  ⟨_, heap_alloc_new _ _, by simp [madeCells], fun i hi => by simp [madeCells, hi, Nat.mod_one]⟩

/-- The lowest cells first: how it begins. -/
theorem fil_start {g : Gnd} (G : GndOk g) {R : Nat → Bool} {c : Nat → Nat} {m : Nat} (hR : ∀ k, k < g.n → R k = g.bd k) (hc : ∀ i, i < m → c i < g.n ∧ g.bd (c i) = true) (ha : ∀ x, x < g.n → g.bd x = true → ∃ i, i < m ∧ c i = x)
    (hh : Heap m (fun x => vI (g.h x)) c) : Fil g g.h R c m (fun _ => False) (fun _ => False) (fun _ => 0) 0 :=
  ⟨fun i hi => ⟨(hc i hi).1, by rw [hR _ (hc i hi).1]; exact (hc i hi).2⟩, fun k hk hb => ⟨by rw [hR k hk]; exact hb, rfl⟩, fun k hk _ => ⟨hgt_ok (G.hgt k hk), Nat.le_refl _⟩,
    (fun k hk h1 h2 => by rw [hR k hk, h2] at h1; cases h1), fun _ _ h => h.elim, fun _ _ h => h.elim, fun x hx h => .inr (ha x hx (by rw [← hR x hx]; exact h)), fun _ _ h => h.elim, hh, by have := unr_le g.n R; omega⟩

/-- An end that is no panic. -/
def NoPanic (Q : Exit → Act → World → Prop) : Exit → Act → World → Prop
  | .panic _, _, _ => False
  | .outgrown, _, _ => False
  | e, a, w => Q e a w
theorem noPanic_of {Q : Exit → Act → World → Prop} : ∀ e a w, NoPanic Q e a w → Q e a w
  | .normal, _, _, h => h
  | .ret, _, _, h => h
  | .exit _, _, _, h => h
  | .goto _, _, _, h => h
  | .panic _, _, _, h => h.elim
  | .outgrown, _, _, h => h.elim

/-- The marks of loops that are over. -/
def Marks (lo : Nat) (w : World) : List Deferred → Prop
  | [] => True
  | d :: ds => (∃ D, d = { target := .collected D, args := #[] } ∧ lo ≤ D ∧ w.heap[D]? = some (.deferred (some [])) ∧ ∀ e ∈ ds, e.target ≠ .collected D) ∧ Marks lo w ds
theorem Marks.kept {lo : Nat} {w w' : World} {ds : List Deferred} (h : Marks lo w ds) (hk : ∀ k, lo ≤ k → w.heap[k]? = some (.deferred (some [])) → w'.heap[k]? = some (.deferred (some []))) : Marks lo w' ds := by
  induction ds with
  | nil => trivial
  | cons d ds ih =>
    obtain ⟨⟨D, h1, h2, h3, h4⟩, h5⟩ := h
    exact ⟨⟨D, h1, h2, hk D h2 h3, h4⟩, ih h5⟩
theorem Marks.lt {lo : Nat} {w : World} {ds : List Deferred} (h : Marks lo w ds) : ∀ e ∈ ds, ∀ D, e.target = .collected D → D < w.heap.size := by
  induction ds with
  | nil => intro e he; cases he
  | cons d ds ih =>
    obtain ⟨⟨D, rfl, h2, h3, h4⟩, h5⟩ := h
    intro e he D' hD
    rcases List.mem_cons.1 he with rfl | he
    · cases hD; exact (Array.getElem?_eq_some_iff.1 h3).1
    · exact ih h5 e he D' hD
/-- The marks are taken up at the return; whatever is no deferred block stays. -/
theorem leaves_marks {n : Nat} {P : Program} {fn : Func} {tmps : Array Value} {R : Ending → World → Prop} {lo : Nat} : ∀ (ds : List Deferred) (w : World), Marks lo w ds →
    (∀ w' : World, (∀ k, k < lo → w'.heap[k]? = w.heap[k]?) → (∀ (k : Nat) (o : Obj), w.heap[k]? = some o → o ≠ .deferred (some []) → w'.heap[k]? = some o) → w'.heap.size = w.heap.size → w'.os = w.os → w'.tape = w.tape → w'.output = w.output → ∃ v, (results fn tmps).run P w' = .ok v w' ∧ R (.returned v) w') →
    LeavesInM Fence.wide n P fn tmps R ds .returning w := by
  intro ds
  induction ds with
  | nil =>
    intro w _ h
    obtain ⟨v, h1, h2⟩ := h w (fun _ _ => rfl) (fun _ _ h _ => h) rfl rfl rfl rfl
    exact ⟨v, h1, h2⟩
  | cons d ds ih =>
    intro w hm h
    obtain ⟨⟨D, rfl, h2, h3, h4⟩, h5⟩ := hm
    refine ⟨by simp, .inl ⟨D, _, rfl, run_takeDeferred h3, ih _ ?_ fun w' g1 g2 g3 g4 g5 g6 => ?_⟩⟩
    · have hne : ∀ e ∈ ds, e.target ≠ .collected D := h4
      clear ih h h4
      induction ds with
      | nil => trivial
      | cons d2 ds2 ih2 =>
        obtain ⟨⟨D2, rfl, q2, q3, q4⟩, q5⟩ := h5
        have : D2 ≠ D := fun e => hne _ (List.mem_cons_self ..) (by rw [e])
        exact ⟨⟨D2, rfl, q2, (World.putObj_heap_other this).trans q3, q4⟩, ih2 q5 fun e he => hne e (List.mem_cons_of_mem _ he)⟩
    · exact h w' (fun k hk => (g1 k hk).trans (World.putObj_heap_other (by omega))) (fun k o ho hne => by
        by_cases e : k = D
        · subst e; rw [h3] at ho; cases ho; exact (hne rfl).elim
        · exact g2 k o ((World.putObj_heap_other e).trans ho) hne) (by rw [g3]; simp [World.putObj]) g4 g5 g6
end Go.Proofs.YtnbpapbpiknnnabDoor
