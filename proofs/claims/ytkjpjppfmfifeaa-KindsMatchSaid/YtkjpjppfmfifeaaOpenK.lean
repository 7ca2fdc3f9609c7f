/- Kinds that came in, opened: one, and a list. -/
import Derived.Test.YtkjpjppfmfifeaaOpenF
import Derived.Test.YtkjpjppfmfifeaaKnd4
namespace Go.Proofs.Ytkjpjppfmfifeaa
open Go.ChangeShapes Go.WideShapes Go.ChangeAt Go.RowKit Go.Joins Go.Deep Fl

section
variable {H : Type} {enc : TypeId × Value → H} {w : World} {base : Nat} {spare : Nat → Bool} {held : Bool}

theorem cellsK : Try.prog.cellsOf 62 = 13 := by kernel_rfl
theorem cellsStr : Try.prog.cellsOf 9 = 1 := by kernel_rfl
theorem trod_fieldAt {P : Program} {t : TypeId} {fs : Array Go.Field} {fuel : Nat} {cs : List Value} {x : DataW H × List MemPlace} (ht : P.underlying t = some (.struct fs)) (h : DataW.trod enc P w base spare held fuel t cs = some x) :
    ∃ n, ∀ (i : Nat) (ty : TypeId) (off : Nat), (fs[i]?).map (fun (f : Go.Field) => (f.type, f.offset)) = some (ty, off) → ∃ y, DataW.trod enc P w base spare held n ty ((cs.drop off).take (P.cellsOf ty)) = some y := by
  obtain ⟨xs, n, _, rfl, _, hlen, hf⟩ := DataW.trod_struct ht h
  refine ⟨n, fun i ty off e => ?_⟩
  cases hfi : fs[i]? with
  | none => rw [hfi] at e; cases e
  | some f =>
    rw [hfi] at e
    simp only [Option.map_some, Option.some.injEq, Prod.mk.injEq] at e
    obtain ⟨rfl, rfl⟩ := e
    have hi : i < fs.size := by rw [Array.getElem?_eq_some_iff] at hfi; exact hfi.1
    have hx : i < xs.length := by omega
    exact ⟨xs[i], by rw [hf i f hfi, List.getElem?_eq_getElem hx]⟩
theorem trod_f32at {fuel i : Nat} {cs : List Value} {v : Value} {y : DataW H × List MemPlace} (h : DataW.trod enc Try.prog w base spare held fuel 30 ((cs.drop i).take 1) = some y) (hv : cs[i]? = some v) : ∃ s, v = .float .f32 s ∧ s < 4294967296 := by
  have e : (cs.drop i).take 1 = [v] := by
    have hi : i < cs.length := by rw [List.getElem?_eq_some_iff] at hv; exact hv.1
    rw [List.drop_eq_getElem_cons hi]
    rw [List.getElem?_eq_getElem hi] at hv
    simp only [List.take_succ_cons, List.take_zero, Option.some.inj hv]
  rw [e] at h
  exact trod_f32 Try.underlying30 h
theorem take_at {α : Type} {cs : List α} {i : Nat} {v : α} (hv : cs[i]? = some v) : (cs.drop i).take 1 = [v] := by
  have hi : i < cs.length := by rw [List.getElem?_eq_some_iff] at hv; exact hv.1
  rw [List.drop_eq_getElem_cons hi]
  rw [List.getElem?_eq_getElem hi] at hv
  simp only [List.take_succ_cons, List.take_zero, Option.some.inj hv]

/-- A right kind: its name is a text of the machine, its singles are words. -/
structure KndWf (k : Knd) : Prop where
  name : k.name.size ≤ 9223372036854775807
  f : wf32 10 k.f

set_option maxRecDepth 100000 in
theorem open_kcells {n : Nat} {cs : List Value} {y : DataW H × List MemPlace} (hl : cs.length = 13) (h : DataW.trod enc Try.prog w base spare held n 62 cs = some y) :
    ∃ k : Knd, cs = k.cells.toList ∧ KndWf k := by
  obtain ⟨m, G⟩ := trod_fieldAt Try.underlying62 h
  match cs, hl with
  | [c0, c1, c2, c3, c4, c5, c6, c7, c8, c9, c10, c11, c12], _ =>
      obtain ⟨y0, g0⟩ := G 0 9 0 rfl
      obtain ⟨y1, g1⟩ := G 1 30 1 rfl
      obtain ⟨y2, g2⟩ := G 2 30 2 rfl
      obtain ⟨y3, g3⟩ := G 3 30 3 rfl
      obtain ⟨y4, g4⟩ := G 4 30 4 rfl
      obtain ⟨y5, g5⟩ := G 5 30 5 rfl
      obtain ⟨y6, g6⟩ := G 6 30 6 rfl
      obtain ⟨y7, g7⟩ := G 7 30 7 rfl
      obtain ⟨y8, g8⟩ := G 8 30 8 rfl
      obtain ⟨y9, g9⟩ := G 9 30 9 rfl
      obtain ⟨y10, g10⟩ := G 10 30 10 rfl
      obtain ⟨y11, g11⟩ := G 11 3 11 rfl
      obtain ⟨y12, g12⟩ := G 12 3 12 rfl
      rw [cellsStr] at g0
      rw [cells1] at g1 g2 g3 g4 g5 g6 g7 g8 g9 g10
      rw [cellsI] at g11 g12
      obtain ⟨s, e0, _, hs⟩ := DataW.trod_string Try.underlying9 g0
      obtain ⟨f1, rfl, b1⟩ := trod_f32at (i := 1) g1 rfl
      obtain ⟨f2, rfl, b2⟩ := trod_f32at (i := 2) g2 rfl
      obtain ⟨f3, rfl, b3⟩ := trod_f32at (i := 3) g3 rfl
      obtain ⟨f4, rfl, b4⟩ := trod_f32at (i := 4) g4 rfl
      obtain ⟨f5, rfl, b5⟩ := trod_f32at (i := 5) g5 rfl
      obtain ⟨f6, rfl, b6⟩ := trod_f32at (i := 6) g6 rfl
      obtain ⟨f7, rfl, b7⟩ := trod_f32at (i := 7) g7 rfl
      obtain ⟨f8, rfl, b8⟩ := trod_f32at (i := 8) g8 rfl
      obtain ⟨f9, rfl, b9⟩ := trod_f32at (i := 9) g9 rfl
      obtain ⟨f10, rfl, b10⟩ := trod_f32at (i := 10) g10 rfl
      obtain ⟨x11, e11, _, _⟩ := DataW.trod_int Try.underlying3 g11
      obtain ⟨x12, e12, _, _⟩ := DataW.trod_int Try.underlying3 g12
      simp at e0 e11 e12
      subst e0 e11 e12
      refine ⟨⟨s, f1, f2, f3, f4, f5, f6, f7, f8, f9, f10, x11, x12⟩, rfl, Nat.le_trans hs (by decide), fun i hi => ?_⟩
      have : i = 0 ∨ i = 1 ∨ i = 2 ∨ i = 3 ∨ i = 4 ∨ i = 5 ∨ i = 6 ∨ i = 7 ∨ i = 8 ∨ i = 9 := by omega
      rcases this with rfl | rfl | rfl | rfl | rfl | rfl | rfl | rfl | rfl | rfl <;> assumption

theorem open_kinds {fuel : Nat} {cs : List Value} {y : DataW H × List MemPlace} (h : DataW.trod enc Try.prog w base spare held fuel 59 cs = some y) :
    ∃ a len cap K, cs = [.slice a len cap] ∧ len ≤ cap ∧ cap ≤ 9223372036854775807 ∧ KndL w a len K ∧ ∀ i, i < len → KndWf (K i) := by
  rcases open_slice Try.underlying59 h with ⟨rfl, _⟩ | ⟨a, len, cap, m, n, D, Pl, rfl, hb, hl, hm, hmm, _, hx⟩
  · exact ⟨none, 0, 0, fun _ => kndZ, rfl, by omega, by omega, .inl rfl, fun i hi => by omega⟩
  · have hlm : len ≤ m := by rw [hmm]; split <;> omega
    have hcap : cap ≤ 9223372036854775807 := Nat.le_trans hm (by decide)
    rcases Nat.eq_zero_or_pos len with z | z
    · subst z; exact ⟨some a, 0, cap, fun _ => kndZ, rfl, by omega, hcap, .inl rfl, fun i hi => by omega⟩
    · have each : ∀ i, i < len → ∃ k : Knd, (∀ j, j < 13 → w.cell? (a.add (i * 13 + j)) = k.cells[j]?) ∧ KndWf k := by
        intro i hi
        obtain ⟨cs', h1, h2⟩ := hx i (by omega)
        rw [cellsK] at h1
        obtain ⟨_, hlen, hcell⟩ := World.cells?_some h1
        obtain ⟨k, rfl, hk⟩ := open_kcells hlen h2
        refine ⟨k, fun j hj => ?_, hk⟩
        have e := hcell j (by omega)
        rw [add_add] at e
        rw [e, Array.getElem?_toList]
      haveI : Inhabited Knd := ⟨kndZ⟩
      obtain ⟨q, hq⟩ := choose_lt each
      obtain ⟨b, off, spot⟩ := a
      have h0 := (hq 0 z).1 0 (by omega)
      have hspot : spot = none := by simpa [Addr.add] using World.cell?_spot h0
      subst hspot
      refine ⟨some ⟨b, off, none⟩, len, cap, q, rfl, hl, hcap, .inr ⟨b, off, rfl, fun i hi j hj => ?_⟩, fun i hi => (hq i hi).2⟩
      have q0 := (hq i hi).1 j hj
      rw [add_plain] at q0
      rw [← q0, Nat.add_assoc]
end
end Go.Proofs.Ytkjpjppfmfifeaa
