/- Contract: byCell, whatever function it is given, with a state of its own in blocks that were there (a captured variable that it writes). -/
import Derived.Test.YtncgcjeihihkfaaPlace
namespace Go.Proofs.Ytncgcjeihihkfaa
open Go.RowKit Fl
set_option linter.unusedVariables false

/-- As Below, but the blocks M may differ. -/
structure BelowM (M : Nat → Prop) (B : Nat) (w w' : World) : Prop where
  os : w'.os = w.os
  tape : w'.tape = w.tape
  output : w'.output = w.output
  size : w.heap.size ≤ w'.heap.size
  block : ∀ k, k < B → ¬ M k → w'.heap[k]? = w.heap[k]?

theorem BelowM.refl (M : Nat → Prop) (B : Nat) (w : World) : BelowM M B w w := ⟨rfl, rfl, rfl, Nat.le_refl _, fun _ _ _ => rfl⟩
theorem BelowM.trans {M : Nat → Prop} {B : Nat} {a b c : World} (h : BelowM M B a b) (k : BelowM M B b c) : BelowM M B a c :=
  ⟨k.os.trans h.os, k.tape.trans h.tape, k.output.trans h.output, Nat.le_trans h.size k.size, fun i hi hm => (k.block i hi hm).trans (h.block i hi hm)⟩
theorem BelowM.mono {M : Nat → Prop} {B B' : Nat} {w w' : World} (h : BelowM M B w w') (hB : B' ≤ B) : BelowM M B' w w' := ⟨h.os, h.tape, h.output, h.size, fun k hk hm => h.block k (Nat.lt_of_lt_of_le hk hB) hm⟩
theorem Below.toM {M : Nat → Prop} {B : Nat} {w w' : World} (h : Below B w w') : BelowM M B w w' := ⟨h.os, h.tape, h.output, h.size, fun k hk _ => h.block k hk⟩
theorem BelowM.drew {M : Nat → Prop} {B : Nat} {a w : World} (h : BelowM M B a w) : BelowM M B a w.drew := ⟨h.os, h.tape, h.output, h.size, h.block⟩
theorem BelowM.alloc {M : Nat → Prop} {B : Nat} {a w : World} (h : BelowM M B a w) (hB : B ≤ w.heap.size) (o : Obj) : BelowM M B a (w.alloc o) :=
  h.trans (Below.toM ((Below.refl _ _).alloc hB o))
theorem BelowM.setCell {M : Nat → Prop} {B : Nat} {a w : World} (h : BelowM M B a w) {p : Addr} (hp : B ≤ p.block ∨ M p.block) (u : Value) : BelowM M B a (w.setCell p u) :=
  h.trans ⟨rfl, rfl, rfl, by simp [World.setCell], fun k hk hm => Below.heap_setCell _ _ _ _ (by rcases hp with q | q; omega; intro e; exact hm (e ▸ q))⟩
theorem blkStayM {M : Nat → Prop} {W w' : World} {b : Nat} {o : Obj} (h : W.heap[b]? = some o) (hb : BelowM M W.heap.size W w') (hm : ¬ M b) : w'.heap[b]? = some o := by
  rw [hb.block b ?_ hm, h]
  rcases Nat.lt_or_ge b W.heap.size with h' | h'
  · exact h'
  · simp [Array.getElem?_eq_none h'] at h
theorem set5_belowM {M : Nat → Prop} {w wr : World} {B : Nat} (hb : BelowM M B w wr) (b : Nat) (u1 u2 u3 u4 u5 : Value) (h : B ≤ b) : BelowM M B w (set5 wr b u1 u2 u3 u4 u5) :=
  ((((hb.setCell (p := ⟨b, 0, none⟩) (.inl h) u1).setCell (p := ⟨b, 1, none⟩) (.inl h) u2).setCell (p := ⟨b, 2, none⟩) (.inl h) u3).setCell (p := ⟨b, 3, none⟩) (.inl h) u4).setCell (p := ⟨b, 4, none⟩) (.inl h) u5

/-- What a state is good for: it lies in the blocks M, which are older than w; it hangs on them alone. -/
structure State (M : Nat → Prop) (Inv : Nat → World → Prop) (w : World) : Prop where
  old : ∀ k, M k → k < w.heap.size
  hang : ∀ i W W', Inv i W → (∀ k, M k → W'.heap[k]? = W.heap[k]?) → Inv i W'

/-- A function of a cell's number, with a state. -/
def Clos1M (M : Nat → Prop) (Inv : Nat → World → Prop) (g : Nat) (caps : Array Value) (n : Nat) (f : Nat → Nat) (w : World) : Prop :=
  ∀ (i : Nat) (W : World), i < n → BelowM M w.heap.size w W → Inv i W → Calls Try.prog g (#[.int .i64 i] ++ caps) W fun e W' => e = .returned (.float .f32 (f i)) ∧ Inv (i + 1) W' ∧ BelowM M W.heap.size W W'

def MadePostM (M : Nat → Prop) (Inv : Nat → World → Prop) (w : World) (X Y W H : Int) (n : Nat) (f : Nat → Nat) (e : Ending) (w' : World) : Prop :=
  Inv n w' ∧ BelowM M w.heap.size w w' ∧
  ((allB n (fun i => hgtB (f i)) = true ∧ ∃ b cap, e = .returned (.tuple #[fldV X Y W H (.slice (some ⟨b, 0, none⟩) n cap), .int .i64 0]) ∧ w.heap.size ≤ b ∧ b < w'.heap.size ∧ FlAt w' b 0 n f) ∨
  (allB n (fun i => hgtB (f i)) = false ∧ e = .returned (.tuple #[fldV 0 0 0 0 (.slice none 0 0), .int .i64 3])))

set_option maxHeartbeats 2000000 in
theorem byCellM_any (M : Nat → Prop) (Inv : Nat → World → Prop) (X Y W H : Int) (n : Nat) (g : Nat) (caps : Array Value) (f : Nat → Nat) (w : World) (hst : State M Inv w) (h0 : Inv 0 w) (hcall : Enters g) (hcl : Clos1M M Inv g caps n f w) (hn : (n : Int) = W * H) (hn1 : 1 ≤ n) (hn2 : n ≤ 65536) :
    Calls Try.prog 63 #[reg X Y W H, .func (.func g) #[] caps] w (MadePostM M Inv w X Y W H n f) := by
  have en : wrap64 (W * H) = (n : Int) := by rw [← hn]; exact IntWalk.wrap64_in _ ⟨by omega, by omega⟩
  have hmk := make_f32 n hn2
  have HCL := Lib.hid hcl
  have ST := Lib.hid hst
  have NM := Lib.hid (show ∀ k, w.heap.size ≤ k → ¬ M k from fun k hk hm => by have := hst.old k hm; omega)
  have I0 := Lib.hid h0
  unfold Enters at hcall
  clear hn hcl hst h0
  have hsf := fun (w : World) (a : Addr) (m : Mode) (k : FloatKind) (b : Nat) => run_store_float (P := Try.prog) (w := w) (a := a) (m := m) k b
  go_enter Try.func63, Try.ntmps63
  go_wp2
  clear en hmk
  go_loopw [17] (fun i wr => ∃ k : Nat, k ≤ n ∧ i = .int .i64 k ∧ RowPart wr (w.heap.size + 1 + 1) n k f ∧ wr.heap[w.heap.size]? = some (regObj X Y W H) ∧ wr.heap[w.heap.size + 1]? = some (fldO 0 0 0 0 (.slice none 0 0)) ∧ Inv k wr ∧ BelowM M w.heap.size w wr) (fun i _ => n - (intOf i).toNat)
  case atStart =>
    refine ⟨0, Nat.zero_le _, rfl, ⟨madeCells #[Value.float .f32 0] n, ?_, by rw [size_madeCells]; exact Nat.le_refl _, fun j hj => by omega⟩, ?_, ?_, ?_, Below.toM (by repeat (first | exact Below.refl _ _ | refine Below.alloc ?_ (by first | omega | (simp; done) | (simp; omega)) _ | refine Below.setCell ?_ (by first | omega | (simp; done) | (simp; omega)) _ | refine Below.drew ?_))⟩
    · simp only [heap_alloc_get, heap_size_alloc]; simp <;> omega
    · simp only [heap_alloc_get, heap_size_alloc]; simp <;> omega
    · simp only [heap_alloc_get, heap_size_alloc]; simp <;> omega
    · exact ST.out.hang 0 w _ I0.out (fun k hk => (show Below w.heap.size w _ from (by repeat (first | exact Below.refl _ _ | refine Below.alloc ?_ (by first | omega | (simp; done) | (simp; omega)) _ | refine Below.setCell ?_ (by first | omega | (simp; done) | (simp; omega)) _ | refine Below.drew ?_))).block k (ST.out.old k hk))
  case round =>
    obtain ⟨k, hk, rfl, hrow, hbox, hres, hinv, hbel⟩ := hrel
    have HR := Lib.hid hrow
    have HB := Lib.hid hbox
    have HS := Lib.hid hres
    have HI := Lib.hid hinv
    have HL := Lib.hid hbel
    clear hrow hbox hres hinv hbel
    by_cases hlt : k < n
    · have CC := Lib.hid (HCL.out k wr hlt HL.out HI.out)
      go_wp2_with fail
      refine CC.out.mono ?_
      rintro e w2 ⟨rfl, hi2, hb2⟩
      have R2 := Lib.hid (HR.out.congr (hb2.block _ HR.out.lt (NM.out _ (by omega))))
      have B2 := Lib.hid (blkStayM HB.out hb2 (NM.out _ (Nat.le_refl _)))
      have S2 := Lib.hid (blkStayM HS.out hb2 (NM.out _ (by omega)))
      have L2 := Lib.hid (HL.out.trans (hb2.mono HL.out.size))
      have J2 := Lib.hid hi2
      have z2 := R2.out.lt
      have f2 := R2.out.free k
      obtain ⟨x0, hx0⟩ := R2.out.cell hlt
      clear hb2 hi2 CC HR HB HS HI HL
      go_wp2
      go_roundw
      case rel =>
        exact ⟨k + 1, by omega, by go_num, R2.out.put hlt, (Below.heap_setCell _ _ _ _ (show w.heap.size ≠ w.heap.size + 1 + 1 by omega)).trans B2.out, (Below.heap_setCell _ _ _ _ (show w.heap.size + 1 ≠ w.heap.size + 1 + 1 by omega)).trans S2.out, ST.out.hang _ _ _ J2.out (fun q hq => Below.heap_setCell _ _ _ _ (by have := ST.out.old q hq; show q ≠ w.heap.size + 1 + 1; omega)), L2.out.setCell (p := ⟨w.heap.size + 1 + 1, k, none⟩) (.inl (show w.heap.size ≤ w.heap.size + 1 + 1 by omega)) _⟩
      case measure => simp [intOf]; omega
    · have hkn : k = n := by omega
      subst hkn
      obtain ⟨cB, fB, zB⟩ := blkC HB.out
      obtain ⟨cS, fS, zS⟩ := blkC HS.out
      have HF := HR.out.flAt
      have CH := Lib.hid (checkRange_row (w.heap.size + 1 + 1) 0 k k f (by omega) wr HF)
      clear HF
      have HI5 := Lib.hid (fun u1 u2 u3 u4 u5 => ST.out.hang k wr (set5 wr (w.heap.size + 1) u1 u2 u3 u4 u5) HI.out (fun q hq => set5_heap wr (w.heap.size + 1) q u1 u2 u3 u4 u5 (by have := ST.out.old q hq; omega)))
      cases hall : allB k (fun i => hgtB (f i)) with
      | true =>
        have e : hgtE k f = 0 := by unfold hgtE; rw [hall]; rfl
        rw [e] at CH
        clear e
        go_wp2_with (go_at_call 113; refine CH.out.mono ?_; rintro e w' ⟨rfl, rfl⟩)
        refine bodyPost_ret (v := .tuple #[fldV X Y W H (.slice (some ⟨w.heap.size + 1 + 1, 0, none⟩) k k), .int .i64 0]) (by simp [results, Try.results63, go_sem, cS]) rfl ?_
        exact ⟨HI5.out _ _ _ _ _, set5_belowM HL.out (w.heap.size + 1) _ _ _ _ _ (by omega), .inl ⟨hall, w.heap.size + 1 + 1, k, rfl, by omega, by rw [set5_size]; exact HR.out.lt, (HR.out.congr (set5_heap wr (w.heap.size + 1) (w.heap.size + 1 + 1) _ _ _ _ _ (by omega))).flAt⟩⟩
      | false =>
        have e : hgtE k f = 3 := by unfold hgtE; rw [hall]; rfl
        rw [e] at CH
        clear e
        go_wp2_with (go_at_call 113; refine CH.out.mono ?_; rintro e w' ⟨rfl, rfl⟩)
        refine bodyPost_ret (v := .tuple #[fldV 0 0 0 0 (.slice none 0 0), .int .i64 3]) (by simp [results, Try.results63, go_sem, cS]) rfl ?_
        exact ⟨HI5.out _ _ _ _ _, set5_belowM HL.out (w.heap.size + 1) _ _ _ _ _ (by omega), .inr ⟨hall, rfl⟩⟩
end Go.Proofs.Ytncgcjeihihkfaa
