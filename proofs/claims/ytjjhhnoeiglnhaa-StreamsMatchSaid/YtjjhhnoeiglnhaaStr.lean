/- Contracts: streams of both sides. -/
import Derived.Test.YtjjhhnoeiglnhaaHshLaw
import Derived.RegionTactic
import Derived.ChangeAlike
import Derived.OneCell
namespace Go.Proofs.Ytjjhhnoeiglnhaa
open Go.RowKit Fl
set_option linter.unusedVariables false

def nxA (s : Int) : Int := xorU s (s * 8192 % 4294967296)
def nxB (s : Int) : Int := xorU s (s / 131072)
def nxC (s : Int) : Int := xorU s (s * 32 % 4294967296)
def nxI (s : Int) : Int := nxC (nxB (nxA s))
theorem nxI_in (s : Int) : 0 ≤ nxI s ∧ nxI s < 4294967296 := xorU_in _ _

/-- A stream's block, known whole. -/
def SAt (T : TypeId) (w : World) (b : Nat) (s : Int) : Prop := w.heap[b]? = some (.cells #[.int .u32 s] T (0, 0))

/-- Only block b's cell may differ. -/
structure OneBlk (b : Nat) (w w' : World) : Prop where
  os : w'.os = w.os
  tape : w'.tape = w.tape
  output : w'.output = w.output
  size : w'.heap.size = w.heap.size
  block : ∀ k, k ≠ b → w'.heap[k]? = w.heap[k]?
theorem OneBlk.trans {b : Nat} {u v w : World} (h : OneBlk b u v) (k : OneBlk b v w) : OneBlk b u w :=
  ⟨k.os.trans h.os, k.tape.trans h.tape, k.output.trans h.output, k.size.trans h.size, fun i hi => (k.block i hi).trans (h.block i hi)⟩
theorem OneBlk.below {b B : Nat} {w w' : World} (h : OneBlk b w w') (hB : B ≤ b) : Below B w w' :=
  ⟨h.os, h.tape, h.output, by rw [h.size]; exact Nat.le_refl _, fun k hk => h.block k (by omega)⟩
theorem OneBlk.set (w : World) (b : Nat) (v : Value) : OneBlk b w (w.setCell ⟨b, 0, none⟩ v) :=
  ⟨rfl, rfl, rfl, World.size_setCell _ _ _, fun k hk => Below.heap_setCell _ _ _ _ hk⟩
theorem OneBlk.drew {b : Nat} {w w' : World} (h : OneBlk b w w') : OneBlk b w w'.drew := ⟨h.os, h.tape, h.output, h.size, h.block⟩
theorem SAt.set {T : TypeId} {w : World} {b : Nat} {s : Int} (h : SAt T w b s) (t : Int) : SAt T (w.setCell ⟨b, 0, none⟩ (.int .u32 t)) b t := one_setCell h
theorem SAt.drew {T : TypeId} {w : World} {b : Nat} {s : Int} (h : SAt T w b s) : SAt T w.drew b s := h
theorem SAt.facts {T : TypeId} {w : World} {b : Nat} {s : Int} (h : SAt T w b s) : w.cell? ⟨b, 0, none⟩ = some (.int .u32 s) ∧ w.frozen? ⟨b, 0, none⟩ = false := ⟨(blkC h).1 0, (blkC h).2.1 0⟩
theorem SAt.other {T : TypeId} {w w' : World} {b b' : Nat} {s : Int} (h : SAt T w b s) (k : OneBlk b' w w') (hb : b ≠ b') : SAt T w' b s := by unfold SAt; rw [k.block b hb]; exact h

set_option maxHeartbeats 1000000 in
theorem next_any (b : Nat) (s : Int) (w : World) (h : SAt 115 w b s) :
    Calls Try.prog 48 #[.pointer (some ⟨b, 0, none⟩)] w fun e w' => e = .returned (.int .u32 (nxI s)) ∧ SAt 115 w' b (nxI s) ∧ OneBlk b w w' := by
  obtain ⟨hc, hf⟩ := h.facts
  have H := Lib.hid h
  clear h
  go_enter Try.func48, Try.ntmps48
  go_wp2
  go_region
  generalize hW1 : (w.setCell ⟨b, 0, none⟩ (.int .u32 (bits .xor .u32 s (s * 8192 % 4294967296)))).drew = w1
  have H1 := Lib.hid (show SAt 115 w1 b (nxA s) by rw [← hW1]; exact (H.out.set (nxA s)).drew)
  have O1 := Lib.hid (show OneBlk b w w1 by rw [← hW1]; exact (OneBlk.set _ _ _).drew)
  clear hW1 hc hf
  obtain ⟨hc, hf⟩ := H1.out.facts
  go_wp2
  go_region
  generalize hW2 : (w1.setCell ⟨b, 0, none⟩ (.int .u32 (bits .xor .u32 (nxA s) (nxA s / 131072)))).drew = w2
  have H2 := Lib.hid (show SAt 115 w2 b (nxB (nxA s)) by rw [← hW2]; exact (H1.out.set (nxB (nxA s))).drew)
  have O2 := Lib.hid (show OneBlk b w w2 by rw [← hW2]; exact O1.out.trans (OneBlk.set _ _ _).drew)
  clear hW2 hc hf
  obtain ⟨hc, hf⟩ := H2.out.facts
  go_wp2
  go_region
  generalize hW3 : (w2.setCell ⟨b, 0, none⟩ (.int .u32 (bits .xor .u32 (nxB (nxA s)) (nxB (nxA s) * 32 % 4294967296)))).drew = w3
  have H3 := Lib.hid (show SAt 115 w3 b (nxC (nxB (nxA s))) by rw [← hW3]; exact (H2.out.set (nxC (nxB (nxA s)))).drew)
  have O3 := Lib.hid (show OneBlk b w w3 by rw [← hW3]; exact O2.out.trans (OneBlk.set _ _ _).drew)
  clear hW3 hc hf
  obtain ⟨hc, hf⟩ := H3.out.facts
  go_wp2
  go_ret
  exact ⟨rfl, H3.out, O3.out⟩

set_option maxHeartbeats 1000000 in
theorem refNext_any (b : Nat) (s : Int) (w : World) (h : SAt 117 w b s) :
    Calls Try.prog 49 #[.pointer (some ⟨b, 0, none⟩)] w fun e w' => e = .returned (.int .u32 (nxI s)) ∧ SAt 117 w' b (nxI s) ∧ OneBlk b w w' := by
  obtain ⟨hc, hf⟩ := h.facts
  have H := Lib.hid h
  clear h
  go_enter Try.func49, Try.ntmps49
  go_wp2
  go_ret
  exact ⟨ret_int rfl, (H.out.set (nxI s)), OneBlk.set _ _ _⟩
end Go.Proofs.Ytjjhhnoeiglnhaa
