/- Contracts of the regions' functions, continued: Grow, Common, Inside. -/
import Derived.Test.YtncgcjeihihkfaaReg
import Derived.Lib.Hide
import Derived.Deep.RegionHeld3
namespace Go.Proofs.Ytncgcjeihihkfaa
open Go.RowKit

/-- What Grow answers. -/
def growE (x y w h n : Int) : Int :=
  if checkR x y w h = 0 then if n < -512 ∨ 512 < n then 3 else checkR (x - n) (y - n) (w + 2 * n) (h + 2 * n) else checkR x y w h
def growR (x y w h n : Int) : Value := if growE x y w h n = 0 then reg (x - n) (y - n) (w + 2 * n) (h + 2 * n) else reg 0 0 0 0
theorem checkR_zero {x y w h : Int} (e : checkR x y w h = 0) : 1 ≤ w ∧ w ≤ 512 ∧ 1 ≤ h ∧ h ≤ 512 ∧ w * h ≤ 65536 ∧ -4194304 ≤ x ∧ x ≤ 4194304 - w ∧ -4194304 ≤ y ∧ y ≤ 4194304 - h := by
  unfold checkR at e
  split at e <;> omega

theorem bcell {W w1 : World} (hb : Below W.heap.size W w1) : (∀ b o, b < W.heap.size → w1.cell? ⟨b, o, none⟩ = W.cell? ⟨b, o, none⟩) ∧ (∀ b o, b < W.heap.size → w1.frozen? ⟨b, o, none⟩ = W.frozen? ⟨b, o, none⟩) :=
  ⟨fun b o h => hb.cell (p := ⟨b, o, none⟩) h, fun b o h => hb.frozen (p := ⟨b, o, none⟩) h⟩

theorem ret2 {a b : Value} {c d : Value} (h1 : a = b) (h2 : c = d) : Ending.returned (.tuple #[a, c]) = .returned (.tuple #[b, d]) := by rw [h1, h2]

end Go.Proofs.Ytncgcjeihihkfaa
