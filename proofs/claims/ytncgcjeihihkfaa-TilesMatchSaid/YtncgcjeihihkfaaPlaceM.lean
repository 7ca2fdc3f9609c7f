/- Contract: byPlace, whatever function it is given, with a state of its own. -/
import Derived.Test.YtncgcjeihihkfaaByCellM
import Derived.StillTailTactics
namespace Go.Proofs.Ytncgcjeihihkfaa
open Go.RowKit Fl
set_option linter.unusedVariables false

/-- A function of a cell's place, with a state. -/
def Clos2M (M : Nat → Prop) (Inv : Nat → World → Prop) (g : Nat) (caps : Array Value) (X Y W H : Int) (f : Nat → Nat) (w : World) : Prop :=
  ∀ (x y : Int) (i : Nat) (W' : World), X ≤ x → x < X + W → Y ≤ y → y < Y + H → (i : Int) = (y - Y) * W + (x - X) → BelowM M w.heap.size w W' → Inv i W' →
    Calls Try.prog g (#[.int .i64 x, .int .i64 y] ++ caps) W' fun e W'' => e = .returned (.float .f32 (f i)) ∧ Inv (i + 1) W'' ∧ BelowM M W'.heap.size W' W''

set_option maxHeartbeats 400000 in
set_option maxRecDepth 100000 in
theorem place1M_any (M : Nat → Prop) (Inv : Nat → World → Prop) (X Y : Int) (W H n : Nat) (g : Nat) (caps : Array Value) (f : Nat → Nat) (p q : Nat) (w : World) (hst : State M Inv w) (hcall : Enters g) (hcl : Clos2M M Inv g caps X Y W H f w)
    (hp : w.heap[p]? = some (fnObj g caps)) (hq : w.heap[q]? = some (regObj X Y W H)) (mp : ¬ M p) (mq : ¬ M q) (hX1 : -16777216 ≤ X) (hX2 : X ≤ 16777216) (hY1 : -16777216 ≤ Y) (hY2 : Y ≤ 16777216) (hW1 : 1 ≤ W) (hW2 : W ≤ 512) (hH2 : H ≤ 512) (hn : n = H * W) :
    Clos1M M Inv 182 #[.pointer (some ⟨p, 0, none⟩), .pointer (some ⟨q, 0, none⟩)] n f w := by
  intro i w2 hi hb hinv
  have hdm := Nat.div_add_mod i W
  have hml := Nat.mod_lt i (show 0 < W by omega)
  have hdl : i / W < H := Nat.div_lt_of_lt_mul (by rw [Nat.mul_comm]; omega)
  obtain ⟨a, ha⟩ : ∃ a : Nat, a = i % W := ⟨_, rfl⟩
  obtain ⟨b, hb'⟩ : ∃ b : Nat, b = i / W := ⟨_, rfl⟩
  rw [← ha, ← hb'] at hdm
  rw [← ha] at hml
  rw [← hb'] at hdl
  have ei : (i : Int) = ((Y + b) - Y) * W + ((X + a) - X) := by
    rw [show Y + (b : Int) - Y = b by omega, show X + (a : Int) - X = a by omega, ← hdm]; simp [Int.mul_comm]
  have CC := Lib.hid (hcl (X + a) (Y + b) i w2.drew (by omega) (by omega) (by omega) (by omega) ei hb.drew (hst.hang i w2 w2.drew hinv (fun _ _ => rfl)))
  have P := blkStayM hp hb mp
  have Q := blkStayM hq hb mq
  have HP := Lib.hid (show w2.drew.heap[p]? = some (fnObj g caps) from P)
  have HQ := Lib.hid (show w2.drew.heap[q]? = some (regObj X Y W H) from Q)
  have HD := Lib.hid (BelowM.drew (BelowM.refl M w2.heap.size w2))
  obtain ⟨cP, fP, zP⟩ := blkC P
  obtain ⟨cQ, fQ, zQ⟩ := blkC Q
  unfold Enters at hcall
  have t1 : (i : Int).tmod (W : Int) = (a : Int) := by rw [ha]; rw [Int.tmod_eq_emod_of_nonneg (by omega)]; simp
  have t2 : (i : Int).tdiv (W : Int) = (b : Int) := by rw [hb']; rw [Int.tdiv_eq_ediv_of_nonneg (by omega)]; simp
  have t3 : (i : Int) % (W : Int) = (a : Int) := by rw [ha]; simp
  have t4 : (i : Int) / (W : Int) = (b : Int) := by rw [hb']; simp
  have u1 : IntKind.i64.wrap (X + (a : Int)) = X + a := IntWalk.i64_in _ (by omega)
  have u2 : IntKind.i64.wrap (Y + (b : Int)) = Y + b := IntWalk.i64_in _ (by omega)
  have u3 : IntKind.i64.wrap (b : Int) = b := IntWalk.i64_in _ (by omega)
  have w0 : ¬ ((W : Int) = 0) := by omega
  have w0' : ¬ (W = 0) := by omega
  have t6 : i % W = a := ha.symm
  have t7 : i / W = b := hb'.symm
  have w1 : (1 : Int) ≤ (W : Int) := by omega
  have i0 : (0 : Int) ≤ (i : Int) := by omega
  have b1 : (a : Int) < 512 := by omega
  have b2 : (b : Int) < 512 := by omega
  clear hp hq P Q hb ei hdm hml hdl ha hb' hcl hst hinv mp mq
  go_enter Try.func182, Try.ntmps182
  go_wp2
  go_still_tail 15, (by kernel_rfl)
  change wpList _ _ _ _ _ w2.drew
  clear cP fP zP cQ fQ zQ
  generalize w2.drew = w3 at *
  obtain ⟨cP, fP, zP⟩ := blkC HP.out
  obtain ⟨cQ, fQ, zQ⟩ := blkC HQ.out
  go_wp2_with fail
  refine CC.out.mono ?_
  rintro e w4 ⟨rfl, hi9, hb9⟩
  have H9 := Lib.hid (And.intro hi9 (HD.out.trans (hb9.mono HD.out.size)))
  clear hi9 hb9 cP fP cQ fQ
  go_wp2
  go_ret
  exact ⟨rfl, H9.out⟩
end Go.Proofs.Ytncgcjeihihkfaa
