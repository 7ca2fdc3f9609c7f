/- Contract: fit. -/
import Derived.Test.YtnbpapbpiknnnabDoorFHgt2
import Derived.Test.YtnbpapbpiknnnabDoorBlk
import Derived.Deep.DeepCutAuto
namespace Go.Proofs.YtnbpapbpiknnnabDoor
open Go.RowKit Fl

theorem and15 (x : Int) : ∃ a : Nat, a ≤ 15 ∧ bits BinOp.and IntKind.i64 x 15 = (a : Int) := by
  have h : (BitVec.ofInt 64 x &&& BitVec.ofInt 64 15).toNat ≤ 15 := by
    rw [BitVec.toNat_and]
    exact Nat.le_trans Nat.and_le_right (by decide)
  refine ⟨(BitVec.ofInt 64 x &&& BitVec.ofInt 64 15).toNat, h, ?_⟩
  show IntKind.i64.wrap ((BitVec.ofInt 64 x &&& BitVec.ofInt 64 15).toNat : Int) = _
  rw [IntKind.wrap_i64]
  omega

/-- The made cells of singles. -/
theorem made_f32 (n i : Nat) (h : i < n) : (madeCells #[Value.float .f32 0] n)[i]? = some (.float .f32 0) := by
  simp [madeCells, h, Nat.mod_one]

theorem make_f32 (n : Nat) (hn : n ≤ 65536) (w : World) :
    (Instr.makeSlice 24 (.int .i64 (n : Int)) (.int .i64 (n : Int))).run Tryd.prog w = .ok (.slice (some ⟨w.heap.size, 0, none⟩) n n) (w.alloc (.cells (madeCells #[Value.float .f32 0] n) 27)) := by
  have h : (Tryd.prog.info? 27).map (fun i => (i.zero, i.size, i.bytes)) = some (some (.float .f32 0), 1, 4) := by kernel_rfl
  obtain ⟨i0, hi, hz0, hz1, hz2⟩ := info_parts h
  have hr := run_make (P := Tryd.prog) w 24 27 i0 (.float .f32 0) Tryd.underlying24 hi hz0 .i64 .i64 n n (by omega) (by omega) (by rw [hz2]; omega) (by omega)
  rw [hz1, Nat.mul_one, Int.toNat_natCast] at hr
  exact hr

/-- A field as a value; the cells of its box. -/
abbrev fldV (x y w h : Int) (sl : Value) : Value := .agg #[.int .i64 x, .int .i64 y, .int .i64 w, .int .i64 h, sl]
abbrev fldO (x y w h : Int) (sl : Value) : Obj := .cells #[.int .i64 x, .int .i64 y, .int .i64 w, .int .i64 h, sl] 26

def cl1 (x : Int) : Int := if x < -5000 then -5000 else x
def clampI (x : Int) : Int := if 5000 < cl1 x then 5000 else cl1 x
theorem clampI_le (x : Int) : -5000 ≤ clampI x ∧ clampI x ≤ 5000 := by unfold clampI cl1; split <;> split <;> omega

/-- Block b is n singles, those below k heights. -/
def FitRow (wr : World) (b n k : Nat) : Prop :=
  ∃ cs : Array Value, wr.heap[b]? = some (.cells cs 27 (0, 0)) ∧ cs.size = n ∧ ∀ j, j < n → ∃ x, cs[j]? = some (.float .f32 x) ∧ x < 4294967296 ∧ (j < k → hgtB x = true)

/-- What fit leaves: a small region near the origin, heights in a new block. -/
def FitPost (w : World) (e : Ending) (w' : World) : Prop :=
  ∃ X Y W H : Int, ∃ b n : Nat, e = .returned (fldV X Y W H (.slice (some ⟨b, 0, none⟩) n n)) ∧ -5000 ≤ X ∧ X ≤ 5000 ∧ -5000 ≤ Y ∧ Y ≤ 5000 ∧ 1 ≤ W ∧ W ≤ 16 ∧ 1 ≤ H ∧ H ≤ 16 ∧ (n : Int) = W * H ∧ 1 ≤ n ∧ n ≤ 256 ∧ w.heap.size ≤ b ∧ FitRow w' b n n ∧ Below w.heap.size w w'

theorem nat_bd {j k T : Nat} (hT : T = 1074) (h : j ≤ 2 ^ k) : j * 2 ^ T ≤ 2 ^ (1074 + k) := by
  rw [← hT, Nat.pow_add, Nat.mul_comm]; exact Nat.mul_le_mul_left _ h
theorem floatOfInt_bd (j k : Nat) (hk : k ≤ 100) (h : j ≤ 2 ^ k) : Bd k (floatOfInt .f32 (j : Int)) := by
  have e : floatOfInt .f32 (j : Int) = Ieee.single.nearest false j 0 := by
    show Ieee.single.nearest (decide ((j : Int) < 0)) (j : Int).natAbs 0 = _
    rw [show decide ((j : Int) < 0) = false by simp, Int.natAbs_natCast]
  rw [e, nearest_val Ieee.single false (-1074) 925 leastS j (p := 0) (by omega)]
  exact bd_word (nat_bd (by omega) h) (by omega)
theorem floatOfInt_lt (j : Int) : floatOfInt .f32 j < 4294967296 := by
  have h := Ieee.Format.write_lt Ieee.single (.number (decide (j < 0)) j.natAbs 0)
  exact h
theorem floatOfInt_small (j : Nat) (h : j ≤ 256) : hgtB (floatOfInt .f32 (j : Int)) = true :=
  bd_hgt (floatOfInt_bd j 20 (by omega) (Nat.le_trans h (by decide)))

theorem fit_keep {wr : World} {b n k x : Nat} (h : FitRow wr b n k) (hk : k < n) (hx : x < 4294967296) (hh : hgtB x = true) : FitRow (wr.setCell ⟨b, k, none⟩ (.float .f32 x)) b n (k + 1) := by
  obtain ⟨cs, h1, h2, h3⟩ := h
  refine ⟨cs.setIfInBounds k (.float .f32 x), heap_setCell_same wr b k cs _ _ h1, by simp [h2], fun j hj => ?_⟩
  by_cases e : k = j
  · subst e
    exact ⟨x, by rw [Array.getElem?_setIfInBounds_self_of_lt (by omega)], hx, fun _ => hh⟩
  · obtain ⟨y, q1, q2, q3⟩ := h3 j hj
    exact ⟨y, by rw [Array.getElem?_setIfInBounds_ne e]; exact q1, q2, fun c => q3 (by omega)⟩

theorem fit_step {wr : World} {b n k x : Nat} (h : FitRow wr b n k) (hk : k < n) (hx : x < 4294967296) : FitRow (wr.setCell ⟨b, k, none⟩ (.float .f32 x)) b n k := by
  obtain ⟨cs, h1, h2, h3⟩ := h
  refine ⟨cs.setIfInBounds k (.float .f32 x), heap_setCell_same wr b k cs _ _ h1, by simp [h2], fun j hj => ?_⟩
  by_cases e : k = j
  · subst e
    exact ⟨x, by rw [Array.getElem?_setIfInBounds_self_of_lt (by omega)], hx, fun c => by omega⟩
  · obtain ⟨y, q1, q2, q3⟩ := h3 j hj
    exact ⟨y, by rw [Array.getElem?_setIfInBounds_ne e]; exact q1, q2, q3⟩

theorem fit_cell {wr : World} {b n k : Nat} (h : FitRow wr b n k) (j : Nat) (hj : j < n) : ∃ x, wr.cell? ⟨b, j, none⟩ = some (.float .f32 x) ∧ x < 4294967296 ∧ (j < k → hgtB x = true) := by
  obtain ⟨cs, h1, h2, h3⟩ := h
  obtain ⟨x, q1, q2, q3⟩ := h3 j hj
  exact ⟨x, by simp [World.cell?, h1, q1], q2, q3⟩

theorem fit_up {wr : World} {b n k x : Nat} (h : FitRow wr b n k) (hc : wr.cell? ⟨b, k, none⟩ = some (.float .f32 x)) (hh : hgtB x = true) : FitRow wr b n (k + 1) := by
  obtain ⟨cs, h1, h2, h3⟩ := h
  refine ⟨cs, h1, h2, fun j hj => ?_⟩
  obtain ⟨y, q1, q2, q3⟩ := h3 j hj
  refine ⟨y, q1, q2, fun c => ?_⟩
  by_cases e : j < k
  · exact q3 e
  · have : j = k := by omega
    subst this
    have : wr.cell? ⟨b, j, none⟩ = some (.float .f32 y) := by simp [World.cell?, h1, q1]
    rw [hc] at this
    cases this
    exact hh

theorem FitRow.congr {w w' : World} {b n k : Nat} (h : FitRow w b n k) (e : w'.heap[b]? = w.heap[b]?) : FitRow w' b n k := by
  obtain ⟨cs, h1, h2⟩ := h
  exact ⟨cs, by rw [e]; exact h1, h2⟩
theorem FitRow.lt {w : World} {b n k : Nat} (h : FitRow w b n k) : b < w.heap.size := by
  obtain ⟨cs, h1, _⟩ := h
  exact (blkC h1).2.2
theorem FitRow.free {w : World} {b n k : Nat} (h : FitRow w b n k) (j : Nat) : w.frozen? ⟨b, j, none⟩ = false := by
  obtain ⟨cs, h1, _⟩ := h
  exact (blkC h1).2.1 j

theorem flAt_one (w : World) (x : Nat) : FlAt (w.alloc (.cells #[.float .f32 x] 27)) w.heap.size 0 1 (fun _ => x) := by
  intro i hi
  have : i = 0 := by omega
  subst this
  have h : (w.alloc (.cells #[Value.float .f32 x] 27)).heap[w.heap.size]? = some (.cells #[.float .f32 x] 27) := by rw [heap_alloc_get, if_pos rfl]
  exact (blkC h).1 0

theorem fldE_one_ok {x : Nat} (h : hgtB x = true) : fldE 1 (fun _ => x) = 0 := by
  have f := hgt_fin h
  simp [fldE, hgtE, allB, List.range_succ, h, f]
theorem fldE_one_no {x : Nat} (h : hgtB x = false) : fldE 1 (fun _ => x) = 2 ∨ fldE 1 (fun _ => x) = 3 := by
  unfold fldE
  by_cases f : allB 1 (fun _ => finB x) = true
  · right; rw [if_pos f]; unfold hgtE; rw [allB_no (k := 0) (by omega) h]; rfl
  · left; rw [if_neg f]

theorem fit_six (wr : World) (B : Nat) (u0 u1 u2 u3 u4 u5 : Value) :
    ((((((wr.setCell ⟨B, 4, none⟩ u0).setCell ⟨B + 1, 0, none⟩ u1).setCell ⟨B + 1, 1, none⟩ u2).setCell ⟨B + 1, 2, none⟩ u3).setCell ⟨B + 1, 3, none⟩ u4).setCell ⟨B + 1, 4, none⟩ u5).heap[B + 1 + 1]? = wr.heap[B + 1 + 1]? := by
  have n0 : B + 1 + 1 ≠ B := by omega
  have n1 : B + 1 + 1 ≠ B + 1 := by omega
  rw [Below.heap_setCell _ _ _ _ n1, Below.heap_setCell _ _ _ _ n1, Below.heap_setCell _ _ _ _ n1, Below.heap_setCell _ _ _ _ n1, Below.heap_setCell _ _ _ _ n1, Below.heap_setCell _ _ _ _ n0]

end Go.Proofs.YtnbpapbpiknnnabDoor
