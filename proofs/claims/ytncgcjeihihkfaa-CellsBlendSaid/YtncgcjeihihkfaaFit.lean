/- Contract: fit. -/
import Derived.Test.YtncgcjeihihkfaaFHgt2
import Derived.Test.YtncgcjeihihkfaaBlk
import Derived.Deep.DeepCutAuto
namespace Go.Proofs.Ytncgcjeihihkfaa
open Go.RowKit Fl

theorem and15 (x : Int) : ∃ a : Nat, a ≤ 15 ∧ bits BinOp.and IntKind.i64 x 15 = (a : Int) := by
  have h : (BitVec.ofInt 64 x &&& BitVec.ofInt 64 15).toNat ≤ 15 := by
    rw [BitVec.toNat_and]
    exact Nat.le_trans Nat.and_le_right (by decide)
  refine ⟨(BitVec.ofInt 64 x &&& BitVec.ofInt 64 15).toNat, h, ?_⟩
  show IntKind.i64.wrap ((BitVec.ofInt 64 x &&& BitVec.ofInt 64 15).toNat : Int) = _
  rw [IntKind.wrap_i64]
  omega

/-- The made cells of singles. -/
theorem made_f32 (n i : Nat) (h : i < n) : (madeCells #[Value.float .f32 0] n)[i]? = some (.float .f32 0) := by
  simp [madeCells, h, Nat.mod_one]

theorem make_f32 (n : Nat) (hn : n ≤ 65536) (w : World) :
    (Instr.makeSlice 34 (.int .i64 (n : Int)) (.int .i64 (n : Int))).run Try.prog w = .ok (.slice (some ⟨w.heap.size, 0, none⟩) n n) (w.alloc (.cells (madeCells #[Value.float .f32 0] n) 39)) := by
  have h : (Try.prog.info? 39).map (fun i => (i.zero, i.size, i.bytes)) = some (some (.float .f32 0), 1, 4) := by kernel_rfl
  obtain ⟨i0, hi, hz0, hz1, hz2⟩ := info_parts h
  have hr := run_make (P := Try.prog) w 34 39 i0 (.float .f32 0) Try.underlying34 hi hz0 .i64 .i64 n n (by omega) (by omega) (by rw [hz2]; omega) (by omega)
  rw [hz1, Nat.mul_one, Int.toNat_natCast] at hr
  exact hr

/-- A field as a value; the cells of its box. -/
abbrev fldV (x y w h : Int) (sl : Value) : Value := .agg #[.int .i64 x, .int .i64 y, .int .i64 w, .int .i64 h, sl]
abbrev fldO (x y w h : Int) (sl : Value) : Obj := .cells #[.int .i64 x, .int .i64 y, .int .i64 w, .int .i64 h, sl] 36

def cl1 (x : Int) : Int := if x < -5000 then -5000 else x
def clampI (x : Int) : Int := if 5000 < cl1 x then 5000 else cl1 x
theorem clampI_le (x : Int) : -5000 ≤ clampI x ∧ clampI x ≤ 5000 := by unfold clampI cl1; split <;> split <;> omega

/-- Block b is n singles, those below k heights. -/
def FitRow (wr : World) (b n k : Nat) : Prop :=
  ∃ cs : Array Value, wr.heap[b]? = some (.cells cs 39 (0, 0)) ∧ cs.size = n ∧ ∀ j, j < n → ∃ x, cs[j]? = some (.float .f32 x) ∧ x < 4294967296 ∧ (j < k → hgtB x = true)

/-- What fit leaves: a small region near the origin, heights in a new block. -/
def FitPost (w : World) (e : Ending) (w' : World) : Prop :=
  ∃ X Y W H : Int, ∃ b n : Nat, e = .returned (fldV X Y W H (.slice (some ⟨b, 0, none⟩) n n)) ∧ -5000 ≤ X ∧ X ≤ 5000 ∧ -5000 ≤ Y ∧ Y ≤ 5000 ∧ 1 ≤ W ∧ W ≤ 16 ∧ 1 ≤ H ∧ H ≤ 16 ∧ (n : Int) = W * H ∧ 1 ≤ n ∧ n ≤ 256 ∧ w.heap.size ≤ b ∧ FitRow w' b n n ∧ Below w.heap.size w w'

theorem nat_bd {j k T : Nat} (hT : T = 1074) (h : j ≤ 2 ^ k) : j * 2 ^ T ≤ 2 ^ (1074 + k) := by
  rw [← hT, Nat.pow_add, Nat.mul_comm]; exact Nat.mul_le_mul_left _ h
theorem floatOfInt_bd (j k : Nat) (hk : k ≤ 100) (h : j ≤ 2 ^ k) : Bd k (floatOfInt .f32 (j : Int)) := by
  have e : floatOfInt .f32 (j : Int) = Ieee.single.nearest false j 0 := by
    show Ieee.single.nearest (decide ((j : Int) < 0)) (j : Int).natAbs 0 = _
    rw [show decide ((j : Int) < 0) = false by simp, Int.natAbs_natCast]
  rw [e, nearest_val Ieee.single false (-1074) 925 leastS j (p := 0) (by omega)]
  exact bd_word (nat_bd (by omega) h) (by omega)
theorem floatOfInt_lt (j : Int) : floatOfInt .f32 j < 4294967296 := by
  have h := Ieee.Format.write_lt Ieee.single (.number (decide (j < 0)) j.natAbs 0)
  exact h
theorem floatOfInt_small (j : Nat) (h : j ≤ 256) : hgtB (floatOfInt .f32 (j : Int)) = true :=
  bd_hgt (floatOfInt_bd j 20 (by omega) (Nat.le_trans h (by decide)))

theorem fit_keep {wr : World} {b n k x : Nat} (h : FitRow wr b n k) (hk : k < n) (hx : x < 4294967296) (hh : hgtB x = true) : FitRow (wr.setCell ⟨b, k, none⟩ (.float .f32 x)) b n (k + 1) := by
  obtain ⟨cs, h1, h2, h3⟩ := h
  refine ⟨cs.setIfInBounds k (.float .f32 x), heap_setCell_same wr b k cs _ _ h1, by simp [h2], fun j hj => ?_⟩
  by_cases e : k = j
  · subst e
    exact ⟨x, by rw [Array.getElem?_setIfInBounds_self_of_lt (by omega)], hx, fun _ => hh⟩
  · obtain ⟨y, q1, q2, q3⟩ := h3 j hj
    exact ⟨y, by rw [Array.getElem?_setIfInBounds_ne e]; exact q1, q2, fun c => q3 (by omega)⟩

theorem fit_step {wr : World} {b n k x : Nat} (h : FitRow wr b n k) (hk : k < n) (hx : x < 4294967296) : FitRow (wr.setCell ⟨b, k, none⟩ (.float .f32 x)) b n k := by
  obtain ⟨cs, h1, h2, h3⟩ := h
  refine ⟨cs.setIfInBounds k (.float .f32 x), heap_setCell_same wr b k cs _ _ h1, by simp [h2], fun j hj => ?_⟩
  by_cases e : k = j
  · subst e
    exact ⟨x, by rw [Array.getElem?_setIfInBounds_self_of_lt (by omega)], hx, fun c => by omega⟩
  · obtain ⟨y, q1, q2, q3⟩ := h3 j hj
    exact ⟨y, by rw [Array.getElem?_setIfInBounds_ne e]; exact q1, q2, q3⟩

theorem fit_cell {wr : World} {b n k : Nat} (h : FitRow wr b n k) (j : Nat) (hj : j < n) : ∃ x, wr.cell? ⟨b, j, none⟩ = some (.float .f32 x) ∧ x < 4294967296 ∧ (j < k → hgtB x = true) := by
  obtain ⟨cs, h1, h2, h3⟩ := h
  obtain ⟨x, q1, q2, q3⟩ := h3 j hj
  exact ⟨x, by simp [World.cell?, h1, q1], q2, q3⟩

theorem fit_up {wr : World} {b n k x : Nat} (h : FitRow wr b n k) (hc : wr.cell? ⟨b, k, none⟩ = some (.float .f32 x)) (hh : hgtB x = true) : FitRow wr b n (k + 1) := by
  obtain ⟨cs, h1, h2, h3⟩ := h
  refine ⟨cs, h1, h2, fun j hj => ?_⟩
  obtain ⟨y, q1, q2, q3⟩ := h3 j hj
  refine ⟨y, q1, q2, fun c => ?_⟩
  by_cases e : j < k
  · exact q3 e
  · have : j = k := by omega
    subst this
    have : wr.cell? ⟨b, j, none⟩ = some (.float .f32 y) := by simp [World.cell?, h1, q1]
    rw [hc] at this
    cases this
    exact hh

theorem FitRow.congr {w w' : World} {b n k : Nat} (h : FitRow w b n k) (e : w'.heap[b]? = w.heap[b]?) : FitRow w' b n k := by
  obtain ⟨cs, h1, h2⟩ := h
  exact ⟨cs, by rw [e]; exact h1, h2⟩
theorem FitRow.lt {w : World} {b n k : Nat} (h : FitRow w b n k) : b < w.heap.size := by
  obtain ⟨cs, h1, _⟩ := h
  exact (blkC h1).2.2
theorem FitRow.free {w : World} {b n k : Nat} (h : FitRow w b n k) (j : Nat) : w.frozen? ⟨b, j, none⟩ = false := by
  obtain ⟨cs, h1, _⟩ := h
  exact (blkC h1).2.1 j

theorem flAt_one (w : World) (x : Nat) : FlAt (w.alloc (.cells #[.float .f32 x] 39)) w.heap.size 0 1 (fun _ => x) := by
  intro i hi
  have : i = 0 := by omega
  subst this
  have h : (w.alloc (.cells #[Value.float .f32 x] 39)).heap[w.heap.size]? = some (.cells #[.float .f32 x] 39) := by rw [heap_alloc_get, if_pos rfl]
  exact (blkC h).1 0

theorem refHeight_one (x : Nat) (hx : x < 4294967296) (w : World) :
    Calls Try.prog 60 #[.slice (some ⟨w.heap.size, 0, none⟩) 1 1] (w.alloc (.cells #[.float .f32 x] 39)) fun e w' => e = .returned (.int .i64 (fldE 1 (fun _ => x))) ∧ w.alloc (.cells #[.float .f32 x] 39) = w' :=
  refHeight_row _ 0 1 1 (fun _ => x) (by omega) _ (flAt_one w x) (fun _ _ => hx)
theorem fldE_one_ok {x : Nat} (h : hgtB x = true) : fldE 1 (fun _ => x) = 0 := by
  have f := hgt_fin h
  simp [fldE, hgtE, allB, List.range_succ, h, f]
theorem fldE_one_no {x : Nat} (h : hgtB x = false) : fldE 1 (fun _ => x) = 2 ∨ fldE 1 (fun _ => x) = 3 := by
  unfold fldE
  by_cases f : allB 1 (fun _ => finB x) = true
  · right; rw [if_pos f]; unfold hgtE; rw [allB_no (k := 0) (by omega) h]; rfl
  · left; rw [if_neg f]

theorem fit_six (wr : World) (B : Nat) (u0 u1 u2 u3 u4 u5 : Value) :
    ((((((wr.setCell ⟨B, 4, none⟩ u0).setCell ⟨B + 1, 0, none⟩ u1).setCell ⟨B + 1, 1, none⟩ u2).setCell ⟨B + 1, 2, none⟩ u3).setCell ⟨B + 1, 3, none⟩ u4).setCell ⟨B + 1, 4, none⟩ u5).heap[B + 1 + 1]? = wr.heap[B + 1 + 1]? := by
  have n0 : B + 1 + 1 ≠ B := by omega
  have n1 : B + 1 + 1 ≠ B + 1 := by omega
  rw [Below.heap_setCell _ _ _ _ n1, Below.heap_setCell _ _ _ _ n1, Below.heap_setCell _ _ _ _ n1, Below.heap_setCell _ _ _ _ n1, Below.heap_setCell _ _ _ _ n1, Below.heap_setCell _ _ _ _ n0]

set_option maxHeartbeats 2000000 in
theorem fit_some (X Y W H : Int) (sb so len cap : Nat) (v : Nat → Nat) (w : World) (hl : 0 < len) (hl2 : len ≤ 9223372036854775807) (hc : FlAt w sb so len v) (hwf : wf32 len v) :
    Calls Try.prog 15 #[fldV X Y W H (.slice (some ⟨sb, so, none⟩) len cap)] w (FitPost w) := by
  obtain ⟨p, hp, eW⟩ := and15 W
  obtain ⟨q, hq, eH⟩ := and15 H
  obtain ⟨n, hn⟩ : ∃ n : Nat, n = (1 + p) * (1 + q) := ⟨_, rfl⟩
  have hn2 : n ≤ 256 := by rw [hn]; exact Nat.le_trans (Nat.mul_le_mul (by omega : 1 + p ≤ 16) (by omega : 1 + q ≤ 16)) (by omega)
  have hn1 : 1 ≤ n := by rw [hn]; exact Nat.mul_pos (by omega) (by omega)
  have en : wrap64 ((1 + (p : Int)) * (1 + (q : Int))) = (n : Int) := by
    have : ((1 + (p : Int)) * (1 + (q : Int))) = (n : Int) := by rw [hn]; simp
    rw [this]; exact IntWalk.wrap64_in _ ⟨by omega, by omega⟩
  have HN := Lib.hid hn
  clear hn
  have e1 : (if X < -5000 then -5000 else X) = cl1 X := rfl
  have e2 : (if Y < -5000 then -5000 else Y) = cl1 Y := rfl
  have e3 : (if 5000 < cl1 X then 5000 else cl1 X) = clampI X := rfl
  have e4 : (if 5000 < cl1 Y then 5000 else cl1 Y) = clampI Y := rfl
  have hmk := make_f32 n (by omega)
  have hsb : sb < w.heap.size := by
    have := hc 0 hl
    exact World.block_lt_of_cell? w _ this
  have HC := Lib.hid hc
  have HW := Lib.hid hwf
  clear hc hwf
  have hsf := fun (w : World) (a : Addr) (m : Mode) (k : FloatKind) (b : Nat) => run_store_float (P := Try.prog) (w := w) (a := a) (m := m) k b
  go_enter Try.func15, Try.ntmps15
  go_wp2
  clear en e1 e2 e3 e4 eW eH hmk
  go_loopw [43] (fun i wr => ∃ k : Nat, k ≤ n ∧ i = .int .i64 k ∧ FitRow wr (w.heap.size + 1 + 1) n k ∧ wr.heap[w.heap.size]? = some (fldO (clampI X) (clampI Y) (1 + p) (1 + q) (.slice (some ⟨sb, so, none⟩) len cap)) ∧ wr.heap[w.heap.size + 1]? = some (fldO 0 0 0 0 (.slice none 0 0)) ∧ Below w.heap.size w wr) (fun i _ => n - (intOf i).toNat)
  case atStart =>
    refine ⟨0, Nat.zero_le _, rfl, ⟨madeCells #[Value.float .f32 0] n, ?_, size_madeCells _ _, fun j hj => ⟨0, made_f32 n j hj, by omega, fun c => by omega⟩⟩, ?_, ?_, (by repeat (first | exact Below.refl _ _ | refine Below.alloc ?_ (by first | omega | (simp; done) | (simp; omega)) _ | refine Below.setCell ?_ (by first | omega | (simp; done) | (simp; omega)) _ | refine Below.drew ?_))⟩
    · simp only [heap_alloc_get, heap_size_alloc]; simp <;> omega
    · simp only [heap_alloc_get, heap_size_alloc]; simp <;> omega
    · simp only [heap_alloc_get, heap_size_alloc]; simp <;> omega
  case round =>
    obtain ⟨k, hk, rfl, hrow, hbox, hres, hbel⟩ := hrel
    have HR := Lib.hid hrow
    have HB := Lib.hid hbox
    have HS := Lib.hid hres
    obtain ⟨cB, fB, zB⟩ := blkC hbox
    clear hrow hbox hres
    by_cases hlt : k < n
    · obtain ⟨x0, hx0, _, _⟩ := fit_cell HR.out k hlt
      have hfr : wr.frozen? ⟨w.heap.size + 1 + 1, k, none⟩ = false := by
        obtain ⟨cs, h1, _⟩ := HR.out
        exact (blkC h1).2.1 k
      have hm : k % len < len := Nat.mod_lt _ hl
      have hsrc : wr.cell? ⟨sb, so + k % len, none⟩ = some (.float .f32 (v (k % len))) := by
        rw [hbel.cell (p := ⟨sb, so + k % len, none⟩) hsb]; exact HC.out _ hm
      go_wp2
      go_region
      have hx := HW.out _ hm
      generalize v (k % len) = x at *
      have R2 := Lib.hid ((fit_step HR.out hlt hx).congr rfl : FitRow (wr.setCell ⟨w.heap.size + 1 + 1, k, none⟩ (.float .f32 x)).drew (w.heap.size + 1 + 1) n k)
      have B2 : Hid ((wr.setCell ⟨w.heap.size + 1 + 1, k, none⟩ (.float .f32 x)).drew.heap[w.heap.size]? = some (fldO (clampI X) (clampI Y) (1 + p) (1 + q) (.slice (some ⟨sb, so, none⟩) len cap))) := (Below.heap_setCell wr ⟨w.heap.size + 1 + 1, k, none⟩ (.float .f32 x) w.heap.size (show w.heap.size ≠ w.heap.size + 1 + 1 by omega)).trans HB.out
      have S2 : Hid ((wr.setCell ⟨w.heap.size + 1 + 1, k, none⟩ (.float .f32 x)).drew.heap[w.heap.size + 1]? = some (fldO 0 0 0 0 (.slice none 0 0))) := (Below.heap_setCell wr ⟨w.heap.size + 1 + 1, k, none⟩ (.float .f32 x) (w.heap.size + 1) (show w.heap.size + 1 ≠ w.heap.size + 1 + 1 by omega)).trans HS.out
      have L2 : Below w.heap.size w (wr.setCell ⟨w.heap.size + 1 + 1, k, none⟩ (.float .f32 x)).drew := (hbel.setCell (show w.heap.size ≤ w.heap.size + 1 + 1 by omega) _).drew
      have C2 : (wr.setCell ⟨w.heap.size + 1 + 1, k, none⟩ (.float .f32 x)).drew.cell? ⟨w.heap.size + 1 + 1, k, none⟩ = some (.float .f32 x) := by
        obtain ⟨cs, h1, h2, _⟩ := HR.out
        show (wr.setCell ⟨w.heap.size + 1 + 1, k, none⟩ (.float .f32 x)).cell? ⟨w.heap.size + 1 + 1, k, none⟩ = _
        rw [(blkC (heap_setCell_same wr _ k cs _ _ h1)).1 k, Array.getElem?_setIfInBounds_self_of_lt (by omega)]
      generalize (wr.setCell ⟨w.heap.size + 1 + 1, k, none⟩ (.float .f32 x)).drew = w2 at *
      clear hsrc hx0 hfr cB fB zB HR HB HS hbel
      have HX := Lib.hid hx
      have z2 : w.heap.size + 1 + 1 < w2.heap.size := R2.out.lt
      have f2 := R2.out.free k
      cases hh : hgtB x with
      | true =>
        have HG := Lib.hid hh
        clear hh
        have HT := Lib.hid (fun w => refHeight_one x hx w)
        rw [fldE_one_ok HG.out] at HT
        clear hx
        go_wp2_with (go_at_call 60; refine (HT.out _).mono ?_; rintro e w' ⟨rfl, rfl⟩)
        go_roundw
        case rel =>
          exact ⟨k + 1, by omega, by go_num, (fit_up R2.out C2 HG.out).congr (heap_alloc_old _ _ (by omega)), (heap_alloc_old _ _ (by omega)).trans B2.out, (heap_alloc_old _ _ (by omega)).trans S2.out, L2.alloc (by omega) _⟩
        case measure => simp [intOf]; omega
      | false =>
        have HG := Lib.hid hh
        clear hh
        have HT := Lib.hid (fun w => refHeight_one x hx w)
        clear hx
        have hk256 : k ≤ 256 := by omega
        rcases fldE_one_no HG.out with e | e
        all_goals
          rw [e] at HT
          clear e
          go_wp2_with (go_at_call 60; refine (HT.out _).mono ?_; rintro e w' ⟨rfl, rfl⟩)
          go_roundw
          case rel =>
            have sz : ∀ u, (w2.setCell ⟨w.heap.size + 1 + 1, k, none⟩ u).heap.size = w2.heap.size := fun u => by simp
            exact ⟨k + 1, by omega, by go_num, (fit_keep R2.out hlt (floatOfInt_lt _) (floatOfInt_small k hk256)).congr (heap_alloc_old _ _ (by rw [sz]; omega)), (heap_alloc_old _ _ (by rw [sz]; omega)).trans ((Below.heap_setCell _ _ _ _ (show w.heap.size ≠ w.heap.size + 1 + 1 by omega)).trans B2.out), (heap_alloc_old _ _ (by rw [sz]; omega)).trans ((Below.heap_setCell _ _ _ _ (show w.heap.size + 1 ≠ w.heap.size + 1 + 1 by omega)).trans S2.out), (L2.setCell (p := ⟨w.heap.size + 1 + 1, k, none⟩) (show w.heap.size ≤ w.heap.size + 1 + 1 by omega) _).alloc (by rw [sz]; omega) _⟩
          case measure => simp [intOf]; omega
    · obtain ⟨cS, fS, zS⟩ := blkC HS.out
      go_wp2
      have hkn : k = n := by omega
      refine bodyPost_ret (v := fldV (clampI X) (clampI Y) (1 + p) (1 + q) (.slice (some ⟨w.heap.size + 1 + 1, 0, none⟩) n n)) (by simp [results, Try.results15, go_sem, cS]) rfl ?_
      obtain ⟨c1, c2⟩ := clampI_le X
      obtain ⟨c3, c4⟩ := clampI_le Y
      refine ⟨_, _, _, _, _, _, rfl, c1, c2, c3, c4, by omega, by omega, by omega, by omega, ?_, hn1, hn2, by omega, ?_, ?_⟩
      · rw [HN.out]; simp
      · subst hkn
        exact HR.out.congr (fit_six wr _ _ _ _ _ _ _)
      · exact (((((hbel.setCell (p := ⟨w.heap.size, 4, none⟩) (Nat.le_refl _) _).setCell (p := ⟨w.heap.size + 1, 0, none⟩) (Nat.le_succ _) _).setCell (p := ⟨w.heap.size + 1, 1, none⟩) (Nat.le_succ _) _).setCell (p := ⟨w.heap.size + 1, 2, none⟩) (Nat.le_succ _) _).setCell (p := ⟨w.heap.size + 1, 3, none⟩) (Nat.le_succ _) _).setCell (p := ⟨w.heap.size + 1, 4, none⟩) (Nat.le_succ _) _

end Go.Proofs.Ytncgcjeihihkfaa
