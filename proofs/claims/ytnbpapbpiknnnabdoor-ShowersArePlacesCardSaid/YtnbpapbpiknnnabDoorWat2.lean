/- Contracts: isBorder; neighbours, and the iterator that it hands back: the neighbours of a cell in the order of directions. -/
import Derived.Test.YtnbpapbpiknnnabDoorWat
import Derived.RangeFuncNested
import Derived.RangeFuncBound
import Derived.RangeFuncCalls
import Derived.RangeFuncLeaves
import Derived.Shelf.Abstract
import Derived.Shelf.RegionOpen
import Derived.OwnWalkIn
import Derived.TacticsInMore
import Derived.LoopNIn
import Derived.LoopIn
namespace Go.Proofs.YtnbpapbpiknnnabDoor
open Go.RowKit Fl Go.Shelf
set_option linter.unusedVariables false
attribute [local go_sem] Oper.semAt_some

set_option maxRecDepth 100000 in
set_option maxHeartbeats 2000000 in
theorem isBorder_any (X Y : Int) (W H k : Nat) (w : World) (hW1 : 1 ≤ W) (hW2 : W ≤ 512) (hH1 : 1 ≤ H) (hH2 : H ≤ 512) (hk : k < W * H) :
    Calls Tryd.prog 118 #[reg X Y W H, .int .i64 k] w fun e w' => e = .returned (.bool (bdB W H k)) ∧ Below w.heap.size w w' := by
  have BD := Lib.hid (show bdB W H k = decide (k % W = 0 ∨ k / W = 0 ∨ k % W + 1 = W ∨ k / W + 1 = H) from rfl)
  obtain ⟨a, ha⟩ : ∃ a : Nat, a = k % W := ⟨_, rfl⟩
  obtain ⟨b, hb'⟩ : ∃ b : Nat, b = k / W := ⟨_, rfl⟩
  have b1 : (a : Int) < 512 := by have := Nat.mod_lt k (show 0 < W by omega); omega
  have b2 : (b : Int) < 512 := by have : k / W < H := Nat.div_lt_of_lt_mul hk; omega
  have t1 : (k : Int).tmod (W : Int) = (a : Int) := by rw [ha]; rw [Int.tmod_eq_emod_of_nonneg (by omega)]; simp
  have t2 : (k : Int).tdiv (W : Int) = (b : Int) := by rw [hb']; rw [Int.tdiv_eq_ediv_of_nonneg (by omega)]; simp
  have t3 : (k : Int) % (W : Int) = (a : Int) := by rw [ha]; simp
  have t4 : (k : Int) / (W : Int) = (b : Int) := by rw [hb']; simp
  have u3 : IntKind.i64.wrap (b : Int) = b := IntWalk.i64_in _ (by omega)
  have w0 : ¬ ((W : Int) = 0) := by omega
  have w0' : ¬ (W = 0) := by omega
  have t6 : k % W = a := ha.symm
  have t7 : k / W = b := hb'.symm
  have w1 : (1 : Int) ≤ (W : Int) := by omega
  have i0 : (0 : Int) ≤ (k : Int) := by omega
  have BD' : Hid (bdB W H k = decide (a = 0 ∨ b = 0 ∨ a + 1 = W ∨ b + 1 = H)) := by
    have h := BD.out
    rw [t6, t7] at h
    exact Lib.hid h
  clear ha hb' BD hk
  obtain ⟨q, hq⟩ : ∃ q, q = bdB W H k := ⟨_, rfl⟩
  rw [← hq] at BD' ⊢
  clear hq
  go_enter Tryd.func118, Tryd.ntmps118
  go_wp2
  go_region
  all_goals clear t1 t2 t3 t4 t6 t7 u3 w0 w0' i0
  all_goals go_wp2
  all_goals go_ret
  all_goals exact ⟨ret_bool (by first | (rw [BD'.out]; simp; omega) | (rw [BD'.out, Bool.eq_iff_iff]; simp; omega)), by repeat (first | exact Below.refl _ _ | refine Below.drew ?_ | refine Below.alloc ?_ (by simp; try omega) _ | exact ((Below.refl _ _).alloc (Nat.le_refl _) _).trans ((below_drewN _ _).mono (by simp)))⟩

/-- What neighbours hands back: a closure of the region and of the place, each in a box of its own. -/
def NbrPost (w : World) (X Y : Int) (W H k : Nat) (e : Ending) (w' : World) : Prop :=
  ∃ q, w.heap.size < q ∧ e = .returned (.func (.func 147) #[] #[.pointer (some ⟨w.heap.size, 0, none⟩), .pointer (some ⟨q, 0, none⟩)]) ∧
    w'.heap[w.heap.size]? = some (regObj X Y W H) ∧ w'.heap[q]? = some (ptO (X + ((k % W : Nat) : Int)) (Y + ((k / W : Nat) : Int))) ∧ q < w'.heap.size ∧ Below w.heap.size w w'

set_option maxHeartbeats 1000000 in
theorem neighbours_any (X Y : Int) (W H k : Nat) (w : World) (hX1 : -4194304 ≤ X) (hX2 : X ≤ 4194304) (hY1 : -4194304 ≤ Y) (hY2 : Y ≤ 4194304) (hW1 : 1 ≤ W) (hW2 : W ≤ 512) (hi : k < 65536) :
    Calls Tryd.prog 122 #[reg X Y W H, .int .i64 k] w (NbrPost w X Y W H k) := by
  have PL := Lib.hid (fun w => place_any X Y W H k w hX1 hX2 hY1 hY2 hW1 hW2 hi)
  obtain ⟨x, hx⟩ : ∃ x, x = X + ((k % W : Nat) : Int) := ⟨_, rfl⟩
  obtain ⟨y, hy⟩ : ∃ y, y = Y + ((k / W : Nat) : Int) := ⟨_, rfl⟩
  have EX := Lib.hid hx
  have EY := Lib.hid hy
  rw [← hx, ← hy] at PL
  clear hx hy
  go_enter Tryd.func122, Tryd.ntmps122
  go_wp2_with (go_at_call 79; refine (PL.out _).mono ?_; rintro e w3 ⟨rfl, hb3⟩; have HR3 := Lib.hid (blkStay (b := w.heap.size) (o := regObj X Y W H) (by ((simp only [heap_alloc_get, heap_size_alloc, if_true]) <;> ((repeat' split) <;> first | rfl | omega))) hb3); have hB3 : Below w.heap.size w w3 := Below.trans (by repeat (first | exact Below.refl _ _ | refine Below.alloc ?_ (by first | omega | (simp; done) | (simp; omega)) _ | refine Below.setCell ?_ (by first | omega | (simp; done) | (simp; omega)) _ | refine Below.drew ?_)) (Below.mono hb3 (by first | omega | (simp; done) | (simp; omega))); have hz3 : w.heap.size < w3.heap.size := (by have := hb3.size; simp at this; omega); clear hb3)
  go_ret
  exact ⟨w3.heap.size, hz3, rfl, (heap_alloc_old _ _ hz3).trans HR3.out, by rw [← EX.out, ← EY.out]; exact heap_alloc_new _ _, by simp, hB3.alloc (Nat.le_of_lt hz3) _⟩

/-- The neighbours in the directions below j: direction and number. -/
def nbrs (W H k j : Nat) : List (Nat × Nat) := (List.range j).filterMap fun d => (nbI W H k d).map fun m => (d, m)
theorem nbrs_none {W H k j : Nat} (h : nbI W H k j = none) : nbrs W H k (j + 1) = nbrs W H k j := by simp [nbrs, List.range_succ, h]
theorem nbrs_some {W H k j m : Nat} (h : nbI W H k j = some m) : nbrs W H k (j + 1) = nbrs W H k j ++ [(j, m)] := by simp [nbrs, List.range_succ, h]
theorem nbrs_len (W H k j : Nat) : (nbrs W H k j).length ≤ j := by
  unfold nbrs; exact Nat.le_trans (List.length_filterMap_le _ _) (by simp)
def encN (x : Nat × Nat) : Array Value := #[.int .i64 (x.1 : Int), .int .i64 (x.2 : Int)]

/-- What a round keeps: the iterator's two boxes and the table of directions. -/
def KpN (r q : Nat) (W W' : World) : Prop := ∀ b, b = r ∨ b = q ∨ b = 1 → W'.heap[b]? = W.heap[b]?
theorem kpN_t {r q : Nat} {A B C : World} (h : KpN r q A B) (k : KpN r q B C) : KpN r q A C := fun b hb => (k b hb).trans (h b hb)
theorem kpN_b {r q : Nat} {w : World} (hr : r < w.heap.size) (hq : q < w.heap.size) (hg : 1 < w.heap.size) (W : World) (l : Nat) (o o' : Obj) (hl : w.heap.size ≤ l) (h : W.heap[l]? = some o) (_ : o.isCells = false) (_ : o.isWalk = false) : KpN r q W (W.putObj l o') :=
  fun b hb => World.putObj_heap_other (by rcases hb with rfl | rfl | rfl <;> omega)
theorem DirsAt.congr {w w' : World} (h : DirsAt w) (e : w'.heap[1]? = w.heap[1]?) : DirsAt w' := fun d hd => by
  obtain ⟨a, b⟩ := h d hd
  exact ⟨(World.cell?_of_block (w := w) (w' := w') (a := ⟨1, d * 2, none⟩) e).trans a, (World.cell?_of_block (w := w) (w' := w') (a := ⟨1, d * 2 + 1, none⟩) e).trans b⟩

theorem grown_of {w w' : World} (h : Below w.heap.size w w') : w.grownBy w' none := ⟨h.os, h.tape, h.output, h.size, fun k hk _ => h.block k hk⟩

set_option maxRecDepth 100000 in
set_option maxHeartbeats 400000 in
/-- The iterator of neighbours, in whatever loop. -/
theorem nbr1_any (X Y x y : Int) (W H k r q : Nat) (n : Nat) (hn : 1 ≤ n) (l : Nat) (hX1 : -4194304 ≤ X) (hX2 : X ≤ 4194304) (hY1 : -4194304 ≤ Y) (hY2 : Y ≤ 4194304) (hW2 : W ≤ 512) (hH2 : H ≤ 512) (hk : k < W * H)
    (ex : x = X + ((k % W : Nat) : Int)) (ey : y = Y + ((k / W : Nat) : Int)) (x1 : -4194304 ≤ x) (x2 : x ≤ 4194304) (y1 : -4194304 ≤ y) (y2 : y ≤ 4194304) (J Jx : List (Nat × Nat) → World → Prop)
    (hJ : ∀ s W W', J s W → W.grownBy W' none → J s W')
    (hY : ∀ pre x W1, J pre W1 → pre.length < 8 → x.1 < 8 → nbI W H k x.1 = some x.2 → YieldAt Fence.wide (n - 1) Tryd.prog l (encN x) W1 fun e W' =>
      (e = .returned (.bool true) ∧ J (pre ++ [x]) W' ∧ KpN r q W1 W') ∨ (e = .returned (.bool false) ∧ Jx (pre ++ [x]) W'))
    (w : World) (hD : DirsAt w) (hr : w.heap[r]? = some (regObj X Y W H)) (hq : w.heap[q]? = some (ptO x y)) (h0 : J [] w) :
    CallsIn Fence.wide n Tryd.prog 147 #[.func (.yield l) #[] #[], .pointer (some ⟨r, 0, none⟩), .pointer (some ⟨q, 0, none⟩)] w fun e W' => (∃ v, e = .returned v) ∧
      (J (nbrs W H k 8) W' ∨ ∃ j, j ≤ 8 ∧ Jx (nbrs W H k j) W') := by
  have EX := Lib.hid ex
  have EY := Lib.hid ey
  clear ex ey
  refine callsIn_of_wp Tryd.func147 rfl trivial ?_ rfl
  simp only [Tryd.ntmps147, List.size_toArray, List.length_cons, List.length_nil, Nat.reduceAdd, Nat.reduceSub, Array.replicate_succ, Array.replicate_zero, List.push_toArray, List.append_toArray, List.nil_append, List.cons_append]
  gi_wp2
  gi_loopw [4, 5, 6, 7] (fun s4 s5 s6 s7 wr => ∃ j : Nat, j ≤ 8 ∧ s7 = .int .i64 j ∧ J (nbrs W H k j) wr ∧ DirsAt wr ∧ wr.heap[r]? = some (regObj X Y W H) ∧ wr.heap[q]? = some (ptO x y))
    (fun _ _ _ i _ => 8 - (intOf i).toNat)
  case atStart => exact ⟨0, Nat.zero_le _, rfl, h0, hD, hr, hq⟩
  case round =>
    obtain ⟨j, hj, rfl, hJs, hDs, hrs, hqs⟩ := hrel
    have HJ := Lib.hid hJs
    have HD := Lib.hid hDs
    have HR := Lib.hid hrs
    have HQ := Lib.hid hqs
    obtain ⟨cR, fR, zR⟩ := blkC hrs
    obtain ⟨cQ, fQ, zQ⟩ := blkC hqs
    clear hJs hDs hrs hqs
    by_cases hlt : j < 8
    · have BS := Lib.hid (beside_any X Y x y W H j wr HD.out hlt hX1 hX2 hY1 hY2 hW2 hH2 x1 x2 y1 y2)
      cases hnb : nbI W H k j with
      | none =>
        have hz := bes_none (X := X) (Y := Y) hnb
        rw [← EX.out, ← EY.out] at hz
        rw [hz] at BS
        have NN := Lib.hid (nbrs_none hnb)
        clear hz hnb
        generalize (y + dyI j - Y) * (W : Int) + (x + dxI j - X) = ix at *
        gi_wp2_with (refine ⟨trivial, ?_⟩; gi_at_call 148; refine (callsIn_wide.2 BS.out).mono ?_; rintro e w2 ⟨rfl, hb2⟩; have HB2 := Lib.hid hb2; clear hb2 cR fR zR cQ fQ zQ)
        refine ⟨fun _ h => (by cases h), ?_⟩
        gi_wp2
        go_roundw
        case rel => exact ⟨j + 1, by omega, by go_num, by rw [NN.out]; exact hJ _ _ _ HJ.out (grown_of HB2.out), HD.out.stay HB2.out, blkStay HR.out HB2.out, blkStay HQ.out HB2.out⟩
        case measure => simp [intOf]; omega
      | some m =>
        obtain ⟨e1, hz⟩ := bes_some (X := X) (Y := Y) hk hnb
        rw [← EX.out, ← EY.out] at hz e1
        rw [hz, e1] at BS
        have NN := Lib.hid (nbrs_some hnb)
        have LN := Lib.hid (show (nbrs W H k j).length < 8 from Nat.lt_of_le_of_lt (nbrs_len W H k j) hlt)
        have NB := Lib.hid hnb
        clear hz e1 hnb
        gi_wp2_with (refine ⟨trivial, ?_⟩; gi_at_call 148; refine (callsIn_wide.2 BS.out).mono ?_; rintro e w2 ⟨rfl, hb2⟩; have HB2 := Lib.hid hb2; clear hb2 cR fR zR cQ fQ zQ; obtain ⟨fn, tmps, assign, body, hy, hR⟩ := hY (nbrs W H k j) (j, m) w2 (hJ _ _ _ HJ.out (grown_of HB2.out)) LN.out hlt NB.out; simp only [encN] at hy; have RR := Lib.hid hR; clear hR)
        refine RR.out.mono ?_
        rintro e W3 (⟨rfl, hJ3, hk3⟩ | ⟨rfl, hJx3⟩)
        · have J3 := Lib.hid hJ3
          have K3 := Lib.hid hk3
          clear hJ3 hk3 hy
          gi_wp2
          go_roundw
          case rel => exact ⟨j + 1, by omega, by go_num, by rw [NN.out]; exact J3.out, (HD.out.stay HB2.out).congr (K3.out _ (.inr (.inr rfl))), (K3.out r (.inl rfl)).trans (blkStay HR.out HB2.out), (K3.out q (.inr (.inl rfl))).trans (blkStay HQ.out HB2.out)⟩
          case measure => simp [intOf]; omega
        · have J3 := Lib.hid hJx3
          clear hJx3 hy
          gi_wp2
          refine bodyPost_ret (results_none rfl _ _ _) rfl ?_
          exact ⟨⟨_, rfl⟩, .inr ⟨j + 1, by omega, by rw [NN.out]; exact J3.out⟩⟩
    · have hj8 : j = 8 := by omega
      subst hj8
      gi_wp2
      go_end0
      exact ⟨⟨_, rfl⟩, .inl HJ.out⟩

theorem enters_nbr1 : Enters 147 := by intro args W; simp [callFunc, Tryd.func147, Tryd.f147]

/-- A neighbour of the cell k: its direction, its number. -/
def Nb (W H k : Nat) : Type := { p : Nat × Nat // p.1 < 8 ∧ nbI W H k p.1 = some p.2 }
def encNb {W H k : Nat} (x : Nb W H k) : Array Value := encN x.1

/-- neighbours' closure, as the law of a range over a function wants it. -/
theorem nbr_stops (X Y x y : Int) (W H k r q : Nat) (n : Nat) (hn : 1 ≤ n) (hX1 : -4194304 ≤ X) (hX2 : X ≤ 4194304) (hY1 : -4194304 ≤ Y) (hY2 : Y ≤ 4194304) (hW2 : W ≤ 512) (hH2 : H ≤ 512) (hk : k < W * H)
    (ex : x = X + ((k % W : Nat) : Int)) (ey : y = Y + ((k / W : Nat) : Int)) (x1 : -4194304 ≤ x) (x2 : x ≤ 4194304) (y1 : -4194304 ≤ y) (y2 : y ≤ 4194304)
    (w : World) (hD : DirsAt w) (hr : w.heap[r]? = some (regObj X Y W H)) (hq : w.heap[q]? = some (ptO x y)) :
    SeqStopsK Fence.wide n Tryd.prog 147 #[.pointer (some ⟨r, 0, none⟩), .pointer (some ⟨q, 0, none⟩)] (encNb (W := W) (H := H) (k := k)) (KpN r q) (fun xs => xs.map (fun z => z.1) = nbrs W H k 8) (fun pre => ∃ j, j ≤ 8 ∧ pre.map (fun z => z.1) = nbrs W H k j) 8 w := fun l J Jx W1 hW hJ hJx hY h0 => by
  refine (nbr1_any X Y x y W H k r q n hn l hX1 hX2 hY1 hY2 hW2 hH2 hk ex ey x1 x2 y1 y2 (fun pre W2 => ∃ p : List (Nb W H k), p.map (fun z => z.1) = pre ∧ J p W2) (fun pre W2 => ∃ p : List (Nb W H k), p.map (fun z => z.1) = pre ∧ Jx p W2)
    (fun s A B hs hg => by obtain ⟨p, e, h⟩ := hs; exact ⟨p, e, hJ p A B none h hg (fun r e => by cases e)⟩) ?_ W1 (hD.stay hW) (blkStay hr hW) (blkStay hq hW) ⟨[], rfl, h0⟩).mono ?_
  · rintro pre z W2 ⟨p, rfl, hp⟩ hlen h8 hnb
    refine (hY p ⟨z, h8, hnb⟩ W2 hp (by simpa using hlen)).mono ?_
    rintro e W' (⟨h1, h2, h3⟩ | ⟨h1, h2⟩)
    · exact .inl ⟨h1, ⟨_, by rw [List.map_append]; rfl, h2⟩, h3⟩
    · exact .inr ⟨h1, ⟨_, by rw [List.map_append]; rfl, h2⟩⟩
  · rintro e W' ⟨hv, ⟨p, e1, h⟩ | ⟨j, hj, p, e1, h⟩⟩
    · exact ⟨hv, .inl ⟨p, e1, h⟩⟩
    · exact ⟨hv, .inr ⟨p, ⟨j, hj, e1⟩, h⟩⟩
theorem nbrs_mem {W H k e m : Nat} (he : e < 8) (h : nbI W H k e = some m) : (e, m) ∈ nbrs W H k 8 := by
  unfold nbrs
  exact List.mem_filterMap.2 ⟨e, List.mem_range.2 he, by rw [h]; rfl⟩
end Go.Proofs.YtnbpapbpiknnnabDoor
