/- Lemmas and contracts for the proof that the last text of this claim holds. -/
import Derived.Test.YtacbemilicdklaaDoorWjB
import Derived.RangeFuncNested
import Derived.RangeFuncBound
import Derived.RangeFuncCalls
import Derived.RangeFuncLeaves
import Derived.Shelf.Abstract
import Derived.Shelf.RegionOpen
import Derived.OwnWalkIn
import Derived.TacticsInMore
import Derived.LoopNIn
import Derived.LoopIn
import Derived.Deep.RegionHeld3
import Derived.Deep.AppendLies
import Derived.Deep.RegionLaw
import Derived.BigRegion
import Derived.RegionTactic
import Derived.ChangeAlike
import Derived.OrdersIn
import Derived.StillTail
import Derived.TacticsIn
import Derived.Laws.OwnMore

/- Contracts: isBorder; neighbours, and the iterator that it hands back: the neighbours of a cell in the order of directions. -/
namespace Go.Proofs.YtacbemilicdklaaDoor
open Go.RowKit Fl Go.Shelf
set_option linter.unusedVariables false
attribute [local go_sem] Oper.semAt_some

set_option maxRecDepth 100000 in
set_option maxHeartbeats 2000000 in
theorem isBorder_any (X Y : Int) (W H k : Nat) (w : World) (hW1 : 1 ≤ W) (hW2 : W ≤ 512) (hH1 : 1 ≤ H) (hH2 : H ≤ 512) (hk : k < W * H) :
    Calls Tryd.prog 118 #[reg X Y W H, .int .i64 k] w fun e w' => e = .returned (.bool (bdB W H k)) ∧ Below w.heap.size w w' := by
  have BD := Lib.hid (show bdB W H k = decide (k % W = 0 ∨ k / W = 0 ∨ k % W + 1 = W ∨ k / W + 1 = H) from rfl)
  obtain ⟨a, ha⟩ : ∃ a : Nat, a = k % W := ⟨_, rfl⟩
  obtain ⟨b, hb'⟩ : ∃ b : Nat, b = k / W := ⟨_, rfl⟩
  have b1 : (a : Int) < 512 := by have := Nat.mod_lt k (show 0 < W by omega); omega
  have b2 : (b : Int) < 512 := by have : k / W < H := Nat.div_lt_of_lt_mul hk; omega
  have t1 : (k : Int).tmod (W : Int) = (a : Int) := by rw [ha]; rw [Int.tmod_eq_emod_of_nonneg (by omega)]; simp
  have t2 : (k : Int).tdiv (W : Int) = (b : Int) := by rw [hb']; rw [Int.tdiv_eq_ediv_of_nonneg (by omega)]; simp
  have t3 : (k : Int) % (W : Int) = (a : Int) := by rw [ha]; simp
  have t4 : (k : Int) / (W : Int) = (b : Int) := by rw [hb']; simp
  have u3 : IntKind.i64.wrap (b : Int) = b := IntWalk.i64_in _ (by omega)
  have w0 : ¬ ((W : Int) = 0) := by omega
  have w0' : ¬ (W = 0) := by omega
  have t6 : k % W = a := ha.symm
  have t7 : k / W = b := hb'.symm
  have w1 : (1 : Int) ≤ (W : Int) := by omega
  have i0 : (0 : Int) ≤ (k : Int) := by omega
  have BD' : Hid (bdB W H k = decide (a = 0 ∨ b = 0 ∨ a + 1 = W ∨ b + 1 = H)) := by
    have h := BD.out
    rw [t6, t7] at h
    exact Lib.hid h
  clear ha hb' BD hk
  obtain ⟨q, hq⟩ : ∃ q, q = bdB W H k := ⟨_, rfl⟩
  rw [← hq] at BD' ⊢
  clear hq
  go_enter Tryd.func118, Tryd.ntmps118
  go_wp2
  go_region
  all_goals clear t1 t2 t3 t4 t6 t7 u3 w0 w0' i0
  all_goals go_wp2
  all_goals go_ret
  all_goals exact ⟨ret_bool (by first | (rw [BD'.out]; simp; omega) | (rw [BD'.out, Bool.eq_iff_iff]; simp; omega)), by repeat (first | exact Below.refl _ _ | refine Below.drew ?_ | refine Below.alloc ?_ (by simp; try omega) _ | exact ((Below.refl _ _).alloc (Nat.le_refl _) _).trans ((below_drewN _ _).mono (by simp)))⟩

/-- What neighbours hands back: a closure of the region and of the place, each in a box of its own. -/
def NbrPost (w : World) (X Y : Int) (W H k : Nat) (e : Ending) (w' : World) : Prop :=
  ∃ q, w.heap.size < q ∧ e = .returned (.func (.func 147) #[] #[.pointer (some ⟨w.heap.size, 0, none⟩), .pointer (some ⟨q, 0, none⟩)]) ∧
    w'.heap[w.heap.size]? = some (regObj X Y W H) ∧ w'.heap[q]? = some (ptO (X + ((k % W : Nat) : Int)) (Y + ((k / W : Nat) : Int))) ∧ q < w'.heap.size ∧ Below w.heap.size w w'

set_option maxHeartbeats 1000000 in
theorem neighbours_any (X Y : Int) (W H k : Nat) (w : World) (hX1 : -4194304 ≤ X) (hX2 : X ≤ 4194304) (hY1 : -4194304 ≤ Y) (hY2 : Y ≤ 4194304) (hW1 : 1 ≤ W) (hW2 : W ≤ 512) (hi : k < 65536) :
    Calls Tryd.prog 122 #[reg X Y W H, .int .i64 k] w (NbrPost w X Y W H k) := by
  have PL := Lib.hid (fun w => place_any X Y W H k w hX1 hX2 hY1 hY2 hW1 hW2 hi)
  obtain ⟨x, hx⟩ : ∃ x, x = X + ((k % W : Nat) : Int) := ⟨_, rfl⟩
  obtain ⟨y, hy⟩ : ∃ y, y = Y + ((k / W : Nat) : Int) := ⟨_, rfl⟩
  have EX := Lib.hid hx
  have EY := Lib.hid hy
  rw [← hx, ← hy] at PL
  clear hx hy
  go_enter Tryd.func122, Tryd.ntmps122
  go_wp2_with (go_at_call 79; refine (PL.out _).mono ?_; rintro e w3 ⟨rfl, hb3⟩; have HR3 := Lib.hid (blkStay (b := w.heap.size) (o := regObj X Y W H) (by ((simp only [heap_alloc_get, if_true]) <;> ((repeat' split) <;> first | rfl | omega))) hb3); have hB3 : Below w.heap.size w w3 := Below.trans (by repeat (first | exact Below.refl _ _ | refine Below.alloc ?_ (by first | omega | (simp; done) | (simp; omega)) _ | refine Below.setCell ?_ (by first | omega | (simp; done) | (simp; omega)) _ | refine Below.drew ?_)) (Below.mono hb3 (by first | omega | (simp; done) | (simp; omega))); have hz3 : w.heap.size < w3.heap.size := (by have := hb3.size; simp at this; omega); clear hb3)
  go_ret
  exact ⟨w3.heap.size, hz3, rfl, (heap_alloc_old _ _ hz3).trans HR3.out, by rw [← EX.out, ← EY.out]; exact heap_alloc_new _ _, by simp, hB3.alloc (Nat.le_of_lt hz3) _⟩

/-- The neighbours in the directions below j: direction and number. -/
def nbrs (W H k j : Nat) : List (Nat × Nat) := (List.range j).filterMap fun d => (nbI W H k d).map fun m => (d, m)
theorem nbrs_none {W H k j : Nat} (h : nbI W H k j = none) : nbrs W H k (j + 1) = nbrs W H k j := by simp [nbrs, List.range_succ, h]
theorem nbrs_some {W H k j m : Nat} (h : nbI W H k j = some m) : nbrs W H k (j + 1) = nbrs W H k j ++ [(j, m)] := by simp [nbrs, List.range_succ, h]
theorem nbrs_len (W H k j : Nat) : (nbrs W H k j).length ≤ j := by
  unfold nbrs; exact Nat.le_trans (List.length_filterMap_le _ _) (by simp)
def encN (x : Nat × Nat) : Array Value := #[.int .i64 (x.1 : Int), .int .i64 (x.2 : Int)]

/-- What a round keeps: the iterator's two boxes and the table of directions. -/
def KpN (r q : Nat) (W W' : World) : Prop := ∀ b, b = r ∨ b = q ∨ b = 1 → W'.heap[b]? = W.heap[b]?
theorem kpN_t {r q : Nat} {A B C : World} (h : KpN r q A B) (k : KpN r q B C) : KpN r q A C := fun b hb => (k b hb).trans (h b hb)
theorem kpN_b {r q : Nat} {w : World} (hr : r < w.heap.size) (hq : q < w.heap.size) (hg : 1 < w.heap.size) (W : World) (l : Nat) (o o' : Obj) (hl : w.heap.size ≤ l) (h : W.heap[l]? = some o) (_ : o.isCells = false) (_ : o.isWalk = false) : KpN r q W (W.putObj l o') :=
  fun b hb => World.putObj_heap_other (by rcases hb with rfl | rfl | rfl <;> omega)
theorem DirsAt.congr {w w' : World} (h : DirsAt w) (e : w'.heap[1]? = w.heap[1]?) : DirsAt w' := fun d hd => by
  obtain ⟨a, b⟩ := h d hd
  exact ⟨(World.cell?_of_block (w := w) (w' := w') (a := ⟨1, d * 2, none⟩) e).trans a, (World.cell?_of_block (w := w) (w' := w') (a := ⟨1, d * 2 + 1, none⟩) e).trans b⟩

theorem grown_of {w w' : World} (h : Below w.heap.size w w') : w.grownBy w' none := ⟨h.os, h.tape, h.output, h.size, fun k hk _ => h.block k hk⟩

set_option maxRecDepth 100000 in
set_option maxHeartbeats 400000 in
/-- The iterator of neighbours, in whatever loop. -/
theorem nbr1_any (X Y x y : Int) (W H k r q : Nat) (n : Nat) (hn : 1 ≤ n) (l : Nat) (hX1 : -4194304 ≤ X) (hX2 : X ≤ 4194304) (hY1 : -4194304 ≤ Y) (hY2 : Y ≤ 4194304) (hW2 : W ≤ 512) (hH2 : H ≤ 512) (hk : k < W * H)
    (ex : x = X + ((k % W : Nat) : Int)) (ey : y = Y + ((k / W : Nat) : Int)) (x1 : -4194304 ≤ x) (x2 : x ≤ 4194304) (y1 : -4194304 ≤ y) (y2 : y ≤ 4194304) (J Jx : List (Nat × Nat) → World → Prop)
    (hJ : ∀ s W W', J s W → W.grownBy W' none → J s W')
    (hY : ∀ pre x W1, J pre W1 → pre.length < 8 → x.1 < 8 → nbI W H k x.1 = some x.2 → YieldAt Fence.wide (n - 1) Tryd.prog l (encN x) W1 fun e W' =>
      (e = .returned (.bool true) ∧ J (pre ++ [x]) W' ∧ KpN r q W1 W') ∨ (e = .returned (.bool false) ∧ Jx (pre ++ [x]) W'))
    (w : World) (hD : DirsAt w) (hr : w.heap[r]? = some (regObj X Y W H)) (hq : w.heap[q]? = some (ptO x y)) (h0 : J [] w) :
    CallsIn Fence.wide n Tryd.prog 147 #[.func (.yield l) #[] #[], .pointer (some ⟨r, 0, none⟩), .pointer (some ⟨q, 0, none⟩)] w fun e W' => (∃ v, e = .returned v) ∧
      (J (nbrs W H k 8) W' ∨ ∃ j, j ≤ 8 ∧ Jx (nbrs W H k j) W') := by
  have EX := Lib.hid ex
  have EY := Lib.hid ey
  clear ex ey
  refine callsIn_of_wp Tryd.func147 rfl trivial ?_ rfl
  simp only [Tryd.ntmps147, List.size_toArray, List.length_cons, List.length_nil, Nat.reduceAdd, Nat.reduceSub, Array.replicate_succ, Array.replicate_zero, List.push_toArray, List.append_toArray, List.nil_append, List.cons_append]
  gi_wp2
  gi_loopw [4, 5, 6, 7] (fun s4 s5 s6 s7 wr => ∃ j : Nat, j ≤ 8 ∧ s7 = .int .i64 j ∧ J (nbrs W H k j) wr ∧ DirsAt wr ∧ wr.heap[r]? = some (regObj X Y W H) ∧ wr.heap[q]? = some (ptO x y))
    (fun _ _ _ i _ => 8 - (intOf i).toNat)
  case atStart => exact ⟨0, Nat.zero_le _, rfl, h0, hD, hr, hq⟩
  case round =>
    obtain ⟨j, hj, rfl, hJs, hDs, hrs, hqs⟩ := hrel
    have HJ := Lib.hid hJs
    have HD := Lib.hid hDs
    have HR := Lib.hid hrs
    have HQ := Lib.hid hqs
    obtain ⟨cR, fR, zR⟩ := blkC hrs
    obtain ⟨cQ, fQ, zQ⟩ := blkC hqs
    clear hJs hDs hrs hqs
    by_cases hlt : j < 8
    · have BS := Lib.hid (beside_any X Y x y W H j wr HD.out hlt hX1 hX2 hY1 hY2 hW2 hH2 x1 x2 y1 y2)
      cases hnb : nbI W H k j with
      | none =>
        have hz := bes_none (X := X) (Y := Y) hnb
        rw [← EX.out, ← EY.out] at hz
        rw [hz] at BS
        have NN := Lib.hid (nbrs_none hnb)
        clear hz hnb
        generalize (y + dyI j - Y) * (W : Int) + (x + dxI j - X) = ix at *
        gi_wp2_with (refine ⟨trivial, ?_⟩; gi_at_call 148; refine (callsIn_wide.2 BS.out).mono ?_; rintro e w2 ⟨rfl, hb2⟩; have HB2 := Lib.hid hb2; clear hb2 cR fR zR cQ fQ zQ)
        refine ⟨fun _ h => (by cases h), ?_⟩
        gi_wp2
        go_roundw
        case rel => exact ⟨j + 1, by omega, by go_num, by rw [NN.out]; exact hJ _ _ _ HJ.out (grown_of HB2.out), HD.out.stay HB2.out, blkStay HR.out HB2.out, blkStay HQ.out HB2.out⟩
        case measure => simp [intOf]; omega
      | some m =>
        obtain ⟨e1, hz⟩ := bes_some (X := X) (Y := Y) hk hnb
        rw [← EX.out, ← EY.out] at hz e1
        rw [hz, e1] at BS
        have NN := Lib.hid (nbrs_some hnb)
        have LN := Lib.hid (show (nbrs W H k j).length < 8 from Nat.lt_of_le_of_lt (nbrs_len W H k j) hlt)
        have NB := Lib.hid hnb
        clear hz e1 hnb
        gi_wp2_with (refine ⟨trivial, ?_⟩; gi_at_call 148; refine (callsIn_wide.2 BS.out).mono ?_; rintro e w2 ⟨rfl, hb2⟩; have HB2 := Lib.hid hb2; clear hb2 cR fR zR cQ fQ zQ; obtain ⟨fn, tmps, assign, body, hy, hR⟩ := hY (nbrs W H k j) (j, m) w2 (hJ _ _ _ HJ.out (grown_of HB2.out)) LN.out hlt NB.out; simp only [encN] at hy; have RR := Lib.hid hR; clear hR)
        refine RR.out.mono ?_
        rintro e W3 (⟨rfl, hJ3, hk3⟩ | ⟨rfl, hJx3⟩)
        · have J3 := Lib.hid hJ3
          have K3 := Lib.hid hk3
          clear hJ3 hk3 hy
          gi_wp2
          go_roundw
          case rel => exact ⟨j + 1, by omega, by go_num, by rw [NN.out]; exact J3.out, (HD.out.stay HB2.out).congr (K3.out _ (.inr (.inr rfl))), (K3.out r (.inl rfl)).trans (blkStay HR.out HB2.out), (K3.out q (.inr (.inl rfl))).trans (blkStay HQ.out HB2.out)⟩
          case measure => simp [intOf]; omega
        · have J3 := Lib.hid hJx3
          clear hJx3 hy
          gi_wp2
          refine bodyPost_ret (results_none rfl _ _ _) rfl ?_
          exact ⟨⟨_, rfl⟩, .inr ⟨j + 1, by omega, by rw [NN.out]; exact J3.out⟩⟩
    · have hj8 : j = 8 := by omega
      subst hj8
      gi_wp2
      go_end0
      exact ⟨⟨_, rfl⟩, .inl HJ.out⟩

theorem enters_nbr1 : Enters 147 := by intro args W; simp [callFunc, Tryd.func147, Tryd.f147]

/-- A neighbour of the cell k: its direction, its number. -/
def Nb (W H k : Nat) : Type := { p : Nat × Nat // p.1 < 8 ∧ nbI W H k p.1 = some p.2 }
def encNb {W H k : Nat} (x : Nb W H k) : Array Value := encN x.1

/-- neighbours' closure, as the law of a range over a function wants it. -/
theorem nbr_stops (X Y x y : Int) (W H k r q : Nat) (n : Nat) (hn : 1 ≤ n) (hX1 : -4194304 ≤ X) (hX2 : X ≤ 4194304) (hY1 : -4194304 ≤ Y) (hY2 : Y ≤ 4194304) (hW2 : W ≤ 512) (hH2 : H ≤ 512) (hk : k < W * H)
    (ex : x = X + ((k % W : Nat) : Int)) (ey : y = Y + ((k / W : Nat) : Int)) (x1 : -4194304 ≤ x) (x2 : x ≤ 4194304) (y1 : -4194304 ≤ y) (y2 : y ≤ 4194304)
    (w : World) (hD : DirsAt w) (hr : w.heap[r]? = some (regObj X Y W H)) (hq : w.heap[q]? = some (ptO x y)) :
    SeqStopsK Fence.wide n Tryd.prog 147 #[.pointer (some ⟨r, 0, none⟩), .pointer (some ⟨q, 0, none⟩)] (encNb (W := W) (H := H) (k := k)) (KpN r q) (fun xs => xs.map (fun z => z.1) = nbrs W H k 8) (fun pre => ∃ j, j ≤ 8 ∧ pre.map (fun z => z.1) = nbrs W H k j) 8 w := fun l J Jx W1 hW hJ hJx hY h0 => by
  refine (nbr1_any X Y x y W H k r q n hn l hX1 hX2 hY1 hY2 hW2 hH2 hk ex ey x1 x2 y1 y2 (fun pre W2 => ∃ p : List (Nb W H k), p.map (fun z => z.1) = pre ∧ J p W2) (fun pre W2 => ∃ p : List (Nb W H k), p.map (fun z => z.1) = pre ∧ Jx p W2)
    (fun s A B hs hg => by obtain ⟨p, e, h⟩ := hs; exact ⟨p, e, hJ p A B none h hg (fun r e => by cases e)⟩) ?_ W1 (hD.stay hW) (blkStay hr hW) (blkStay hq hW) ⟨[], rfl, h0⟩).mono ?_
  · rintro pre z W2 ⟨p, rfl, hp⟩ hlen h8 hnb
    refine (hY p ⟨z, h8, hnb⟩ W2 hp (by simpa using hlen)).mono ?_
    rintro e W' (⟨h1, h2, h3⟩ | ⟨h1, h2⟩)
    · exact .inl ⟨h1, ⟨_, by rw [List.map_append]; rfl, h2⟩, h3⟩
    · exact .inr ⟨h1, ⟨_, by rw [List.map_append]; rfl, h2⟩⟩
  · rintro e W' ⟨hv, ⟨p, e1, h⟩ | ⟨j, hj, p, e1, h⟩⟩
    · exact ⟨hv, .inl ⟨p, e1, h⟩⟩
    · exact ⟨hv, .inr ⟨p, ⟨j, hj, e1⟩, h⟩⟩
theorem nbrs_mem {W H k e m : Nat} (he : e < 8) (h : nbI W H k e = some m) : (e, m) ∈ nbrs W H k 8 := by
  unfold nbrs
  exact List.mem_filterMap.2 ⟨e, List.mem_range.2 he, by rw [h]; rfl⟩
end Go.Proofs.YtacbemilicdklaaDoor

/- The drop from a cell in a direction, as a word; the greatest one over directions. -/
namespace Go.Proofs.YtacbemilicdklaaDoor
open Go.RowKit Fl
set_option linter.unusedVariables false

/-- The length of a step. -/
def dirW (d : Nat) : Nat := if d % 2 = 0 then 1065353216 else 1068827891
theorem vS_sqrt2 {j : Nat} (hj : j = 1051) : vS 1068827891 = some (11863283 * ((2 ^ j : Nat) : Int)) := by
  have h : Ieee.single.read 1068827891 = .number false 11863283 (-23) := by decide
  rw [vS_lit (t := 11863283) (k := 0) (j := j) h (by decide) (by rw [hj]; decide)]; simp
theorem dir_val (d : Nat) : ∃ c, vS (dirW d) = some c ∧ (one : Int) ≤ c := by
  obtain ⟨j, hj⟩ : ∃ j : Nat, j = 1051 := ⟨_, rfl⟩
  unfold dirW
  by_cases h : d % 2 = 0
  · rw [if_pos h]; exact ⟨_, vS_one, Int.le_refl _⟩
  · rw [if_neg h]
    refine ⟨_, vS_sqrt2 hj, ?_⟩
    have e : one = 8388608 * 2 ^ j := by rw [one_split (a := 23) (j := j) (by omega)]
    rw [e]; generalize 2 ^ j = U; omega

def dropW (a b d : Nat) : Nat := (floatBits .quo .f32 ((floatBits .sub .f32 a b).getD 0) (dirW d)).getD 0
/-- The steps of a drop. -/
structure DropAt (a b d s q : Nat) : Prop where
  s1 : floatBits .sub .f32 a b = some s
  q1 : floatBits .quo .f32 s (dirW d) = some q
  w : dropW a b d = q
  bd : Bd 21 q
theorem drop_parts {a b : Nat} (d : Nat) (ha : hgtB a = true) (hb : hgtB b = true) : ∃ s q, DropAt a b d s q := by
  obtain ⟨_, _, _, s, _, _, _, _, e1, bs⟩ := (sub_same (k := 20) (by omega) (hgt_bd ha) (hgt_bd hb)).ex
  obtain ⟨c, vc, hc⟩ := val_bd bs
  obtain ⟨x, vx, hx⟩ := dir_val d
  obtain ⟨J, hJ⟩ : ∃ J : Nat, J = 1074 := ⟨_, rfl⟩
  have f21 : (2 : Nat) ^ 21 = 2097152 := by decide
  have D := div_val (k := 21) vc vx (by have := Int.natCast_pos.2 one_pos; omega) (by omega) (by
    have e : 2 ^ (1074 + (20 + 1)) = one * 2097152 := by rw [one_pow hJ, show 1074 + (20 + 1) = J + 21 by omega, Nat.pow_add, f21]
    rw [e] at hc
    rw [f21]
    refine Nat.le_trans hc (Nat.mul_le_mul_right _ ?_)
    omega)
  obtain ⟨_, _, _, q, _, _, _, _, e2, bq⟩ := D.ex
  exact ⟨s, q, e1, e2, by unfold dropW; rw [e1]; show (floatBits .quo .f32 s (dirW d)).getD 0 = q; rw [e2]; rfl, bq⟩

/-- One direction more. -/
def stp1 (v : Nat → Nat) (k : Nat) (s : Int × Nat) (x : Nat × Nat) : Int × Nat := if (FloatKind.f32.format.order (dropW (v k) (v x.2) x.1) s.2 == some .gt) = true then ((x.1 : Int), dropW (v k) (v x.2) x.1) else s
/-- The direction of the greatest drop among some neighbours, and this drop. -/
def stp (v : Nat → Nat) (k : Nat) (l : List (Nat × Nat)) : Int × Nat := l.foldl (stp1 v k) (-1, 0)
theorem stp_snoc (v : Nat → Nat) (k : Nat) (l : List (Nat × Nat)) (x : Nat × Nat) : stp v k (l ++ [x]) = stp1 v k (stp v k l) x := by simp [stp]

/-- A number that is not below 0. -/
def NonNeg (x : Nat) : Prop := ∃ c, vS x = some c ∧ 0 ≤ c ∧ Bd 21 x
theorem nonNeg_zero : NonNeg 0 := ⟨0, vS_zero, Int.le_refl _, bd_val' (j := 1074 + 21) vS_zero rfl (Nat.zero_le _)⟩
theorem stp_nn {W H k n : Nat} {v : Nat → Nat} (hn : n = W * H) (hk : k < n) (hv : ∀ i, i < n → hgtB (v i) = true) (l : List (Nat × Nat)) (hl : ∀ x ∈ l, x.2 < n) : NonNeg (stp v k l).2 := by
  have key : ∀ (l : List (Nat × Nat)) (s : Int × Nat), NonNeg s.2 → (∀ x ∈ l, x.2 < n) → NonNeg (l.foldl (stp1 v k) s).2 := by
    intro l
    induction l with
    | nil => intro s h _; exact h
    | cons x l ih =>
      intro s h hx
      refine ih _ ?_ fun y hy => hx y (List.mem_cons_of_mem _ hy)
      unfold stp1
      split
      · rename_i c
        obtain ⟨sv, q, D⟩ := drop_parts x.1 (hv k hk) (hv x.2 (hx x (List.mem_cons_self ..)))
        rw [D.w] at c ⊢
        obtain ⟨a, va, _⟩ := val_bd D.bd
        obtain ⟨b, vb, b0, _⟩ := h
        rw [f32f', gtr_val va vb] at c
        exact ⟨a, va, by have := of_decide_eq_true c; omega, D.bd⟩
      · exact h
  exact key l _ nonNeg_zero hl
theorem nbrs_lt {W H k j : Nat} : ∀ x ∈ nbrs W H k j, x.2 < W * H := fun x hx => by
  unfold nbrs at hx
  obtain ⟨d, _, h⟩ := List.mem_filterMap.1 hx
  cases e : nbI W H k d with
  | none => rw [e] at h; cases h
  | some m => rw [e] at h; cases h; exact nbI_lt e

/-- Neighbours as directions and numbers. -/
def nbL {W H k : Nat} (pre : List (Nb W H k)) : List (Nat × Nat) := pre.map fun z => z.1
theorem nbL_nil {W H k : Nat} : nbL (W := W) (H := H) (k := k) [] = [] := rfl
theorem nbL_snoc {W H k : Nat} (pre : List (Nb W H k)) (x : Nb W H k) : nbL (pre ++ [x]) = nbL pre ++ [x.1] := by simp [nbL]

/-- Blocks of cells that are known, in a world behind another one. -/
structure NbAt (w0 W : World) (L : List (Nat × Obj)) : Prop where
  bel : Below w0.heap.size w0 W
  blk : ∀ p ∈ L, W.heap[p.1]? = some p.2
theorem NbAt.own {α : Type} {w0 : World} {B : Nat} {L : α → List (Nat × Obj)} (hB : w0.heap.size ≤ B) (hc : ∀ s, ∀ p ∈ L s, p.2.isCells = true) : OwnFrom B (fun s W => NbAt w0 W (L s)) := by
  intro s A A' row h hg hr
  have kc : ∀ (k : Nat) (o : Obj), o.isCells = true → A.heap[k]? = some o → A'.heap[k]? = some o := fun k o ho hk => by
    refine (hg.block k (Array.getElem?_eq_some_iff.1 hk).1 fun e => ?_).trans hk
    obtain ⟨_, o', ho', hc'⟩ := hr k e.symm
    rw [hk] at ho'; cases ho'; rw [ho] at hc'; cases hc'
  exact ⟨⟨hg.os.trans h.bel.os, hg.tape.trans h.bel.tape, hg.output.trans h.bel.output, Nat.le_trans h.bel.size hg.size, fun j hj => (hg.block j (Nat.lt_of_lt_of_le hj h.bel.size) fun e => by have := (hr j e.symm).1; omega).trans (h.bel.block j hj)⟩,
    fun p hp => kc _ _ (hc s p hp) (h.blk p hp)⟩
theorem keeps_set {B k o : Nat} {W : World} {cs : Array Value} {t : TypeId} {f : Nat × Nat} (h : W.heap[k]? = some (.cells cs t f)) (x : Value) : KeepsFrom B W (W.setCell ⟨k, o, none⟩ x) :=
  ⟨by simp, fun j oj _ hj hc => by
    by_cases e : j = k
    · subst e; rw [h] at hj; cases hj; cases hc
    · exact (heap_setCell_other _ _ j _ e).trans hj⟩
theorem keeps_drew (B : Nat) (W : World) : KeepsFrom B W W.drew := ⟨Nat.le_refl _, fun _ _ _ h _ => h⟩
theorem kpN_set {r q k o : Nat} (W : World) (x : Value) (hr : r ≠ k) (hq : q ≠ k) (hd : 1 ≠ k) : KpN r q W (W.setCell ⟨k, o, none⟩ x) :=
  fun b hb => heap_setCell_other _ _ b _ (by rcases hb with rfl | rfl | rfl <;> assumption)
theorem kpN_drew (r q : Nat) (W : World) : KpN r q W W.drew := fun _ _ => rfl
end Go.Proofs.YtacbemilicdklaaDoor

/- Plain mathematics of filling: spills are the least ones of all ways; so two fillings agree by value. -/
namespace Go.Proofs.YtacbemilicdklaaDoor
open Go.RowKit Fl
set_option linter.unusedVariables false

/-- x is the spill of a way to the cell k. -/
inductive Way (g : Gnd) : Nat → Nat → Prop where
  | bor : ∀ k, k < g.n → g.bd k = true → Way g k (g.h k)
  | go : ∀ p k a, p < g.n → k < g.n → gnb g p k → g.bd k = false → Way g p a → OkW 1048576 a → Way g k (stepW g.sl a (g.h k))

/-- No way is cheaper than stable spills. -/
theorem way_least {g : Gnd} (G : GndOk g) {s : Nat → Nat} (hb : ∀ k, k < g.n → g.bd k = true → s k = g.h k) (hf : ∀ k, k < g.n → OkW 1048576 (s k))
    (hl : ∀ x, x < g.n → ∀ k, k < g.n → gnb g x k → g.bd k = false → vI (s k) ≤ vI (stepW g.sl (s x) (g.h k))) {k x : Nat} (w : Way g k x) : vI (s k) ≤ vI x := by
  induction w with
  | bor k h1 h2 => rw [hb k h1 h2]; exact Int.le_refl _
  | go p k a h1 h2 h3 h4 w ok ih =>
    exact Int.le_trans (hl p h1 k h2 h3 h4) (step_mono (hf p h1) ok G.slo (G.hgt k h2) (Nat.le_refl _) ih)

theorem Spills.way {g : Gnd} (G : GndOk g) {s : Nat → Nat} (S : Spills g s) : ∀ k, k < g.n → Way g k (s k) := by
  obtain ⟨rk, hr⟩ := S.par
  intro k
  generalize hm : rk k = m
  induction m using Nat.strongRecOn generalizing k with
  | ind m ih =>
    intro hk
    cases e : g.bd k with
    | true => rw [S.bor k hk e]; exact .bor k hk e
    | false =>
      obtain ⟨p, p1, p2, p3, p4⟩ := hr k hk e
      rw [p4]
      exact .go p k _ p1 hk p2 e (ih (rk p) (by omega) p rfl p1) ((S.fin p p1).mono (by omega))

/-- Two fillings of one ground agree by value. -/
theorem spills_eq {g : Gnd} (G : GndOk g) {s r : Nat → Nat} (S : Spills g s) (hb : ∀ k, k < g.n → g.bd k = true → r k = g.h k) (hf : ∀ k, k < g.n → OkW 1048576 (r k))
    (hl : ∀ x, x < g.n → ∀ k, k < g.n → gnb g x k → g.bd k = false → vI (r k) ≤ vI (stepW g.sl (r x) (g.h k))) (hw : ∀ k, k < g.n → Way g k (r k)) : ∀ k, k < g.n → vI (s k) = vI (r k) := fun k hk => by
  have a := way_least G S.bor (fun k h => (S.fin k h).mono (by omega)) (fun x h1 k h2 h3 h4 => S.least x h1 k h3 h4) (hw k hk)
  have b := way_least G hb hf hl (S.way G k hk)
  omega
end Go.Proofs.YtacbemilicdklaaDoor

/- What many laws want: two singles as a list, what a function that makes a field answers, the number of a cell. -/
namespace Go.Proofs.YtacbemilicdklaaDoor
open Go.RowKit Fl
set_option linter.unusedVariables false

theorem heap_alloc_new (w : World) (o : Obj) : (w.alloc o).heap[w.heap.size]? = some o := by rw [heap_alloc_get, if_pos rfl]

/-- A single in a block of its own. -/
abbrev flObj (x : Nat) : Obj := .cells #[.float .f32 x] 27

theorem below_drewN (w : World) (k : Nat) : Below w.heap.size w (w.drewN k) := by
  induction k with
  | zero => exact Below.refl _ _
  | succ k ih => exact ih.drew

/-- Two singles, as a list. -/
def two (m c : Nat) (i : Nat) : Nat := if i = 0 then m else c
theorem flAt_two {w : World} {b m c : Nat} (h : w.heap[b]? = some (.cells #[.float .f32 m, .float .f32 c] 27)) : FlAt w b 0 2 (two m c) := by
  intro i hi
  rw [Nat.zero_add, (blkC h).1 i]
  have : i = 0 ∨ i = 1 := by omega
  rcases this with rfl | rfl <;> rfl
theorem two_hgt {m c : Nat} (h : fldE 2 (two m c) = 0) : hgtB m = true ∧ hgtB c = true := by
  have := allB_iff.1 (fldE_zero.1 h)
  exact ⟨this 0 (by omega), this 1 (by omega)⟩

/-- What Scale and Clamp answer: the error of their singles, another error, or a field that is made. -/
def ScPost (w : World) (X Y W H : Int) (n : Nat) (f : Nat → Nat) (er : Int) (e : Ending) (w' : World) : Prop :=
  (er ≠ 0 ∧ e = .returned (.tuple #[fldV 0 0 0 0 (.slice none 0 0), .int .i64 er]) ∧ Below w.heap.size w w') ∨ (er = 0 ∧ MadePost w X Y W H n f e w')

theorem num_lt {X Y x y : Int} {W H n i : Nat} (hW1 : 1 ≤ W) (h1 : X ≤ x) (h2 : x < X + W) (h4 : y < Y + H) (h5 : (i : Int) = (y - Y) * W + (x - X)) (hnn : n = H * W) : i < n := by
  have a : (y - Y) * W ≤ ((H : Int) - 1) * W := Int.mul_le_mul_of_nonneg_right (by omega) (by omega)
  have b : ((H : Int) - 1) * W = (n : Int) - W := by rw [hnn, Int.sub_mul]; simp
  omega

theorem f32f : FloatKind.f32.format = Ieee.single := rfl
theorem one_vTop : (one : Int) ≤ vTop := by
  obtain ⟨J, hJ⟩ : ∃ J : Nat, J = 1074 := ⟨_, rfl⟩
  rw [one_pow hJ]; unfold vTop
  rw [Nat.one_mul]
  exact Int.ofNat_le.2 (Nat.pow_le_pow_right (by omega) (by omega))

end Go.Proofs.YtacbemilicdklaaDoor

/- Contracts: the methods of the heap of cells: Len, Less, Swap, Push, Pop. -/
namespace Go.Proofs.YtacbemilicdklaaDoor
open Go.RowKit Fl
set_option linter.unusedVariables false

def cellsL (c : Nat → Nat) (m : Nat) : List Value := (List.range m).map fun i => Value.int .i64 ((c i : Nat) : Int)
theorem cellsL_len (c : Nat → Nat) (m : Nat) : (cellsL c m).length = m := by simp [cellsL]
theorem cellsL_get {c : Nat → Nat} {m i : Nat} (h : i < m) : (cellsL c m)[i]? = some (.int .i64 ((c i : Nat) : Int)) := by simp [cellsL, h]
theorem cellsL_swap {c : Nat → Nat} {m i j : Nat} (hi : i < m) (hj : j < m) : ((cellsL c m).set i (.int .i64 ((c j : Nat) : Int))).set j (.int .i64 ((c i : Nat) : Int)) = cellsL (swp c i j) m := by
  apply List.ext_getElem?
  intro k
  rw [List.getElem?_set, List.getElem?_set]
  by_cases e : k < m
  · rw [cellsL_get e]
    by_cases e1 : j = k
    · subst e1
      rw [if_pos rfl, if_pos (by simpa [cellsL] using e), cellsL_get e, swp_j]
    · rw [if_neg e1]
      by_cases e2 : i = k
      · subst e2
        rw [if_pos rfl, if_pos (by simpa [cellsL] using e), cellsL_get e, swp_i]
      · rw [if_neg e2, cellsL_get e, swp_o c (by omega) (by omega)]
  · have n0 : (cellsL (swp c i j) m)[k]? = none := List.getElem?_eq_none (by simp [cellsL]; omega)
    have n1 : (cellsL c m)[k]? = none := List.getElem?_eq_none (by simp [cellsL]; omega)
    rw [n0, if_neg (by omega), if_neg (by omega), n1]
theorem cellsL_swap' {c : Nat → Nat} {m i j : Nat} (hi : i < m) (hj : j < m) : ((cellsL c m).set j (.int .i64 ((c i : Nat) : Int))).set i (.int .i64 ((c j : Nat) : Int)) = cellsL (swp c i j) m := by
  rw [cellsL_swap hj hi]
  unfold cellsL
  apply List.map_congr_left
  intro k _
  unfold swp
  by_cases e1 : k = i
  · subst e1
    by_cases e2 : k = j
    · subst e2; rfl
    · rw [if_neg e2, if_pos rfl, if_pos rfl]
  · rw [if_neg e1, if_neg e1]
theorem cellsL_succ (c : Nat → Nat) (m k : Nat) : cellsL c m ++ [.int .i64 ((k : Nat) : Int)] = cellsL (updW c m k) (m + 1) := by
  unfold cellsL
  rw [List.range_succ, List.map_append]
  congr 1
  · apply List.map_congr_left
    intro i hi
    rw [updW_other c (by have := List.mem_range.1 hi; omega)]
  · simp [updW_same]
theorem cellsL_take (c : Nat → Nat) (m : Nat) : (cellsL c (m + 1)).take m = cellsL c m := by
  unfold cellsL
  rw [← List.map_take, List.take_range]
  simp

abbrev headsO (g m cap sb n scap : Nat) : Obj := .cells #[.slice (some ⟨g, 0, none⟩) m cap, .slice (some ⟨sb, 0, none⟩) n scap] 135
/-- The heap in the block hb: m cells in the block g, and the spills of all n cells in the block sb. -/
structure HeadsAt (w : World) (hb sb n scap g cap m : Nat) (c s : Nat → Nat) : Prop where
  obj : w.heap[hb]? = some (headsO g m cap sb n scap)
  own : w.ownsRow 0 3 1 (.slice (some ⟨g, 0, none⟩) m cap) m (cellsL c m)
  sp : FlAt w sb 0 n s
  gh : g ≠ hb
  gs : g ≠ sb
  hs : hb ≠ sb
  nc : n ≤ scap
  n1 : 1 ≤ n
  n2 : n ≤ 65536
  m2 : m ≤ 131072
theorem HeadsAt.cap1 {w : World} {hb sb n scap g cap m : Nat} {c s : Nat → Nat} (h : HeadsAt w hb sb n scap g cap m c s) : m ≤ cap ∧ cap ≤ maxLen ∧ g < w.heap.size := by
  rcases h.own.2 with ⟨h', _⟩ | ⟨g', cap', cur, h', _, hg, a, b, _⟩
  · cases h'
  · cases h'
    exact ⟨a, b, (blkC hg).2.2⟩
theorem HeadsAt.cell {w : World} {hb sb n scap g cap m : Nat} {c s : Nat → Nat} (h : HeadsAt w hb sb n scap g cap m c s) {i : Nat} (hi : i < m) : w.cell? ⟨g, i, none⟩ = some (.int .i64 ((c i : Nat) : Int)) := by
  rw [h.own.cellAt i (by omega), cellsL_get hi]

set_option maxHeartbeats 400000 in
theorem len_any (w : World) (hb sb n scap g cap m : Nat) (c s : Nat → Nat) (h : HeadsAt w hb sb n scap g cap m c s) :
    Calls Tryd.prog 120 #[.pointer (some ⟨hb, 0, none⟩)] w fun e w' => e = .returned (.int .i64 m) ∧ w = w' := by
  obtain ⟨cH, fH, zH⟩ := blkC h.obj
  clear h
  go_enter Tryd.func120, Tryd.ntmps120
  go_wp2
  go_ret
  exact ⟨rfl, rfl⟩

set_option maxHeartbeats 2000000 in
theorem less_any (w : World) (hb sb n scap g cap m : Nat) (c s : Nat → Nat) (h : HeadsAt w hb sb n scap g cap m c s) (i j : Nat) (hi : i < m) (hj : j < m) (ci : c i < n) (cj : c j < n) :
    Calls Tryd.prog 184 #[.pointer (some ⟨hb, 0, none⟩), .int .i64 i, .int .i64 j] w fun e w' => e = .returned (.bool (ltB (s (c i)) (s (c j)))) ∧ ∃ q, w' = w.drewN q := by
  obtain ⟨cH, fH, zH⟩ := blkC h.obj
  have k1 := h.cell hi
  have k2 := h.cell hj
  have k3 := h.sp (c i) ci
  have k4 := h.sp (c j) cj
  rw [Nat.zero_add] at k3 k4
  have i1 : (i : Int) < (m : Int) := by omega
  have j1 : (j : Int) < (m : Int) := by omega
  have a1 : ((c i : Nat) : Int) < (n : Int) := by omega
  have a2 : ((c j : Nat) : Int) < (n : Int) := by omega
  clear h ci cj hi hj
  unfold ltB
  generalize s (c i) = x at *
  generalize s (c j) = y at *
  generalize c i = p at *
  generalize c j = q at *
  go_enter Tryd.func184, Tryd.ntmps184
  go_wp2
  go_quiet (fail)
  go_wp2
  go_ret
  exact ⟨rfl, _, rfl⟩

/-- What the heap's methods keep: every block that was there, but for the heap's own and the one of its cells. -/
structure Kept (hb g : Nat) (w w' : World) : Prop where
  os : w'.os = w.os
  tape : w'.tape = w.tape
  output : w'.output = w.output
  size : w.heap.size ≤ w'.heap.size
  block : ∀ k, k < w.heap.size → k ≠ hb → k ≠ g → w'.heap[k]? = w.heap[k]?
theorem Kept.refl (hb g : Nat) (w : World) : Kept hb g w w := ⟨rfl, rfl, rfl, Nat.le_refl _, fun _ _ _ _ => rfl⟩
theorem Kept.drewN (hb g : Nat) (w : World) (q : Nat) : Kept hb g w (w.drewN q) := ⟨rfl, rfl, rfl, Nat.le_refl _, fun _ _ _ _ => rfl⟩
theorem Kept.trans {hb g g' : Nat} {a b c : World} (h : Kept hb g a b) (k : Kept hb g' b c) (hg : g' = g ∨ a.heap.size ≤ g') : Kept hb g a c :=
  ⟨k.os.trans h.os, k.tape.trans h.tape, k.output.trans h.output, Nat.le_trans h.size k.size, fun i hi h1 h2 => (k.block i (Nat.lt_of_lt_of_le hi h.size) h1 (by rcases hg with rfl | hg <;> omega)).trans (h.block i hi h1 h2)⟩
theorem Kept.setCell {hb g : Nat} {a b : World} (h : Kept hb g a b) {p : Addr} (hp : p.block = hb ∨ p.block = g) (u : Value) : Kept hb g a (b.setCell p u) :=
  ⟨h.os, h.tape, h.output, by simpa using h.size, fun i hi h1 h2 => (heap_setCell_other b p i u (by rcases hp with e | e <;> rw [e] <;> omega)).trans (h.block i hi h1 h2)⟩
theorem HeadsAt.kept {w w' : World} {hb sb n scap g cap m : Nat} {c s : Nat → Nat} (h : HeadsAt w hb sb n scap g cap m c s) (e : ∀ k, k = hb ∨ k = sb ∨ k = g → w'.heap[k]? = w.heap[k]?) : HeadsAt w' hb sb n scap g cap m c s := by
  refine ⟨(e hb (.inl rfl)).trans h.obj, ?_, flAt_congr h.sp (e sb (.inr (.inl rfl))), h.gh, h.gs, h.hs, h.nc, h.n1, h.n2, h.m2⟩
  obtain ⟨h1, h2⟩ := h.own
  refine ⟨h1, ?_⟩
  rcases h2 with h2 | ⟨g', cap', cur, hv, hg, hh, r⟩
  · exact .inl h2
  · cases hv
    exact .inr ⟨g, cap, cur, rfl, hg, (e g (.inr (.inr rfl))).trans hh, r⟩
theorem HeadsAt.drewN {w : World} {hb sb n scap g cap m : Nat} {c s : Nat → Nat} (h : HeadsAt w hb sb n scap g cap m c s) (q : Nat) : HeadsAt (w.drewN q) hb sb n scap g cap m c s := h.kept fun _ _ => rfl

theorem heads_swap {w : World} {hb sb n scap g cap m : Nat} {c s : Nat → Nat} (h : HeadsAt w hb sb n scap g cap m c s) {i j : Nat} (hi : i < m) (hj : j < m) :
    HeadsAt ((w.setCell ⟨g, i, none⟩ (.int .i64 ((c j : Nat) : Int))).setCell ⟨g, j, none⟩ (.int .i64 ((c i : Nat) : Int))) hb sb n scap g cap m (swp c i j) s := by
  have o := ((h.own.stored i (.int .i64 ((c j : Nat) : Int))).1.stored j (.int .i64 ((c i : Nat) : Int))).1
  rw [cellsL_swap hi hj] at o
  have e : ∀ k, k ≠ g → ((w.setCell ⟨g, i, none⟩ (.int .i64 ((c j : Nat) : Int))).setCell ⟨g, j, none⟩ (.int .i64 ((c i : Nat) : Int))).heap[k]? = w.heap[k]? := fun k hk =>
    (heap_setCell_other _ _ k _ hk).trans (heap_setCell_other _ _ k _ hk)
  exact ⟨(e hb (Ne.symm h.gh)).trans h.obj, o, flAt_congr h.sp (e sb (Ne.symm h.gs)), h.gh, h.gs, h.hs, h.nc, h.n1, h.n2, h.m2⟩
theorem heads_swap' {w : World} {hb sb n scap g cap m : Nat} {c s : Nat → Nat} (h : HeadsAt w hb sb n scap g cap m c s) {i j : Nat} (hi : i < m) (hj : j < m) :
    HeadsAt ((w.setCell ⟨g, j, none⟩ (.int .i64 ((c i : Nat) : Int))).setCell ⟨g, i, none⟩ (.int .i64 ((c j : Nat) : Int))) hb sb n scap g cap m (swp c i j) s := by
  have o := ((h.own.stored j (.int .i64 ((c i : Nat) : Int))).1.stored i (.int .i64 ((c j : Nat) : Int))).1
  rw [cellsL_swap' hi hj] at o
  have e : ∀ k, k ≠ g → ((w.setCell ⟨g, j, none⟩ (.int .i64 ((c i : Nat) : Int))).setCell ⟨g, i, none⟩ (.int .i64 ((c j : Nat) : Int))).heap[k]? = w.heap[k]? := fun k hk =>
    (heap_setCell_other _ _ k _ hk).trans (heap_setCell_other _ _ k _ hk)
  exact ⟨(e hb (Ne.symm h.gh)).trans h.obj, o, flAt_congr h.sp (e sb (Ne.symm h.gs)), h.gh, h.gs, h.hs, h.nc, h.n1, h.n2, h.m2⟩

set_option maxHeartbeats 4000000 in
theorem swap_any (w : World) (hb sb n scap g cap m : Nat) (c s : Nat → Nat) (h : HeadsAt w hb sb n scap g cap m c s) (i j : Nat) (hi : i < m) (hj : j < m) :
    Calls Tryd.prog 187 #[.pointer (some ⟨hb, 0, none⟩), .int .i64 i, .int .i64 j] w fun e w' => e = .returned (.tuple #[]) ∧ HeadsAt w' hb sb n scap g cap m (swp c i j) s ∧ Kept hb g w w' := by
  have H := Lib.hid h
  obtain ⟨cH, fH, zH⟩ := blkC h.obj
  have c0 : w.cell? ⟨hb, 0, none⟩ = some (.slice (some ⟨g, 0, none⟩) m cap) := cH 0
  clear cH
  have gne := h.gh
  have k1 := h.cell hi
  have k2 := h.cell hj
  have f1 := h.own.frozenAt i
  have f2 := h.own.frozenAt j
  have i1 : (i : Int) < (m : Int) := by omega
  have j1 : (j : Int) < (m : Int) := by omega
  obtain ⟨v1, y1⟩ := cell?_setCell_some (w := w) (p := ⟨g, i, none⟩) (x := .int .i64 ((c j : Nat) : Int)) (q := ⟨g, j, none⟩) (v := .int .i64 ((c j : Nat) : Int)) k2
  obtain ⟨v2, y2⟩ := cell?_setCell_some (w := w) (p := ⟨g, j, none⟩) (x := .int .i64 ((c i : Nat) : Int)) (q := ⟨g, i, none⟩) (v := .int .i64 ((c i : Nat) : Int)) k1
  have I := Lib.hid hi
  have J := Lib.hid hj
  clear h hi hj
  go_enter Tryd.func187, Tryd.ntmps187
  go_wp2
  go_region
  all_goals go_end0
  all_goals first
    | exact ⟨rfl, (heads_swap H.out I.out J.out).kept (fun _ _ => rfl), ((Kept.refl hb g w).setCell (.inr rfl) _).setCell (.inr rfl) _⟩
    | exact ⟨rfl, (heads_swap' H.out I.out J.out).kept (fun _ _ => rfl), ((Kept.refl hb g w).setCell (.inr rfl) _).setCell (.inr rfl) _⟩
    | exact ⟨rfl, (heads_swap H.out I.out J.out).kept (fun _ _ => rfl), (((Kept.refl hb g w).setCell (.inr rfl) _).setCell (.inr rfl) _).trans (Kept.drewN hb g _ 1) (.inl rfl)⟩
    | exact ⟨rfl, (heads_swap' H.out I.out J.out).kept (fun _ _ => rfl), (((Kept.refl hb g w).setCell (.inr rfl) _).setCell (.inr rfl) _).trans (Kept.drewN hb g _ 1) (.inl rfl)⟩

/-- An int in an interface value. -/
abbrev anyI (k : Nat) : Value := .iface 3 (.int .i64 (k : Int))

theorem heads_reslice {w : World} {hb sb n scap g cap m : Nat} {c s : Nat → Nat} (h : HeadsAt w hb sb n scap g cap (m + 1) c s) :
    HeadsAt (w.setCell ⟨hb, 0, none⟩ (.slice (some ⟨g, 0, none⟩) m cap)) hb sb n scap g cap m c s := by
  have e : ∀ k, k ≠ hb → (w.setCell ⟨hb, 0, none⟩ (.slice (some ⟨g, 0, none⟩) m cap)).heap[k]? = w.heap[k]? := fun k hk => heap_setCell_other _ _ k _ hk
  refine ⟨heap_setCell_same w hb 0 _ _ _ h.obj, ?_, flAt_congr h.sp (e sb (Ne.symm h.hs)), h.gh, h.gs, h.hs, h.nc, h.n1, h.n2, by have := h.m2; omega⟩
  refine ⟨by rw [cellsL_len]; omega, .inr ?_⟩
  rcases h.own.2 with ⟨h', _⟩ | ⟨g', cap', cur, h', hb', hg, a, b, d, t⟩
  · cases h'
  · cases h'
    refine ⟨g, cap, cur, rfl, hb', (e g h.gh).trans hg, by omega, b, d, ?_⟩
    have := congrArg (List.take m) t
    rw [cellsL_take, List.take_take] at this
    rw [show m * 1 = min m ((m + 1) * 1) by omega]
    exact this

set_option maxHeartbeats 1000000 in
theorem hpop_any (w : World) (hb sb n scap g cap m : Nat) (c s : Nat → Nat) (h : HeadsAt w hb sb n scap g cap (m + 1) c s) :
    Calls Tryd.prog 185 #[.pointer (some ⟨hb, 0, none⟩)] w fun e w' => e = .returned (anyI (c m)) ∧ HeadsAt w' hb sb n scap g cap m c s ∧ Kept hb g w w' := by
  have R := Lib.hid (heads_reslice h)
  obtain ⟨cH, fH, zH⟩ := blkC h.obj
  have c0 : w.cell? ⟨hb, 0, none⟩ = some (.slice (some ⟨g, 0, none⟩) (m + 1) cap) := cH 0
  have k1 := h.cell (show m < m + 1 by omega)
  obtain ⟨a1, a2, a3⟩ := h.cap1
  have b1 : (m : Int) < (m : Int) + 1 := by omega
  have b2 : ((m : Int) + 1) ≤ (cap : Int) := by omega
  have b3 : ((m : Int)) ≤ (cap : Int) := by omega
  unfold maxLen at a2
  clear h cH
  go_enter Tryd.func185, Tryd.ntmps185
  go_wp2
  go_ret
  exact ⟨rfl, R.out, (Kept.refl hb g w).setCell (.inl rfl) _⟩
end Go.Proofs.YtacbemilicdklaaDoor

/- Contracts: Push of the heap of cells; up, down, Init, Push and Pop of container/heap over it. -/
namespace Go.Proofs.YtacbemilicdklaaDoor
open Go.RowKit Fl
set_option linter.unusedVariables false

theorem assert_int (X : TypeId) (k : Int) (w : World) : (Instr.typeAssert (.iface 3 (.int .i64 k)) X 3 false).run Tryd.prog w = .ok (.int .i64 k) w := by kernel_rfl

theorem heads_push {w w3 : World} {hb sb n scap g cap m g' cap' k : Nat} {c s : Nat → Nat} {o : Obj} (h : HeadsAt w hb sb n scap g cap m c s) (hm : m < 131072) (zH : hb < w.heap.size)
    (hown : w3.ownsRow 0 3 1 (.slice (some ⟨g', 0, none⟩) (m + 1) cap') (m + 1) (cellsL c m ++ [.int .i64 (k : Int)])) (hg : (w.alloc o).drew.grownBy w3 (Value.slice (some ⟨g, 0, none⟩) m cap).ownBlock)
    (hat : (Value.slice (some ⟨g, 0, none⟩) m cap).ownBlock = some g' ∨ g' = w.heap.size + 1) (hobj : w3.heap[hb]? = some (headsO g m cap sb n scap)) :
    HeadsAt (w3.setCell ⟨hb, 0, none⟩ (.slice (some ⟨g', 0, none⟩) (m + 1) cap')) hb sb n scap g' cap' (m + 1) (updW c m k) s ∧ Kept hb g w (w3.setCell ⟨hb, 0, none⟩ (.slice (some ⟨g', 0, none⟩) (m + 1) cap')) ∧ (g' = g ∨ w.heap.size ≤ g') := by
  have hg' : g' = g ∨ w.heap.size < g' := by
    rcases hat with e | e
    · left; simpa [Value.ownBlock] using e.symm
    · right; omega
  have gk : ∀ i, i < w.heap.size → i ≠ g → w3.heap[i]? = w.heap[i]? := fun i hi hne => (hg.block i (by show i < (w.alloc o).heap.size; rw [heap_size_alloc]; omega) (by simp [Value.ownBlock]; exact hne)).trans (heap_alloc_old _ _ hi)
  have zs : sb < w.heap.size := World.block_lt_of_cell? w _ (h.sp 0 h.n1)
  have zg := h.cap1.2.2
  have e : ∀ i, i ≠ hb → (w3.setCell ⟨hb, 0, none⟩ (.slice (some ⟨g', 0, none⟩) (m + 1) cap')).heap[i]? = w3.heap[i]? := fun i hi => heap_setCell_other _ _ i _ hi
  have gh := h.gh
  have gs := h.gs
  have hz : w.heap.size ≤ w3.heap.size := Nat.le_trans (by show w.heap.size ≤ (w.alloc o).heap.size; rw [heap_size_alloc]; omega) hg.size
  refine ⟨⟨heap_setCell_same w3 hb 0 _ _ _ hobj, ?_, flAt_congr h.sp ((e sb (Ne.symm h.hs)).trans (gk sb zs (Ne.symm h.gs))), by omega, by omega, h.hs, h.nc, h.n1, h.n2, by omega⟩, ⟨hg.os, hg.tape, hg.output, by simpa using hz, fun i hi h1 h2 => (e i h1).trans (gk i hi h2)⟩, by omega⟩
  rw [← cellsL_succ]
  refine ⟨hown.1, ?_⟩
  rcases hown.2 with ⟨h', _⟩ | ⟨g2, cap2, cur, hv, hb2, hh, r⟩
  · cases h'
  · cases hv
    exact .inr ⟨g', cap', cur, rfl, hb2, (e g' (by omega)).trans hh, r⟩

set_option maxRecDepth 100000 in
set_option maxHeartbeats 2000000 in
theorem hpush_any (w : World) (hb sb n scap g cap m : Nat) (c s : Nat → Nat) (h : HeadsAt w hb sb n scap g cap m c s) (k : Nat) (hm : m < 131072) :
    Calls Tryd.prog 186 #[.pointer (some ⟨hb, 0, none⟩), anyI k] w fun e w' => e = .returned (.tuple #[]) ∧ ∃ g' cap', HeadsAt w' hb sb n scap g' cap' (m + 1) (updW c m k) s ∧ Kept hb g w w' ∧ (g' = g ∨ w.heap.size ≤ g') := by
  have H := Lib.hid h
  obtain ⟨cH, fH, zH⟩ := blkC h.obj
  have c0 : w.cell? ⟨hb, 0, none⟩ = some (.slice (some ⟨g, 0, none⟩) m cap) := cH 0
  have hinfo : (Tryd.prog.info? 3).map (fun i => (i.zero, i.size, i.bytes)) = some (some (.int .i64 0), 1, 8) := by kernel_rfl
  obtain ⟨i0, hi, hz0, hz1, hz2⟩ := info_parts hinfo
  have HM := Lib.hid hm
  have ta := assert_int
  clear h cH hinfo hm
  go_enter Tryd.func186, Tryd.ntmps186
  go_wp2
  go_region_law (refine step_append_lies _ (by rfl) _ _ _ (by rfl) 0 3 i0 _ 1 8 Tryd.underlying40 hi hz0 hz1 hz2 rfl (by omega) (.slice (some ⟨g, 0, none⟩) m cap) m (cellsL c m) (by rfl) (H.out.own.alloc _) ⟨w.heap.size, 0, none⟩ 1 1 [.int .i64 (k : Int)] (by rfl) (by rfl) (World.news_of_block (cs := #[.int .i64 (k : Int)]) (t := 3) (fr := (0, 0)) (heap_alloc_new w _)) (by simp [Value.oneCell']) (by omega) (by have := HM.out; unfold maxLen; omega) (by have := HM.out; omega) (by simp) (w.heap.size + 1) (by simp) ?_; intro g' cap' w3 hown3 hgrow hat hlt3; have out3 := Lib.hid ((hgrow.block hb (by simp; omega) (by simp [Value.ownBlock]; exact Ne.symm H.out.gh)).trans ((heap_alloc_old _ _ zH).trans H.out.obj)); obtain ⟨cV3, fV3, zV3⟩ := blkC out3.out)
  all_goals
    have HO := Lib.hid hown3
    have HG := Lib.hid hgrow
    have HA := Lib.hid hat
    have HL := Lib.hid hlt3
    clear hown3 hgrow hat hlt3 cV3 fV3 zV3
    go_wp2
    go_end0
    exact ⟨rfl, g', cap', heads_push H.out HM.out zH HO.out HG.out HA.out out3.out⟩

theorem m_len (f : Nat) (a : Addr) (w : World) : (method (f + 1) 133 (.pointer (some a)) "Len").run Tryd.prog w = .ok (120, .pointer (some a)) w := by kernel_rfl
theorem m_less (f : Nat) (a : Addr) (w : World) : (method (f + 1) 133 (.pointer (some a)) "Less").run Tryd.prog w = .ok (184, .pointer (some a)) w := by kernel_rfl
theorem m_swap (f : Nat) (a : Addr) (w : World) : (method (f + 1) 133 (.pointer (some a)) "Swap").run Tryd.prog w = .ok (187, .pointer (some a)) w := by kernel_rfl
theorem m_push (f : Nat) (a : Addr) (w : World) : (method (f + 1) 133 (.pointer (some a)) "Push").run Tryd.prog w = .ok (186, .pointer (some a)) w := by kernel_rfl
theorem m_pop (f : Nat) (a : Addr) (w : World) : (method (f + 1) 133 (.pointer (some a)) "Pop").run Tryd.prog w = .ok (185, .pointer (some a)) w := by kernel_rfl

theorem ltB_val {x y : Nat} (hx : vS x = some (vI x)) (hy : vS y = some (vI y)) : ltB x y = decide (vI x < vI y) := by
  unfold ltB; rw [f32f', lss_val hx hy]

theorem num_eq {a b : Int} (h : a = b) : Value.int .i64 a = .int .i64 b := by rw [h]
theorem less_anyI (w : World) (hb sb n scap g cap m : Nat) (c s : Nat → Nat) (h : HeadsAt w hb sb n scap g cap m c s) (i j : Nat) (hi : i < m) (hj : j < m) (ci : c i < n) (cj : c j < n) (x y : Int) (hx : (i : Int) = x) (hy : (j : Int) = y) :
    Calls Tryd.prog 184 #[.pointer (some ⟨hb, 0, none⟩), .int .i64 x, .int .i64 y] w fun e w' => e = .returned (.bool (ltB (s (c i)) (s (c j)))) ∧ ∃ q, w' = w.drewN q := by
  subst hx; subst hy; exact less_any w hb sb n scap g cap m c s h i j hi hj ci cj
theorem swap_anyI (w : World) (hb sb n scap g cap m : Nat) (c s : Nat → Nat) (h : HeadsAt w hb sb n scap g cap m c s) (i j : Nat) (hi : i < m) (hj : j < m) (x y : Int) (hx : (i : Int) = x) (hy : (j : Int) = y) :
    Calls Tryd.prog 187 #[.pointer (some ⟨hb, 0, none⟩), .int .i64 x, .int .i64 y] w fun e w' => e = .returned (.tuple #[]) ∧ HeadsAt w' hb sb n scap g cap m (swp c i j) s ∧ Kept hb g w w' := by
  subst hx; subst hy; exact swap_any w hb sb n scap g cap m c s h i j hi hj

/-- What down answers: the heap's cells at the first n0 places exchanged among themselves, so that they are a heap from L on. -/
def DownPost (hb sb n scap g cap m n0 L : Nat) (c s : Nat → Nat) (w : World) (e : Ending) (w' : World) : Prop :=
  (∃ b, e = .returned (.bool b)) ∧ ∃ c', HeadsAt w' hb sb n scap g cap m c' s ∧ SameSet n0 c c' ∧ (∀ i, n0 ≤ i → c' i = c i) ∧ HeapFrom L n0 (fun x => vI (s x)) c' ∧ Kept hb g w w'

set_option maxRecDepth 100000 in
set_option maxHeartbeats 4000000 in
theorem down_any (w : World) (hb sb n scap g cap m : Nat) (c s : Nat → Nat) (h : HeadsAt w hb sb n scap g cap m c s) (hok : ∀ i, i < m → c i < n ∧ vS (s (c i)) = some (vI (s (c i)))) (i0 n0 : Nat) (h0 : n0 ≤ m) (h1 : i0 ≤ n0)
    (hd : HeapDown i0 n0 (fun x => vI (s x)) c i0) :
    Calls Tryd.prog 146 #[.iface 133 (.pointer (some ⟨hb, 0, none⟩)), .int .i64 i0, .int .i64 n0] w (DownPost hb sb n scap g cap m n0 i0 c s w) := by
  have m2 := h.m2
  have ml := m_less
  have ms := m_swap
  have OK := Lib.hid hok
  have H := Lib.hid h
  have HD := Lib.hid hd
  clear hok h hd
  go_enter Tryd.func146, Tryd.ntmps146
  go_wp2
  go_loopw [7, 8, 9, 10] (fun s7 s8 s9 s10 wr => ∃ (p : Nat) (c' : Nat → Nat), p ≤ n0 ∧ i0 ≤ p ∧ s7 = .int .i64 p ∧ HeadsAt wr hb sb n scap g cap m c' s ∧ SameSet n0 c c' ∧ (∀ i, n0 ≤ i → c' i = c i) ∧ HeapDown i0 n0 (fun x => vI (s x)) c' p ∧ Kept hb g w wr)
    (fun s7 _ _ _ _ => n0 - (intOf s7).toNat)
  case atStart => exact ⟨i0, c, h1, Nat.le_refl _, rfl, H.out, .rfl', fun _ _ => rfl, HD.out, Kept.refl _ _ _⟩
  case round =>
    obtain ⟨p, c', hp1, hp2, rfl, hH, hS, hF, hD, hK⟩ := hrel
    have HH := Lib.hid hH
    have HS := Lib.hid hS
    have HF := Lib.hid hF
    have HDn := Lib.hid hD
    have HK := Lib.hid hK
    have OK' := Lib.hid (show ∀ i, i < m → c' i < n ∧ vS (s (c' i)) = some (vI (s (c' i))) from fun i hi => by
      by_cases e : i < n0
      · exact hS.all (P := fun x => x < n ∧ vS (s x) = some (vI (s x))) (fun i hi => OK.out i (by omega)) i e
      · rw [hF i (by omega)]; exact OK.out i hi)
    clear hH hS hF hD hK
    by_cases hk : 2 * p + 1 < n0
    · by_cases h2 : 2 * p + 2 < n0
      · have L12 := Lib.hid (fun W (hW : HeadsAt W hb sb n scap g cap m c' s) => less_anyI W hb sb n scap g cap m c' s hW (2 * p + 2) (2 * p + 1) (by omega) (by omega) (OK'.out _ (by omega)).1 (OK'.out _ (by omega)).1 (2 * (p : Int) + 1 + 1) (2 * (p : Int) + 1) (by omega) (by omega))
        have V12 := Lib.hid (ltB_val (OK'.out (2 * p + 2) (by omega)).2 (OK'.out (2 * p + 1) (by omega)).2)
        cases e12 : ltB (s (c' (2 * p + 2))) (s (c' (2 * p + 1))) with
        | true =>
          rw [e12] at L12 V12
          have MIN := Lib.hid (kids (n := n0) (p := p) (K := fun x => vI (s x)) (c := c') (j := 2 * p + 2) (.inr rfl) (fun h => by omega) (fun _ => by have := V12.out; simp at this; exact Int.le_of_lt this))
          have L3 := Lib.hid (fun W (hW : HeadsAt W hb sb n scap g cap m c' s) => less_anyI W hb sb n scap g cap m c' s hW (2 * p + 2) p (by omega) (by omega) (OK'.out _ (by omega)).1 (OK'.out _ (by omega)).1 (2 * (p : Int) + 1 + 1) p (by omega) rfl)
          clear e12 V12

          cases e3 : ltB (s (c' (2 * p + 2))) (s (c' p)) with
          | false =>
            rw [e3] at L3
            have HN := Lib.hid (show HeapFrom i0 n0 (fun x => vI (s x)) c' from down_done HDn.out (fun i a b d => Int.le_trans (by rw [ltB_val (OK'.out _ (by omega)).2 (OK'.out _ (by omega)).2] at e3; simpa using e3) (MIN.out i a b d)))
            clear e3
            go_wp2_with (first | (go_at_call 184; (with_reducible refine Calls.mono (L12.out _ ?_) ?_); (first | exact HH.out | exact HH.out.drewN _ | exact (HH.out.drewN _).drewN _); rintro e w' ⟨rfl, q1, rfl⟩) | (go_at_call 184; (with_reducible refine Calls.mono (L3.out _ ?_) ?_); (first | exact HH.out | exact HH.out.drewN _ | exact (HH.out.drewN _).drewN _); rintro e w' ⟨rfl, q2, rfl⟩))
            go_ret
            exact ⟨⟨_, rfl⟩, c', (by first | exact HH.out.drewN _ | exact (HH.out.drewN _).drewN _), HS.out, HF.out, HN.out, by first | exact HK.out.trans (Kept.drewN _ _ _ _) (.inl rfl) | exact (HK.out.trans (Kept.drewN _ _ _ _) (.inl rfl)).trans (Kept.drewN _ _ _ _) (.inl rfl)⟩
          | true =>
            rw [e3] at L3
            have HN := Lib.hid (show HeapDown i0 n0 (fun x => vI (s x)) (swp c' p (2 * p + 2)) (2 * p + 2) from down_swap HDn.out hp2 (by omega) (by omega) (by omega) (by rw [ltB_val (OK'.out _ (by omega)).2 (OK'.out _ (by omega)).2] at e3; simpa using e3) MIN.out)
            have SW := Lib.hid (fun W (hW : HeadsAt W hb sb n scap g cap m c' s) => swap_anyI W hb sb n scap g cap m c' s hW p (2 * p + 2) (by omega) (by omega) p (2 * (p : Int) + 1 + 1) rfl (by omega))
            clear e3
            go_wp2_with (first | (go_at_call 184; (with_reducible refine Calls.mono (L12.out _ ?_) ?_); (first | exact HH.out | exact HH.out.drewN _ | exact (HH.out.drewN _).drewN _); rintro e w' ⟨rfl, q1, rfl⟩) | (go_at_call 184; (with_reducible refine Calls.mono (L3.out _ ?_) ?_); (first | exact HH.out | exact HH.out.drewN _ | exact (HH.out.drewN _).drewN _); rintro e w' ⟨rfl, q2, rfl⟩) | (go_at_call 187; (with_reducible refine Calls.mono (SW.out _ ?_) ?_); (first | exact HH.out | exact HH.out.drewN _ | exact (HH.out.drewN _).drewN _); rintro e w3 ⟨rfl, hs3⟩; have S3 := Lib.hid hs3; clear hs3))
            go_roundw
            case rel => exact ⟨2 * p + 2, swp c' p (2 * p + 2), by omega, by omega, num_eq (by omega), S3.out.1, HS.out.trans (same_swp (by omega) (by omega)), (fun i hi => by rw [swp_o c' (by omega) (by omega)]; exact HF.out i hi), HN.out, by first | exact (HK.out.trans (Kept.drewN _ _ _ _) (.inl rfl)).trans S3.out.2 (.inl rfl) | exact ((HK.out.trans (Kept.drewN _ _ _ _) (.inl rfl)).trans (Kept.drewN _ _ _ _) (.inl rfl)).trans S3.out.2 (.inl rfl)⟩
            case measure => simp [intOf]; omega
        | false =>
          rw [e12] at L12 V12
          have MIN := Lib.hid (kids (n := n0) (p := p) (K := fun x => vI (s x)) (c := c') (j := 2 * p + 1) (.inl rfl) (fun _ _ => by have := V12.out; simp at this; exact this) (fun h => by omega))
          have L3 := Lib.hid (fun W (hW : HeadsAt W hb sb n scap g cap m c' s) => less_anyI W hb sb n scap g cap m c' s hW (2 * p + 1) p (by omega) (by omega) (OK'.out _ (by omega)).1 (OK'.out _ (by omega)).1 (2 * (p : Int) + 1) p (by omega) rfl)
          clear e12 V12

          cases e3 : ltB (s (c' (2 * p + 1))) (s (c' p)) with
          | false =>
            rw [e3] at L3
            have HN := Lib.hid (show HeapFrom i0 n0 (fun x => vI (s x)) c' from down_done HDn.out (fun i a b d => Int.le_trans (by rw [ltB_val (OK'.out _ (by omega)).2 (OK'.out _ (by omega)).2] at e3; simpa using e3) (MIN.out i a b d)))
            clear e3
            go_wp2_with (first | (go_at_call 184; (with_reducible refine Calls.mono (L12.out _ ?_) ?_); (first | exact HH.out | exact HH.out.drewN _ | exact (HH.out.drewN _).drewN _); rintro e w' ⟨rfl, q1, rfl⟩) | (go_at_call 184; (with_reducible refine Calls.mono (L3.out _ ?_) ?_); (first | exact HH.out | exact HH.out.drewN _ | exact (HH.out.drewN _).drewN _); rintro e w' ⟨rfl, q2, rfl⟩))
            go_ret
            exact ⟨⟨_, rfl⟩, c', (by first | exact HH.out.drewN _ | exact (HH.out.drewN _).drewN _), HS.out, HF.out, HN.out, by first | exact HK.out.trans (Kept.drewN _ _ _ _) (.inl rfl) | exact (HK.out.trans (Kept.drewN _ _ _ _) (.inl rfl)).trans (Kept.drewN _ _ _ _) (.inl rfl)⟩
          | true =>
            rw [e3] at L3
            have HN := Lib.hid (show HeapDown i0 n0 (fun x => vI (s x)) (swp c' p (2 * p + 1)) (2 * p + 1) from down_swap HDn.out hp2 (by omega) (by omega) (by omega) (by rw [ltB_val (OK'.out _ (by omega)).2 (OK'.out _ (by omega)).2] at e3; simpa using e3) MIN.out)
            have SW := Lib.hid (fun W (hW : HeadsAt W hb sb n scap g cap m c' s) => swap_anyI W hb sb n scap g cap m c' s hW p (2 * p + 1) (by omega) (by omega) p (2 * (p : Int) + 1) rfl (by omega))
            clear e3
            go_wp2_with (first | (go_at_call 184; (with_reducible refine Calls.mono (L12.out _ ?_) ?_); (first | exact HH.out | exact HH.out.drewN _ | exact (HH.out.drewN _).drewN _); rintro e w' ⟨rfl, q1, rfl⟩) | (go_at_call 184; (with_reducible refine Calls.mono (L3.out _ ?_) ?_); (first | exact HH.out | exact HH.out.drewN _ | exact (HH.out.drewN _).drewN _); rintro e w' ⟨rfl, q2, rfl⟩) | (go_at_call 187; (with_reducible refine Calls.mono (SW.out _ ?_) ?_); (first | exact HH.out | exact HH.out.drewN _ | exact (HH.out.drewN _).drewN _); rintro e w3 ⟨rfl, hs3⟩; have S3 := Lib.hid hs3; clear hs3))
            go_roundw
            case rel => exact ⟨2 * p + 1, swp c' p (2 * p + 1), by omega, by omega, num_eq (by omega), S3.out.1, HS.out.trans (same_swp (by omega) (by omega)), (fun i hi => by rw [swp_o c' (by omega) (by omega)]; exact HF.out i hi), HN.out, by first | exact (HK.out.trans (Kept.drewN _ _ _ _) (.inl rfl)).trans S3.out.2 (.inl rfl) | exact ((HK.out.trans (Kept.drewN _ _ _ _) (.inl rfl)).trans (Kept.drewN _ _ _ _) (.inl rfl)).trans S3.out.2 (.inl rfl)⟩
            case measure => simp [intOf]; omega
      · have h2' : decide ((2 * (p : Int) + 1 + 1) < (n0 : Int)) = false := by simp; omega
        have MIN := Lib.hid (kids (n := n0) (p := p) (K := fun x => vI (s x)) (c := c') (j := 2 * p + 1) (.inl rfl) (fun _ h => by omega) (fun h => by omega))
        have L3 := Lib.hid (fun W (hW : HeadsAt W hb sb n scap g cap m c' s) => less_anyI W hb sb n scap g cap m c' s hW (2 * p + 1) p (by omega) (by omega) (OK'.out _ (by omega)).1 (OK'.out _ (by omega)).1 (2 * (p : Int) + 1) p (by omega) rfl)

        cases e3 : ltB (s (c' (2 * p + 1))) (s (c' p)) with
        | false =>
          rw [e3] at L3
          have HN := Lib.hid (show HeapFrom i0 n0 (fun x => vI (s x)) c' from down_done HDn.out (fun i a b d => Int.le_trans (by rw [ltB_val (OK'.out _ (by omega)).2 (OK'.out _ (by omega)).2] at e3; simpa using e3) (MIN.out i a b d)))
          clear e3
          go_wp2_with (first | (go_at_call 184; (with_reducible refine Calls.mono (L3.out _ ?_) ?_); (first | exact HH.out | exact HH.out.drewN _ | exact (HH.out.drewN _).drewN _); rintro e w' ⟨rfl, q2, rfl⟩))
          go_ret
          exact ⟨⟨_, rfl⟩, c', (by first | exact HH.out.drewN _ | exact (HH.out.drewN _).drewN _), HS.out, HF.out, HN.out, by first | exact HK.out.trans (Kept.drewN _ _ _ _) (.inl rfl) | exact (HK.out.trans (Kept.drewN _ _ _ _) (.inl rfl)).trans (Kept.drewN _ _ _ _) (.inl rfl)⟩
        | true =>
          rw [e3] at L3
          have HN := Lib.hid (show HeapDown i0 n0 (fun x => vI (s x)) (swp c' p (2 * p + 1)) (2 * p + 1) from down_swap HDn.out hp2 (by omega) (by omega) (by omega) (by rw [ltB_val (OK'.out _ (by omega)).2 (OK'.out _ (by omega)).2] at e3; simpa using e3) MIN.out)
          have SW := Lib.hid (fun W (hW : HeadsAt W hb sb n scap g cap m c' s) => swap_anyI W hb sb n scap g cap m c' s hW p (2 * p + 1) (by omega) (by omega) p (2 * (p : Int) + 1) rfl (by omega))
          clear e3
          go_wp2_with (first | (go_at_call 184; (with_reducible refine Calls.mono (L3.out _ ?_) ?_); (first | exact HH.out | exact HH.out.drewN _ | exact (HH.out.drewN _).drewN _); rintro e w' ⟨rfl, q2, rfl⟩) | (go_at_call 187; (with_reducible refine Calls.mono (SW.out _ ?_) ?_); (first | exact HH.out | exact HH.out.drewN _ | exact (HH.out.drewN _).drewN _); rintro e w3 ⟨rfl, hs3⟩; have S3 := Lib.hid hs3; clear hs3))
          go_roundw
          case rel => exact ⟨2 * p + 1, swp c' p (2 * p + 1), by omega, by omega, num_eq (by omega), S3.out.1, HS.out.trans (same_swp (by omega) (by omega)), (fun i hi => by rw [swp_o c' (by omega) (by omega)]; exact HF.out i hi), HN.out, by first | exact (HK.out.trans (Kept.drewN _ _ _ _) (.inl rfl)).trans S3.out.2 (.inl rfl) | exact ((HK.out.trans (Kept.drewN _ _ _ _) (.inl rfl)).trans (Kept.drewN _ _ _ _) (.inl rfl)).trans S3.out.2 (.inl rfl)⟩
          case measure => simp [intOf]; omega
    · have hk' : decide ((2 * (p : Int) + 1) < (n0 : Int)) = false := by simp; omega
      go_wp2
      go_ret
      exact ⟨⟨_, rfl⟩, c', HH.out, HS.out, HF.out, down_done HDn.out (fun i a b d => by omega), HK.out⟩
end Go.Proofs.YtacbemilicdklaaDoor

/- Contracts: up, Init, Pop and Push of container/heap over the heap of cells. -/
namespace Go.Proofs.YtacbemilicdklaaDoor
open Go.RowKit Fl
set_option linter.unusedVariables false

/-- Cells that are there, with spills that have a value. -/
def OkC (n m : Nat) (c s : Nat → Nat) : Prop := ∀ i, i < m → c i < n ∧ vS (s (c i)) = some (vI (s (c i)))
theorem OkC.same {n m : Nat} {c c' s : Nat → Nat} (h : OkC n m c s) (hs : SameSet m c c') : OkC n m c' s := hs.all (P := fun x => x < n ∧ vS (s x) = some (vI (s x))) h

def UpPost (hb sb n scap g cap m : Nat) (c s : Nat → Nat) (w : World) (e : Ending) (w' : World) : Prop :=
  e = .returned (.tuple #[]) ∧ ∃ c', HeadsAt w' hb sb n scap g cap m c' s ∧ SameSet m c c' ∧ Heap m (fun x => vI (s x)) c' ∧ Kept hb g w w'

set_option maxRecDepth 100000 in
set_option maxHeartbeats 2000000 in
theorem up_any (w : World) (hb sb n scap g cap m : Nat) (c s : Nat → Nat) (h : HeadsAt w hb sb n scap g cap m c s) (hok : OkC n m c s) (j0 : Nat) (h0 : j0 < m) (hd : HeapUp m (fun x => vI (s x)) c j0) :
    Calls Tryd.prog 149 #[.iface 133 (.pointer (some ⟨hb, 0, none⟩)), .int .i64 j0] w (UpPost hb sb n scap g cap m c s w) := by
  have m2 := h.m2
  have ml := m_less
  have ms := m_swap
  have OK := Lib.hid hok
  have H := Lib.hid h
  have HD := Lib.hid hd
  clear hok h hd
  go_enter Tryd.func149, Tryd.ntmps149
  go_wp2
  go_loopw [1, 4] (fun s1 s4 wr => ∃ (j : Nat) (c' : Nat → Nat), j < m ∧ s1 = .int .i64 j ∧ HeadsAt wr hb sb n scap g cap m c' s ∧ SameSet m c c' ∧ HeapUp m (fun x => vI (s x)) c' j ∧ Kept hb g w wr)
    (fun s1 _ _ => (intOf s1).toNat)
  case atStart => exact ⟨j0, c, h0, rfl, H.out, .rfl', HD.out, Kept.refl _ _ _⟩
  case round =>
    obtain ⟨j, c', hj1, rfl, hH, hS, hD, hK⟩ := hrel
    have HH := Lib.hid hH
    have HS := Lib.hid hS
    have HU := Lib.hid hD
    have HK := Lib.hid hK
    have OK' := Lib.hid (OK.out.same hS)
    clear hH hS hD hK
    rcases Nat.eq_zero_or_pos j with rfl | hj
    · rw [show ((0 : Nat) : Int) = 0 from rfl]
      go_wp2
      go_end0
      exact ⟨rfl, c', HH.out, HS.out, up_done HU.out (.inl rfl), HK.out⟩
    · have L3 := Lib.hid (fun W (hW : HeadsAt W hb sb n scap g cap m c' s) => less_anyI W hb sb n scap g cap m c' s hW j ((j - 1) / 2) (by omega) (by omega) (OK'.out _ (by omega)).1 (OK'.out _ (by omega)).1 j (((j : Int) - 1) / 2) rfl (by omega))
      have SW := Lib.hid (fun W (hW : HeadsAt W hb sb n scap g cap m c' s) => swap_anyI W hb sb n scap g cap m c' s hW ((j - 1) / 2) j (by omega) (by omega) (((j : Int) - 1) / 2) j (by omega) rfl)
      have hne : ((((j : Int) - 1) / 2) == (j : Int)) = false := by simp; omega
      have hne' : ¬ ((((j : Int) - 1) / 2) = (j : Int)) := by omega
      have V3 := Lib.hid (ltB_val (OK'.out j (by omega)).2 (OK'.out ((j - 1) / 2) (by omega)).2)
      cases e3 : ltB (s (c' j)) (s (c' ((j - 1) / 2))) with
      | false =>
        rw [e3] at L3 V3
        clear e3
        go_wp2_with (first | (go_at_call 184; (with_reducible refine Calls.mono (L3.out _ ?_) ?_); (first | exact HH.out | exact HH.out.drewN _); rintro e w' ⟨rfl, q2, rfl⟩))
        go_end0
        exact ⟨rfl, c', (by first | exact HH.out.drewN _ | exact HH.out), HS.out, up_done HU.out (.inr (by have := V3.out; simp at this; simp; omega)), HK.out.trans (Kept.drewN _ _ _ _) (.inl rfl)⟩
      | true =>
        rw [e3] at L3 V3
        clear e3
        have HN := Lib.hid (up_swap HU.out hj (by have := V3.out; simp at this; exact this))
        go_wp2_with (first | (go_at_call 184; (with_reducible refine Calls.mono (L3.out _ ?_) ?_); (first | exact HH.out | exact HH.out.drewN _); rintro e w' ⟨rfl, q2, rfl⟩) | (go_at_call 187; (with_reducible refine Calls.mono (SW.out _ ?_) ?_); (first | exact HH.out | exact HH.out.drewN _); rintro e w3 ⟨rfl, hs3⟩; have S3 := Lib.hid hs3; clear hs3))
        go_roundw
        case rel => exact ⟨(j - 1) / 2, swp c' ((j - 1) / 2) j, by omega, num_eq (by omega), S3.out.1, HS.out.trans (same_swp (by omega) (by omega)), HN.out, (HK.out.trans (Kept.drewN _ _ _ _) (.inl rfl)).trans S3.out.2 (.inl rfl)⟩
        case measure => simp [intOf]; omega

theorem down_anyI (w : World) (hb sb n scap g cap m : Nat) (c s : Nat → Nat) (h : HeadsAt w hb sb n scap g cap m c s) (hok : OkC n m c s) (i0 n0 : Nat) (h0 : n0 ≤ m) (h1 : i0 ≤ n0)
    (hd : HeapDown i0 n0 (fun x => vI (s x)) c i0) (x y : Int) (hx : (i0 : Int) = x) (hy : (n0 : Int) = y) :
    Calls Tryd.prog 146 #[.iface 133 (.pointer (some ⟨hb, 0, none⟩)), .int .i64 x, .int .i64 y] w (DownPost hb sb n scap g cap m n0 i0 c s w) := by
  subst hx; subst hy; exact down_any w hb sb n scap g cap m c s h hok i0 n0 h0 h1 hd

set_option maxRecDepth 100000 in
set_option maxHeartbeats 2000000 in
theorem hinit_any (w : World) (hb sb n scap g cap m : Nat) (c s : Nat → Nat) (h : HeadsAt w hb sb n scap g cap m c s) (hok : OkC n m c s) :
    Calls Tryd.prog 119 #[.iface 133 (.pointer (some ⟨hb, 0, none⟩))] w (UpPost hb sb n scap g cap m c s w) := by
  have m2 := h.m2
  have ml := m_len
  have LN := Lib.hid (len_any w hb sb n scap g cap m c s h)
  have OK := Lib.hid hok
  have H := Lib.hid h
  clear hok h
  go_enter Tryd.func119, Tryd.ntmps119
  go_wp2_with (go_at_call 120; refine LN.out.mono ?_; rintro e w' ⟨rfl, rfl⟩)
  go_loopw [3] (fun s3 wr => ∃ (q : Nat) (c' : Nat → Nat), q ≤ m ∧ s3 = .int .i64 ((q : Int) - 1) ∧ HeadsAt wr hb sb n scap g cap m c' s ∧ SameSet m c c' ∧ HeapFrom q m (fun x => vI (s x)) c' ∧ Kept hb g w wr)
    (fun s3 _ => (intOf s3 + 1).toNat)
  case atStart => exact ⟨m / 2, c, by omega, num_eq (by omega), H.out, .rfl', heap_all, Kept.refl _ _ _⟩
  case round =>
    obtain ⟨q, c', hq1, rfl, hH, hS, hD, hK⟩ := hrel
    have HH := Lib.hid hH
    have HS := Lib.hid hS
    have HU := Lib.hid hD
    have HK := Lib.hid hK
    have OK' := Lib.hid (OK.out.same hS)
    clear hH hS hD hK
    rcases Nat.eq_zero_or_pos q with rfl | hq
    · rw [show (((0 : Nat) : Int) - 1) = -1 from rfl]
      go_wp2
      go_end0
      exact ⟨rfl, c', HH.out, HS.out, heap_from HU.out, HK.out⟩
    · have DN := Lib.hid (down_anyI wr hb sb n scap g cap m c' s HH.out OK'.out (q - 1) m (Nat.le_refl _) (by omega) (down_start (by rw [show q - 1 + 1 = q by omega]; exact HU.out)) ((q : Int) - 1) m (by omega) rfl)
      go_wp2_with (go_at_call 146; refine DN.out.mono ?_; rintro e w3 ⟨⟨b, rfl⟩, c3, h3⟩; have H3 := Lib.hid h3; clear h3)
      go_roundw
      case rel => exact ⟨q - 1, c3, by omega, num_eq (by omega), H3.out.1, HS.out.trans H3.out.2.1, H3.out.2.2.2.1, HK.out.trans H3.out.2.2.2.2 (.inl rfl)⟩
      case measure => simp [intOf]; omega

def PopPost (hb sb n scap g cap m : Nat) (c s : Nat → Nat) (w : World) (e : Ending) (w' : World) : Prop :=
  e = .returned (anyI (c 0)) ∧ ∃ c', HeadsAt w' hb sb n scap g cap m c' s ∧ SameSet m (swp c 0 m) c' ∧ Heap m (fun x => vI (s x)) c' ∧ Kept hb g w w'

set_option maxRecDepth 100000 in
set_option maxHeartbeats 2000000 in
theorem pop_any (w : World) (hb sb n scap g cap m : Nat) (c s : Nat → Nat) (h : HeadsAt w hb sb n scap g cap (m + 1) c s) (hok : OkC n (m + 1) c s) (hh : Heap (m + 1) (fun x => vI (s x)) c) :
    Calls Tryd.prog 121 #[.iface 133 (.pointer (some ⟨hb, 0, none⟩))] w (PopPost hb sb n scap g cap m c s w) := by
  have m2 := h.m2
  have ml := m_len
  have mp := m_pop
  have ms := m_swap
  have LN := Lib.hid (len_any w hb sb n scap g cap (m + 1) c s h)
  have SW := Lib.hid (swap_anyI w hb sb n scap g cap (m + 1) c s h 0 m (by omega) (by omega) 0 m rfl rfl)
  have DN := Lib.hid (fun W hW => down_anyI W hb sb n scap g cap (m + 1) (swp c 0 m) s hW (hok.same (same_swp (by omega) (by omega))) 0 m (by omega) (by omega) (down_start (pop_start hh)) 0 m rfl rfl)
  clear hok h hh
  go_enter Tryd.func121, Tryd.ntmps121
  go_wp2_with (first | (go_at_call 120; refine LN.out.mono ?_; rintro e w' ⟨rfl, rfl⟩) | (go_at_call 187; refine SW.out.mono ?_; rintro e w1 ⟨rfl, hs1⟩; have S1 := Lib.hid hs1; clear hs1) | (go_at_call 146; refine (DN.out _ S1.out.1).mono ?_; rintro e w2 ⟨⟨b, rfl⟩, c2, h2⟩; have H2 := Lib.hid h2; clear h2) | (go_at_call 185; refine (hpop_any _ hb sb n scap g cap m c2 s H2.out.1).mono ?_; rintro e w3 ⟨rfl, h3⟩; have H3 := Lib.hid h3; clear h3))
  go_ret
  exact ⟨by rw [H2.out.2.2.1 m (Nat.le_refl _), swp_j]; rfl, c2, H3.out.1, H2.out.2.1, heap_from H2.out.2.2.2.1, (S1.out.2.trans H2.out.2.2.2.2 (.inl rfl)).trans H3.out.2 (.inl rfl)⟩

def PushPost (hb sb n scap g m : Nat) (c s : Nat → Nat) (k : Nat) (w : World) (e : Ending) (w' : World) : Prop :=
  e = .returned (.tuple #[]) ∧ ∃ g' cap' c', HeadsAt w' hb sb n scap g' cap' (m + 1) c' s ∧ SameSet (m + 1) (updW c m k) c' ∧ Heap (m + 1) (fun x => vI (s x)) c' ∧ Kept hb g w w' ∧ (g' = g ∨ w.heap.size ≤ g')

set_option maxRecDepth 100000 in
set_option maxHeartbeats 2000000 in
theorem push_any (w : World) (hb sb n scap g cap m : Nat) (c s : Nat → Nat) (h : HeadsAt w hb sb n scap g cap m c s) (hok : OkC n m c s) (hh : Heap m (fun x => vI (s x)) c) (k : Nat) (hm : m < 131072) (hk : k < n) (hv : vS (s k) = some (vI (s k))) :
    Calls Tryd.prog 123 #[.iface 133 (.pointer (some ⟨hb, 0, none⟩)), anyI k] w (PushPost hb sb n scap g m c s k w) := by
  have ml := m_len
  have mp := m_push
  have PU := Lib.hid (hpush_any w hb sb n scap g cap m c s h k hm)
  have OK := Lib.hid (show OkC n (m + 1) (updW c m k) s from fun i hi => by
    by_cases e : i = m
    · subst e; rw [updW_same]; exact ⟨hk, hv⟩
    · rw [updW_other c e]; exact hok i (by omega))
  have HU := Lib.hid (show HeapUp (m + 1) (fun x => vI (s x)) (updW c m k) m from up_start hh (fun i hi => updW_other c (by omega)))
  clear hok h hh hv
  go_enter Tryd.func123, Tryd.ntmps123
  go_wp2_with (first | (go_at_call 186; refine PU.out.mono ?_; rintro e w1 ⟨rfl, g', cap', hs1⟩; have S1 := Lib.hid hs1; clear hs1) | (go_at_call 120; refine (len_any _ hb sb n scap g' cap' (m + 1) _ s S1.out.1).mono ?_; rintro e w' ⟨rfl, rfl⟩) | (go_at_call 149; refine (up_any _ hb sb n scap g' cap' (m + 1) _ s S1.out.1 OK.out m (by omega) HU.out).mono ?_; rintro e w2 ⟨rfl, c2, h2⟩; have H2 := Lib.hid h2; clear h2))
  go_end0
  exact ⟨rfl, g', cap', c2, H2.out.1, H2.out.2.1, H2.out.2.2.1, S1.out.2.1.trans H2.out.2.2.2 S1.out.2.2, S1.out.2.2⟩
end Go.Proofs.YtacbemilicdklaaDoor

/- A region that draws its order, in a round of a range over a function: walked as outside of it. -/
namespace Go.Proofs.YtacbemilicdklaaDoor
set_option linter.unusedVariables false

theorem rowsIn_round {l n : Nat} {P : Program} {row : String} {args : Array Value} {w : World} {R : Value → World → Prop} (h : Rows P row args w R) : RowsIn (Fence.wide.inRound l) n P row args w R :=
  fun c cs _ => let ⟨v, w', r, s⟩ := h c cs; ⟨v, w', r, stepsIn_wide.2 s⟩
theorem uponIn_round {l n : Nat} {P : Program} {o : Oper} {a : Act} {next : Act → World → Prop} {Q : Exit → Act → World → Prop} {r : Result Next} (h : o.upon P a next Q r) : o.uponIn (Fence.wide.inRound l) n P a next Q r := by
  cases r with
  | ok x w' =>
    cases x <;> first
      | exact h
      | exact ⟨fun e => by simp [Fence.wide] at e, CallsIn.inRound l (callsIn_wide.2 h)⟩
      | exact ⟨fun e => by simp [Fence.wide] at e, rowsIn_round h⟩
      | exact h.elim
  | halt x w' =>
    cases x <;> first | exact h | exact h.elim

/-- An operation's plain walk is one in a round, where it is no defer. -/
theorem wpOpIn_round {l n : Nat} {P : Program} {ops : Array Oper} {Q : Exit → Act → World → Prop} {i : Nat} {K K' : Act → World → Prop} {a : Act} {w : World} (hd : ∀ o, ops[i]? = some o → ∀ c, o.op ≠ .defer c) (hq : ¬ LetsOut Q)
    (hk : ∀ a w, K a w → K' a w) (h : wpOp P ops Q i K a w) : wpOpIn (Fence.wide.inRound l) n P ops Q i K' a w := by
  refine wpOpIn_mono hk ?_
  unfold wpOp at h
  unfold wpOpIn
  cases ho : ops[i]? with
  | none => rw [ho] at h; exact h
  | some o =>
    rw [ho] at h
    dsimp only at h ⊢
    by_cases hw : Region.wanted o (yielded ops a.tmps) = true
    · rw [if_pos hw] at h ⊢
      rcases h with h | h
      · refine ⟨fun _ _ => trivial, ?_⟩
        rw [show o.semAt (Fence.wide.inRound l).round a.eval = execOp a.eval o from Oper.semAt_some l _ _ (hd o ho)]
        exact uponIn_round h
      · exact (hq h.2).elim
    · rw [if_neg hw] at h ⊢
      exact ⟨fun _ _ => trivial, h⟩
theorem wpAnyIn_round {l n : Nat} {P : Program} {md : Region.Mode} {ops : Array Oper} {Q : Exit → Act → World → Prop} (hd : ∀ (i : Nat) (o : Oper), ops[i]? = some o → ∀ c, o.op ≠ .defer c) (hq : ¬ LetsOut Q) :
    ∀ (fuel : Nat) (listed : Array Bool) (a : Act) (w : World), wpAny P md ops Q fuel listed a w → wpAnyIn (Fence.wide.inRound l) n P md ops Q fuel listed a w := by
  intro fuel
  induction fuel with
  | zero => intro listed a w h; exact h
  | succ fuel ih =>
    intro listed a w h
    exact ⟨h.1, fun i hi => wpOpIn_round (hd i) hq (fun a w => ih _ a w) (h.2 i hi)⟩

/-- Reads and quiet calls ahead of one store, in a round. -/
theorem wpIn_still_tail_round {l n : Nat} {P : Program} {id : Nat} {Q : Exit → Act → World → Prop} {a : Act} {w : World} {L : List Oper} (N : Nat) (hm : P.follows .mixedOrders = true) (hd : ∀ (i : Nat) (o : Oper), L.toArray[i]? = some o → ∀ c, o.op ≠ .defer c) (hq : ¬ LetsOut Q) (hB : Region.lexTailB .any L.toArray N = true)
    (h : wpStill P L.toArray { w with drawn := w.drawn + 1 } (fun a' => wpList P L.toArray Q (L.drop N) a' { w with drawn := w.drawn + 1 }) (L.take N) a) : (Code.region id L.toArray true).wpIn (Fence.wide.inRound l) n P Q a w := by
  simp only [Region.lexTailB, Bool.and_eq_true, decide_eq_true_eq] at hB
  obtain ⟨⟨⟨⟨hsel, hn⟩, hs⟩, hc⟩, hlex⟩ := hB
  have hn' : N < L.length := by simpa using hn
  have htl : (L.take N).length = N := by simp; omega
  have hdl : (L.drop N).length = L.toArray.size - N := by simp
  have inv0 : HeadInv .any L.toArray N (Array.replicate L.toArray.size false) :=
    ⟨by simp, fun j oj _ hl => (by rw [getD_replicate_false] at hl; cases hl), fun t _ ht => getD_in (by simpa using ht) (getD_replicate_false _ _)⟩
  have H := wpAnyL_lex (md := .any) (g := L.toArray.size - N) hsel hs hc hn (L.take N) 0 _ a (fun j hj => by
    have hj' : j < N := by rw [htl] at hj; exact hj
    simp [hj']) (by simpa using htl) inv0 (by rw [htl]; exact hlex) h
  refine wpIn_region_any hm (wpAnyIn_round hd hq _ _ _ _ ?_)
  have := wpAny_of_head (Q' := Q) (g := L.toArray.size - N) (fun listed a' hL => by
    have := wpAny_of_seq (md := .any) (Q' := Q) (L.drop N) N listed a' { w with drawn := w.drawn + 1 } (fun j => by simp [List.getElem?_drop]) (by rw [hdl]; exact hL.1) hL.2
    rwa [hdl] at this) _ _ _ H
  rw [htl, show N + (L.toArray.size - N) = L.toArray.size by omega] at this
  exact this
end Go.Proofs.YtacbemilicdklaaDoor

/- Contracts: slices.Clone of singles; a slice of bools; the marks that a loop over a function leaves. -/
namespace Go.Proofs.YtacbemilicdklaaDoor
open Go.RowKit Fl Go.Shelf
set_option linter.unusedVariables false

/-- What Clone answers: a new row of the same singles. -/
def ClonePost (n : Nat) (v : Nat → Nat) (w : World) (e : Ending) (w' : World) : Prop :=
  ∃ g cap, e = .returned (.slice (some ⟨g, 0, none⟩) n cap) ∧ w.heap.size ≤ g ∧ w'.ownsRow w.heap.size 27 1 (.slice (some ⟨g, 0, none⟩) n cap) n (rowL v n) ∧ Below w.heap.size w w'

set_option maxHeartbeats 1000000 in
theorem clone_any (b off n cap : Nat) (v : Nat → Nat) (w : World) (h1 : 1 ≤ n) (hn : n ≤ 65536) (hc : FlAt w b off n v) :
    Calls Tryd.prog 96 #[.slice (some ⟨b, off, none⟩) n cap] w (ClonePost n v w) := by
  have zb : b < w.heap.size := World.block_lt_of_cell? w _ (hc 0 h1)
  have hnews := Lib.hid (show ∀ j u, (rowL v n)[j]? = some u → (w.alloc (.cells #[] 27)).cell? ((⟨b, off, none⟩ : Addr).add j) = some u from fun j u hu => by
    have hj : j < n := by
      rcases Nat.lt_or_ge j n with h | h
      · exact h
      · rw [List.getElem?_eq_none (by simpa [rowL] using h)] at hu; cases hu
    have : u = .float .f32 (v j) := by simpa [rowL, hj] using hu.symm
    rw [this]
    have e := hc j hj
    have : (⟨b, off, none⟩ : Addr).add j = ⟨b, off + j, none⟩ := by simp [Addr.add]
    rw [this]
    exact (World.cell?_of_block (w := w) (a := ⟨b, off + j, none⟩) (heap_alloc_old w _ zb)).trans e)
  have hinfo : (Tryd.prog.info? 27).map (fun i => (i.zero, i.size, i.bytes)) = some (some (.float .f32 0), 1, 4) := by kernel_rfl
  obtain ⟨i0, hi, hz0, hz1, hz2⟩ := info_parts hinfo
  have qT : ∀ (w : World) (a : Option Addr) (n c n' c' : Nat), (binOp .eql 24 (.slice a n c) (.slice none n' c')).run Tryd.prog w = .ok (.bool a.isNone) w := fun w a n c n' c' => Lib.run_eql_slice_nil w _ _ a n c n' c' Tryd.underlying24
  have H1 := Lib.hid h1
  have HN := Lib.hid hn
  clear hc hinfo h1 hn
  go_enter Tryd.func96, Tryd.ntmps96
  go_wp2_with (at_builtin; refine wpList_append_own _ rfl _ _ _ rfl w.heap.size 27 i0 (.float .f32 0) 1 4 Tryd.underlying24 hi hz0 hz1 hz2 rfl (by decide) (.slice (some ⟨w.heap.size, 0, none⟩) 0 0) 0 [] rfl (World.ownsRow_lit w #[] 0 (Nat.le_refl _) (by unfold maxLen; omega) rfl) ⟨b, off, none⟩ n cap (rowL v n) rfl (by simp [rowL]) hnews.out (by simp [rowL, Value.oneCell']) (by have := HN.out; unfold maxLen; omega) (by have := HN.out; omega) (by simp) ?_; intro v' w1 hown' hgrow hnil)
  rw [Nat.zero_add, List.nil_append] at hown'
  obtain ⟨g, cap', rfl, hg, _⟩ := hown'.form H1.out
  have HO := Lib.hid hown'
  have HG := Lib.hid hgrow
  clear hown' hgrow hnil
  go_ret
  exact ⟨g, cap', rfl, hg, HO.out, Below.grown (by repeat (first | exact Below.refl _ _ | refine Below.alloc ?_ (by first | omega | (simp; done) | (simp; omega)) _ | refine Below.setCell ?_ (by first | omega | (simp; done) | (simp; omega)) _ | refine Below.drew ?_)) HG.out (by simp) (fun k e => by simp [Value.ownBlock] at e; omega)⟩

def BoolsAt (w : World) (b n : Nat) (R : Nat → Bool) : Prop := ∃ cs : Array Value, w.heap[b]? = some (.cells cs 4 (0, 0)) ∧ cs.size = n ∧ ∀ i, i < n → cs[i]? = some (.bool (R i))
theorem BoolsAt.congr {w w' : World} {b n : Nat} {R : Nat → Bool} (h : BoolsAt w b n R) (e : w'.heap[b]? = w.heap[b]?) : BoolsAt w' b n R := by
  obtain ⟨cs, h1, h2⟩ := h
  exact ⟨cs, e.trans h1, h2⟩
theorem BoolsAt.cell {w : World} {b n : Nat} {R : Nat → Bool} (h : BoolsAt w b n R) {i : Nat} (hi : i < n) : w.cell? ⟨b, i, none⟩ = some (.bool (R i)) ∧ w.frozen? ⟨b, i, none⟩ = false ∧ b < w.heap.size := by
  obtain ⟨cs, h1, h2, h3⟩ := h
  obtain ⟨c, f, z⟩ := blkC h1
  exact ⟨(c i).trans (h3 i hi), f i, z⟩
theorem BoolsAt.put {w : World} {b n : Nat} {R : Nat → Bool} (h : BoolsAt w b n R) {k : Nat} (hk : k < n) : BoolsAt (w.setCell ⟨b, k, none⟩ (.bool true)) b n (updB R k) := by
  obtain ⟨cs, h1, h2, h3⟩ := h
  refine ⟨_, heap_setCell_same w b k _ _ _ h1, by simpa using h2, fun i hi => ?_⟩
  rw [Array.getElem?_setIfInBounds]
  by_cases e : k = i
  · subst e; rw [if_pos rfl, if_pos (by omega), updB_same]
  · rw [if_neg e, updB_other R (by omega)]; exact h3 i hi

theorem make_bool (n : Nat) (hn : n ≤ 65536) (w : World) :
    (Instr.makeSlice 106 (.int .i64 (n : Int)) (.int .i64 (n : Int))).run Tryd.prog w = .ok (.slice (some ⟨w.heap.size, 0, none⟩) n n) (w.alloc (.cells (madeCells #[Value.bool false] n) 4)) := by
  have h : (Tryd.prog.info? 4).map (fun i => (i.zero, i.size, i.bytes)) = some (some (.bool false), 1, 1) := by kernel_rfl
  obtain ⟨i0, hi, hz0, hz1, hz2⟩ := info_parts h
  have hr := run_make (P := Tryd.prog) w 106 4 i0 (.bool false) Tryd.underlying106 hi hz0 .i64 .i64 n n (by omega) (by omega) (by rw [hz2]; omega) (by omega)
  rw [hz1, Nat.mul_one, Int.toNat_natCast] at hr
  exact hr
theorem made_bools (w : World) (n : Nat) : BoolsAt (w.alloc (.cells (madeCells #[Value.bool false] n) 4)) w.heap.size n (fun _ => false) :=
  ⟨_, heap_alloc_new _ _, by simp [madeCells], fun i hi => by simp [madeCells, hi, Nat.mod_one]⟩

/-- The lowest cells first: how it begins. -/
theorem fil_start {g : Gnd} (G : GndOk g) {R : Nat → Bool} {c : Nat → Nat} {m : Nat} (hR : ∀ k, k < g.n → R k = g.bd k) (hc : ∀ i, i < m → c i < g.n ∧ g.bd (c i) = true) (ha : ∀ x, x < g.n → g.bd x = true → ∃ i, i < m ∧ c i = x)
    (hh : Heap m (fun x => vI (g.h x)) c) : Fil g g.h R c m (fun _ => False) (fun _ => False) (fun _ => 0) 0 :=
  ⟨fun i hi => ⟨(hc i hi).1, by rw [hR _ (hc i hi).1]; exact (hc i hi).2⟩, fun k hk hb => ⟨by rw [hR k hk]; exact hb, rfl⟩, fun k hk _ => ⟨hgt_ok (G.hgt k hk), Nat.le_refl _⟩,
    (fun k hk h1 h2 => by rw [hR k hk, h2] at h1; cases h1), fun _ _ h => h.elim, fun _ _ h => h.elim, fun x hx h => .inr (ha x hx (by rw [← hR x hx]; exact h)), fun _ _ h => h.elim, hh, by have := unr_le g.n R; omega⟩

/-- An end that is no panic. -/
def NoPanic (Q : Exit → Act → World → Prop) : Exit → Act → World → Prop
  | .panic _, _, _ => False
  | .outgrown, _, _ => False
  | e, a, w => Q e a w
theorem noPanic_of {Q : Exit → Act → World → Prop} : ∀ e a w, NoPanic Q e a w → Q e a w
  | .normal, _, _, h => h
  | .ret, _, _, h => h
  | .exit _, _, _, h => h
  | .goto _, _, _, h => h
  | .panic _, _, _, h => h.elim
  | .outgrown, _, _, h => h.elim

/-- The marks of loops that are over. -/
def Marks (lo : Nat) (w : World) : List Deferred → Prop
  | [] => True
  | d :: ds => (∃ D, d = { target := .collected D, args := #[] } ∧ lo ≤ D ∧ w.heap[D]? = some (.deferred (some [])) ∧ ∀ e ∈ ds, e.target ≠ .collected D) ∧ Marks lo w ds
theorem Marks.kept {lo : Nat} {w w' : World} {ds : List Deferred} (h : Marks lo w ds) (hk : ∀ k, lo ≤ k → w.heap[k]? = some (.deferred (some [])) → w'.heap[k]? = some (.deferred (some []))) : Marks lo w' ds := by
  induction ds with
  | nil => trivial
  | cons d ds ih =>
    obtain ⟨⟨D, h1, h2, h3, h4⟩, h5⟩ := h
    exact ⟨⟨D, h1, h2, hk D h2 h3, h4⟩, ih h5⟩
theorem Marks.lt {lo : Nat} {w : World} {ds : List Deferred} (h : Marks lo w ds) : ∀ e ∈ ds, ∀ D, e.target = .collected D → D < w.heap.size := by
  induction ds with
  | nil => intro e he; cases he
  | cons d ds ih =>
    obtain ⟨⟨D, rfl, h2, h3, h4⟩, h5⟩ := h
    intro e he D' hD
    rcases List.mem_cons.1 he with rfl | he
    · cases hD; exact (Array.getElem?_eq_some_iff.1 h3).1
    · exact ih h5 e he D' hD
/-- The marks are taken up at the return; whatever is no deferred block stays. -/
theorem leaves_marks {n : Nat} {P : Program} {fn : Func} {tmps : Array Value} {R : Ending → World → Prop} {lo : Nat} : ∀ (ds : List Deferred) (w : World), Marks lo w ds →
    (∀ w' : World, (∀ k, k < lo → w'.heap[k]? = w.heap[k]?) → (∀ (k : Nat) (o : Obj), w.heap[k]? = some o → o ≠ .deferred (some []) → w'.heap[k]? = some o) → w'.heap.size = w.heap.size → w'.os = w.os → w'.tape = w.tape → w'.output = w.output → ∃ v, (results fn tmps).run P w' = .ok v w' ∧ R (.returned v) w') →
    LeavesInM Fence.wide n P fn tmps R ds .returning w := by
  intro ds
  induction ds with
  | nil =>
    intro w _ h
    obtain ⟨v, h1, h2⟩ := h w (fun _ _ => rfl) (fun _ _ h _ => h) rfl rfl rfl rfl
    exact ⟨v, h1, h2⟩
  | cons d ds ih =>
    intro w hm h
    obtain ⟨⟨D, rfl, h2, h3, h4⟩, h5⟩ := hm
    refine ⟨by simp, .inl ⟨D, _, rfl, run_takeDeferred h3, ih _ ?_ fun w' g1 g2 g3 g4 g5 g6 => ?_⟩⟩
    · have hne : ∀ e ∈ ds, e.target ≠ .collected D := h4
      clear ih h h4
      induction ds with
      | nil => trivial
      | cons d2 ds2 ih2 =>
        obtain ⟨⟨D2, rfl, q2, q3, q4⟩, q5⟩ := h5
        have : D2 ≠ D := fun e => hne _ (List.mem_cons_self ..) (by rw [e])
        exact ⟨⟨D2, rfl, q2, (World.putObj_heap_other this).trans q3, q4⟩, ih2 q5 fun e he => hne e (List.mem_cons_of_mem _ he)⟩
    · exact h w' (fun k hk => (g1 k hk).trans (World.putObj_heap_other (by omega))) (fun k o ho hne => by
        by_cases e : k = D
        · subst e; rw [h3] at ho; cases ho; exact (hne rfl).elim
        · exact g2 k o ((World.putObj_heap_other e).trans ho) hne) (by rw [g3]; simp [World.putObj]) g4 g5 g6
end Go.Proofs.YtacbemilicdklaaDoor

/- Contracts: length; steepest. -/
namespace Go.Proofs.YtacbemilicdklaaDoor
open Go.RowKit Fl Go.Shelf
set_option linter.unusedVariables false
attribute [local go_sem] Oper.semAt_some

set_option maxHeartbeats 1000000 in
theorem length_any (d : Nat) (hd : d < 8) (w : World) : Calls Tryd.prog 86 #[.int .i64 d] w fun e w' => e = .returned (.float .f32 (dirW d)) ∧ w = w' := by
  have : d = 0 ∨ d = 1 ∨ d = 2 ∨ d = 3 ∨ d = 4 ∨ d = 5 ∨ d = 6 ∨ d = 7 := by omega
  rcases this with rfl | rfl | rfl | rfl | rfl | rfl | rfl | rfl
  all_goals
    clear hd
    go_enter Tryd.func86, Tryd.ntmps86
    go_wp2
    go_ret
    exact ⟨rfl, rfl⟩

/-- What steepest's rounds hold: the field's box, the number's, the way's, the drop's. -/
abbrev stpB (z : Nat) (X Y W H : Int) (n b off cap k : Nat) (s : Int × Nat) : List (Nat × Obj) :=
  [(z, fldO X Y W H (.slice (some ⟨b, off, none⟩) n cap)), (z + 1, .cells #[.int .i64 (k : Int)] 3), (z + 1 + 1, .cells #[.int .i64 s.1] 3), (z + 1 + 1 + 1, flObj s.2)]

/-- A greater drop is written. -/
theorem stp_write {w0 W1 : World} {X Y W H : Int} {n b off cap k r q B : Nat} {S : Int × Nat} (h : NbAt w0 W1 (stpB w0.heap.size X Y W H n b off cap k S)) (d : Int) (x : Nat) (hr : w0.heap.size + 1 + 1 + 1 < r) (hq : w0.heap.size + 1 + 1 + 1 < q) (hd : 1 < w0.heap.size) :
    KeepsFrom B W1 ((W1.setCell ⟨w0.heap.size + 1 + 1, 0, none⟩ (.int .i64 d)).setCell ⟨w0.heap.size + 1 + 1 + 1, 0, none⟩ (.float .f32 x)).drew ∧ KpN r q W1 ((W1.setCell ⟨w0.heap.size + 1 + 1, 0, none⟩ (.int .i64 d)).setCell ⟨w0.heap.size + 1 + 1 + 1, 0, none⟩ (.float .f32 x)).drew ∧
      NbAt w0 ((W1.setCell ⟨w0.heap.size + 1 + 1, 0, none⟩ (.int .i64 d)).setCell ⟨w0.heap.size + 1 + 1 + 1, 0, none⟩ (.float .f32 x)).drew (stpB w0.heap.size X Y W H n b off cap k (d, x)) := by
  have e0 := h.blk _ (List.mem_cons_self ..)
  have e1 := h.blk _ (List.mem_cons_of_mem _ (List.mem_cons_self ..))
  have e2 := h.blk _ (List.mem_cons_of_mem _ (List.mem_cons_of_mem _ (List.mem_cons_self ..)))
  have e3 := h.blk _ (List.mem_cons_of_mem _ (List.mem_cons_of_mem _ (List.mem_cons_of_mem _ (List.mem_cons_self ..))))
  dsimp only at e0 e1 e2 e3
  have o1 : ∀ j, j ≠ w0.heap.size + 1 + 1 → (W1.setCell ⟨w0.heap.size + 1 + 1, 0, none⟩ (.int .i64 d)).heap[j]? = W1.heap[j]? := fun j hj => heap_setCell_other _ _ j _ hj
  have e3' := (o1 (w0.heap.size + 1 + 1 + 1) (by omega)).trans e3
  have o2 : ∀ j, j ≠ w0.heap.size + 1 + 1 + 1 → ((W1.setCell ⟨w0.heap.size + 1 + 1, 0, none⟩ (.int .i64 d)).setCell ⟨w0.heap.size + 1 + 1 + 1, 0, none⟩ (.float .f32 x)).drew.heap[j]? = (W1.setCell ⟨w0.heap.size + 1 + 1, 0, none⟩ (.int .i64 d)).heap[j]? := fun j hj => heap_setCell_other _ _ j _ hj
  refine ⟨(keeps_set e2 _).trans ((keeps_set e3' _).trans (keeps_drew _ _)), kpN_t (kpN_set (k := w0.heap.size + 1 + 1) (o := 0) W1 _ (by omega) (by omega) (by omega)) (kpN_t (kpN_set (k := w0.heap.size + 1 + 1 + 1) (o := 0) _ _ (by omega) (by omega) (by omega)) (kpN_drew _ _ _)), ((h.bel.setCell (by show w0.heap.size ≤ w0.heap.size + 1 + 1; omega) _).setCell (by show w0.heap.size ≤ w0.heap.size + 1 + 1 + 1; omega) _).drew, fun p hp => ?_⟩
  simp only [stpB, List.mem_cons, List.not_mem_nil, or_false] at hp
  rcases hp with rfl | rfl | rfl | rfl
  · exact ((o2 _ (by omega)).trans (o1 _ (by omega))).trans e0
  · exact ((o2 _ (by omega)).trans (o1 _ (by omega))).trans e1
  · exact (o2 _ (by omega)).trans (heap_setCell_same W1 _ 0 _ _ _ e2)
  · exact heap_setCell_same _ _ 0 _ _ _ e3'
theorem NbAt.drew {w0 W1 : World} {L : List (Nat × Obj)} (h : NbAt w0 W1 L) : NbAt w0 W1.drew L := ⟨h.bel.drew, h.blk⟩

set_option maxRecDepth 100000 in
set_option maxHeartbeats 4000000 in
theorem steepest_any (X Y : Int) (W H n b off cap k : Nat) (v : Nat → Nat) (w : World) (h0 : checkR X Y W H = 0) (hn : n = W * H) (hc : FlAt w b off n v) (hh : allB n (fun i => hgtB (v i)) = true) (hk : k < n) (hD : DirsAt w) :
    Calls Tryd.prog 103 #[fldV X Y W H (.slice (some ⟨b, off, none⟩) n cap), .int .i64 k] w fun e w' => e = .returned (.tuple #[.int .i64 (stp v k (nbrs W H k 8)).1, .float .f32 (stp v k (nbrs W H k 8)).2]) ∧ Below w.heap.size w w' := by
  obtain ⟨b1, b2, b3, b4, b5, b6, b7, b8, b9⟩ := checkR_zero h0
  have hn2 : n ≤ 65536 := by
    have : ((W : Int) * (H : Int)) = (n : Int) := by rw [hn]; simp
    omega
  have zb : b < w.heap.size := World.block_lt_of_cell? w _ (hc 0 (by omega))
  have NE := Lib.hid (fun W' => neighbours_any X Y W H k W' (by omega) (by omega) (by omega) (by omega) (by omega) (by omega) (by omega))
  have HD := Lib.hid hD
  have HC := Lib.hid (fun W' (hB : Below w.heap.size w W') => flAt_congr hc (hB.block _ zb))
  have HN := Lib.hid hn
  have HK := Lib.hid hk
  have HH := Lib.hid hh
  have HR := Lib.hid h0
  have LN := Lib.hid (fun d hd w => length_any d hd w)
  clear hD hc hn hh h0 zb
  have hsf := fun (w : World) (a : Addr) (m : Mode) (k : FloatKind) (b : Nat) => run_store_float (P := Tryd.prog) (w := w) (a := a) (m := m) k b
  refine (callsIn_wide (n := 4)).1 (callsIn_of_wp_marks Tryd.func103 rfl trivial (wpIn_wide.2 (wp_mono (Q := NoPanic (bodyPostM Fence.wide 4 Tryd.prog Tryd.f103 (fun e w' => e = .returned (.tuple #[.int .i64 (stp v k (nbrs W H k 8)).1, .float .f32 (stp v k (nbrs W H k 8)).2]) ∧ Below w.heap.size w w'))) ?_ noPanic_of)) rfl)
  simp only [Tryd.ntmps103, List.size_toArray, List.length_cons, List.length_nil, Nat.reduceAdd, Nat.reduceSub, Array.replicate_succ, Array.replicate_zero, List.push_toArray, List.append_toArray, List.nil_append, List.cons_append]
  go_wp2_with (first | (go_at_call 122; refine (NE.out _).mono ?_; rintro e w8 ⟨q, hq, rfl, hr8, hq8, hql, hb8⟩; have HQ := Lib.hid hq; have HR8 := Lib.hid hr8; have HQ8 := Lib.hid hq8; have HQL := Lib.hid hql; have HB8 := Lib.hid hb8; clear hq hr8 hq8 hql hb8))
  have BW : Below w.heap.size w w8 := Below.trans (by repeat (first | exact Below.refl _ _ | refine Below.alloc ?_ (by first | omega | (simp; done) | (simp; omega)) _ | refine Below.setCell ?_ (by first | omega | (simp; done) | (simp; omega)) _ | refine Below.drew ?_)) (Below.mono HB8.out (by simp; omega))
  have I0 := Lib.hid (show NbAt w w8 (stpB w.heap.size X Y W H n b off cap k (stp v k [])) from ⟨BW, fun p hp => by
    simp only [stpB, List.mem_cons, List.not_mem_nil, or_false] at hp
    rcases hp with rfl | rfl | rfl | rfl
    · exact blkStay (by (first | (rw [heap_alloc_get, if_pos rfl]; done) | ((simp only [heap_alloc_get, heap_size_alloc, if_true]) <;> ((repeat' split) <;> first | rfl | omega)))) HB8.out
    · exact blkStay (by (first | (rw [heap_alloc_get, if_pos rfl]; done) | ((simp only [heap_alloc_get, heap_size_alloc, if_true]) <;> ((repeat' split) <;> first | rfl | omega)))) HB8.out
    · exact blkStay (by (first | (rw [heap_alloc_get, if_pos rfl]; done) | ((simp only [heap_alloc_get, heap_size_alloc, if_true]) <;> ((repeat' split) <;> first | rfl | omega)))) HB8.out
    · exact blkStay (by (first | (rw [heap_alloc_get, if_pos rfl]; done) | ((simp only [heap_alloc_get, heap_size_alloc, if_true]) <;> ((repeat' split) <;> first | rfl | omega)))) HB8.out⟩)
  have r8 := HR8.out
  simp only [World.size_alloc] at r8
  have R8 := Lib.hid r8
  have q9 : w.heap.size + 1 + 1 + 1 + 1 < q := by have := HQ.out; simp at this; omega
  have zw8 : w.heap.size ≤ w8.heap.size := BW.size
  have D8 := Lib.hid (HD.out.stay BW)
  have hdl := HD.out.lt
  have hkk : k < W * H := by have := HK.out; have := HN.out; omega
  have XB := Lib.hid (show X + ((k % W : Nat) : Int) ≤ 4194304 ∧ -4194304 ≤ X + ((k % W : Nat) : Int) from by
    have h : k % W < W := Nat.mod_lt _ (by omega)
    generalize k % W = z at *
    omega)
  have YB := Lib.hid (show Y + ((k / W : Nat) : Int) ≤ 4194304 ∧ -4194304 ≤ Y + ((k / W : Nat) : Int) from by
    have h : k / W < H := Nat.div_lt_of_lt_mul hkk
    generalize k / W = z at *
    omega)
  clear r8 BW
  refine (wpIn_wide (n := 4)).1 (wpIn_rangeFunc_ownG rfl (by omega) (gf := 147) (lb := #[.pointer (some ⟨w.heap.size + 1 + 1 + 1 + 1, 0, none⟩), .pointer (some ⟨q, 0, none⟩)]) rfl trivial enters_nbr1
    (nbr_stops X Y (X + ((k % W : Nat) : Int)) (Y + ((k / W : Nat) : Int)) W H k (w.heap.size + 1 + 1 + 1 + 1) q 3 (by omega) (by omega) (by omega) (by omega) (by omega) (by omega) (by omega) hkk rfl rfl XB.out.2 XB.out.1 YB.out.2 YB.out.1 w8 D8.out R8.out HQ8.out)
    kpN_t (kpN_b (by have := HQL.out; omega) HQL.out D8.out.lt) (Below.refl _ _) (fun _ => rfl)
    (fun pre W1 => NbAt w W1 (stpB w.heap.size X Y W H n b off cap k (stp v k (nbL pre)))) (fun _ _ _ => False) (NbAt.own zw8 (fun s p hp => by
      simp only [stpB, List.mem_cons, List.not_mem_nil, or_false] at hp
      rcases hp with rfl | rfl | rfl | rfl <;> rfl)) (fun _ _ _ _ _ h _ _ => h) I0.out
    (fun x => { tmps := #[fldV X Y W H (.slice (some ⟨b, off, none⟩) n cap), .int .i64 (k : Int), .pointer (some ⟨w.heap.size, 0, none⟩), .pointer (some ⟨w.heap.size + 1, 0, none⟩), .int .i64 0, .float .f32 0, .pointer (some ⟨w.heap.size + 1 + 1, 0, none⟩), .pointer (some ⟨w.heap.size + 1 + 1 + 1, 0, none⟩), .int .i64 (x.1.1 : Int), .int .i64 (x.1.2 : Int), undef, .pointer (some ⟨w.heap.size, 0, none⟩), reg X Y W H, .int .i64 (k : Int), .func (.func 147) #[] #[.pointer (some ⟨w.heap.size + 1 + 1 + 1 + 1, 0, none⟩), .pointer (some ⟨q, 0, none⟩)], .int .i64 (x.1.1 : Int), .int .i64 (x.1.2 : Int), undef, undef, undef, undef, undef, undef, undef, undef, undef, undef, undef, undef, undef, undef, undef, undef, undef, undef, undef, undef, undef], defers := [] }) ?assign ?body ?done ?stop)
  case assign =>
    intro l x W1 K hK
    simp only [encNb, encN]
    gi_wp2
    exact hK
  case body =>
    rintro l pre x W1 hI hlen
    have XL := Lib.hid (show x.1.2 < n from by rw [HN.out]; exact nbI_lt x.2.2)
    have XD := Lib.hid x.2.1
    obtain ⟨S, hS⟩ : ∃ S, S = stp v k (nbL pre) := ⟨_, rfl⟩
    have SN := Lib.hid (show stp v k (nbL (pre ++ [x])) = stp1 v k S x.1 by rw [nbL_snoc, stp_snoc, hS])
    rw [← hS] at hI
    clear hS
    have HI := Lib.hid hI
    obtain ⟨c0, f0, z0⟩ := blkC (hI.blk _ (List.mem_cons_self ..))
    obtain ⟨c1, f1, z1⟩ := blkC (hI.blk _ (List.mem_cons_of_mem _ (List.mem_cons_self ..)))
    obtain ⟨c2, f2, z2⟩ := blkC (hI.blk _ (List.mem_cons_of_mem _ (List.mem_cons_of_mem _ (List.mem_cons_self ..))))
    obtain ⟨c3, f3, z3⟩ := blkC (hI.blk _ (List.mem_cons_of_mem _ (List.mem_cons_of_mem _ (List.mem_cons_of_mem _ (List.mem_cons_self ..)))))
    have d1 := HC.out W1 hI.bel k HK.out
    have d2 := HC.out W1 hI.bel x.1.2 XL.out
    obtain ⟨s, qd, D⟩ := drop_parts x.1.1 (allB_iff.1 HH.out k HK.out) (allB_iff.1 HH.out x.1.2 XL.out)
    have a1 := fun (W : World) => run_float_arith (P := Tryd.prog) W .sub 27 .f32 (v k) (v x.1.2) s D.s1
    have a2 := fun (W : World) => run_float_arith (P := Tryd.prog) W .quo 27 .f32 s (dirW x.1.1) qd D.q1
    have EW := Lib.hid D.w
    have k1 : (k : Int) < (n : Int) := by have := HK.out; omega
    have x1 : (x.1.2 : Int) < (n : Int) := by have := XL.out; omega
    clear hI hlen D
    obtain ⟨way, most⟩ := S
    unfold stp1 at SN
    rw [EW.out] at SN
    cases hg : (FloatKind.f32.format.order qd most == some .gt) with
    | true =>
      rw [hg, if_pos rfl] at SN
      gi_wp2
      refine wpIn_still_tail_round 14 (by kernel_rfl) ?nd ?nl (by kernel_rfl) ?_
      case nd =>
        intro i o h c e
        have hm := Array.mem_of_getElem? h
        simp only [List.mem_toArray, List.mem_cons, List.not_mem_nil, or_false] at hm
        rcases hm with rfl | rfl | rfl | rfl | rfl | rfl | rfl | rfl | rfl | rfl | rfl | rfl | rfl | rfl | rfl <;> cases e
      case nl => exact fun ⟨_, _, h⟩ => h
      simp only [List.take_succ_cons, List.take_zero, List.drop_succ_cons, List.drop_zero]
      repeat still_step
      still_call ((LN.out _ XD.out _).mono fun _ _ h => ⟨h.1, h.2.symm⟩)
      repeat still_step
      refine wpStill_nil ?_
      change wpList _ _ _ _ _ W1.drew
      go_wp2
      gi_wp2
      have NW := stp_write (r := w.heap.size + 1 + 1 + 1 + 1) (q := q) (B := w8.heap.size) HI.out (x.1.1 : Int) qd (by omega) (by omega) hdl
      exact ⟨NW.1, NW.2.1, show NbAt w _ (stpB w.heap.size X Y W H n b off cap k (stp v k (nbL (pre ++ [x])))) from by rw [SN.out]; exact NW.2.2⟩
    | false =>
      rw [hg, if_neg (by simp)] at SN
      gi_wp2
      refine wpIn_still_tail_round 14 (by kernel_rfl) ?nd ?nl (by kernel_rfl) ?_
      case nd =>
        intro i o h c e
        have hm := Array.mem_of_getElem? h
        simp only [List.mem_toArray, List.mem_cons, List.not_mem_nil, or_false] at hm
        rcases hm with rfl | rfl | rfl | rfl | rfl | rfl | rfl | rfl | rfl | rfl | rfl | rfl | rfl | rfl | rfl <;> cases e
      case nl => exact fun ⟨_, _, h⟩ => h
      simp only [List.take_succ_cons, List.take_zero, List.drop_succ_cons, List.drop_zero]
      repeat still_step
      still_call ((LN.out _ XD.out _).mono fun _ _ h => ⟨h.1, h.2.symm⟩)
      repeat still_step
      refine wpStill_nil ?_
      change wpList _ _ _ _ _ W1.drew
      go_wp2
      gi_wp2
      exact ⟨keeps_drew _ _, kpN_drew _ _ _, show NbAt w _ (stpB w.heap.size X Y W H n b off cap k (stp v k (nbL (pre ++ [x])))) from by rw [SN.out]; exact HI.out.drew⟩
  case done =>
    rintro D xs W1 hDD hS hI hK
    have ES := Lib.hid (show nbL xs = nbrs W H k 8 from hS)
    rw [ES.out] at hI
    obtain ⟨c2, f2, z2⟩ := blkC (hI.blk _ (List.mem_cons_of_mem _ (List.mem_cons_of_mem _ (List.mem_cons_self ..))))
    obtain ⟨c3, f3, z3⟩ := blkC (hI.blk _ (List.mem_cons_of_mem _ (List.mem_cons_of_mem _ (List.mem_cons_of_mem _ (List.mem_cons_self ..)))))
    have HB := Lib.hid hI.bel
    have HM := Lib.hid (show Marks w8.heap.size W1 [{ target := .collected D, args := #[] }] from ⟨⟨D, rfl, hDD, hK, fun e he => by cases he⟩, trivial⟩)
    clear hI hK
    go_wp2
    go_region
    all_goals go_wp2
    all_goals
      refine leaves_marks (lo := w8.heap.size) _ _ (show Marks w8.heap.size W1 [{ target := .collected D, args := #[] }] from HM.out) fun w' g1 g2 g3 g4 g5 g6 => ⟨_, results_tmp2 rfl _ _ _, ?_⟩
      exact ⟨rfl, ⟨g4.trans HB.out.os, g5.trans HB.out.tape, g6.trans HB.out.output, Nat.le_trans HB.out.size (Nat.le_of_eq g3.symm), fun j hj => (g1 j (by omega)).trans (HB.out.block j hj)⟩⟩
  case stop =>
    rintro D c pre W1 _ _ h _
    exact h.elim
end Go.Proofs.YtacbemilicdklaaDoor

/- Whether a single is finite, whether it is a height, as the references of chapters 4 to 10 ask it: by comparisons. -/
namespace Go.Proofs.YtacbemilicdklaaDoor.Fl
open Ieee

/-- A finite single passes all three tests. -/
theorem num_fin {x : Nat} (h : finB x = true) : (single.order x x == some .eq) = true ∧ (single.order x 2139095039 == some .gt) = false ∧ (single.order x 4286578687 == some .lt) = false := by
  unfold finB at h
  cases hv : vS x with
  | none => rw [hv] at h; cases h
  | some a =>
    obtain ⟨h1, h2⟩ := vS_le hv
    refine ⟨by rw [eql_val hv hv]; simp, by rw [gtr_val hv vS_max]; simp; omega, by rw [lss_val hv vS_min]; simp; omega⟩
/-- Any other falls at one of them. -/
theorem num_inf {x : Nat} (h : finB x = false) : (single.order x x == some .eq) = false ∨ ((single.order x x == some .eq) = true ∧ (single.order x 2139095039 == some .gt) = true) ∨
    ((single.order x x == some .eq) = true ∧ (single.order x 2139095039 == some .gt) = false ∧ (single.order x 4286578687 == some .lt) = true) := by
  unfold finB at h
  cases hv : vS x with
  | some a => rw [hv] at h; cases h
  | none =>
    rcases vS_none hv with ⟨s, hs⟩ | hn
    · right
      have e := self_eq (x := x) (by rw [hs]; rfl)
      cases s with
      | false => exact .inl ⟨e, by unfold Format.order; rw [hs, readMax]; rfl⟩
      | true => exact .inr ⟨e, by unfold Format.order; rw [hs, readMax]; rfl, by unfold Format.order; rw [hs, readMin]; rfl⟩
    · exact .inl (self_ne hn)
/-- A height passes both tests. -/
theorem num_hgt {x : Nat} (h : hgtB x = true) : (single.order x 1233125376 == some .gt) = false ∧ (single.order x 3380609024 == some .lt) = false := by
  unfold hgtB at h
  cases hv : vS x with
  | none => rw [hv] at h; cases h
  | some a =>
    rw [hv] at h
    simp at h
    refine ⟨by rw [gtr_val hv vS_top]; simp; omega, by rw [lss_val hv vS_bot]; simp; omega⟩
/-- A finite single that is none falls at one. -/
theorem num_out {x : Nat} (f : finB x = true) (h : hgtB x = false) : (single.order x 1233125376 == some .gt) = true ∨ ((single.order x 1233125376 == some .gt) = false ∧ (single.order x 3380609024 == some .lt) = true) := by
  unfold finB at f
  unfold hgtB at h
  cases hv : vS x with
  | none => rw [hv] at f; cases f
  | some a =>
    rw [hv] at h
    simp at h
    rw [gtr_val hv vS_top, lss_val hv vS_bot]
    by_cases c : vTop < a
    · exact .inl (by simp [c])
    · exact .inr ⟨by simp [c], by simp; by_cases d : -vTop ≤ a; have := h d; omega; omega⟩
end Go.Proofs.YtacbemilicdklaaDoor.Fl

/- Contract: the references' NumberError over a list of singles that is known cell by cell. -/
namespace Go.Proofs.YtacbemilicdklaaDoor
open Go.RowKit Fl
set_option linter.unusedVariables false

set_option maxHeartbeats 2000000 in
theorem qNumberError_row (b off cap n : Nat) (v : Nat → Nat) (hl : n ≤ 9223372036854775807) (w : World) (hc : FlAt w b off n v) :
    Calls Tryd.prog 18 #[.slice (some ⟨b, off, none⟩) n cap] w fun e w' => e = .returned (.int .i64 (fldE n v)) ∧ w = w' := by
  go_enter Tryd.func18, Tryd.ntmps18
  go_wp2
  go_loop [9] (fun i => ∃ k : Nat, k ≤ n ∧ i = .int .i64 k ∧ allB k (fun i => finB (v i)) = true) (fun i => n - (intOf i).toNat)
  case atStart => exact ⟨0, Nat.zero_le _, rfl, rfl⟩
  case round =>
    obtain ⟨k, hk, rfl, hall⟩ := hrel
    have HA := Lib.hid hall
    clear hall
    by_cases hlt : k < n
    · have hcell := hc k hlt
      cases hf : finB (v k) with
      | true =>
        have HB := Lib.hid hf
        obtain ⟨t1, t2, t3⟩ := num_fin hf
        rw [← f32fmt] at t1 t2 t3
        have t1' : (FloatKind.f32.format.order (v k) (v k) != some .eq) = false := by rw [bne, t1]; rfl
        clear hf t1
        go_wp2
        go_round
        case rel => exact ⟨k + 1, by omega, by go_num, allB_iff.2 fun i hi => by rcases Nat.lt_or_ge i k with c | c; exact allB_iff.1 HA.out i c; rw [show i = k by omega]; exact HB.out⟩
        case measure => simp [intOf]; omega
      | false =>
        have HB := Lib.hid hf
        rcases num_inf hf with t1 | ⟨t1, t2⟩ | ⟨t1, t2, t3⟩
        · rw [← f32fmt] at t1
          have t1' : (FloatKind.f32.format.order (v k) (v k) != some .eq) = true := by rw [bne, t1]; rfl
          clear hf t1
          go_wp2
          go_ret
          exact ⟨ret_int (by unfold fldE; rw [allB_no hlt HB.out]; rfl), rfl⟩
        · rw [← f32fmt] at t1 t2
          have t1' : (FloatKind.f32.format.order (v k) (v k) != some .eq) = false := by rw [bne, t1]; rfl
          clear hf t1
          go_wp2
          go_ret
          exact ⟨ret_int (by unfold fldE; rw [allB_no hlt HB.out]; rfl), rfl⟩
        · rw [← f32fmt] at t1 t2 t3
          have t1' : (FloatKind.f32.format.order (v k) (v k) != some .eq) = false := by rw [bne, t1]; rfl
          clear hf t1
          go_wp2
          go_ret
          exact ⟨ret_int (by unfold fldE; rw [allB_no hlt HB.out]; rfl), rfl⟩
    · have hkn : k = n := by omega
      subst hkn
      go_wp2
      go_loop [27] (fun i => ∃ j : Nat, j ≤ k ∧ i = .int .i64 j ∧ allB j (fun i => hgtB (v i)) = true) (fun i => k - (intOf i).toNat)
      case atStart => exact ⟨0, Nat.zero_le _, rfl, rfl⟩
      case round =>
        obtain ⟨j, hj, rfl, hall2⟩ := hrel
        have HH := Lib.hid hall2
        clear hall2
        by_cases hlt2 : j < k
        · have hcell := hc j hlt2
          cases hb : hgtB (v j) with
          | true =>
            have HB := Lib.hid hb
            obtain ⟨t1, t2⟩ := num_hgt hb
            rw [← f32fmt] at t1 t2
            clear hb
            go_wp2
            go_round
            case rel => exact ⟨j + 1, by omega, by go_num, allB_iff.2 fun i hi => by rcases Nat.lt_or_ge i j with c | c; exact allB_iff.1 HH.out i c; rw [show i = j by omega]; exact HB.out⟩
            case measure => simp [intOf]; omega
          | false =>
            have HB := Lib.hid hb
            rcases num_out (allB_iff.1 HA.out j hlt2) hb with t1 | ⟨t1, t2⟩
            · rw [← f32fmt] at t1
              clear hb
              go_wp2
              go_ret
              exact ⟨ret_int (by unfold fldE hgtE; rw [HA.out, allB_no hlt2 HB.out]; rfl), rfl⟩
            · rw [← f32fmt] at t1 t2
              clear hb
              go_wp2
              go_ret
              exact ⟨ret_int (by unfold fldE hgtE; rw [HA.out, allB_no hlt2 HB.out]; rfl), rfl⟩
        · go_wp2
          go_ret
          have : j = k := by omega
          subst this
          exact ⟨ret_int (by unfold fldE hgtE; rw [HA.out, HH.out]; rfl), rfl⟩
end Go.Proofs.YtacbemilicdklaaDoor

/- Contracts: the reference's RegionError, Place, Mixed; the law's within, when, first (of two). -/
namespace Go.Proofs.YtacbemilicdklaaDoor
open Go.RowKit Fl
set_option linter.unusedVariables false

set_option maxHeartbeats 400000 in
theorem qRegionError_any (x y ww hh : Int) (w : World) :
    Calls Tryd.prog 62 #[reg x y ww hh] w fun e w' => e = .returned (.int .i64 (checkR x y ww hh)) ∧ w' = w.alloc (regObj x y ww hh) := by
  go_enter Tryd.func62, Tryd.ntmps62
  go_wp2
  all_goals go_ret
  all_goals refine ⟨ret_int (Eq.symm ?_), rfl⟩
  all_goals first
    | exact checkR_range (by simp only [withinB_no]; omega)
    | exact checkR_large (by simp only [withinB_iff]; omega) (by simp only [withinB_iff]; omega) (by omega)
    | exact checkR_place (by simp only [withinB_iff]; omega) (by simp only [withinB_iff]; omega) (by omega) (by simp only [withinB_no]; omega)
    | exact checkR_ok (by simp only [withinB_iff]; omega) (by simp only [withinB_iff]; omega) (by omega) (by simp only [withinB_iff]; omega) (by simp only [withinB_iff]; omega)

set_option maxHeartbeats 400000 in
theorem mWithin_any (n a b : Int) (w : World) :
    Calls Tryd.prog 46 #[.int .i64 n, .int .i64 a, .int .i64 b] w fun e w' => e = .returned (.bool (withinB n a b)) ∧ w = w' := by
  go_enter Tryd.func46, Tryd.ntmps46
  go_wp2
  all_goals go_ret
  all_goals exact ⟨ret_bool (by rw [Bool.eq_iff_iff, withinB_iff]; simp; omega), rfl⟩

def whenE (c : Bool) (k : Int) : Int := if c = true then k else 0
set_option maxHeartbeats 400000 in
theorem when_any (c : Bool) (k : Int) (w : World) :
    Calls Tryd.prog 19 #[.bool c, .int .i64 k] w fun e w' => e = .returned (.int .i64 (whenE c k)) ∧ w = w' := by
  unfold whenE
  cases c
  all_goals
    go_enter Tryd.func19, Tryd.ntmps19
    go_wp2
    go_ret
    exact ⟨rfl, rfl⟩

inductive FirstAt (a b : Int) : Value → Prop where
  | z : FirstAt a b (.int .i64 0)
  | a (h : a = 0) : FirstAt a b (.int .i64 1)
  | b (h : a = 0) (h' : b = 0) : FirstAt a b (.int .i64 2)
def firstE (a b : Int) : Int := if a = 0 then b else a
set_option maxHeartbeats 1000000 in
theorem first2_any (a b : Int) (p : Nat) (w : World) (h : w.heap[p]? = some (.cells #[.int .i64 a, .int .i64 b] 28)) :
    Calls Tryd.prog 16 #[.slice (some ⟨p, 0, none⟩) 2 2] w fun e w' => e = .returned (.int .i64 (firstE a b)) ∧ w = w' := by
  unfold firstE
  obtain ⟨c, f, z⟩ := blkC h
  clear h
  go_enter Tryd.func16, Tryd.ntmps16
  go_wp2
  go_loop [7] (fun i => FirstAt a b i) (fun i => 2 - (intOf i).toNat)
  case atStart => exact .z
  case round =>
    rcases hrel with _ | ha | ⟨ha, hb⟩
    · by_cases h0 : a = 0
      · subst h0
        go_wp2
        go_round
        case rel => exact .a rfl
        case measure => simp [intOf]
      · go_wp2
        go_ret
        exact ⟨by simp, rfl⟩
    · subst ha
      by_cases h0 : b = 0
      · subst h0
        go_wp2
        go_round
        case rel => exact .b rfl rfl
        case measure => simp [intOf]
      · go_wp2
        go_ret
        exact ⟨rfl, rfl⟩
    · subst ha hb
      go_wp2
      go_ret
      exact ⟨rfl, rfl⟩

set_option maxHeartbeats 1000000 in
theorem mixed_any (s x y n : Int) (w : World) :
    Calls Tryd.prog 63 #[.int .u32 s, .int .i64 x, .int .i64 y, .int .i64 n] w fun e w' => e = .returned (.int .u32 (hashI s x y n)) ∧ Below w.heap.size w w' := by
  go_enter Tryd.func63, Tryd.ntmps63
  go_wp2
  go_loop [9, 18] (fun h i => HashAt s x y n h i) (fun _ i => 3 - (intOf i).toNat)
  case atStart => exact .z
  case round =>
    cases hrel
    case z =>
      go_wp2
      go_round
      case rel => exact .a
      case measure => simp [intOf]
    case a =>
      go_wp2
      go_round
      case rel => exact .b
      case measure => simp [intOf]
    case b =>
      go_wp2
      go_round
      case rel => exact .c
      case measure => simp [intOf]
    case c =>
      go_wp2
      go_ret
      exact ⟨rfl, (by repeat (first | exact Below.refl _ _ | refine Below.alloc ?_ (by first | omega | (simp; done) | (simp; omega)) _ | refine Below.setCell ?_ (by first | omega | (simp; done) | (simp; omega)) _ | refine Below.drew ?_))⟩
end Go.Proofs.YtacbemilicdklaaDoor

/- Contracts: math.Sqrt, and the roots of both sides. -/
namespace Go.Proofs.YtacbemilicdklaaDoor
open Go.RowKit Fl
set_option linter.unusedVariables false

theorem extSqrt (X Z : Nat) (h : FloatKind.f64.format.sqrt X = some Z) : Extern.MathSqrt.sqrt #[.float .f64 X] = pure (.float .f64 Z) := by
  conv => lhs; whnf
  rw [h]

theorem sqrt_num (X Z : Nat) (h : Ieee.double.sqrt X = some Z) (w : World) :
    (callFunc 136 #[.float .f64 X]).run Tryd.prog w = .ok (.value (.float .f64 Z)) w := by
  rw [run_callFunc_extern Tryd.func136 (by kernel_rfl) (by kernel_rfl) (by kernel_rfl) (e := Extern.MathSqrt.sqrt) (by kernel_rfl), extSqrt X Z h]
  rfl

set_option maxHeartbeats 400000 in
theorem mathSqrt_num (X Z : Nat) (h : Ieee.double.sqrt X = some Z) (w : World) :
    Calls Tryd.prog 105 #[.float .f64 X] w fun e w' => e = .returned (.float .f64 Z) ∧ w = w' := by
  have a1 := sqrt_num X Z h
  clear h
  go_enter Tryd.func105, Tryd.ntmps105
  go_wp2
  go_ret
  exact ⟨rfl, rfl⟩

set_option maxHeartbeats 400000 in
theorem root_any {x : Nat} {a c : Int} {X Z : Nat} (R : RootAt x a X Z c) (w : World) :
    Calls Tryd.prog 104 #[.float .f32 x] w fun e w' => e = .returned (.float .f32 (rootW x)) ∧ w = w' := by
  have d1 := fun (W : World) => run_convert_float_float (P := Tryd.prog) W 27 91 .f32 .f64 x X (by kernel_rfl) Tryd.underlying91 R.up
  have d2 := fun (W : World) => run_convert_float_float (P := Tryd.prog) W 91 27 .f64 .f32 Z (rootW x) (by kernel_rfl) Tryd.underlying27 R.dn
  have MS := Lib.hid (fun w => mathSqrt_num X Z R.sq w)
  generalize rootW x = r at *
  clear R
  go_enter Tryd.func104, Tryd.ntmps104
  go_wp2_with (go_at_call 105; refine (MS.out _).mono ?_; rintro e w' ⟨rfl, rfl⟩)
  go_ret
  exact ⟨rfl, rfl⟩

end Go.Proofs.YtacbemilicdklaaDoor

/- Contracts: CheckCarving, CarvingError; deep, Depth, DepthOf; the first error of three. -/
namespace Go.Proofs.YtacbemilicdklaaDoor
open Go.RowKit Fl
set_option linter.unusedVariables false

/-- How deep a cell is cut, as a word. -/
def depW (rate least most : Nat) (amount : Int) (drop : Nat) : Nat :=
  if amount < 1 ∨ (FloatKind.f32.format.order drop 0 == some .gt) = false then 0
  else if (FloatKind.f32.format.order (cutD rate amount drop) least == some .lt) = true then 0 else lesW (lesW (cutD rate amount drop) most) (halfW drop)

/-- A carving. -/
abbrev carV (rate least most : Nat) (steps : Int) : Value := .agg #[.float .f32 rate, .float .f32 least, .float .f32 most, .int .i64 steps]

abbrev carO (rate least most : Nat) (steps : Int) : Obj := .cells #[.float .f32 rate, .float .f32 least, .float .f32 most, .int .i64 steps] 68

set_option maxHeartbeats 400000 in
theorem qRoot_any {x : Nat} {a c : Int} {X Z : Nat} (R : RootAt x a X Z c) (w : World) :
    Calls Tryd.prog 55 #[.float .f32 x] w fun e w' => e = .returned (.float .f32 (rootW x)) ∧ w = w' := by
  have d1 := fun (W : World) => run_convert_float_float (P := Tryd.prog) W 27 91 .f32 .f64 x X (by kernel_rfl) Tryd.underlying91 R.up
  have d2 := fun (W : World) => run_convert_float_float (P := Tryd.prog) W 91 27 .f64 .f32 Z (rootW x) (by kernel_rfl) Tryd.underlying27 R.dn
  have MS := Lib.hid (fun w => mathSqrt_num X Z R.sq w)
  generalize rootW x = r at *
  clear R
  go_enter Tryd.func55, Tryd.ntmps55
  go_wp2_with (go_at_call 105; refine (MS.out _).mono ?_; rintro e w' ⟨rfl, rfl⟩)
  go_ret
  exact ⟨rfl, rfl⟩

/-- How deep, without errors: both sides. -/
def DepPost (w : World) (rate least most : Nat) (amount : Int) (drop : Nat) (e : Ending) (w' : World) : Prop :=
  e = .returned (.float .f32 (depW rate least most amount drop)) ∧ Below w.heap.size w w'

set_option maxHeartbeats 1000000 in
theorem deep_any (rate least most : Nat) (steps amount : Int) (drop : Nat) (d : Int) (w : World) (hr : Bd 20 rate) (hb : Bd 21 drop) (hd : vS drop = some d) (h0 : 0 ≤ amount) (h1 : amount ≤ 1099511627776) :
    Calls Tryd.prog 95 #[carV rate least most steps, .int .i64 amount, .float .f32 drop] w (DepPost w rate least most amount drop) := by
  obtain ⟨m1, m2, m3⟩ := cut_parts hr hb h0 h1
  obtain ⟨a, X, Z, c, R, _⟩ := amt_root h0 h1
  have RO := Lib.hid (fun w => root_any R w)
  have a1 := fun (W : World) => run_float_arith (P := Tryd.prog) W .mul 27 .f32 _ _ _ m1
  have a2 := fun (W : World) => run_float_arith (P := Tryd.prog) W .mul 27 .f32 _ _ _ m2
  have a3 := fun (W : World) => run_float_arith (P := Tryd.prog) W .mul 27 .f32 _ _ _ m3
  have t1 := leq_val hd vS_zero
  have t2 := gtr_val hd vS_zero
  rw [← f32f] at t1 t2
  unfold DepPost depW
  have LS := Lib.hid (fun x y w => lesser_any x y w)
  generalize cutA rate amount = A at *
  generalize cutD rate amount drop = D at *
  generalize halfW drop = F at *
  generalize rootW (floatOfInt .f32 amount) = r at *
  clear R m1 m2 m3 hr hb hd
  by_cases c1 : amount < 1
  · rw [if_pos (.inl c1)]
    clear a1 a2 a3 t1 t2 RO LS h0 h1
    go_enter Tryd.func95, Tryd.ntmps95
    go_wp2
    go_ret
    exact ⟨rfl, (by repeat (first | exact Below.refl _ _ | refine Below.alloc ?_ (by first | omega | (simp; done) | (simp; omega)) _ | refine Below.setCell ?_ (by first | omega | (simp; done) | (simp; omega)) _ | refine Below.drew ?_))⟩
  · by_cases c2 : d ≤ 0
    · rw [if_pos (.inr (by rw [t2]; simpa using c2))]
      rw [decide_eq_true c2] at t1
      clear a1 a2 a3 t2 RO LS h0 h1 c2
      go_enter Tryd.func95, Tryd.ntmps95
      go_wp2
      go_ret
      exact ⟨rfl, (by repeat (first | exact Below.refl _ _ | refine Below.alloc ?_ (by first | omega | (simp; done) | (simp; omega)) _ | refine Below.setCell ?_ (by first | omega | (simp; done) | (simp; omega)) _ | refine Below.drew ?_))⟩
    · rw [if_neg (by rw [t2]; simp; omega)]
      rw [decide_eq_false c2] at t1
      clear t2 h0 h1 c2
      cases c3 : (FloatKind.f32.format.order D least == some .lt) with
      | true =>
        rw [if_pos rfl]
        clear LS
        go_enter Tryd.func95, Tryd.ntmps95
        go_wp2
        go_quiet ((go_at_call 104; exact Calls.quiet_of_same ((RO.out _).mono fun _ _ h => ⟨h.1, h.2.symm⟩)))
        go_wp2
        go_ret
        exact ⟨rfl, (((Below.refl _ _).alloc (Nat.le_refl _) _).trans ((below_drewN _ _).mono (by simp)))⟩
      | false =>
        rw [if_neg (by simp)]
        go_enter Tryd.func95, Tryd.ntmps95
        go_wp2
        go_quiet ((go_at_call 104; exact Calls.quiet_of_same ((RO.out _).mono fun _ _ h => ⟨h.1, h.2.symm⟩)))
        go_wp2_with (go_at_call 134; refine (LS.out _ _ _).mono ?_; rintro e w' ⟨rfl, rfl⟩)
        go_ret
        exact ⟨rfl, (((Below.refl _ _).alloc (Nat.le_refl _) _).trans ((below_drewN _ _).mono (by simp)))⟩

set_option maxHeartbeats 1000000 in
theorem depthOf_any (rate least most : Nat) (steps amount : Int) (drop : Nat) (d : Int) (w : World) (hr : Bd 20 rate) (hb : Bd 21 drop) (hd : vS drop = some d) (h0 : 0 ≤ amount) (h1 : amount ≤ 1099511627776) :
    Calls Tryd.prog 47 #[carV rate least most steps, .int .i64 amount, .float .f32 drop] w (DepPost w rate least most amount drop) := by
  obtain ⟨m1, m2, m3⟩ := cut_parts hr hb h0 h1
  obtain ⟨a, X, Z, c, R, _⟩ := amt_root h0 h1
  have RO := Lib.hid (fun w => qRoot_any R w)
  have a1 := fun (W : World) => run_float_arith (P := Tryd.prog) W .mul 27 .f32 _ _ _ m1
  have a2 := fun (W : World) => run_float_arith (P := Tryd.prog) W .mul 27 .f32 _ _ _ m2
  have a3 := fun (W : World) => run_float_arith (P := Tryd.prog) W .mul 27 .f32 _ _ _ m3
  have t2 := gtr_val hd vS_zero
  rw [← f32f] at t2
  unfold DepPost depW
  generalize cutA rate amount = A at *
  generalize cutD rate amount drop = D at *
  generalize halfW drop = F at *
  generalize rootW (floatOfInt .f32 amount) = r at *
  clear R m1 m2 m3 hr hb hd
  by_cases c1 : amount < 1
  · rw [if_pos (.inl c1)]
    clear a1 a2 a3 t2 RO h0 h1
    go_enter Tryd.func47, Tryd.ntmps47
    go_wp2
    go_ret
    exact ⟨rfl, (by repeat (first | exact Below.refl _ _ | refine Below.alloc ?_ (by first | omega | (simp; done) | (simp; omega)) _ | refine Below.setCell ?_ (by first | omega | (simp; done) | (simp; omega)) _ | refine Below.drew ?_))⟩
  · by_cases c2 : d ≤ 0
    · rw [if_pos (.inr (by rw [t2]; simpa using c2))]
      rw [decide_eq_false (by omega)] at t2
      clear a1 a2 a3 RO h0 h1 c2
      go_enter Tryd.func47, Tryd.ntmps47
      go_wp2
      go_ret
      exact ⟨rfl, (by repeat (first | exact Below.refl _ _ | refine Below.alloc ?_ (by first | omega | (simp; done) | (simp; omega)) _ | refine Below.setCell ?_ (by first | omega | (simp; done) | (simp; omega)) _ | refine Below.drew ?_))⟩
    · rw [if_neg (by rw [t2]; simp; omega)]
      rw [decide_eq_true (by omega)] at t2
      clear h0 h1 c2
      unfold lesW
      cases c3 : (FloatKind.f32.format.order D least == some .lt) with
      | true =>
        rw [if_pos rfl]
        go_enter Tryd.func47, Tryd.ntmps47
        go_wp2
        go_quiet ((go_at_call 55; exact Calls.quiet_of_same ((RO.out _).mono fun _ _ h => ⟨h.1, h.2.symm⟩)))
        go_wp2
        go_ret
        exact ⟨rfl, (((Below.refl _ _).alloc (Nat.le_refl _) _).trans ((below_drewN _ _).mono (by simp)))⟩
      | false =>
        rw [if_neg (by simp)]
        cases c4 : (FloatKind.f32.format.order most D == some .lt) with
        | true =>
          simp only [if_true]
          cases c5 : (FloatKind.f32.format.order F most == some .lt) with
          | true =>
            rw [if_pos rfl]
            go_enter Tryd.func47, Tryd.ntmps47
            go_wp2
            go_quiet ((go_at_call 55; exact Calls.quiet_of_same ((RO.out _).mono fun _ _ h => ⟨h.1, h.2.symm⟩)))
            go_wp2
            go_ret
            exact ⟨rfl, (((Below.refl _ _).alloc (Nat.le_refl _) _).trans ((below_drewN _ _).mono (by simp)))⟩
          | false =>
            rw [if_neg (by simp)]
            go_enter Tryd.func47, Tryd.ntmps47
            go_wp2
            go_quiet ((go_at_call 55; exact Calls.quiet_of_same ((RO.out _).mono fun _ _ h => ⟨h.1, h.2.symm⟩)))
            go_wp2
            go_ret
            exact ⟨rfl, (((Below.refl _ _).alloc (Nat.le_refl _) _).trans ((below_drewN _ _).mono (by simp)))⟩
        | false =>
          simp only [Bool.false_eq_true, if_false]
          cases c5 : (FloatKind.f32.format.order F D == some .lt) with
          | true =>
            rw [if_pos rfl]
            go_enter Tryd.func47, Tryd.ntmps47
            go_wp2
            go_quiet ((go_at_call 55; exact Calls.quiet_of_same ((RO.out _).mono fun _ _ h => ⟨h.1, h.2.symm⟩)))
            go_wp2
            go_ret
            exact ⟨rfl, (((Below.refl _ _).alloc (Nat.le_refl _) _).trans ((below_drewN _ _).mono (by simp)))⟩
          | false =>
            rw [if_neg (by simp)]
            go_enter Tryd.func47, Tryd.ntmps47
            go_wp2
            go_quiet ((go_at_call 55; exact Calls.quiet_of_same ((RO.out _).mono fun _ _ h => ⟨h.1, h.2.symm⟩)))
            go_wp2
            go_ret
            exact ⟨rfl, (((Below.refl _ _).alloc (Nat.le_refl _) _).trans ((below_drewN _ _).mono (by simp)))⟩

/-- Three singles, as a list. -/
def three (a b c : Nat) (i : Nat) : Nat := if i = 0 then a else if i = 1 then b else c
theorem flAt_three {w : World} {p a b c : Nat} (h : w.heap[p]? = some (.cells #[.float .f32 a, .float .f32 b, .float .f32 c] 27)) : FlAt w p 0 3 (three a b c) := by
  intro i hi
  rw [Nat.zero_add, (blkC h).1 i]
  have : i = 0 ∨ i = 1 ∨ i = 2 := by omega
  rcases this with rfl | rfl | rfl <;> rfl
theorem three_hgt {a b c : Nat} (h : fldE 3 (three a b c) = 0) : hgtB a = true ∧ hgtB b = true ∧ hgtB c = true := by
  have := allB_iff.1 (fldE_zero.1 h)
  exact ⟨this 0 (by omega), this 1 (by omega), this 2 (by omega)⟩
/-- A carving's error behind its singles. -/
def carE2 (rate least most : Nat) (steps : Int) : Int :=
  if (FloatKind.f32.format.order rate 0 == some .lt) = true ∨ (FloatKind.f32.format.order rate 1065353216 == some .gt) = true ∨ (FloatKind.f32.format.order least 0 == some .lt) = true then 3
  else if (FloatKind.f32.format.order most least == some .lt) = true then 8 else if withinB steps 0 50 = true then 0 else 3
/-- A carving's error. -/
def carE (rate least most : Nat) (steps : Int) : Int := if fldE 3 (three rate least most) = 0 then carE2 rate least most steps else fldE 3 (three rate least most)

set_option maxHeartbeats 1000000 in
theorem checkCarving_any (rate least most : Nat) (steps : Int) (w : World) :
    Calls Tryd.prog 45 #[carV rate least most steps] w fun e w' => e = .returned (.int .i64 (carE rate least most steps)) ∧ Below w.heap.size w w' := by
  have CH := Lib.hid (fun p w (h : w.heap[p]? = some (.cells #[.float .f32 rate, .float .f32 least, .float .f32 most] 27)) => CheckHeights_row p 0 3 3 (three rate least most) (by omega) w (flAt_three h))
  have WI := Lib.hid (fun w => within_any steps 0 50 w)
  unfold carE
  generalize fldE 3 (three rate least most) = er at *
  by_cases h0 : er = 0
  · subst h0
    rw [if_pos rfl]
    unfold carE2
    generalize withinB steps 0 50 = wb at *
    cases c1 : (FloatKind.f32.format.order rate 0 == some .lt) <;> cases c2 : (FloatKind.f32.format.order rate 1065353216 == some .gt) <;> cases c3 : (FloatKind.f32.format.order least 0 == some .lt) <;>
      cases c4 : (FloatKind.f32.format.order most least == some .lt) <;> cases wb
    all_goals
      go_enter Tryd.func45, Tryd.ntmps45
      go_wp2_with (first | (go_at_call 93; refine (CH.out _ _ (by ((simp only [heap_alloc_get, heap_size_alloc, if_true]) <;> ((repeat' split) <;> first | rfl | omega)))).mono ?_; rintro e w' ⟨rfl, rfl⟩) | (go_at_call 94; refine (WI.out _).mono ?_; rintro e w' ⟨rfl, rfl⟩))
      go_ret
      exact ⟨ret_int (by simp), (by repeat (first | exact Below.refl _ _ | refine Below.alloc ?_ (by first | omega | (simp; done) | (simp; omega)) _ | refine Below.setCell ?_ (by first | omega | (simp; done) | (simp; omega)) _ | refine Below.drew ?_))⟩
  · rw [if_neg h0]
    have h1 : (er != 0) = true := by simpa using h0
    clear WI h0
    go_enter Tryd.func45, Tryd.ntmps45
    go_wp2_with (go_at_call 93; refine (CH.out _ _ (by ((simp only [heap_alloc_get, heap_size_alloc, if_true]) <;> ((repeat' split) <;> first | rfl | omega)))).mono ?_; rintro e w' ⟨rfl, rfl⟩)
    go_ret
    exact ⟨rfl, (by repeat (first | exact Below.refl _ _ | refine Below.alloc ?_ (by first | omega | (simp; done) | (simp; omega)) _ | refine Below.setCell ?_ (by first | omega | (simp; done) | (simp; omega)) _ | refine Below.drew ?_))⟩

set_option maxHeartbeats 1000000 in
theorem carvingError_any (rate least most : Nat) (steps : Int) (w : World) :
    Calls Tryd.prog 44 #[carV rate least most steps] w fun e w' => e = .returned (.int .i64 (carE rate least most steps)) ∧ Below w.heap.size w w' := by
  have CH := Lib.hid (fun p w (h : w.heap[p]? = some (.cells #[.float .f32 rate, .float .f32 least, .float .f32 most] 27)) => qNumberError_row p 0 3 3 (three rate least most) (by omega) w (flAt_three h))
  have WI := Lib.hid (show withinB steps 0 50 = decide (0 ≤ steps ∧ steps ≤ 50) by rw [Bool.eq_iff_iff, withinB_iff]; simp)
  unfold carE
  generalize fldE 3 (three rate least most) = er at *
  by_cases h0 : er = 0
  · subst h0
    rw [if_pos rfl]
    unfold carE2
    rw [WI.out]
    cases c1 : (FloatKind.f32.format.order rate 0 == some .lt) <;> cases c2 : (FloatKind.f32.format.order rate 1065353216 == some .gt) <;> cases c3 : (FloatKind.f32.format.order least 0 == some .lt) <;>
      cases c4 : (FloatKind.f32.format.order most least == some .lt)
    all_goals
      go_enter Tryd.func44, Tryd.ntmps44
      go_wp2_with (first | (go_at_call 18; refine (CH.out _ _ (by ((simp only [heap_alloc_get, heap_size_alloc, if_true]) <;> ((repeat' split) <;> first | rfl | omega)))).mono ?_; rintro e w' ⟨rfl, rfl⟩))
      all_goals go_ret
      all_goals exact ⟨ret_int (by simp <;> omega), (by repeat (first | exact Below.refl _ _ | refine Below.alloc ?_ (by first | omega | (simp; done) | (simp; omega)) _ | refine Below.setCell ?_ (by first | omega | (simp; done) | (simp; omega)) _ | refine Below.drew ?_))⟩
  · rw [if_neg h0]
    have h1 : (er != 0) = true := by simpa using h0
    clear WI h0
    go_enter Tryd.func44, Tryd.ntmps44
    go_wp2_with (go_at_call 18; refine (CH.out _ _ (by ((simp only [heap_alloc_get, heap_size_alloc, if_true]) <;> ((repeat' split) <;> first | rfl | omega)))).mono ?_; rintro e w' ⟨rfl, rfl⟩)
    go_ret
    exact ⟨rfl, (by repeat (first | exact Below.refl _ _ | refine Below.alloc ?_ (by first | omega | (simp; done) | (simp; omega)) _ | refine Below.setCell ?_ (by first | omega | (simp; done) | (simp; omega)) _ | refine Below.drew ?_))⟩
end Go.Proofs.YtacbemilicdklaaDoor

/- Contract: leastSpills. -/
namespace Go.Proofs.YtacbemilicdklaaDoor
open Go.RowKit Fl Go.Shelf
set_option linter.unusedVariables false

abbrev ptrO (hb : Nat) : Obj := .cells #[.pointer (some ⟨hb, 0, none⟩)] 133
abbrev boolsO (rb n : Nat) : Obj := .cells #[.slice (some ⟨rb, 0, none⟩) n n] 106
/-- What leastSpills holds throughout: the boxes of the field and of the slope, of the heap's pointer and of the cells that have been reached. -/
structure Stat (w0 w : World) (X Y : Int) (W H n b off cap sl hb : Nat) : Prop where
  fld : w.heap[w0.heap.size]? = some (fldO X Y W H (.slice (some ⟨b, off, none⟩) n cap))
  slo : w.heap[w0.heap.size + 1]? = some (flObj sl)
  ptr : w.heap[hb + 1]? = some (ptrO hb)
  rsl : w.heap[hb + 1 + 1 + 1]? = some (boolsO (hb + 1 + 1) n)
  bel : Below w0.heap.size w0 w
  lo : w0.heap.size + 1 < hb
theorem Stat.kept {w0 w w' : World} {X Y : Int} {W H n b off cap sl hb : Nat} (h : Stat w0 w X Y W H n b off cap sl hb) (hk : ∀ k, k ≤ hb + 1 + 1 + 1 → k ≠ hb → k ≠ hb + 1 + 1 → k < w0.heap.size ∨ k = w0.heap.size ∨ k = w0.heap.size + 1 ∨ hb < k → w'.heap[k]? = w.heap[k]?) (hb' : Below w0.heap.size w0 w') : Stat w0 w' X Y W H n b off cap sl hb := by
  have := h.lo
  exact ⟨(hk _ (by omega) (by omega) (by omega) (by omega)).trans h.fld, (hk _ (by omega) (by omega) (by omega) (by omega)).trans h.slo, (hk _ (by omega) (by omega) (by omega) (by omega)).trans h.ptr, (hk _ (by omega) (by omega) (by omega) (by omega)).trans h.rsl, hb', h.lo⟩

/-- The first loop, when k cells have been looked at: the border's cells among them have been reached, and lie in the heap. -/
structure L1 (w0 wr : World) (X Y : Int) (W H n b off cap sl hb sb scap : Nat) (v : Nat → Nat) (k : Nat) (ov : Value) (m : Nat) (c : Nat → Nat) : Prop where
  stat : Stat w0 wr X Y W H n b off cap sl hb
  obj : wr.heap[hb]? = some (.cells #[ov, .slice (some ⟨sb, 0, none⟩) n scap] 135)
  own : wr.ownsRow (hb + 1 + 1 + 1 + 1) 3 1 ov m (cellsL c m)
  sown : wr.ownsRow (w0.heap.size + 1 + 1) 27 1 (.slice (some ⟨sb, 0, none⟩) n scap) n (rowL v n)
  bools : BoolsAt wr (hb + 1 + 1) n (fun i => decide (i < k) && bdB W H i)
  c1 : ∀ i, i < m → c i < k ∧ bdB W H (c i) = true
  c2 : ∀ x, x < k → bdB W H x = true → ∃ i, i < m ∧ c i = x
  mle : m ≤ k
def L1At (w0 : World) (X Y : Int) (W H n b off cap sl hb sb scap : Nat) (v : Nat → Nat) (k : Nat) (wr : World) : Prop := ∃ ov m c, L1 w0 wr X Y W H n b off cap sl hb sb scap v k ov m c

theorem BoolsAt.as {w : World} {b n : Nat} {R R' : Nat → Bool} (h : BoolsAt w b n R) (e : ∀ i, i < n → R i = R' i) : BoolsAt w b n R' := by
  obtain ⟨cs, h1, h2, h3⟩ := h
  exact ⟨cs, h1, h2, fun i hi => by rw [← e i hi]; exact h3 i hi⟩
theorem BoolsAt.lt {w : World} {b n : Nat} {R : Nat → Bool} (h : BoolsAt w b n R) : b < w.heap.size := by
  obtain ⟨cs, h1, _⟩ := h
  exact (blkC h1).2.2
theorem Stat.below {w0 w w' : World} {X Y : Int} {W H n b off cap sl hb : Nat} (h : Stat w0 w X Y W H n b off cap sl hb) (hB : Below w.heap.size w w') : Stat w0 w' X Y W H n b off cap sl hb :=
  ⟨blkStay h.fld hB, blkStay h.slo hB, blkStay h.ptr hB, blkStay h.rsl hB, h.bel.trans (hB.mono h.bel.size), h.lo⟩
theorem ownsRow_congr {w w' : World} {base : Nat} {e : TypeId} {size : Nat} {v : Value} {n : Nat} {xs : List Value} (h : w.ownsRow base e size v n xs) (hk : ∀ g, v.ownBlock = some g → w'.heap[g]? = w.heap[g]?) : w'.ownsRow base e size v n xs := by
  obtain ⟨h1, h2⟩ := h
  refine ⟨h1, ?_⟩
  rcases h2 with h2 | ⟨g, cap, cur, hv, hg, hh, r⟩
  · exact .inl h2
  · exact .inr ⟨g, cap, cur, hv, hg, (hk g (by rw [hv]; rfl)).trans hh, r⟩

/-- A cell that is not of the border. -/
theorem L1.skip {w0 wr w2 : World} {X Y : Int} {W H n b off cap sl hb sb scap : Nat} {v : Nat → Nat} {k : Nat} {ov : Value} {m : Nat} {c : Nat → Nat} (h : L1 w0 wr X Y W H n b off cap sl hb sb scap v k ov m c) (hB : Below wr.heap.size wr w2) (hb' : bdB W H k = false) : L1 w0 w2 X Y W H n b off cap sl hb sb scap v (k + 1) ov m c := by
  refine ⟨h.stat.below hB, blkStay h.obj hB, ownsRow_below h.own hB, ownsRow_below h.sown hB, (h.bools.congr (hB.block _ h.bools.lt)).as fun i hi => ?_, fun i hi => ⟨by have := (h.c1 i hi).1; omega, (h.c1 i hi).2⟩, fun x hx hx' => ?_, by have := h.mle; omega⟩
  · by_cases e : i = k
    · subst e; rw [hb']; simp
    · have : decide (i < k) = decide (i < k + 1) := by simp; omega
      rw [this]
  · by_cases e : x = k
    · subst e; rw [hb'] at hx'; cases hx'
    · exact h.c2 x (by omega) hx'

/-- A cell of the border: it has been reached. -/
theorem L1.reach {w0 wr w2 : World} {X Y : Int} {W H n b off cap sl hb sb scap : Nat} {v : Nat → Nat} {k : Nat} {ov : Value} {m : Nat} {c : Nat → Nat} (h : L1 w0 wr X Y W H n b off cap sl hb sb scap v k ov m c) (hB : Below wr.heap.size wr w2) (hk : k < n) (hsb : sb < hb) :
    Stat w0 (w2.setCell ⟨hb + 1 + 1, k, none⟩ (.bool true)) X Y W H n b off cap sl hb ∧ (w2.setCell ⟨hb + 1 + 1, k, none⟩ (.bool true)).heap[hb]? = some (.cells #[ov, .slice (some ⟨sb, 0, none⟩) n scap] 135) ∧
    (w2.setCell ⟨hb + 1 + 1, k, none⟩ (.bool true)).ownsRow (hb + 1 + 1 + 1 + 1) 3 1 ov m (cellsL c m) ∧ (w2.setCell ⟨hb + 1 + 1, k, none⟩ (.bool true)).ownsRow (w0.heap.size + 1 + 1) 27 1 (.slice (some ⟨sb, 0, none⟩) n scap) n (rowL v n) ∧
    BoolsAt (w2.setCell ⟨hb + 1 + 1, k, none⟩ (.bool true)) (hb + 1 + 1) n (updB (fun i => decide (i < k) && bdB W H i) k) := by
  have e : ∀ j, j ≠ hb + 1 + 1 → (w2.setCell ⟨hb + 1 + 1, k, none⟩ (.bool true)).heap[j]? = w2.heap[j]? := fun j hj => heap_setCell_other _ _ j _ hj
  have S := h.stat.below hB
  refine ⟨S.kept (fun j h1 h2 h3 _ => e j h3) (S.bel.setCell (by show w0.heap.size ≤ hb + 1 + 1; have := S.lo; omega) _), (e hb (by omega)).trans (blkStay h.obj hB), ownsRow_setCell_below (ownsRow_below h.own hB) (show hb + 1 + 1 < hb + 1 + 1 + 1 + 1 by omega) _, ?_, (h.bools.congr (hB.block _ h.bools.lt)).put hk⟩
  exact ownsRow_congr (ownsRow_below h.sown hB) fun g hg => e g (by simp [Value.ownBlock] at hg; omega)

theorem L1.push {w0 w3 w4 : World} {X Y : Int} {W H n b off cap sl hb sb scap : Nat} {v : Nat → Nat} {k : Nat} {ov : Value} {m g' cap' : Nat} {c : Nat → Nat} {o : Obj} (hsb : sb < hb) (hbk : bdB W H k = true) (S : Stat w0 w3 X Y W H n b off cap sl hb)
    (obj : w3.heap[hb]? = some (.cells #[ov, .slice (some ⟨sb, 0, none⟩) n scap] 135)) (own : w3.ownsRow (hb + 1 + 1 + 1 + 1) 3 1 ov m (cellsL c m)) (sown : w3.ownsRow (w0.heap.size + 1 + 1) 27 1 (.slice (some ⟨sb, 0, none⟩) n scap) n (rowL v n))
    (bools : BoolsAt w3 (hb + 1 + 1) n (updB (fun i => decide (i < k) && bdB W H i) k)) (c1 : ∀ i, i < m → c i < k ∧ bdB W H (c i) = true) (c2 : ∀ x, x < k → bdB W H x = true → ∃ i, i < m ∧ c i = x) (mk : m ≤ k)
    (hgrow : (w3.alloc o).drew.grownBy w4 ov.ownBlock) (hown : w4.ownsRow (hb + 1 + 1 + 1 + 1) 3 1 (.slice (some ⟨g', 0, none⟩) (m + 1) cap') (m + 1) (cellsL c m ++ [.int .i64 (k : Int)])) :
    L1 w0 (w4.setCell ⟨hb, 0, none⟩ (.slice (some ⟨g', 0, none⟩) (m + 1) cap')) X Y W H n b off cap sl hb sb scap v (k + 1) (.slice (some ⟨g', 0, none⟩) (m + 1) cap') (m + 1) (updW c m k) := by
  have far : ∀ j, j < hb + 1 + 1 + 1 + 1 → some j ≠ ov.ownBlock := fun j hj => ownsRow_far own hj
  have z3 : hb + 1 + 1 + 1 < w3.heap.size := (blkC S.rsl).2.2
  have e4 : ∀ j, j < hb + 1 + 1 + 1 + 1 → w4.heap[j]? = w3.heap[j]? := fun j hj => (hgrow.block j (by show j < (w3.alloc o).heap.size; rw [heap_size_alloc]; omega) (far j hj)).trans (heap_alloc_old _ _ (by omega))
  have e5 : ∀ j, j ≠ hb → (w4.setCell ⟨hb, 0, none⟩ (.slice (some ⟨g', 0, none⟩) (m + 1) cap')).heap[j]? = w4.heap[j]? := fun j hj => heap_setCell_other _ _ j _ hj
  have lo := S.lo
  have B3 : Below w0.heap.size w0 (w3.alloc o) := S.bel.alloc S.bel.size o
  have B4 : Below w0.heap.size w0 w4 := ⟨hgrow.os.trans B3.os, hgrow.tape.trans B3.tape, hgrow.output.trans B3.output, Nat.le_trans B3.size hgrow.size, fun j hj => (hgrow.block j (Nat.lt_of_lt_of_le hj B3.size) (far j (by omega))).trans (B3.block j hj)⟩
  refine ⟨S.kept (fun j h1 h2 h3 _ => (e5 j h2).trans (e4 j (by omega))) (B4.setCell (by show w0.heap.size ≤ hb; omega) _), ?_, ?_, ownsRow_congr sown fun g hg => (e5 g (by simp [Value.ownBlock] at hg; omega)).trans (e4 g (by simp [Value.ownBlock] at hg; omega)), ?_, fun i hi => ?_, fun x hx hx' => ?_, by omega⟩
  · exact heap_setCell_same w4 hb 0 _ _ _ ((e4 hb (by omega)).trans obj)
  · rw [← cellsL_succ]; exact ownsRow_setCell_below hown (show hb < hb + 1 + 1 + 1 + 1 by omega) _
  · refine (bools.congr ((e5 _ (by omega)).trans (e4 _ (by omega)))).as fun i hi => ?_
    by_cases e : i = k
    · subst e; rw [updB_same, hbk]; simp
    · rw [updB_other _ e]
      have : decide (i < k) = decide (i < k + 1) := by simp; omega
      rw [this]
  · by_cases e : i = m
    · subst e; rw [updW_same]; exact ⟨by omega, hbk⟩
    · rw [updW_other c e]; exact ⟨by have := (c1 i (by omega)).1; omega, (c1 i (by omega)).2⟩
  · by_cases e : x = k
    · subst e; exact ⟨m, by omega, updW_same c m x⟩
    · obtain ⟨i, hi, q⟩ := c2 x (by omega) hx'
      exact ⟨i, by omega, by rw [updW_other c (by omega)]; exact q⟩

/-- What leastSpills answers. -/
def SpillPost (W H n : Nat) (v : Nat → Nat) (sl : Nat) (w : World) (e : Ending) (w' : World) : Prop :=
  ∃ s sb scap, e = .returned (.slice (some ⟨sb, 0, none⟩) n scap) ∧ w.heap.size ≤ sb ∧ sb < w'.heap.size ∧ n ≤ scap ∧ FlAt w' sb 0 n s ∧ Spills (gndOf W H v sl) s ∧ Below w.heap.size w w'

theorem ownsRow_lower {w : World} {base base' : Nat} {e : TypeId} {size : Nat} {v : Value} {n : Nat} {xs : List Value} (h : w.ownsRow base e size v n xs) (hb : base' ≤ base) : w.ownsRow base' e size v n xs := by
  obtain ⟨h1, h2⟩ := h
  refine ⟨h1, ?_⟩
  rcases h2 with h2 | ⟨g, cap, cur, hv, hg, r⟩
  · exact .inl h2
  · exact .inr ⟨g, cap, cur, hv, Nat.le_trans hb hg, r⟩

theorem l1_start {w0 w1 : World} {X Y : Int} {W H n b off cap sl hb sb scap base : Nat} {v : Nat → Nat} (hhb : w1.heap.size = hb) (hbase : w0.heap.size + 1 + 1 ≤ base) (hF : w1.heap[w0.heap.size]? = some (fldO X Y W H (.slice (some ⟨b, off, none⟩) n cap))) (hL : w1.heap[w0.heap.size + 1]? = some (flObj sl))
    (hB : Below w0.heap.size w0 w1) (hO : w1.ownsRow base 27 1 (.slice (some ⟨sb, 0, none⟩) n scap) n (rowL v n)) :
    L1At w0 X Y W H n b off cap sl hb sb scap v 0 ((((w1.alloc (.cells #[.slice none 0 0, .slice (some ⟨sb, 0, none⟩) n scap] 135)).alloc (ptrO hb)).alloc (.cells (madeCells #[Value.bool false] n) 4)).alloc (boolsO (hb + 1 + 1) n)) := by
  have zl := (blkC hL).2.2
  have old : ∀ j o, w1.heap[j]? = some o → ((((w1.alloc (.cells #[.slice none 0 0, .slice (some ⟨sb, 0, none⟩) n scap] 135)).alloc (ptrO hb)).alloc (.cells (madeCells #[Value.bool false] n) 4)).alloc (boolsO (hb + 1 + 1) n)).heap[j]? = some o := fun j o h => by
    have hj : j < w1.heap.size := (Array.getElem?_eq_some_iff.1 h).1
    rw [heap_alloc_old _ _ (by simp; omega), heap_alloc_old _ _ (by simp; omega), heap_alloc_old _ _ (by simp; omega), heap_alloc_old _ _ hj]; exact h
  subst hhb
  refine ⟨.slice none 0 0, 0, fun _ => 0, ⟨⟨old _ _ hF, old _ _ hL, ?_, ?_, ?_, by omega⟩, ?_, World.ownsRow_nil _ _ _ _, ownsRow_lower ((((hO.alloc _).alloc _).alloc _).alloc _) hbase, ?_, fun i hi => by omega, fun x hx => by omega, Nat.le_refl _⟩⟩
  · ((simp only [heap_alloc_get, heap_size_alloc, if_true]) <;> ((repeat' split) <;> first | rfl | omega))
  · ((simp only [heap_alloc_get, heap_size_alloc, if_true]) <;> ((repeat' split) <;> first | rfl | omega))
  · exact (((hB.alloc hB.size _).alloc (by simp; have := hB.size; omega) _).alloc (by simp; have := hB.size; omega) _).alloc (by simp; have := hB.size; omega) _
  · ((simp only [heap_alloc_get, heap_size_alloc, if_true]) <;> ((repeat' split) <;> first | rfl | omega))
  · refine ⟨_, by ((simp only [heap_alloc_get, heap_size_alloc, if_true]) <;> ((repeat' split) <;> first | rfl | omega)), by simp [madeCells], fun i hi => by simp [madeCells, hi, Nat.mod_one]⟩
end Go.Proofs.YtacbemilicdklaaDoor

/- What is known at each head of leastSpills' second loop; its rounds. -/
namespace Go.Proofs.YtacbemilicdklaaDoor
open Go.RowKit Fl Go.Shelf
set_option linter.unusedVariables false

/-- The heap, the spills and the cells that have been reached, in memory. -/
structure Mem (w0 wr : World) (X Y : Int) (W H n b off cap sl hb sb scap g gcap m : Nat) (c s : Nat → Nat) (R : Nat → Bool) : Prop where
  stat : Stat w0 wr X Y W H n b off cap sl hb
  heads : HeadsAt wr hb sb n scap g gcap m c s
  sown : wr.ownsRow (w0.heap.size + 1 + 1) 27 1 (.slice (some ⟨sb, 0, none⟩) n scap) n (rowL s n)
  bools : BoolsAt wr (hb + 1 + 1) n R
  gl : hb + 1 + 1 + 1 < g
  sbl : sb < hb
theorem ownsRow_flAt' {w : World} {base b cap k : Nat} {f : Nat → Nat} (h : w.ownsRow base 27 1 (.slice (some ⟨b, 0, none⟩) k cap) k (rowL f k)) (hk : 0 < k) : FlAt w b 0 k f := (ownsRow_flAt h hk).1
theorem Mem.below {w0 w w' : World} {X Y : Int} {W H n b off cap sl hb sb scap g gcap m : Nat} {c s : Nat → Nat} {R : Nat → Bool} (h : Mem w0 w X Y W H n b off cap sl hb sb scap g gcap m c s R) (hB : Below w.heap.size w w') : Mem w0 w' X Y W H n b off cap sl hb sb scap g gcap m c s R := by
  have zh := (blkC h.heads.obj).2.2
  have zs : sb < w.heap.size := World.block_lt_of_cell? w _ (h.heads.sp 0 h.heads.n1)
  have zg := h.heads.cap1.2.2
  exact ⟨h.stat.below hB, h.heads.kept (fun k hk => hB.block k (by rcases hk with rfl | rfl | rfl <;> assumption)), ownsRow_below h.sown hB, h.bools.congr (hB.block _ h.bools.lt), h.gl, h.sbl⟩
/-- A step that turns no block of cells. -/
theorem Mem.other {w0 w w' : World} {X Y : Int} {W H n b off cap sl hb sb scap g gcap m : Nat} {c s : Nat → Nat} {R : Nat → Bool} (h : Mem w0 w X Y W H n b off cap sl hb sb scap g gcap m c s R) (hB : Below w0.heap.size w0 w') (hk : ∀ (k : Nat) (cs : Array Value) (t : TypeId) (f : Nat × Nat), w.heap[k]? = some (.cells cs t f) → w'.heap[k]? = some (.cells cs t f)) : Mem w0 w' X Y W H n b off cap sl hb sb scap g gcap m c s R := by
  have S := h.stat
  have own : ∀ {base : Nat} {e : TypeId} {v : Value} {n : Nat} {xs : List Value}, w.ownsRow base e 1 v n xs → w'.ownsRow base e 1 v n xs := fun q => by
    obtain ⟨h1, h2⟩ := q
    refine ⟨h1, ?_⟩
    rcases h2 with h2 | ⟨g, cap, cur, hv, hg, hh, r⟩
    · exact .inl h2
    · exact .inr ⟨g, cap, cur, hv, hg, hk _ _ _ _ hh, r⟩
  have so := own h.sown
  refine ⟨⟨hk _ _ _ _ S.fld, hk _ _ _ _ S.slo, hk _ _ _ _ S.ptr, hk _ _ _ _ S.rsl, hB, S.lo⟩, ⟨hk _ _ _ _ h.heads.obj, own h.heads.own, (ownsRow_flAt' so h.heads.n1), h.heads.gh, h.heads.gs, h.heads.hs, h.heads.nc, h.heads.n1, h.heads.n2, h.heads.m2⟩, so, ?_, h.gl, h.sbl⟩
  obtain ⟨cs, h1, h2⟩ := h.bools
  exact ⟨cs, hk _ _ _ _ h1, h2⟩

theorem below_kept {w0 w w' : World} {hb g : Nat} (hB : Below w0.heap.size w0 w) (K : Kept hb g w w') (h1 : w0.heap.size ≤ hb) (h2 : w0.heap.size ≤ g) : Below w0.heap.size w0 w' :=
  ⟨K.os.trans hB.os, K.tape.trans hB.tape, K.output.trans hB.output, Nat.le_trans hB.size K.size, fun j hj => (K.block j (Nat.lt_of_lt_of_le hj hB.size) (by omega) (by omega)).trans (hB.block j hj)⟩

/-- Behind a step of the heap's. -/
theorem Mem.heapStep {w0 w w' : World} {X Y : Int} {W H n b off cap sl hb sb scap g gcap m g' gcap' m' : Nat} {c s c' : Nat → Nat} {R : Nat → Bool} (h : Mem w0 w X Y W H n b off cap sl hb sb scap g gcap m c s R) (K : Kept hb g w w') (hh : HeadsAt w' hb sb n scap g' gcap' m' c' s) (hg : g' = g ∨ w.heap.size ≤ g') :
    Mem w0 w' X Y W H n b off cap sl hb sb scap g' gcap' m' c' s R := by
  have lo := h.stat.lo
  have gl := h.gl
  have sbl := h.sbl
  have zr := (blkC h.stat.rsl).2.2
  have kk : ∀ k, k ≤ hb + 1 + 1 + 1 → k ≠ hb → w'.heap[k]? = w.heap[k]? := fun k hk hne => K.block k (by omega) hne (by omega)
  exact ⟨h.stat.kept (fun k hk' h1 _ _ => kk k hk' h1) (below_kept h.stat.bel K (by omega) (by omega)), hh, ownsRow_congr h.sown fun g' hg => kk g' (by simp [Value.ownBlock] at hg; omega) (by simp [Value.ownBlock] at hg; omega), h.bools.congr (kk _ (by omega) (by omega)), by omega, h.sbl⟩

theorem rowL_set {s : Nat → Nat} {n k x : Nat} (hk : k < n) : (rowL s n).set k (.float .f32 x) = rowL (updW s k x) n := by
  apply List.ext_getElem?
  intro i
  rw [List.getElem?_set]
  by_cases e : i < n
  · have q : ∀ s : Nat → Nat, (rowL s n)[i]? = some (.float .f32 (s i)) := fun s => by simp [rowL, e]
    by_cases e1 : k = i
    · subst e1; rw [if_pos rfl, if_pos (by simpa [rowL] using e), q, updW_same]
    · rw [if_neg e1, q, q, updW_other s (by omega)]
  · have q : ∀ s : Nat → Nat, (rowL s n)[i]? = none := fun s => List.getElem?_eq_none (by simp [rowL]; omega)
    rw [if_neg (by omega), q, q]

/-- A cell is reached, its spill is stored. -/
theorem Mem.store {w0 w : World} {X Y : Int} {W H n b off cap sl hb sb scap g gcap m : Nat} {c s : Nat → Nat} {R : Nat → Bool} (h : Mem w0 w X Y W H n b off cap sl hb sb scap g gcap m c s R) {k x : Nat} (hk : k < n) :
    Mem w0 (w.setCell ⟨sb, k, none⟩ (.float .f32 x)) X Y W H n b off cap sl hb sb scap g gcap m c (updW s k x) R := by
  have lo := h.stat.lo
  have sbl := h.sbl
  have gl := h.gl
  have e : ∀ j, j ≠ sb → (w.setCell ⟨sb, k, none⟩ (.float .f32 x)).heap[j]? = w.heap[j]? := fun j hj => heap_setCell_other _ _ j _ hj
  have o := (h.sown.stored k (.float .f32 x)).1
  rw [rowL_set hk] at o
  have sl0 := (h.sown.lt sb rfl).1
  have S := h.stat
  have st : Stat w0 (w.setCell ⟨sb, k, none⟩ (.float .f32 x)) X Y W H n b off cap sl hb := ⟨(e _ (by omega)).trans S.fld, (e _ (by omega)).trans S.slo, (e _ (by omega)).trans S.ptr, (e _ (by omega)).trans S.rsl, S.bel.setCell (by show w0.heap.size ≤ sb; omega) _, S.lo⟩
  have D := h.heads
  exact ⟨st, ⟨(e _ (by omega)).trans D.obj, ownsRow_congr D.own fun g' hg => e g' (by simp [Value.ownBlock] at hg; omega), ownsRow_flAt' o D.n1, D.gh, D.gs, D.hs, D.nc, D.n1, D.n2, D.m2⟩, o, h.bools.congr (e _ (by omega)), h.gl, h.sbl⟩
theorem Mem.reach {w0 w : World} {X Y : Int} {W H n b off cap sl hb sb scap g gcap m : Nat} {c s : Nat → Nat} {R : Nat → Bool} (h : Mem w0 w X Y W H n b off cap sl hb sb scap g gcap m c s R) {k : Nat} (hk : k < n) :
    Mem w0 (w.setCell ⟨hb + 1 + 1, k, none⟩ (.bool true)) X Y W H n b off cap sl hb sb scap g gcap m c s (updB R k) := by
  have lo := h.stat.lo
  have sbl := h.sbl
  have gl := h.gl
  have e : ∀ j, j ≠ hb + 1 + 1 → (w.setCell ⟨hb + 1 + 1, k, none⟩ (.bool true)).heap[j]? = w.heap[j]? := fun j hj => heap_setCell_other _ _ j _ hj
  exact ⟨h.stat.kept (fun j h1 h2 h3 _ => e j h3) (h.stat.bel.setCell (by show w0.heap.size ≤ hb + 1 + 1; omega) _), h.heads.kept (fun j hj => e j (by omega)), ownsRow_congr h.sown fun g' hg => e g' (by simp [Value.ownBlock] at hg; omega), h.bools.put hk, h.gl, h.sbl⟩

/-- What a round may turn: the heap's blocks, the spills, the cells that have been reached. -/
structure Turn (hb sb g : Nat) (w w' : World) : Prop where
  size : w.heap.size ≤ w'.heap.size
  block : ∀ k, k < w.heap.size → k ≠ hb → k ≠ g → k ≠ sb → k ≠ hb + 1 + 1 → w'.heap[k]? = w.heap[k]?
theorem Turn.refl (hb sb g : Nat) (w : World) : Turn hb sb g w w := ⟨Nat.le_refl _, fun _ _ _ _ _ _ => rfl⟩
theorem Turn.set {hb sb g : Nat} {w w' : World} (h : Turn hb sb g w w') {p : Addr} (hp : p.block = sb ∨ p.block = hb + 1 + 1) (u : Value) : Turn hb sb g w (w'.setCell p u) :=
  ⟨by simpa using h.size, fun k hk h1 h2 h3 h4 => (heap_setCell_other _ p k u (by rcases hp with e | e <;> rw [e] <;> omega)).trans (h.block k hk h1 h2 h3 h4)⟩
theorem Turn.drew {hb sb g : Nat} {w w' : World} (h : Turn hb sb g w w') : Turn hb sb g w w'.drew := ⟨h.size, h.block⟩
theorem Turn.heap {hb sb g : Nat} {w w' w'' : World} (h : Turn hb sb g w w') (K : Kept hb g w' w'') : Turn hb sb g w w'' :=
  ⟨Nat.le_trans h.size K.size, fun k hk h1 h2 h3 h4 => (K.block k (Nat.lt_of_lt_of_le hk h.size) h1 h2).trans (h.block k hk h1 h2 h3 h4)⟩
end Go.Proofs.YtacbemilicdklaaDoor
