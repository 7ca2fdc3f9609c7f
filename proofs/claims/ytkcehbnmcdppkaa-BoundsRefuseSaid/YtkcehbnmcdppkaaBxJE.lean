/- Lemmas and contracts for the proof that the last text of this claim holds. -/
import Derived.Test.YtkcehbnmcdppkaaBxJD
import Derived.Deep.RegionHeld3
import Derived.Deep.RegionLaw
import Derived.BigQuiet
import Derived.Deep.AppendLies
import Derived.BigRegion
import Derived.RegionTactic
import Derived.ChangeAlike
import Derived.RangeFuncNested
import Derived.RangeFuncBound
import Derived.RangeFuncCalls
import Derived.RangeFuncLeaves
import Derived.Shelf.Abstract
import Derived.Shelf.RegionOpen
import Derived.OwnWalkIn
import Derived.TacticsInMore
import Derived.LoopNIn
import Derived.LoopIn
import Derived.OrdersIn
import Derived.StillTail
import Derived.TacticsIn
import Derived.Laws.OwnMore

/- Contract: boundsOf. -/
namespace Go.Proofs.Ytkcehbnmcdppkaa
open Go.RowKit Fl
set_option linter.unusedVariables false

/-- What holds when k boxes have been appended. -/
structure BsAt (w0 : World) (X Y W H : Int) (sl : Value) (base : Nat) (T : Nat → BxR) (k : Nat) (ov : Value) (wr : World) : Prop where
  own : wr.ownsRow base 71 5 ov k (bxsL T k)
  reg : wr.heap[w0.heap.size]? = some (fldO X Y W H sl)
  bel : Below w0.heap.size w0 wr
  size : base ≤ wr.heap.size
theorem BsAt.stay {w0 wr wx : World} {X Y W H : Int} {sl ov : Value} {base k : Nat} {T : Nat → BxR} (h : BsAt w0 X Y W H sl base T k ov wr) (hb : Below wr.heap.size wr wx) : BsAt w0 X Y W H sl base T k ov wx :=
  ⟨ownsRow_below h.own hb, blkStay h.reg hb, h.bel.trans (hb.mono h.bel.size), Nat.le_trans h.size hb.size⟩
theorem BsAt.push {w0 w5 w6 : World} {X Y W H : Int} {sl : Value} {base k g' cap' : Nat} {T : Nat → BxR} {ov : Value} {o : Obj} {f : BxR} (h : BsAt w0 X Y W H sl base T k ov w5) (hb : w0.heap.size < base)
    (hgrow : (w5.alloc o).grownBy w6 ov.ownBlock) (hown : w6.ownsRow base 71 5 (.slice (some ⟨g', 0, none⟩) (k + 1) cap') (k + 1) (bxsL T k ++ f.cells.toList)) :
    BsAt w0 X Y W H sl base (updX T k f) (k + 1) (.slice (some ⟨g', 0, none⟩) (k + 1) cap') w6 := by
  have z5 : base ≤ w5.heap.size := h.size
  have B5 : Below w0.heap.size w0 w5 := h.bel
  have e4 : ∀ j, j < base → w6.heap[j]? = w5.heap[j]? := fun j hj => (hgrow.block j (by show j < (w5.alloc o).heap.size; rw [heap_size_alloc]; omega) (ownsRow_far h.own hj)).trans (heap_alloc_old _ _ (by omega))
  have B4 : Below w0.heap.size w0 (w5.alloc o) := B5.alloc B5.size o
  have z6 := hgrow.size
  rw [heap_size_alloc] at z6
  exact ⟨by rw [bxsL_upd]; exact hown, (e4 _ hb).trans h.reg, ⟨hgrow.os.trans B4.os, hgrow.tape.trans B4.tape, hgrow.output.trans B4.output, Nat.le_trans B4.size hgrow.size, fun j hj => (e4 j (by omega)).trans (B5.block j hj)⟩, by omega⟩
theorem BsAt.row {w0 wr : World} {X Y W H : Int} {sl : Value} {base g cap k : Nat} {T : Nat → BxR} (h : BsAt w0 X Y W H sl base T k (.slice (some ⟨g, 0, none⟩) k cap) wr) (hk : 0 < k) : BxRow wr g k T ∧ base ≤ g := by
  rcases h.own.2 with ⟨h0, _⟩ | ⟨g', cap', cur, hv, hg, hh, h1, h2, h3, h4⟩
  · cases h0
  · cases hv
    refine ⟨⟨fun i hi j hj => ?_, (blkC hh).2.2⟩, hg⟩
    rw [(blkC hh).1, ← bxsL_get T k hi hj, ← h4, List.getElem?_take, if_pos (by omega)]
    simp

/-- What boundsOf answers. -/
def BdsPost (w : World) (v : Nat → Nat) (W H : Nat) (e : Ending) (w' : World) : Prop :=
  ∃ g cap l T, e = .returned (.slice (some ⟨g, 0, none⟩) (ofN W H (l + 1)) cap) ∧ w.heap.size ≤ g ∧ l ≤ 9 ∧ lvN W H l = 1 ∧ (∀ l', l' < l → lvN W H l' ≠ 1) ∧ BxRow w' g (ofN W H (l + 1)) T ∧ BxsTo v W H (l + 1) 0 T ∧ Below w.heap.size w w'

theorem measure_succ {k : Nat} (h : k + 1 ≤ 9) : 10 - (intOf (Value.int .i64 ((k : Int) + 1))).toNat < 10 - (intOf (Value.int .i64 (k : Int))).toNat := by
  simp [intOf]; omega

set_option maxRecDepth 100000 in
set_option maxHeartbeats 4000000 in
theorem boundsOf_any (X Y : Int) (W H b off cap n : Nat) (v : Nat → Nat) (w : World) (h0 : checkR X Y W H = 0) (hn : n = W * H) (hr : FlAt w b off n v) (hh : allB n (fun i => hgtB (v i)) = true) (hcap : n ≤ cap) :
    Calls Try.prog 106 #[fldV X Y W H (.slice (some ⟨b, off, none⟩) n cap)] w (BdsPost w v W H) := by
  obtain ⟨b1, b2, b3, b4, b5, b6, b7, b8, b9⟩ := checkR_zero h0
  have W1 : 1 ≤ W := by omega
  have H1 : 1 ≤ H := by omega
  have hn1 : 1 ≤ n := by rw [hn]; exact Nat.mul_pos W1 H1
  have hn2 : n ≤ 65536 := by
    have : ((W : Int) * (H : Int)) = (n : Int) := by rw [hn]; simp
    omega
  have zb : b < w.heap.size := World.block_lt_of_cell? w _ (hr 0 hn1)
  have BX := Lib.hid (fun l x y W' (hB : Below w.heap.size w W') (hl : l ≤ 10) (hx : x * 2 ^ l < W) (hy : y * 2 ^ l < H) => boxOf_any X Y W H l x y b off cap n v W' h0 hn (flAt_congr hr (hB.block b zb)) hh hcap hl hx hy)
  have BA := Lib.hid (fun l w (hl : l ≤ 10) => boxesAlong_any W l w (by omega) hl)
  have BB := Lib.hid (fun l w (hl : l ≤ 10) => boxesAlong_any H l w (by omega) hl)
  have HWH := Lib.hid (show W * H ≤ 65536 from by rw [← hn]; exact hn2)
  have hinfo : (Try.prog.info? 71).map (fun i => (i.zero, i.size, i.bytes)) = some (some (.agg #[.int .i64 0, .int .i64 0, .int .i64 0, .float .f32 0, .float .f32 0]), 5, 32) := by kernel_rfl
  obtain ⟨ti, hi, hz0, hz1, hz2⟩ := info_parts hinfo
  have HI := Lib.hid hi
  obtain ⟨n2, hn2'⟩ : ∃ n2, 2 * n = n2 := ⟨_, rfl⟩
  have u1 : IntKind.i64.wrap (2 * (n : Int)) = (n2 : Int) := by rw [← hn2', IntWalk.i64_in _ (by omega)]; simp
  have MK := fun (w : World) => run_make (P := Try.prog) w 68 71 ti _ Try.underlying68 hi hz0 .i64 .i64 0 n2 (by omega) (by omega) (by rw [hz2]; omega) (by omega)
  rw [hz1] at MK
  simp only [Int.toNat_natCast, Int.toNat_zero] at MK
  clear h0 hn hr hh hinfo hi b5 b6 b7 b8 b9
  go_enter Try.func106, Try.ntmps106
  go_wp2_with fail
  have ST := Lib.hid (show BsAt w X Y W H (.slice (some ⟨b, off, none⟩) n cap) (w.heap.size + 1) (fun _ => ⟨0, 0, 0, 0, 0⟩) 0 (.slice (some ⟨w.heap.size + 1, 0, none⟩) 0 n2) ((w.alloc (fldO X Y W H (.slice (some ⟨b, off, none⟩) n cap))).alloc (.cells (madeCells #[.int .i64 0, .int .i64 0, .int .i64 0, .float .f32 0, .float .f32 0] (n2 * 5)) 71)) from by
    refine ⟨⟨by simp [bxsL], .inr ⟨_, n2, madeCells #[.int .i64 0, .int .i64 0, .int .i64 0, .float .f32 0, .float .f32 0] (n2 * 5), rfl, Nat.le_refl _, ?_, by omega, by unfold maxLen; omega, by simp [madeCells], by simp [bxsL]⟩⟩, ?_, ?_, by simp⟩
    · (first | (rw [heap_alloc_get, if_pos rfl]; done) | ((simp only [heap_alloc_get, heap_size_alloc, if_true]) <;> ((repeat' split) <;> first | rfl | omega)))
    · (first | (rw [heap_alloc_get, if_pos rfl]; done) | ((simp only [heap_alloc_get, heap_size_alloc, if_true]) <;> ((repeat' split) <;> first | rfl | omega)))
    · exact (by repeat (first | exact Below.refl _ _ | refine Below.alloc ?_ (by first | omega | (simp; done) | (simp; omega)) _ | refine Below.setCell ?_ (by first | omega | (simp; done) | (simp; omega)) _ | refine Below.drew ?_)))
  have NI := Lib.hid hn2
  have N1 := Lib.hid hn1
  have HW1 := Lib.hid (And.intro W1 H1)
  have HW2 := Lib.hid (show W ≤ 512 ∧ H ≤ 512 from ⟨by omega, by omega⟩)
  clear MK u1 hn2' zb hn1 hcap W1 H1 b1 b3
  generalize (w.alloc (Obj.cells #[.int .i64 X, .int .i64 Y, .int .i64 W, .int .i64 H, .slice (some ⟨b, off, none⟩) n cap] 41)).alloc (.cells (madeCells #[.int .i64 0, .int .i64 0, .int .i64 0, .float .f32 0, .float .f32 0] (n2 * 5)) 71) = w3 at *
  go_loopw [3, 4] (fun s3 s4 wr => ∃ (k : Nat) (ov : Value) (T : Nat → BxR), k ≤ 9 ∧ s4 = .int .i64 k ∧ ov = s3 ∧ BsAt w X Y W H (.slice (some ⟨b, off, none⟩) n cap) (w.heap.size + 1) T (ofN W H k) ov wr ∧ BxsTo v W H k 0 T ∧ ∀ l', l' < k → lvN W H l' ≠ 1) (fun _ s4 _ => 10 - (intOf s4).toNat)
  case atStart => exact ⟨0, _, _, by omega, rfl, rfl, ST.out, fun l' i' c => by omega, fun l' c => by omega⟩
  case round =>
    clear ST
    obtain ⟨k, ov, T, hk9, rfl, rfl, hm, hto, hnot⟩ := hrel
    have HM := Lib.hid hm
    have HTO := Lib.hid hto
    have HNOT := Lib.hid hnot
    obtain ⟨cF, fF, zF⟩ := blkC hm.reg
    have hregs := Lib.hid hm.reg
    have BAK := Lib.hid (fun w => BA.out k w (by omega))
    have BBK := Lib.hid (fun w => BB.out k w (by omega))
    have HK9 := Lib.hid hk9
    clear hm hto hnot
    go_upto_region 4 with fail
    go_region_held3 (fun w' => (∀ o, w'.cell? ⟨w.heap.size, o, none⟩ = #[.int .i64 X, .int .i64 Y, .int .i64 W, .int .i64 H, .slice (some ⟨b, off, none⟩) n cap][o]?) ∧ Below wr.heap.size wr w') (first | exact ⟨(blkC (blkStay hregs.out hb9)).1, hb9⟩ | exact ⟨(blkC (blkStay hregs.out (Below.refl _ _))).1, Below.refl _ _⟩ | exact ⟨(blkC (blkStay hregs.out (by repeat (first | exact Below.refl _ _ | refine Below.alloc ?_ (by first | omega | (simp; done) | (simp; omega)) _ | refine Below.setCell ?_ (by first | omega | (simp; done) | (simp; omega)) _ | refine Below.drew ?_)))).1, (by repeat (first | exact Below.refl _ _ | refine Below.alloc ?_ (by first | omega | (simp; done) | (simp; omega)) _ | refine Below.setCell ?_ (by first | omega | (simp; done) | (simp; omega)) _ | refine Below.drew ?_))⟩) (first
      | (go_at_call 149; (with_reducible refine Calls.mono (BAK.out _) ?_); rintro e w' ⟨rfl, rfl⟩)
      | (go_at_call 149; (with_reducible refine Calls.mono (BBK.out _) ?_); rintro e w' ⟨rfl, rfl⟩))
    have HM4 := Lib.hid (HM.out.stay (show Below wr.heap.size wr wr.drew from (by repeat (first | exact Below.refl _ _ | refine Below.alloc ?_ (by first | omega | (simp; done) | (simp; omega)) _ | refine Below.setCell ?_ (by first | omega | (simp; done) | (simp; omega)) _ | refine Below.drew ?_))))
    have hB4 := HM4.out.bel
    have bw1 : 1 ≤ bxN W k := bxN_pos HW1.out.1
    have bw2 : bxN W k ≤ 512 := Nat.le_trans (bxN_le HW1.out.1) HW2.out.1
    have bh2 : bxN H k ≤ 512 := Nat.le_trans (bxN_le HW1.out.2) HW2.out.2
    have hm1 := (lvN_le (l := k) HW1.out.1 HW1.out.2)
    have hWH := HWH.out
    have hof := ofN_le HW1.out.1 HW1.out.2 k
    have hof2 : ofN W H k ≤ 589824 := Nat.le_trans hof (Nat.le_trans (Nat.mul_le_mul hk9 hWH) (by decide))
    have hLV := Lib.hid (show lvN W H k = bxN W k * bxN H k from rfl)
    have HIN := Lib.hid (fun i (hi : i < bxN W k * bxN H k) => show i % bxN W k < bxN W k ∧ i / bxN W k < bxN H k from ⟨Nat.mod_lt _ (by omega), Nat.div_lt_of_lt_mul hi⟩)
    have BXK := Lib.hid (fun x y W' (hB : Below w.heap.size w W') (hx : x < bxN W k) (hy : y < bxN H k) => BX.out k x y W' hB (by omega) (bxN_in hx) (bxN_in hy))
    have HIS := Lib.hid (fun i lo hi (h1 : LoIn v (SeenI W (i / bxN W k * 2 ^ k * W + i % bxN W k * 2 ^ k) (bxC W k (i % bxN W k)) (bxC H k (i / bxN W k)) 0) lo) (h2 : HiIn v (SeenI W (i / bxN W k * 2 ^ k * W + i % bxN W k * 2 ^ k) (bxC W k (i % bxN W k)) (bxC H k (i / bxN W k)) 0) hi) => show BoxIs v W H k i ⟨k, i % bxN W k, i / bxN W k, lo, hi⟩ from ⟨rfl, rfl, rfl, h1, h2⟩)
    rw [show lvN W H k = bxN W k * bxN H k from rfl] at hm1
    generalize bxN W k = bw at *
    generalize bxN H k = bh at *
    obtain ⟨m, hmm⟩ : ∃ m, bw * bh = m := ⟨_, rfl⟩
    rw [hmm] at hm1 hLV HIN
    have u5 : IntKind.i64.wrap ((bw : Int) * (bh : Int)) = (m : Int) := by
      rw [show (bw : Int) * (bh : Int) = (m : Int) from by rw [← hmm]; simp]
      exact IntWalk.i64_in _ (by omega)
    have hmI : (m : Int) ≤ 65536 := by omega
    have HM1 := Lib.hid hm1
    have HOF := Lib.hid hof2
    clear hm1 hWH hof hof2 hmm cF fF zF hregs HM hk9
    generalize wr.drew = w4 at *
    go_wp2_with fail
    go_loopw [3, 28] (fun s3 s28 wq => ∃ (i : Nat) (ov : Value) (T : Nat → BxR), i ≤ m ∧ s28 = .int .i64 i ∧ ov = s3 ∧ BsAt w X Y W H (.slice (some ⟨b, off, none⟩) n cap) (w.heap.size + 1) T (ofN W H k + i) ov wq ∧ BxsTo v W H k i T) (fun _ s28 _ => m - (intOf s28).toNat)
    case atStart => exact ⟨0, _, _, Nat.zero_le _, rfl, rfl, HM4.out, HTO.out⟩
    case round =>
      clear HM4 HTO hB4
      obtain ⟨i, ov, T, him, rfl, rfl, hm, hto⟩ := hrel
      have HM := Lib.hid hm
      have HTO := Lib.hid hto
      clear hto
      by_cases hlt : i < m
      · obtain ⟨hx, hy⟩ := HIN.out i hlt
        have BXI := Lib.hid (fun W' (hB : Below wr.heap.size wr W') => BXK.out (i % bw) (i / bw) W' (HM.out.bel.trans (hB.mono HM.out.bel.size)) hx hy)
        have HISI := Lib.hid (HIS.out i)
        have e1 : (i : Int).tmod (bw : Int) = ((i % bw : Nat) : Int) := by rw [Int.tmod_eq_emod_of_nonneg (by omega)]; simp
        have e2 : (i : Int).tdiv (bw : Int) = ((i / bw : Nat) : Int) := by rw [Int.tdiv_eq_ediv_of_nonneg (by omega)]; simp
        have e3 : (i : Int) % (bw : Int) = ((i % bw : Nat) : Int) := by simp
        have e4 : (i : Int) / (bw : Int) = ((i / bw : Nat) : Int) := by simp
        have bw0 : ¬ ((bw : Int) = 0) := by omega
        have bw0' : ¬ (bw = 0) := by omega
        have bwI : (1 : Int) ≤ (bw : Int) := by omega
        have i0 : (0 : Int) ≤ (i : Int) := by omega
        have hkI : (k : Int) ≤ 9 := by have := HK9.out; omega
        have hiI : (i : Int) < (m : Int) := by omega
        have HLTI := Lib.hid hlt
        obtain ⟨cF, fF, zF⟩ := blkC hm.reg
        have hreg := Lib.hid hm.reg
        obtain ⟨xa, hxa⟩ : ∃ q, i % bw = q := ⟨_, rfl⟩
        obtain ⟨ya, hya⟩ : ∃ q, i / bw = q := ⟨_, rfl⟩
        rw [hxa] at e1 e3 BXI HISI hx
        rw [hya] at e2 e4 BXI HISI hy
        have hxI : (xa : Int) ≤ 512 := by omega
        have hyI : (ya : Int) ≤ 512 := by omega
        have w1 : IntKind.i64.wrap (ya : Int) = (ya : Int) := IntWalk.i64_in _ (by omega)
        clear hx hy hm
        go_upto_region 8 with fail
        have hi := HI.out
        go_region_law (first
            | (go_simp; (with_reducible refine Calls.mono (BXI.out _ ?hb) ?_); (case hb => exact (by repeat (first | exact Below.refl _ _ | refine Below.alloc ?_ (by first | omega | (simp; done) | (simp; omega)) _ | refine Below.setCell ?_ (by first | omega | (simp; done) | (simp; omega)) _ | refine Below.drew ?_))); rintro e w5 ⟨lo, hi5, he5, hlo, hhi, hb5⟩; unfold boxV at he5; subst he5; have HL5 := Lib.hid (HISI.out lo hi5 hlo hhi); have HB5 := Lib.hid (show Below wr.heap.size wr w5 from Below.trans (show Below wr.heap.size wr _ from (by repeat (first | exact Below.refl _ _ | refine Below.alloc ?_ (by first | omega | (simp; done) | (simp; omega)) _ | refine Below.setCell ?_ (by first | omega | (simp; done) | (simp; omega)) _ | refine Below.drew ?_))) (hb5.mono (by first | exact Nat.le_refl _ | (simp; done)))); have HM5 := Lib.hid (HM.out.stay HB5.out); have HS5 := HM5.out.size; clear hlo hhi hb5 cF fF zF)
            | (refine step_append_lies _ rfl _ _ _ rfl (w.heap.size + 1) 71 ti _ 5 32 Try.underlying68 hi hz0 hz1 hz2 rfl (by omega) ov (ofN W H k + i) (bxsL T (ofN W H k + i)) (by rfl) (HM5.out.own.alloc _) ⟨w5.heap.size, 0, none⟩ 1 1 [.int .i64 k, .int .i64 xa, .int .i64 ya, .float .f32 lo, .float .f32 hi5] (by rfl) (by rfl) (World.news_of_block (cs := #[.int .i64 k, .int .i64 xa, .int .i64 ya, .float .f32 lo, .float .f32 hi5]) (t := 71) (fr := (0, 0)) (by (first | (rw [heap_alloc_get, if_pos rfl]; done) | ((simp only [heap_alloc_get, heap_size_alloc, if_true]) <;> ((repeat' split) <;> first | rfl | omega))))) (by simp [Value.oneCell']) (by omega) (by have := HOF.out; have := HLTI.out; unfold maxLen; omega) (by have := HOF.out; have := HLTI.out; omega) (by simp; omega) (w5.heap.size + 1) (by simp) ?_; intro g' cap' w8 hown8 hgrow hat hlt8))
        have PU := Lib.hid (BsAt.push (f := ⟨k, xa, ya, lo, hi5⟩) HM5.out (by omega) hgrow hown8)
        have TU := Lib.hid (HTO.out.push HL5.out)
        clear hgrow hown8 hat hlt8 hi
        go_wp2_with fail
        go_roundw
        case rel => exact ⟨i + 1, _, _, HLTI.out, by go_num, rfl, PU.out, TU.out⟩
        case measure => have := HLTI.out; simp [intOf]; omega
      · have hie : i = m := by omega
        subst hie
        have hpos : 0 < ofN W H k + i := by have := HM1.out; omega
        have hON : ofN W H (k + 1) = ofN W H k + i := by show ofN W H k + lvN W H k = _; rw [hLV.out]
        have hkI : (k : Int) ≤ 9 := by have := HK9.out; omega
        have HON := Lib.hid hON
        clear hON
        obtain ⟨g, cap', rfl, _⟩ := hm.own.form hpos
        have HROW := Lib.hid (hm.row hpos)
        have TN := Lib.hid (BxsTo.next (show BxsTo v W H k (lvN W H k) T from by rw [hLV.out]; exact HTO.out))
        clear hm
        by_cases hone : i = 1
        · have HONE := Lib.hid hone
          have hone' : (i : Int) = 1 := by omega
          go_wp2_with fail
          have B9 := HM.out.bel
          go_ret
          refine ⟨g, cap', k, T, ?_, by have := HROW.out.2; omega, HK9.out, by rw [hLV.out]; exact HONE.out, HNOT.out, by rw [HON.out]; exact HROW.out.1, TN.out, B9⟩
          rw [HON.out]
          rfl
        · have hone' : ¬ ((i : Int) = 1) := by omega
          have HONE := Lib.hid hone
          have hk8 : k + 1 ≤ 9 := by
            rcases Nat.lt_or_ge k 9 with c | c
            · omega
            · exact absurd (by rw [← hLV.out]; exact lvN_one HW1.out.1 HW1.out.2 HW2.out.1 HW2.out.2 c) hone
          have HK8 := Lib.hid hk8
          have HKS := Lib.hid (show Value.int .i64 ((k : Int) + 1) = .int .i64 ((k + 1 : Nat) : Int) from by simp)
          have HME := Lib.hid (show 10 - (intOf (Value.int .i64 ((k : Int) + 1))).toNat < 10 - (intOf (Value.int .i64 (k : Int))).toNat from measure_succ hk8)
          clear hk8
          go_wp2_with fail
          go_roundw
          case rel => exact ⟨k + 1, _, T, HK8.out, HKS.out, rfl, by rw [HON.out]; exact HM.out, TN.out, fun l' hl => by
            by_cases e : l' = k
            · subst e; rw [hLV.out]; exact HONE.out
            · exact HNOT.out l' (by omega)⟩
          case measure => exact HME.out
end Go.Proofs.Ytkcehbnmcdppkaa

/- Boxes by value: how two of them are compared; slices.Equal of boxes. -/
namespace Go.Proofs.Ytkcehbnmcdppkaa
open Go.RowKit Fl
set_option linter.unusedVariables false

/-- Two boxes are the same by value. -/
def bxEq (c d : BxR) : Bool := decide (c.l = d.l) && (decide (c.x = d.x) && (decide (c.y = d.y) && ((FloatKind.f32.format.order c.lo d.lo == some .eq) && (FloatKind.f32.format.order c.hi d.hi == some .eq))))

set_option maxHeartbeats 1000000 in
theorem eqIn_bx (c d : BxR) (w : World) : (Op.equalIn 10000 71 (.agg c.cells) (.agg d.cells)).run Try.prog w = .ok (bxEq c d) w := by
  have hS : Try.prog.underlying 71 = some (.struct (Try.prog.fieldsOf 71)) := by kernel_rfl
  have hp : Try.prog.stoodInHeld 71 = false := by kernel_rfl
  rw [show (10000 : Nat) = 9999 + 1 from rfl, run_equalIn_agg w 9999 71 _ _ hS hp]
  simp only [Program.fieldsOf, Try.underlying71]
  obtain ⟨cl, cx, cy, clo, chi⟩ := c
  obtain ⟨dl, dx, dy, dlo, dhi⟩ := d
  unfold bxEq
  go_simp
  have f : ∀ (d u v : Nat) (W : World), (Op.equalIn (d + 1) 22 (.float .f32 u) (.float .f32 v)).run Try.prog W = .ok (FloatKind.f32.format.order u v == some .eq) W := fun d u v W => by
    simp [Op.equalIn, run_underlying Try.underlying22, Op.floatEq]
  have g : ∀ (u v : Nat) (W : World), (Op.equalIn 9999 22 (.float .f32 u) (.float .f32 v)).run Try.prog W = .ok (FloatKind.f32.format.order u v == some .eq) W := fun u v W => f 9998 u v W
  clear f
  by_cases h1 : cl = dl
  · by_cases h2 : cx = dx
    · by_cases h3 : cy = dy
      · simp only [h1, h2, h3, decide_true, Bool.true_and]
        go_simp
        cases h4 : (FloatKind.f32.format.order clo dlo == some .eq) <;> cases h5 : (FloatKind.f32.format.order chi dhi == some .eq) <;> simp at h4 h5 <;> simp [h4, h5]
      · have g3 : ¬ ((cy : Int) = dy) := by omega
        simp [h1, h2, h3, g3]
    · have g2 : ¬ ((cx : Int) = dx) := by omega
      simp [h1, h2, g2]
  · have g1 : ¬ ((cl : Int) = dl) := by omega
    simp [h1, g1]

set_option maxHeartbeats 1000000 in
theorem neq_bx (c d : BxR) (w : World) : (binOp .neq 71 (.agg c.cells) (.agg d.cells)).run Try.prog w = .ok (.bool (!bxEq c d)) w := by
  rw [run_neq_struct, eqIn_bx]; rfl
set_option maxHeartbeats 1000000 in
theorem eql_bx (c d : BxR) (w : World) : (binOp .eql 71 (.agg c.cells) (.agg d.cells)).run Try.prog w = .ok (.bool (bxEq c d)) w := by
  rw [run_eql_struct, eqIn_bx]; rfl

theorem bx_at {w : World} {b n : Nat} {T : Nat → BxR} (h : BxRow w b n T) {i : Nat} (hi : i < n) :
    w.cell? ⟨b, i * 5, none⟩ = some (.int .i64 (T i).l) ∧ w.cell? ⟨b, i * 5 + 1, none⟩ = some (.int .i64 (T i).x) ∧ w.cell? ⟨b, i * 5 + 2, none⟩ = some (.int .i64 (T i).y) ∧ w.cell? ⟨b, i * 5 + 3, none⟩ = some (.float .f32 (T i).lo) ∧ w.cell? ⟨b, i * 5 + 4, none⟩ = some (.float .f32 (T i).hi) ∧ b < w.heap.size :=
  ⟨h.1 i hi 0 (by omega), h.1 i hi 1 (by omega), h.1 i hi 2 (by omega), h.1 i hi 3 (by omega), h.1 i hi 4 (by omega), h.2⟩

set_option maxHeartbeats 4000000 in
/-- Two lists of boxes of which one pair is not the same. -/
theorem equalBx_no (b1 b2 n k1 k2 q : Nat) (C D : Nat → BxR) (w : World) (hn : n ≤ 1000000) (h1 : BxRow w b1 n C) (h2 : BxRow w b2 n D) (hq : q < n) (hne : bxEq (C q) (D q) = false) :
    Calls Try.prog 105 #[.slice (some ⟨b1, 0, none⟩) n k1, .slice (some ⟨b2, 0, none⟩) n k2] w fun e w' => e = .returned (.bool false) ∧ Below w.heap.size w w' := by
  have R1 := Lib.hid h1
  have R2 := Lib.hid h2
  have NE := Lib.hid (And.intro hq hne)
  have ni : (n : Int) ≤ 1000000 := by omega
  clear h1 h2 hne hq
  go_enter Try.func105, Try.ntmps105
  go_wp2
  go_loopw [13] (fun s13 wr => ∃ k : Nat, k ≤ q ∧ s13 = .int .i64 k ∧ Below w.heap.size w wr) (fun s13 _ => n - (intOf s13).toNat)
  case atStart => exact ⟨0, Nat.zero_le _, rfl, Below.refl _ _⟩
  case round =>
    obtain ⟨k, hk, rfl, hb⟩ := hrel
    have HB := Lib.hid hb
    have hlt : k < n := by have := NE.out.1; omega
    clear hb
    have HK := Lib.hid (And.intro hlt hk)
    obtain ⟨c0, c1, c2, c3, c4, z1⟩ := bx_at (R1.out.stay HB.out) hlt
    obtain ⟨d0, d1, d2, d3, d4, z2⟩ := bx_at (R2.out.stay HB.out) hlt
    have k1 : (k : Int) < (n : Int) := by omega
    have hE := fun W => neq_bx (C k) (D k) W
    have HS := Lib.hid (show bxEq (C k) (D k) = true → k + 1 ≤ q from fun h => by
      rcases Nat.lt_or_ge k q with c | c
      · exact c
      · obtain rfl : k = q := by omega
        rw [NE.out.2] at h
        cases h)
    generalize bxEq (C k) (D k) = eqb at *
    generalize C k = c at *
    generalize D k = d at *
    obtain ⟨cl, cx, cy, clo, chi⟩ := c
    obtain ⟨dl, dx, dy, dlo, dhi⟩ := d
    simp only at c0 c1 c2 c3 c4 d0 d1 d2 d3 d4
    cases eqb
    · go_wp2
      go_quiet (fail)
      go_wp2
      go_ret
      exact ⟨rfl, HB.out.trans ((below_drewN _ _).mono HB.out.size)⟩
    · go_wp2
      go_quiet (fail)
      go_wp2
      go_roundw
      case rel => exact ⟨k + 1, HS.out (by simp), by go_num, HB.out.trans ((below_drewN _ _).mono HB.out.size)⟩
      case measure => have := HK.out.1; simp [intOf]; omega

set_option maxHeartbeats 1000000 in
/-- Two lists of boxes of different lengths. -/
theorem equalBx_len (a1 a2 : Option Addr) (n m k1 k2 : Nat) (w : World) (h : n ≠ m) :
    Calls Try.prog 105 #[.slice a1 n k1, .slice a2 m k2] w fun e w' => e = .returned (.bool false) ∧ Below w.heap.size w w' := by
  have h2 : ((n : Int) != (m : Int)) = true := by simp; omega
  clear h
  go_enter Try.func105, Try.ntmps105
  go_wp2
  go_ret
  exact ⟨rfl, Below.refl _ _⟩
end Go.Proofs.Ytkcehbnmcdppkaa

/- Cameras: what their words come to (pure). -/
namespace Go.Proofs.Ytkcehbnmcdppkaa
open Go.RowKit Fl
set_option linter.unusedVariables false

/-- A camera. -/
structure Cam where
  x : Nat
  y : Nat
  h : Nat
  dx : Nat
  dy : Nat
  dh : Nat
  z : Nat
abbrev Cam.vs (c : Cam) : Array Value := #[.float .f32 c.x, .float .f32 c.y, .float .f32 c.h, .float .f32 c.dx, .float .f32 c.dy, .float .f32 c.dh, .float .f32 c.z]
def Cam.at (c : Cam) (i : Nat) : Nat := if i = 0 then c.x else if i = 1 then c.y else if i = 2 then c.h else if i = 3 then c.dx else if i = 4 then c.dy else if i = 5 then c.dh else c.z

/-- The quotient by what is not too small. -/
theorem div_low {x y k j J : Nat} {b : Int} (hJ : J + j = 1074) (hx : Bd k x) (hy : vS y = some b) (hb : ((2 ^ J : Nat) : Int) ≤ b) (hk : k + j ≤ 120) : Same2 .quo (k + j) x y := by
  obtain ⟨s, m, p, r1, b1⟩ := hx
  obtain ⟨t, n, q, r2, rfl⟩ := vS_some hy
  rw [vOf_mag] at hb
  have p2 : 0 < 2 ^ J := Nat.two_pow_pos _
  have hn : 2 ^ J ≤ n * 2 ^ (q + 1074).toNat := by
    generalize n * 2 ^ (q + 1074).toNat = N at *
    generalize 2 ^ J = P at *
    cases t with
    | true => simp only [if_true] at hb; omega
    | false => simp only [Bool.false_eq_true, if_false] at hb; omega
  have hn0 : 0 < n := by
    rcases Nat.eq_zero_or_pos n with z | z
    · subst z; rw [Nat.zero_mul] at hn; omega
    · exact z
  refine div_same hk r1 r2 hn0 (Nat.le_trans b1 ?_)
  calc 2 ^ (1074 + k) = 2 ^ J * 2 ^ (k + j) := by rw [← Nat.pow_add]; exact congrArg (2 ^ ·) (by omega)
    _ ≤ n * 2 ^ (q + 1074).toNat * 2 ^ (k + j) := Nat.mul_le_mul_right _ hn

theorem sqr_pos {x p k : Nat} {B : Nat} (hx : Bd k x) (hk : k + k + 2 ≤ 126) (h : floatBits .mul .f32 x x = some p) (hB : B = 1200) : ∃ a, vS p = some a ∧ 0 ≤ a := by
  obtain ⟨a, ha, hb⟩ := val_bd hx
  obtain ⟨c, hc⟩ := mul_unit ha ha
  have c0 : 0 ≤ c := by
    have p1 : 0 ≤ a * a := by rcases Int.le_total 0 a with l | l; exact Int.mul_nonneg l l; exact Int.mul_nonneg_of_nonpos_of_nonpos l l
    rw [hc] at p1
    have := one_pos
    rcases Int.lt_or_le c 0 with l | l
    · have := Int.mul_neg_of_neg_of_pos l (show (0 : Int) < (one : Int) by omega)
      omega
    · exact l
  refine ⟨rdS c, vS_mul (B := B) h ha ha hc ?_ (by omega), rdS_nonneg c0⟩
  obtain ⟨J, hJ⟩ : ∃ J : Nat, J = 1074 := ⟨_, rfl⟩
  rw [← hJ] at hb
  have e1 : c.natAbs * one = a.natAbs * a.natAbs := by
    have := congrArg Int.natAbs hc
    rw [Int.natAbs_mul, Int.natAbs_mul] at this
    simpa using this.symm
  have e2 : a.natAbs * a.natAbs ≤ 2 ^ (J + k) * 2 ^ (J + k) := Nat.mul_le_mul hb hb
  rw [← e1, one_pow hJ, show 2 ^ (J + k) * 2 ^ (J + k) = 2 ^ (J + k + k) * 2 ^ J by rw [← Nat.pow_add, ← Nat.pow_add]; exact congrArg (2 ^ ·) (by omega)] at e2
  exact Nat.lt_of_le_of_lt (Nat.le_of_mul_le_mul_right e2 (Nat.two_pow_pos J)) (Nat.pow_lt_pow_right (by omega) (by omega))

/-- The length of a direction. -/
structure LenAt (dx dy p q s : Nat) (a : Int) (X Z : Nat) (k : Int) : Prop where
  p1 : floatBits .mul .f32 dx dx = some p
  q1 : floatBits .mul .f32 dy dy = some q
  s1 : floatBits .add .f32 p q = some s
  rt : RootAt s a X Z k
theorem len_parts {dx dy : Nat} (hx : Bd 20 dx) (hy : Bd 20 dy) : ∃ p q s a X Z k, LenAt dx dy p q s a X Z k := by
  obtain ⟨p, p1, bp⟩ := same_ex (mul_same (a := 20) (b := 20) (by omega) hx hx)
  obtain ⟨q, q1, bq⟩ := same_ex (mul_same (a := 20) (b := 20) (by omega) hy hy)
  obtain ⟨s, s1, bs⟩ := same_ex (add_same (k := 40) (by omega) bp bq)
  obtain ⟨B, hB⟩ : ∃ B : Nat, B = 1200 := ⟨_, rfl⟩
  obtain ⟨ap, vp, p0⟩ := sqr_pos (B := B) hx (by omega) p1 hB
  obtain ⟨aq, vq, q0⟩ := sqr_pos (B := B) hy (by omega) q1 hB
  obtain ⟨J, hJ⟩ : ∃ J : Nat, J = 1074 := ⟨_, rfl⟩
  have up : ∀ {x : Nat} {a : Int}, Bd 40 x → vS x = some a → a.natAbs ≤ 2 ^ (J + 40) := by
    intro x a hb hv
    obtain ⟨a', h', l'⟩ := val_bd hb
    rw [hv] at h'
    rw [Option.some.inj h', hJ]; exact l'
  have l1 := up bp vp
  have l2 := up bq vq
  have vs : vS s = some (rdS (ap + aq)) := vS_add (B := B) s1 vp vq (by
    have : 2 ^ (J + 40) + 2 ^ (J + 40) < 2 ^ B := by
      rw [← Nat.two_mul, Nat.mul_comm, ← Nat.pow_succ]; exact Nat.pow_lt_pow_right (by omega) (by omega)
    generalize 2 ^ (J + 40) = T at *
    generalize 2 ^ B = U at *
    omega) (by omega)
  obtain ⟨X, Z, k, RT⟩ := root_parts vs (rdS_nonneg (by omega)) bs (by omega)
  exact ⟨p, q, s, _, X, Z, k, p1, q1, s1, RT⟩

/-- The directions of a camera. -/
structure VwAt (c : Cam) (s fx fy e : Nat) : Prop where
  f1 : floatBits .quo .f32 c.dx (rootW s) = some fx
  f2 : floatBits .quo .f32 c.dy (rootW s) = some fy
  f3 : floatBits .quo .f32 c.dh (rootW s) = some e
  b1 : Bd 30 fx
  b2 : Bd 30 fy
  b3 : Bd 30 e
  l2 : fy < 4294967296
theorem vS_ten {J : Nat} (hJ : J = 1064) : vS 981467136 = some ((2 ^ J : Nat) : Int) := by
  have := vS_lit (x := 981467136) (m := 8388608) (t := 1) (k := 23) (j := J) (s := false) (p := -33) (by decide) (by decide) (by omega)
  simpa using this
theorem quo_lt {x y r : Nat} (h : floatBits .quo .f32 x y = some r) : r < 4294967296 := opt_lt (d := (Ieee.single.read x).quotient (Ieee.single.fractionBits + 2) (Ieee.single.read y)) h
theorem vw_parts {c : Cam} {p q s X Z : Nat} {a k : Int} (L : LenAt c.dx c.dy p q s a X Z k) (h1 : Bd 20 c.dx) (h2 : Bd 20 c.dy) (h3 : Bd 20 c.dh) (hm : (FloatKind.f32.format.order (rootW s) 981467136 == some .lt) = false) :
    ∃ fx fy e, VwAt c s fx fy e := by
  obtain ⟨J, hJ⟩ : ∃ J : Nat, J = 1064 := ⟨_, rfl⟩
  rw [f32f, lss_val L.rt.val (vS_ten hJ)] at hm
  have hk : ((2 ^ J : Nat) : Int) ≤ k := by have := of_decide_eq_false hm; omega
  obtain ⟨fx, f1, b1⟩ := same_ex (div_low (j := 10) (by omega) h1 L.rt.val hk (by omega))
  obtain ⟨fy, f2, b2⟩ := same_ex (div_low (j := 10) (by omega) h2 L.rt.val hk (by omega))
  obtain ⟨e, f3, b3⟩ := same_ex (div_low (j := 10) (by omega) h3 L.rt.val hk (by omega))
  exact ⟨fx, fy, e, f1, f2, f3, b1, b2, b3, quo_lt f2⟩

/-- Where a point is seen: ahead, to the right, up. -/
structure PrAt (c : Cam) (x y h fx fy e px py pz t1 t2 a t3 t4 b t5 u : Nat) : Prop where
  epx : floatBits .sub .f32 x c.x = some px
  epy : floatBits .sub .f32 y c.y = some py
  epz : floatBits .sub .f32 h c.h = some pz
  et1 : floatBits .mul .f32 px fx = some t1
  et2 : floatBits .mul .f32 py fy = some t2
  ea : floatBits .add .f32 t1 t2 = some a
  et3 : floatBits .mul .f32 px (negW fy) = some t3
  et4 : floatBits .mul .f32 py fx = some t4
  eb : floatBits .add .f32 t3 t4 = some b
  et5 : floatBits .mul .f32 e a = some t5
  eu : floatBits .sub .f32 pz t5 = some u
  ba : Bd 52 a
  bb : Bd 52 b
  bu : Bd 83 u
theorem pr_parts {c : Cam} {x y h s fx fy e : Nat} (V : VwAt c s fx fy e) (h1 : Bd 20 c.x) (h2 : Bd 20 c.y) (h3 : Bd 20 c.h) (g1 : Bd 20 x) (g2 : Bd 20 y) (g3 : Bd 20 h) :
    ∃ px py pz t1 t2 a t3 t4 b t5 u, PrAt c x y h fx fy e px py pz t1 t2 a t3 t4 b t5 u := by
  obtain ⟨px, e1, B1⟩ := same_ex (sub_same (k := 20) (by omega) g1 h1)
  obtain ⟨py, e2, B2⟩ := same_ex (sub_same (k := 20) (by omega) g2 h2)
  obtain ⟨pz, e3, B3⟩ := same_ex (sub_same (k := 20) (by omega) g3 h3)
  obtain ⟨t1, e4, B4⟩ := same_ex (mul_same (a := 21) (b := 30) (by omega) B1 V.b1)
  obtain ⟨t2, e5, B5⟩ := same_ex (mul_same (a := 21) (b := 30) (by omega) B2 V.b2)
  obtain ⟨a, e6, B6⟩ := same_ex (add_same (k := 51) (by omega) B4 B5)
  obtain ⟨t3, e7, B7⟩ := same_ex (mul_same (a := 21) (b := 30) (by omega) B1 (neg_bd V.l2 V.b2))
  obtain ⟨t4, e8, B8⟩ := same_ex (mul_same (a := 21) (b := 30) (by omega) B2 V.b1)
  obtain ⟨b, e9, B9⟩ := same_ex (add_same (k := 51) (by omega) B7 B8)
  obtain ⟨t5, e10, B10⟩ := same_ex (mul_same (a := 30) (b := 52) (by omega) V.b3 B6)
  obtain ⟨u, e11, B11⟩ := same_ex (sub_same (k := 82) (by omega) (bd_up B3 (by omega)) B10)
  exact ⟨px, py, pz, t1, t2, a, t3, t4, b, t5, u, e1, e2, e3, e4, e5, e6, e7, e8, e9, e10, e11, B6, B9, B11⟩

/-- The spot. -/
structure SpAt (a b u z q1 q2 sx sy : Nat) : Prop where
  eq1 : floatBits .quo .f32 b a = some q1
  eq2 : floatBits .quo .f32 u a = some q2
  esx : floatBits .mul .f32 q1 z = some sx
  esy : floatBits .mul .f32 q2 z = some sy
  fx : (FloatKind.f32.format.order sx sx == some .eq) = true
  fy : (FloatKind.f32.format.order sy sy == some .eq) = true
theorem self_bd {k x : Nat} (h : Bd k x) : (FloatKind.f32.format.order x x == some .eq) = true := by
  obtain ⟨a, ha, _⟩ := val_bd h
  rw [f32f, eql_val ha ha]; simp
theorem sp_parts {a b u z : Nat} (ha : Bd 52 a) (hb : Bd 52 b) (hu : Bd 83 u) (hz : Bd 20 z) (h : (FloatKind.f32.format.order a 1065353216 == some .lt) = false) : ∃ q1 q2 sx sy, SpAt a b u z q1 q2 sx sy := by
  obtain ⟨v, hv, _⟩ := val_bd ha
  rw [f32f, lss_val hv vS_one] at h
  have h1 : (one : Int) ≤ v := by have := of_decide_eq_false h; omega
  obtain ⟨J, hJ⟩ : ∃ J : Nat, J = 1074 := ⟨_, rfl⟩
  rw [one_pow hJ] at h1
  obtain ⟨q1, e1, B1⟩ := same_ex (div_low (j := 0) (by omega) hb hv h1 (by omega))
  obtain ⟨q2, e2, B2⟩ := same_ex (div_low (j := 0) (by omega) hu hv h1 (by omega))
  obtain ⟨sx, e3, B3⟩ := same_ex (mul_same (a := 52 + 0) (b := 20) (by omega) B1 hz)
  obtain ⟨sy, e4, B4⟩ := same_ex (mul_same (a := 83 + 0) (b := 20) (by omega) B2 hz)
  exact ⟨q1, q2, sx, sy, e1, e2, e3, e4, self_bd B3, self_bd B4⟩
end Go.Proofs.Ytkcehbnmcdppkaa

/- How deep water cuts, as words: the products, the half: they are numbers. -/
namespace Go.Proofs.Ytkcehbnmcdppkaa.Fl
open Ieee

/-- A whole number from 0 to 2 ^ 40 as a single. -/
theorem amt_val {n : Int} (h0 : 0 ≤ n) (h1 : n ≤ 1099511627776) : ∃ a, vS (Go.floatOfInt .f32 n) = some a ∧ 0 ≤ a ∧ a ≤ 1099511627776 * (one : Int) := by
  obtain ⟨j, hj⟩ : ∃ j : Nat, j = 1074 := ⟨_, rfl⟩
  have e40 : (2 : Nat) ^ 41 = 2199023255552 := by decide
  have e : 2 ^ (41 + j) = 2199023255552 * one := by rw [one_pow hj, Nat.pow_add, e40]
  have hn : (n * (one : Int)).natAbs < 2 ^ (41 + j) := by
    rw [Int.natAbs_mul, Int.natAbs_natCast, e]
    exact Nat.mul_lt_mul_of_pos_right (by omega) one_pos
  have v := vS_int hn (by omega)
  refine ⟨_, v, rdS_nonneg (Int.mul_nonneg h0 (Int.natCast_nonneg _)), ?_⟩
  have m := rdS_mono (Int.mul_le_mul_of_nonneg_right h1 (Int.natCast_nonneg one))
  have f40 : (2 : Nat) ^ 40 = 1099511627776 := by decide
  rwa [rdS_exact (c := 1099511627776 * (one : Int)) 1 (40 + j) (by decide) (by omega) (by rw [one_pow hj, Nat.pow_add, f40, Int.natCast_mul, Int.one_mul]; rfl)] at m

theorem amt_root {n : Int} (h0 : 0 ≤ n) (h1 : n ≤ 1099511627776) : ∃ a X Z c, RootAt (Go.floatOfInt .f32 n) a X Z c ∧ c ≤ 1048576 * (one : Int) := by
  obtain ⟨a, v, a0, a1⟩ := amt_val h0 h1
  obtain ⟨j, hj⟩ : ∃ j : Nat, j = 1074 := ⟨_, rfl⟩
  have f40 : (2 : Nat) ^ 40 = 1099511627776 := by decide
  have b : Bd 40 (Go.floatOfInt .f32 n) := bd_val' (j := 40 + j) v (by omega) (by rw [Nat.pow_add, f40, ← one_pow hj]; omega)
  obtain ⟨X, Z, c, R⟩ := root_parts v a0 b (by omega)
  exact ⟨a, X, Z, c, R, by simpa using R.hi 1048576 (by omega) (by simpa using a1)⟩
theorem root_bd {x X Z : Nat} {a c : Int} (R : RootAt x a X Z c) (h : c ≤ 1048576 * (one : Int)) : Bd 20 (rootW x) := by
  obtain ⟨j, hj⟩ : ∃ j : Nat, j = 1074 := ⟨_, rfl⟩
  have f20 : (2 : Nat) ^ 20 = 1048576 := by decide
  have := R.nn
  exact bd_val' (j := 20 + j) R.val (by omega) (by rw [Nat.pow_add, f20, ← one_pow hj]; omega)

def cutA (rate : Nat) (amount : Int) : Nat := (Go.floatBits .mul .f32 rate (rootW (Go.floatOfInt .f32 amount))).getD 0
def cutD (rate : Nat) (amount : Int) (drop : Nat) : Nat := (Go.floatBits .mul .f32 (cutA rate amount) drop).getD 0
def halfW (drop : Nat) : Nat := (Go.floatBits .mul .f32 drop 1056964608).getD 0
/-- The products of a cut. -/
structure CutAt (rate : Nat) (amount : Int) (drop : Nat) : Prop where
  m1 : Go.floatBits .mul .f32 rate (rootW (Go.floatOfInt .f32 amount)) = some (cutA rate amount)
  m2 : Go.floatBits .mul .f32 (cutA rate amount) drop = some (cutD rate amount drop)
  m3 : Go.floatBits .mul .f32 drop 1056964608 = some (halfW drop)

theorem vS_half {j : Nat} (hj : j = 1073) : vS 1056964608 = some ((2 ^ j : Nat) : Int) := by
  have h : single.read 1056964608 = .number false 8388608 (-24) := by decide
  rw [vS_lit (t := 1) (k := 23) (j := j) h (by decide) (by rw [hj]; decide)]; simp
theorem bd_half : Bd 0 1056964608 := by
  obtain ⟨j, hj⟩ : ∃ j : Nat, j = 1073 := ⟨_, rfl⟩
  exact bd_val' (j := j + 1) (vS_half hj) (by omega) (by rw [Int.natAbs_natCast]; exact Nat.pow_le_pow_right (by omega) (by omega))

theorem cut_parts {rate drop : Nat} {n : Int} (hr : Bd 20 rate) (hd : Bd 21 drop) (h0 : 0 ≤ n) (h1 : n ≤ 1099511627776) : CutAt rate n drop := by
  obtain ⟨a, X, Z, c, R, hc⟩ := amt_root h0 h1
  obtain ⟨_, _, _, p, _, _, _, _, e1, bp⟩ := (mul_same (a := 20) (b := 20) (by omega) hr (root_bd R hc)).ex
  obtain ⟨_, _, _, d, _, _, _, _, e2, bd⟩ := (mul_same (a := 40) (b := 21) (by omega) bp hd).ex
  obtain ⟨_, _, _, h, _, _, _, _, e3, bh⟩ := (mul_same (a := 21) (b := 0) (by omega) hd bd_half).ex
  have q1 : cutA rate n = p := by unfold cutA; rw [e1]; rfl
  have q2 : cutD rate n drop = d := by unfold cutD; rw [q1, e2]; rfl
  have q3 : halfW drop = h := by unfold halfW; rw [e3]; rfl
  exact ⟨by rw [q1]; exact e1, by rw [q1, q2]; exact e2, by rw [q3]; exact e3⟩
end Go.Proofs.Ytkcehbnmcdppkaa.Fl

/- Contracts: CheckCarving, CarvingError; deep, Depth, DepthOf; the first error of three. -/
namespace Go.Proofs.Ytkcehbnmcdppkaa
open Go.RowKit Fl
set_option linter.unusedVariables false

/-- How deep a cell is cut, as a word. -/
def depW (rate least most : Nat) (amount : Int) (drop : Nat) : Nat :=
  if amount < 1 ∨ (FloatKind.f32.format.order drop 0 == some .gt) = false then 0
  else if (FloatKind.f32.format.order (cutD rate amount drop) least == some .lt) = true then 0 else lesW (lesW (cutD rate amount drop) most) (halfW drop)

/-- A carving. -/
abbrev carV (rate least most : Nat) (steps : Int) : Value := .agg #[.float .f32 rate, .float .f32 least, .float .f32 most, .int .i64 steps]

/-- How deep, without errors: both sides. -/
def DepPost (w : World) (rate least most : Nat) (amount : Int) (drop : Nat) (e : Ending) (w' : World) : Prop :=
  e = .returned (.float .f32 (depW rate least most amount drop)) ∧ Below w.heap.size w w'

/-- Three singles, as a list. -/
def three (a b c : Nat) (i : Nat) : Nat := if i = 0 then a else if i = 1 then b else c
theorem flAt_three {w : World} {p a b c : Nat} (h : w.heap[p]? = some (.cells #[.float .f32 a, .float .f32 b, .float .f32 c] 22)) : FlAt w p 0 3 (three a b c) := by
  intro i hi
  rw [Nat.zero_add, (blkC h).1 i]
  have : i = 0 ∨ i = 1 ∨ i = 2 := by omega
  rcases this with rfl | rfl | rfl <;> rfl
theorem three_hgt {a b c : Nat} (h : fldE 3 (three a b c) = 0) : hgtB a = true ∧ hgtB b = true ∧ hgtB c = true := by
  have := allB_iff.1 (fldE_zero.1 h)
  exact ⟨this 0 (by omega), this 1 (by omega), this 2 (by omega)⟩
/-- A carving's error behind its singles. -/
def carE2 (rate least most : Nat) (steps : Int) : Int :=
  if (FloatKind.f32.format.order rate 0 == some .lt) = true ∨ (FloatKind.f32.format.order rate 1065353216 == some .gt) = true ∨ (FloatKind.f32.format.order least 0 == some .lt) = true then 3
  else if (FloatKind.f32.format.order most least == some .lt) = true then 8 else if withinB steps 0 50 = true then 0 else 3
/-- A carving's error. -/
def carE (rate least most : Nat) (steps : Int) : Int := if fldE 3 (three rate least most) = 0 then carE2 rate least most steps else fldE 3 (three rate least most)

end Go.Proofs.Ytkcehbnmcdppkaa

/- Contracts: viewOf, CameraError, Frame. -/
namespace Go.Proofs.Ytkcehbnmcdppkaa
open Go.RowKit Fl
set_option linter.unusedVariables false

theorem run_neg32 (w : World) (b : Nat) : (Op.unary .neg (.float .f32 b)).run Try.prog w = .ok (.float .f32 (negW b)) w := rfl

theorem flAt_cam {w : World} {p : Nat} {c : Cam} (h : w.heap[p]? = some (.cells c.vs 22)) : FlAt w p 0 7 c.at := by
  intro i hi
  rw [Nat.zero_add, (blkC h).1 i]
  have : i = 0 ∨ i = 1 ∨ i = 2 ∨ i = 3 ∨ i = 4 ∨ i = 5 ∨ i = 6 := by omega
  rcases this with rfl | rfl | rfl | rfl | rfl | rfl | rfl <;> rfl
theorem cam_hgt {c : Cam} (h : fldE 7 c.at = 0) : hgtB c.x = true ∧ hgtB c.y = true ∧ hgtB c.h = true ∧ hgtB c.dx = true ∧ hgtB c.dy = true ∧ hgtB c.dh = true ∧ hgtB c.z = true := by
  have := allB_iff.1 (fldE_zero.1 h)
  exact ⟨this 0 (by omega), this 1 (by omega), this 2 (by omega), this 3 (by omega), this 4 (by omega), this 5 (by omega), this 6 (by omega)⟩

/-- Whether a length or a zoom is out of its range. -/
def camO (m z : Nat) : Bool := (FloatKind.f32.format.order m 981467136 == some .lt) || (FloatKind.f32.format.order z 981467136 == some .lt) || (FloatKind.f32.format.order z 1149239296 == some .gt)
/-- The error of a camera whose length has the word m. -/
def camE (c : Cam) (m : Nat) : Int := if fldE 7 c.at = 0 then (if camO m c.z = true then 3 else 0) else fldE 7 c.at

/-- What viewOf answers. -/
def ViwPost (w : World) (c : Cam) (er : Int) (fx fy ry e : Nat) (en : Ending) (w' : World) : Prop :=
  en = .returned (.tuple #[.agg #[.float .f32 c.x, .float .f32 c.y, .float .f32 c.h, .float .f32 c.dx, .float .f32 c.dy, .float .f32 c.dh, .float .f32 c.z, .float .f32 fx, .float .f32 fy, .float .f32 ry, .float .f32 fx, .float .f32 e], .int .i64 er]) ∧ Below w.heap.size w w'
abbrev zeroCam : Cam := ⟨0, 0, 0, 0, 0, 0, 0⟩

theorem camO_no {m z : Nat} (h : camO m z = false) : (FloatKind.f32.format.order m 981467136 == some .lt) = false ∧ (FloatKind.f32.format.order z 981467136 == some .lt) = false ∧ (FloatKind.f32.format.order z 1149239296 == some .gt) = false := by
  unfold camO at h
  revert h
  cases (FloatKind.f32.format.order m 981467136 == some .lt) <;> cases (FloatKind.f32.format.order z 981467136 == some .lt) <;> cases (FloatKind.f32.format.order z 1149239296 == some .gt) <;> simp

end Go.Proofs.Ytkcehbnmcdppkaa

/- Contracts: CheckRay and RayError: the error of a ray (seven singles, as a camera's). -/
namespace Go.Proofs.Ytkcehbnmcdppkaa
open Go.RowKit Fl
set_option linter.unusedVariables false

/-- The error of a ray: x, y, h, dx, dy, dh, and how far it goes at most. -/
def rayE (c : Cam) : Int :=
  if fldE 7 c.at ≠ 0 then fldE 7 c.at else if (FloatKind.f32.format.order c.dx 0 == some .eq) = true ∧ (FloatKind.f32.format.order c.dy 0 == some .eq) = true then 12 else wiE c.z 0 1199570944

set_option maxHeartbeats 2000000 in
set_option maxRecDepth 100000 in
theorem checkRay_any (c : Cam) (w : World) : Calls Try.prog 148 #[.agg c.vs] w fun e w' => e = .returned (.int .i64 (rayE c)) ∧ Below w.heap.size w w' := by
  have CH := Lib.hid (fun p w (h : w.heap[p]? = some (.cells c.vs 22)) => CheckHeights_row p 0 7 7 c.at (by omega) w (flAt_cam h))
  have CW := Lib.hid (fun w => checkWithin_any c.z 0 1199570944 w)
  unfold rayE
  by_cases h0 : fldE 7 c.at = 0
  · rw [if_neg (by simp [h0])]
    rw [h0] at CH
    clear h0
    generalize wiE c.z 0 1199570944 = ez at *
    obtain ⟨cx, cy, ch, cdx, cdy, cdh, cz⟩ := c
    simp only at *
    cases h1 : (FloatKind.f32.format.order cdx 0 == some .eq)
    · rw [if_neg (by simp)]
      go_enter Try.func148, Try.ntmps148
      go_wp2_with (first
        | (go_at_call 76; go_loud (refine (CH.out _ _ (by (first | (rw [heap_alloc_get, if_pos rfl]; done) | ((simp only [heap_alloc_get, heap_size_alloc, if_true]) <;> ((repeat' split) <;> first | rfl | omega))))).mono ?_; rintro e w2 ⟨rfl, rfl⟩))
        | (go_at_call 127; (with_reducible refine (CW.out _).mono ?_); rintro e w2 ⟨rfl, rfl⟩))
      go_ret
      exact ⟨rfl, (by repeat (first | exact Below.refl _ _ | refine Below.alloc ?_ (by first | omega | (simp; done) | (simp; omega)) _ | refine Below.setCell ?_ (by first | omega | (simp; done) | (simp; omega)) _ | refine Below.drew ?_))⟩
    · cases h2 : (FloatKind.f32.format.order cdy 0 == some .eq)
      · rw [if_neg (by simp)]
        go_enter Try.func148, Try.ntmps148
        go_wp2_with (first
          | (go_at_call 76; go_loud (refine (CH.out _ _ (by (first | (rw [heap_alloc_get, if_pos rfl]; done) | ((simp only [heap_alloc_get, heap_size_alloc, if_true]) <;> ((repeat' split) <;> first | rfl | omega))))).mono ?_; rintro e w2 ⟨rfl, rfl⟩))
          | (go_at_call 127; (with_reducible refine (CW.out _).mono ?_); rintro e w2 ⟨rfl, rfl⟩))
        go_ret
        exact ⟨rfl, (by repeat (first | exact Below.refl _ _ | refine Below.alloc ?_ (by first | omega | (simp; done) | (simp; omega)) _ | refine Below.setCell ?_ (by first | omega | (simp; done) | (simp; omega)) _ | refine Below.drew ?_))⟩
      · rw [if_pos ⟨rfl, rfl⟩]
        go_enter Try.func148, Try.ntmps148
        go_wp2_with (go_at_call 76; go_loud (refine (CH.out _ _ (by (first | (rw [heap_alloc_get, if_pos rfl]; done) | ((simp only [heap_alloc_get, heap_size_alloc, if_true]) <;> ((repeat' split) <;> first | rfl | omega))))).mono ?_; rintro e w2 ⟨rfl, rfl⟩))
        go_ret
        exact ⟨rfl, (by repeat (first | exact Below.refl _ _ | refine Below.alloc ?_ (by first | omega | (simp; done) | (simp; omega)) _ | refine Below.setCell ?_ (by first | omega | (simp; done) | (simp; omega)) _ | refine Below.drew ?_))⟩
  · rw [if_pos h0]
    have h1 : (fldE 7 c.at != 0) = true := by simpa using h0
    generalize fldE 7 c.at = er at *
    clear h0
    obtain ⟨cx, cy, ch, cdx, cdy, cdh, cz⟩ := c
    simp only at *
    go_enter Try.func148, Try.ntmps148
    go_wp2_with (go_at_call 76; go_loud (refine (CH.out _ _ (by (first | (rw [heap_alloc_get, if_pos rfl]; done) | ((simp only [heap_alloc_get, heap_size_alloc, if_true]) <;> ((repeat' split) <;> first | rfl | omega))))).mono ?_; rintro e w2 ⟨rfl, rfl⟩))
    go_ret
    exact ⟨rfl, (by repeat (first | exact Below.refl _ _ | refine Below.alloc ?_ (by first | omega | (simp; done) | (simp; omega)) _ | refine Below.setCell ?_ (by first | omega | (simp; done) | (simp; omega)) _ | refine Below.drew ?_))⟩
end Go.Proofs.Ytkcehbnmcdppkaa

/- Plain mathematics of filling: spills are the least ones of all ways; so two fillings agree by value. -/
namespace Go.Proofs.Ytkcehbnmcdppkaa
open Go.RowKit Fl
set_option linter.unusedVariables false

/-- x is the spill of a way to the cell k. -/
inductive Way (g : Gnd) : Nat → Nat → Prop where
  | bor : ∀ k, k < g.n → g.bd k = true → Way g k (g.h k)
  | go : ∀ p k a, p < g.n → k < g.n → gnb g p k → g.bd k = false → Way g p a → OkW 1048576 a → Way g k (stepW g.sl a (g.h k))

/-- No way is cheaper than stable spills. -/
theorem way_least {g : Gnd} (G : GndOk g) {s : Nat → Nat} (hb : ∀ k, k < g.n → g.bd k = true → s k = g.h k) (hf : ∀ k, k < g.n → OkW 1048576 (s k))
    (hl : ∀ x, x < g.n → ∀ k, k < g.n → gnb g x k → g.bd k = false → vI (s k) ≤ vI (stepW g.sl (s x) (g.h k))) {k x : Nat} (w : Way g k x) : vI (s k) ≤ vI x := by
  induction w with
  | bor k h1 h2 => rw [hb k h1 h2]; exact Int.le_refl _
  | go p k a h1 h2 h3 h4 w ok ih =>
    exact Int.le_trans (hl p h1 k h2 h3 h4) (step_mono (hf p h1) ok G.slo (G.hgt k h2) (Nat.le_refl _) ih)

theorem Spills.way {g : Gnd} (G : GndOk g) {s : Nat → Nat} (S : Spills g s) : ∀ k, k < g.n → Way g k (s k) := by
  obtain ⟨rk, hr⟩ := S.par
  intro k
  generalize hm : rk k = m
  induction m using Nat.strongRecOn generalizing k with
  | ind m ih =>
    intro hk
    cases e : g.bd k with
    | true => rw [S.bor k hk e]; exact .bor k hk e
    | false =>
      obtain ⟨p, p1, p2, p3, p4⟩ := hr k hk e
      rw [p4]
      exact .go p k _ p1 hk p2 e (ih (rk p) (by omega) p rfl p1) ((S.fin p p1).mono (by omega))

/-- Two fillings of one ground agree by value. -/
theorem spills_eq {g : Gnd} (G : GndOk g) {s r : Nat → Nat} (S : Spills g s) (hb : ∀ k, k < g.n → g.bd k = true → r k = g.h k) (hf : ∀ k, k < g.n → OkW 1048576 (r k))
    (hl : ∀ x, x < g.n → ∀ k, k < g.n → gnb g x k → g.bd k = false → vI (r k) ≤ vI (stepW g.sl (r x) (g.h k))) (hw : ∀ k, k < g.n → Way g k (r k)) : ∀ k, k < g.n → vI (s k) = vI (r k) := fun k hk => by
  have a := way_least G S.bor (fun k h => (S.fin k h).mono (by omega)) (fun x h1 k h2 h3 h4 => S.least x h1 k h3 h4) (hw k hk)
  have b := way_least G hb hf hl (S.way G k hk)
  omega
end Go.Proofs.Ytkcehbnmcdppkaa

/- Contracts: the methods of the heap of cells: Len, Less, Swap, Push, Pop. -/
namespace Go.Proofs.Ytkcehbnmcdppkaa
open Go.RowKit Fl
set_option linter.unusedVariables false

def cellsL (c : Nat → Nat) (m : Nat) : List Value := (List.range m).map fun i => Value.int .i64 ((c i : Nat) : Int)
theorem cellsL_len (c : Nat → Nat) (m : Nat) : (cellsL c m).length = m := by simp [cellsL]
theorem cellsL_get {c : Nat → Nat} {m i : Nat} (h : i < m) : (cellsL c m)[i]? = some (.int .i64 ((c i : Nat) : Int)) := by simp [cellsL, h]
theorem cellsL_swap {c : Nat → Nat} {m i j : Nat} (hi : i < m) (hj : j < m) : ((cellsL c m).set i (.int .i64 ((c j : Nat) : Int))).set j (.int .i64 ((c i : Nat) : Int)) = cellsL (swp c i j) m := by
  apply List.ext_getElem?
  intro k
  rw [List.getElem?_set, List.getElem?_set]
  by_cases e : k < m
  · rw [cellsL_get e]
    by_cases e1 : j = k
    · subst e1
      rw [if_pos rfl, if_pos (by simpa [cellsL] using e), cellsL_get e, swp_j]
    · rw [if_neg e1]
      by_cases e2 : i = k
      · subst e2
        rw [if_pos rfl, if_pos (by simpa [cellsL] using e), cellsL_get e, swp_i]
      · rw [if_neg e2, cellsL_get e, swp_o c (by omega) (by omega)]
  · have n0 : (cellsL (swp c i j) m)[k]? = none := List.getElem?_eq_none (by simp [cellsL]; omega)
    have n1 : (cellsL c m)[k]? = none := List.getElem?_eq_none (by simp [cellsL]; omega)
    rw [n0, if_neg (by omega), if_neg (by omega), n1]
theorem cellsL_swap' {c : Nat → Nat} {m i j : Nat} (hi : i < m) (hj : j < m) : ((cellsL c m).set j (.int .i64 ((c i : Nat) : Int))).set i (.int .i64 ((c j : Nat) : Int)) = cellsL (swp c i j) m := by
  rw [cellsL_swap hj hi]
  unfold cellsL
  apply List.map_congr_left
  intro k _
  unfold swp
  by_cases e1 : k = i
  · subst e1
    by_cases e2 : k = j
    · subst e2; rfl
    · rw [if_neg e2, if_pos rfl, if_pos rfl]
  · rw [if_neg e1, if_neg e1]
theorem cellsL_succ (c : Nat → Nat) (m k : Nat) : cellsL c m ++ [.int .i64 ((k : Nat) : Int)] = cellsL (updW c m k) (m + 1) := by
  unfold cellsL
  rw [List.range_succ, List.map_append]
  congr 1
  · apply List.map_congr_left
    intro i hi
    rw [updW_other c (by have := List.mem_range.1 hi; omega)]
  · simp [updW_same]
theorem cellsL_take (c : Nat → Nat) (m : Nat) : (cellsL c (m + 1)).take m = cellsL c m := by
  unfold cellsL
  rw [← List.map_take, List.take_range]
  simp

/-- What the heap's methods keep: every block that was there, but for the heap's own and the one of its cells. -/
structure Kept (hb g : Nat) (w w' : World) : Prop where
  os : w'.os = w.os
  tape : w'.tape = w.tape
  output : w'.output = w.output
  size : w.heap.size ≤ w'.heap.size
  block : ∀ k, k < w.heap.size → k ≠ hb → k ≠ g → w'.heap[k]? = w.heap[k]?
theorem Kept.refl (hb g : Nat) (w : World) : Kept hb g w w := ⟨rfl, rfl, rfl, Nat.le_refl _, fun _ _ _ _ => rfl⟩
theorem Kept.drewN (hb g : Nat) (w : World) (q : Nat) : Kept hb g w (w.drewN q) := ⟨rfl, rfl, rfl, Nat.le_refl _, fun _ _ _ _ => rfl⟩
theorem Kept.trans {hb g g' : Nat} {a b c : World} (h : Kept hb g a b) (k : Kept hb g' b c) (hg : g' = g ∨ a.heap.size ≤ g') : Kept hb g a c :=
  ⟨k.os.trans h.os, k.tape.trans h.tape, k.output.trans h.output, Nat.le_trans h.size k.size, fun i hi h1 h2 => (k.block i (Nat.lt_of_lt_of_le hi h.size) h1 (by rcases hg with rfl | hg <;> omega)).trans (h.block i hi h1 h2)⟩
theorem Kept.setCell {hb g : Nat} {a b : World} (h : Kept hb g a b) {p : Addr} (hp : p.block = hb ∨ p.block = g) (u : Value) : Kept hb g a (b.setCell p u) :=
  ⟨h.os, h.tape, h.output, by simpa using h.size, fun i hi h1 h2 => (heap_setCell_other b p i u (by rcases hp with e | e <;> rw [e] <;> omega)).trans (h.block i hi h1 h2)⟩
/-- An int in an interface value. -/
abbrev anyI (k : Nat) : Value := .iface 3 (.int .i64 (k : Int))

end Go.Proofs.Ytkcehbnmcdppkaa

/- Contracts: Push of the heap of cells; up, down, Init, Push and Pop of container/heap over it. -/
namespace Go.Proofs.Ytkcehbnmcdppkaa
open Go.RowKit Fl
set_option linter.unusedVariables false

theorem assert_int (X : TypeId) (k : Int) (w : World) : (Instr.typeAssert (.iface 3 (.int .i64 k)) X 3 false).run Try.prog w = .ok (.int .i64 k) w := by kernel_rfl

theorem ltB_val {x y : Nat} (hx : vS x = some (vI x)) (hy : vS y = some (vI y)) : ltB x y = decide (vI x < vI y) := by
  unfold ltB; rw [f32f', lss_val hx hy]

theorem num_eq {a b : Int} (h : a = b) : Value.int .i64 a = .int .i64 b := by rw [h]
end Go.Proofs.Ytkcehbnmcdppkaa

/- Contracts: up, Init, Pop and Push of container/heap over the heap of cells. -/
namespace Go.Proofs.Ytkcehbnmcdppkaa
open Go.RowKit Fl
set_option linter.unusedVariables false

/-- Cells that are there, with spills that have a value. -/
def OkC (n m : Nat) (c s : Nat → Nat) : Prop := ∀ i, i < m → c i < n ∧ vS (s (c i)) = some (vI (s (c i)))
theorem OkC.same {n m : Nat} {c c' s : Nat → Nat} (h : OkC n m c s) (hs : SameSet m c c') : OkC n m c' s := hs.all (P := fun x => x < n ∧ vS (s x) = some (vI (s x))) h

end Go.Proofs.Ytkcehbnmcdppkaa

/- Contracts: isBorder; neighbours, and the iterator that it hands back: the neighbours of a cell in the order of directions. -/
namespace Go.Proofs.Ytkcehbnmcdppkaa
open Go.RowKit Fl Go.Shelf
set_option linter.unusedVariables false
attribute [local go_sem] Oper.semAt_some

/-- The neighbours in the directions below j: direction and number. -/
def nbrs (W H k j : Nat) : List (Nat × Nat) := (List.range j).filterMap fun d => (nbI W H k d).map fun m => (d, m)
theorem nbrs_none {W H k j : Nat} (h : nbI W H k j = none) : nbrs W H k (j + 1) = nbrs W H k j := by simp [nbrs, List.range_succ, h]
theorem nbrs_some {W H k j m : Nat} (h : nbI W H k j = some m) : nbrs W H k (j + 1) = nbrs W H k j ++ [(j, m)] := by simp [nbrs, List.range_succ, h]
theorem nbrs_len (W H k j : Nat) : (nbrs W H k j).length ≤ j := by
  unfold nbrs; exact Nat.le_trans (List.length_filterMap_le _ _) (by simp)
def encN (x : Nat × Nat) : Array Value := #[.int .i64 (x.1 : Int), .int .i64 (x.2 : Int)]

theorem grown_of {w w' : World} (h : Below w.heap.size w w') : w.grownBy w' none := ⟨h.os, h.tape, h.output, h.size, fun k hk _ => h.block k hk⟩

/-- A neighbour of the cell k: its direction, its number. -/
def Nb (W H k : Nat) : Type := { p : Nat × Nat // p.1 < 8 ∧ nbI W H k p.1 = some p.2 }
def encNb {W H k : Nat} (x : Nb W H k) : Array Value := encN x.1

theorem nbrs_mem {W H k e m : Nat} (he : e < 8) (h : nbI W H k e = some m) : (e, m) ∈ nbrs W H k 8 := by
  unfold nbrs
  exact List.mem_filterMap.2 ⟨e, List.mem_range.2 he, by rw [h]; rfl⟩
end Go.Proofs.Ytkcehbnmcdppkaa

/- A region that draws its order, in a round of a range over a function: walked as outside of it. -/
namespace Go.Proofs.Ytkcehbnmcdppkaa
set_option linter.unusedVariables false

theorem rowsIn_round {l n : Nat} {P : Program} {row : String} {args : Array Value} {w : World} {R : Value → World → Prop} (h : Rows P row args w R) : RowsIn (Fence.wide.inRound l) n P row args w R :=
  fun c cs _ => let ⟨v, w', r, s⟩ := h c cs; ⟨v, w', r, stepsIn_wide.2 s⟩
theorem uponIn_round {l n : Nat} {P : Program} {o : Oper} {a : Act} {next : Act → World → Prop} {Q : Exit → Act → World → Prop} {r : Result Next} (h : o.upon P a next Q r) : o.uponIn (Fence.wide.inRound l) n P a next Q r := by
  cases r with
  | ok x w' =>
    cases x <;> first
      | exact h
      | exact ⟨fun e => by simp [Fence.wide] at e, CallsIn.inRound l (callsIn_wide.2 h)⟩
      | exact ⟨fun e => by simp [Fence.wide] at e, rowsIn_round h⟩
      | exact h.elim
  | halt x w' =>
    cases x <;> first | exact h | exact h.elim

/-- An operation's plain walk is one in a round, where it is no defer. -/
theorem wpOpIn_round {l n : Nat} {P : Program} {ops : Array Oper} {Q : Exit → Act → World → Prop} {i : Nat} {K K' : Act → World → Prop} {a : Act} {w : World} (hd : ∀ o, ops[i]? = some o → ∀ c, o.op ≠ .defer c) (hq : ¬ LetsOut Q)
    (hk : ∀ a w, K a w → K' a w) (h : wpOp P ops Q i K a w) : wpOpIn (Fence.wide.inRound l) n P ops Q i K' a w := by
  refine wpOpIn_mono hk ?_
  unfold wpOp at h
  unfold wpOpIn
  cases ho : ops[i]? with
  | none => rw [ho] at h; exact h
  | some o =>
    rw [ho] at h
    dsimp only at h ⊢
    by_cases hw : Region.wanted o (yielded ops a.tmps) = true
    · rw [if_pos hw] at h ⊢
      rcases h with h | h
      · refine ⟨fun _ _ => trivial, ?_⟩
        rw [show o.semAt (Fence.wide.inRound l).round a.eval = execOp a.eval o from Oper.semAt_some l _ _ (hd o ho)]
        exact uponIn_round h
      · exact (hq h.2).elim
    · rw [if_neg hw] at h ⊢
      exact ⟨fun _ _ => trivial, h⟩
theorem wpAnyIn_round {l n : Nat} {P : Program} {md : Region.Mode} {ops : Array Oper} {Q : Exit → Act → World → Prop} (hd : ∀ (i : Nat) (o : Oper), ops[i]? = some o → ∀ c, o.op ≠ .defer c) (hq : ¬ LetsOut Q) :
    ∀ (fuel : Nat) (listed : Array Bool) (a : Act) (w : World), wpAny P md ops Q fuel listed a w → wpAnyIn (Fence.wide.inRound l) n P md ops Q fuel listed a w := by
  intro fuel
  induction fuel with
  | zero => intro listed a w h; exact h
  | succ fuel ih =>
    intro listed a w h
    exact ⟨h.1, fun i hi => wpOpIn_round (hd i) hq (fun a w => ih _ a w) (h.2 i hi)⟩

/-- Reads and quiet calls ahead of one store, in a round. -/
theorem wpIn_still_tail_round {l n : Nat} {P : Program} {id : Nat} {Q : Exit → Act → World → Prop} {a : Act} {w : World} {L : List Oper} (N : Nat) (hm : P.follows .mixedOrders = true) (hd : ∀ (i : Nat) (o : Oper), L.toArray[i]? = some o → ∀ c, o.op ≠ .defer c) (hq : ¬ LetsOut Q) (hB : Region.lexTailB .any L.toArray N = true)
    (h : wpStill P L.toArray { w with drawn := w.drawn + 1 } (fun a' => wpList P L.toArray Q (L.drop N) a' { w with drawn := w.drawn + 1 }) (L.take N) a) : (Code.region id L.toArray true).wpIn (Fence.wide.inRound l) n P Q a w := by
  simp only [Region.lexTailB, Bool.and_eq_true, decide_eq_true_eq] at hB
  obtain ⟨⟨⟨⟨hsel, hn⟩, hs⟩, hc⟩, hlex⟩ := hB
  have hn' : N < L.length := by simpa using hn
  have htl : (L.take N).length = N := by simp; omega
  have hdl : (L.drop N).length = L.toArray.size - N := by simp
  have inv0 : HeadInv .any L.toArray N (Array.replicate L.toArray.size false) :=
    ⟨by simp, fun j oj _ hl => (by rw [getD_replicate_false] at hl; cases hl), fun t _ ht => getD_in (by simpa using ht) (getD_replicate_false _ _)⟩
  have H := wpAnyL_lex (md := .any) (g := L.toArray.size - N) hsel hs hc hn (L.take N) 0 _ a (fun j hj => by
    have hj' : j < N := by rw [htl] at hj; exact hj
    simp [hj']) (by simpa using htl) inv0 (by rw [htl]; exact hlex) h
  refine wpIn_region_any hm (wpAnyIn_round hd hq _ _ _ _ ?_)
  have := wpAny_of_head (Q' := Q) (g := L.toArray.size - N) (fun listed a' hL => by
    have := wpAny_of_seq (md := .any) (Q' := Q) (L.drop N) N listed a' { w with drawn := w.drawn + 1 } (fun j => by simp [List.getElem?_drop]) (by rw [hdl]; exact hL.1) hL.2
    rwa [hdl] at this) _ _ _ H
  rw [htl, show N + (L.toArray.size - N) = L.toArray.size by omega] at this
  exact this
end Go.Proofs.Ytkcehbnmcdppkaa

/- Contracts: slices.Clone of singles; a slice of bools; the marks that a loop over a function leaves. -/
namespace Go.Proofs.Ytkcehbnmcdppkaa
open Go.RowKit Fl Go.Shelf
set_option linter.unusedVariables false

/-- What Clone answers: a new row of the same singles. -/
def ClonePost (n : Nat) (v : Nat → Nat) (w : World) (e : Ending) (w' : World) : Prop :=
  ∃ g cap, e = .returned (.slice (some ⟨g, 0, none⟩) n cap) ∧ w.heap.size ≤ g ∧ w'.ownsRow w.heap.size 22 1 (.slice (some ⟨g, 0, none⟩) n cap) n (rowL v n) ∧ Below w.heap.size w w'

set_option maxHeartbeats 1000000 in
theorem clone_any (b off n cap : Nat) (v : Nat → Nat) (w : World) (h1 : 1 ≤ n) (hn : n ≤ 65536) (hc : FlAt w b off n v) :
    Calls Try.prog 115 #[.slice (some ⟨b, off, none⟩) n cap] w (ClonePost n v w) := by
  have zb : b < w.heap.size := World.block_lt_of_cell? w _ (hc 0 h1)
  have hnews := Lib.hid (show ∀ j u, (rowL v n)[j]? = some u → (w.alloc (.cells #[] 22)).cell? ((⟨b, off, none⟩ : Addr).add j) = some u from fun j u hu => by
    have hj : j < n := by
      rcases Nat.lt_or_ge j n with h | h
      · exact h
      · rw [List.getElem?_eq_none (by simpa [rowL] using h)] at hu; cases hu
    have : u = .float .f32 (v j) := by simpa [rowL, hj] using hu.symm
    rw [this]
    have e := hc j hj
    have : (⟨b, off, none⟩ : Addr).add j = ⟨b, off + j, none⟩ := by simp [Addr.add]
    rw [this]
    exact (World.cell?_of_block (w := w) (a := ⟨b, off + j, none⟩) (heap_alloc_old w _ zb)).trans e)
  have hinfo : (Try.prog.info? 22).map (fun i => (i.zero, i.size, i.bytes)) = some (some (.float .f32 0), 1, 4) := by kernel_rfl
  obtain ⟨i0, hi, hz0, hz1, hz2⟩ := info_parts hinfo
  have qT : ∀ (w : World) (a : Option Addr) (n c n' c' : Nat), (binOp .eql 39 (.slice a n c) (.slice none n' c')).run Try.prog w = .ok (.bool a.isNone) w := fun w a n c n' c' => Lib.run_eql_slice_nil w _ _ a n c n' c' Try.underlying39
  have H1 := Lib.hid h1
  have HN := Lib.hid hn
  clear hc hinfo h1 hn
  go_enter Try.func115, Try.ntmps115
  go_wp2_with (at_builtin; refine wpList_append_own _ rfl _ _ _ rfl w.heap.size 22 i0 (.float .f32 0) 1 4 Try.underlying39 hi hz0 hz1 hz2 rfl (by decide) (.slice (some ⟨w.heap.size, 0, none⟩) 0 0) 0 [] rfl (World.ownsRow_lit w #[] 0 (Nat.le_refl _) (by unfold maxLen; omega) rfl) ⟨b, off, none⟩ n cap (rowL v n) rfl (by simp [rowL]) hnews.out (by simp [rowL, Value.oneCell']) (by have := HN.out; unfold maxLen; omega) (by have := HN.out; omega) (by simp) ?_; intro v' w1 hown' hgrow hnil)
  rw [Nat.zero_add, List.nil_append] at hown'
  obtain ⟨g, cap', rfl, hg, _⟩ := hown'.form H1.out
  have HO := Lib.hid hown'
  have HG := Lib.hid hgrow
  clear hown' hgrow hnil
  go_ret
  exact ⟨g, cap', rfl, hg, HO.out, Below.grown (by repeat (first | exact Below.refl _ _ | refine Below.alloc ?_ (by first | omega | (simp; done) | (simp; omega)) _ | refine Below.setCell ?_ (by first | omega | (simp; done) | (simp; omega)) _ | refine Below.drew ?_)) HG.out (by simp) (fun k e => by simp [Value.ownBlock] at e; omega)⟩

def BoolsAt (w : World) (b n : Nat) (R : Nat → Bool) : Prop := ∃ cs : Array Value, w.heap[b]? = some (.cells cs 4 (0, 0)) ∧ cs.size = n ∧ ∀ i, i < n → cs[i]? = some (.bool (R i))
theorem BoolsAt.congr {w w' : World} {b n : Nat} {R : Nat → Bool} (h : BoolsAt w b n R) (e : w'.heap[b]? = w.heap[b]?) : BoolsAt w' b n R := by
  obtain ⟨cs, h1, h2⟩ := h
  exact ⟨cs, e.trans h1, h2⟩
theorem BoolsAt.cell {w : World} {b n : Nat} {R : Nat → Bool} (h : BoolsAt w b n R) {i : Nat} (hi : i < n) : w.cell? ⟨b, i, none⟩ = some (.bool (R i)) ∧ w.frozen? ⟨b, i, none⟩ = false ∧ b < w.heap.size := by
  obtain ⟨cs, h1, h2, h3⟩ := h
  obtain ⟨c, f, z⟩ := blkC h1
  exact ⟨(c i).trans (h3 i hi), f i, z⟩
theorem BoolsAt.put {w : World} {b n : Nat} {R : Nat → Bool} (h : BoolsAt w b n R) {k : Nat} (hk : k < n) : BoolsAt (w.setCell ⟨b, k, none⟩ (.bool true)) b n (updB R k) := by
  obtain ⟨cs, h1, h2, h3⟩ := h
  refine ⟨_, heap_setCell_same w b k _ _ _ h1, by simpa using h2, fun i hi => ?_⟩
  rw [Array.getElem?_setIfInBounds]
  by_cases e : k = i
  · subst e; rw [if_pos rfl, if_pos (by omega), updB_same]
  · rw [if_neg e, updB_other R (by omega)]; exact h3 i hi

theorem made_bools (w : World) (n : Nat) : BoolsAt (w.alloc (.cells (madeCells #[Value.bool false] n) 4)) w.heap.size n (fun _ => false) :=
  ⟨_, heap_alloc_new _ _, by simp [madeCells], fun i hi => by simp [madeCells, hi, Nat.mod_one]⟩

/-- The lowest cells first: how it begins. -/
theorem fil_start {g : Gnd} (G : GndOk g) {R : Nat → Bool} {c : Nat → Nat} {m : Nat} (hR : ∀ k, k < g.n → R k = g.bd k) (hc : ∀ i, i < m → c i < g.n ∧ g.bd (c i) = true) (ha : ∀ x, x < g.n → g.bd x = true → ∃ i, i < m ∧ c i = x)
    (hh : Heap m (fun x => vI (g.h x)) c) : Fil g g.h R c m (fun _ => False) (fun _ => False) (fun _ => 0) 0 :=
  ⟨fun i hi => ⟨(hc i hi).1, by rw [hR _ (hc i hi).1]; exact (hc i hi).2⟩, fun k hk hb => ⟨by rw [hR k hk]; exact hb, rfl⟩, fun k hk _ => ⟨hgt_ok (G.hgt k hk), Nat.le_refl _⟩,
    (fun k hk h1 h2 => by rw [hR k hk, h2] at h1; cases h1), fun _ _ h => h.elim, fun _ _ h => h.elim, fun x hx h => .inr (ha x hx (by rw [← hR x hx]; exact h)), fun _ _ h => h.elim, hh, by have := unr_le g.n R; omega⟩

/-- An end that is no panic. -/
def NoPanic (Q : Exit → Act → World → Prop) : Exit → Act → World → Prop
  | .panic _, _, _ => False
  | .outgrown, _, _ => False
  | e, a, w => Q e a w
theorem noPanic_of {Q : Exit → Act → World → Prop} : ∀ e a w, NoPanic Q e a w → Q e a w
  | .normal, _, _, h => h
  | .ret, _, _, h => h
  | .exit _, _, _, h => h
  | .goto _, _, _, h => h
  | .panic _, _, _, h => h.elim
  | .outgrown, _, _, h => h.elim

/-- The marks of loops that are over. -/
def Marks (lo : Nat) (w : World) : List Deferred → Prop
  | [] => True
  | d :: ds => (∃ D, d = { target := .collected D, args := #[] } ∧ lo ≤ D ∧ w.heap[D]? = some (.deferred (some [])) ∧ ∀ e ∈ ds, e.target ≠ .collected D) ∧ Marks lo w ds
theorem Marks.kept {lo : Nat} {w w' : World} {ds : List Deferred} (h : Marks lo w ds) (hk : ∀ k, lo ≤ k → w.heap[k]? = some (.deferred (some [])) → w'.heap[k]? = some (.deferred (some []))) : Marks lo w' ds := by
  induction ds with
  | nil => trivial
  | cons d ds ih =>
    obtain ⟨⟨D, h1, h2, h3, h4⟩, h5⟩ := h
    exact ⟨⟨D, h1, h2, hk D h2 h3, h4⟩, ih h5⟩
theorem Marks.lt {lo : Nat} {w : World} {ds : List Deferred} (h : Marks lo w ds) : ∀ e ∈ ds, ∀ D, e.target = .collected D → D < w.heap.size := by
  induction ds with
  | nil => intro e he; cases he
  | cons d ds ih =>
    obtain ⟨⟨D, rfl, h2, h3, h4⟩, h5⟩ := h
    intro e he D' hD
    rcases List.mem_cons.1 he with rfl | he
    · cases hD; exact (Array.getElem?_eq_some_iff.1 h3).1
    · exact ih h5 e he D' hD
/-- The marks are taken up at the return; whatever is no deferred block stays. -/
theorem leaves_marks {n : Nat} {P : Program} {fn : Func} {tmps : Array Value} {R : Ending → World → Prop} {lo : Nat} : ∀ (ds : List Deferred) (w : World), Marks lo w ds →
    (∀ w' : World, (∀ k, k < lo → w'.heap[k]? = w.heap[k]?) → (∀ (k : Nat) (o : Obj), w.heap[k]? = some o → o ≠ .deferred (some []) → w'.heap[k]? = some o) → w'.heap.size = w.heap.size → w'.os = w.os → w'.tape = w.tape → w'.output = w.output → ∃ v, (results fn tmps).run P w' = .ok v w' ∧ R (.returned v) w') →
    LeavesInM Fence.wide n P fn tmps R ds .returning w := by
  intro ds
  induction ds with
  | nil =>
    intro w _ h
    obtain ⟨v, h1, h2⟩ := h w (fun _ _ => rfl) (fun _ _ h _ => h) rfl rfl rfl rfl
    exact ⟨v, h1, h2⟩
  | cons d ds ih =>
    intro w hm h
    obtain ⟨⟨D, rfl, h2, h3, h4⟩, h5⟩ := hm
    refine ⟨by simp, .inl ⟨D, _, rfl, run_takeDeferred h3, ih _ ?_ fun w' g1 g2 g3 g4 g5 g6 => ?_⟩⟩
    · have hne : ∀ e ∈ ds, e.target ≠ .collected D := h4
      clear ih h h4
      induction ds with
      | nil => trivial
      | cons d2 ds2 ih2 =>
        obtain ⟨⟨D2, rfl, q2, q3, q4⟩, q5⟩ := h5
        have : D2 ≠ D := fun e => hne _ (List.mem_cons_self ..) (by rw [e])
        exact ⟨⟨D2, rfl, q2, (World.putObj_heap_other this).trans q3, q4⟩, ih2 q5 fun e he => hne e (List.mem_cons_of_mem _ he)⟩
    · exact h w' (fun k hk => (g1 k hk).trans (World.putObj_heap_other (by omega))) (fun k o ho hne => by
        by_cases e : k = D
        · subst e; rw [h3] at ho; cases ho; exact (hne rfl).elim
        · exact g2 k o ((World.putObj_heap_other e).trans ho) hne) (by rw [g3]; simp [World.putObj]) g4 g5 g6
end Go.Proofs.Ytkcehbnmcdppkaa

/- Contract: leastSpills. -/
namespace Go.Proofs.Ytkcehbnmcdppkaa
open Go.RowKit Fl Go.Shelf
set_option linter.unusedVariables false

theorem BoolsAt.as {w : World} {b n : Nat} {R R' : Nat → Bool} (h : BoolsAt w b n R) (e : ∀ i, i < n → R i = R' i) : BoolsAt w b n R' := by
  obtain ⟨cs, h1, h2, h3⟩ := h
  exact ⟨cs, h1, h2, fun i hi => by rw [← e i hi]; exact h3 i hi⟩
theorem BoolsAt.lt {w : World} {b n : Nat} {R : Nat → Bool} (h : BoolsAt w b n R) : b < w.heap.size := by
  obtain ⟨cs, h1, _⟩ := h
  exact (blkC h1).2.2
theorem ownsRow_congr {w w' : World} {base : Nat} {e : TypeId} {size : Nat} {v : Value} {n : Nat} {xs : List Value} (h : w.ownsRow base e size v n xs) (hk : ∀ g, v.ownBlock = some g → w'.heap[g]? = w.heap[g]?) : w'.ownsRow base e size v n xs := by
  obtain ⟨h1, h2⟩ := h
  refine ⟨h1, ?_⟩
  rcases h2 with h2 | ⟨g, cap, cur, hv, hg, hh, r⟩
  · exact .inl h2
  · exact .inr ⟨g, cap, cur, hv, hg, (hk g (by rw [hv]; rfl)).trans hh, r⟩

/-- What leastSpills answers. -/
def SpillPost (W H n : Nat) (v : Nat → Nat) (sl : Nat) (w : World) (e : Ending) (w' : World) : Prop :=
  ∃ s sb scap, e = .returned (.slice (some ⟨sb, 0, none⟩) n scap) ∧ w.heap.size ≤ sb ∧ sb < w'.heap.size ∧ n ≤ scap ∧ FlAt w' sb 0 n s ∧ Spills (gndOf W H v sl) s ∧ Below w.heap.size w w'

theorem ownsRow_lower {w : World} {base base' : Nat} {e : TypeId} {size : Nat} {v : Value} {n : Nat} {xs : List Value} (h : w.ownsRow base e size v n xs) (hb : base' ≤ base) : w.ownsRow base' e size v n xs := by
  obtain ⟨h1, h2⟩ := h
  refine ⟨h1, ?_⟩
  rcases h2 with h2 | ⟨g, cap, cur, hv, hg, r⟩
  · exact .inl h2
  · exact .inr ⟨g, cap, cur, hv, Nat.le_trans hb hg, r⟩

end Go.Proofs.Ytkcehbnmcdppkaa

/- What is known at each head of leastSpills' second loop; its rounds. -/
namespace Go.Proofs.Ytkcehbnmcdppkaa
open Go.RowKit Fl Go.Shelf
set_option linter.unusedVariables false

theorem ownsRow_flAt' {w : World} {base b cap k : Nat} {f : Nat → Nat} (h : w.ownsRow base 22 1 (.slice (some ⟨b, 0, none⟩) k cap) k (rowL f k)) (hk : 0 < k) : FlAt w b 0 k f := (ownsRow_flAt h hk).1
theorem below_kept {w0 w w' : World} {hb g : Nat} (hB : Below w0.heap.size w0 w) (K : Kept hb g w w') (h1 : w0.heap.size ≤ hb) (h2 : w0.heap.size ≤ g) : Below w0.heap.size w0 w' :=
  ⟨K.os.trans hB.os, K.tape.trans hB.tape, K.output.trans hB.output, Nat.le_trans hB.size K.size, fun j hj => (K.block j (Nat.lt_of_lt_of_le hj hB.size) (by omega) (by omega)).trans (hB.block j hj)⟩

theorem rowL_set {s : Nat → Nat} {n k x : Nat} (hk : k < n) : (rowL s n).set k (.float .f32 x) = rowL (updW s k x) n := by
  apply List.ext_getElem?
  intro i
  rw [List.getElem?_set]
  by_cases e : i < n
  · have q : ∀ s : Nat → Nat, (rowL s n)[i]? = some (.float .f32 (s i)) := fun s => by simp [rowL, e]
    by_cases e1 : k = i
    · subst e1; rw [if_pos rfl, if_pos (by simpa [rowL] using e), q, updW_same]
    · rw [if_neg e1, q, q, updW_other s (by omega)]
  · have q : ∀ s : Nat → Nat, (rowL s n)[i]? = none := fun s => List.getElem?_eq_none (by simp [rowL]; omega)
    rw [if_neg (by omega), q, q]

/-- What a round may turn: the heap's blocks, the spills, the cells that have been reached. -/
structure Turn (hb sb g : Nat) (w w' : World) : Prop where
  size : w.heap.size ≤ w'.heap.size
  block : ∀ k, k < w.heap.size → k ≠ hb → k ≠ g → k ≠ sb → k ≠ hb + 1 + 1 → w'.heap[k]? = w.heap[k]?
theorem Turn.refl (hb sb g : Nat) (w : World) : Turn hb sb g w w := ⟨Nat.le_refl _, fun _ _ _ _ _ _ => rfl⟩
theorem Turn.set {hb sb g : Nat} {w w' : World} (h : Turn hb sb g w w') {p : Addr} (hp : p.block = sb ∨ p.block = hb + 1 + 1) (u : Value) : Turn hb sb g w (w'.setCell p u) :=
  ⟨by simpa using h.size, fun k hk h1 h2 h3 h4 => (heap_setCell_other _ p k u (by rcases hp with e | e <;> rw [e] <;> omega)).trans (h.block k hk h1 h2 h3 h4)⟩
theorem Turn.drew {hb sb g : Nat} {w w' : World} (h : Turn hb sb g w w') : Turn hb sb g w w'.drew := ⟨h.size, h.block⟩
theorem Turn.heap {hb sb g : Nat} {w w' w'' : World} (h : Turn hb sb g w w') (K : Kept hb g w' w'') : Turn hb sb g w w'' :=
  ⟨Nat.le_trans h.size K.size, fun k hk h1 h2 h3 h4 => (K.block k (Nat.lt_of_lt_of_le hk h.size) h1 h2).trans (h.block k hk h1 h2 h3 h4)⟩
end Go.Proofs.Ytkcehbnmcdppkaa

/- The rounds over the neighbours of the lowest cell: what is known between two of them. -/
namespace Go.Proofs.Ytkcehbnmcdppkaa
open Go.RowKit Fl Go.Shelf
set_option linter.unusedVariables false

theorem Doing.of {g : Gnd} {s : Nat → Nat} {R : Nat → Bool} {c : Nat → Nat} {m : Nat} {D : Nat → Prop} {rk : Nat → Nat} {t x : Nat} {P P' : Nat → Prop} (F : Doing g s R c m D rk t x P) (h : ∀ e, P' e → P e) : Doing g s R c m D rk t x P' := ⟨F.f, F.x1, F.x2, fun e he => F.upto e (h e he)⟩
def didB {W H x0 : Nat} (pre : List (Nb W H x0)) (e : Nat) : Prop := ∃ z ∈ pre, z.1.1 = e
theorem did_snoc {W H x0 : Nat} {pre : List (Nb W H x0)} {x : Nb W H x0} {e : Nat} (h : didB (pre ++ [x]) e) : didB pre e ∨ e = x.1.1 := by
  obtain ⟨z, hz, rfl⟩ := h
  rcases List.mem_append.1 hz with h | h
  · exact .inl ⟨z, h, rfl⟩
  · right; rw [List.mem_singleton.1 h]
theorem did_all {W H x0 : Nat} {xs : List (Nb W H x0)} (h : xs.map (fun z => z.1) = nbrs W H x0 8) {e m : Nat} (he : e < 8) (hm : nbI W H x0 e = some m) : didB xs e := by
  have := nbrs_mem he hm
  rw [← h] at this
  obtain ⟨z, hz, q⟩ := List.mem_map.1 this
  exact ⟨z, hz, by rw [q]⟩

theorem Marks.kept' {lo : Nat} {w w' : World} {ds : List Deferred} (h : Marks lo w ds) (hk : ∀ e ∈ ds, ∀ D, e.target = .collected D → w.heap[D]? = some (.deferred (some [])) → w'.heap[D]? = some (.deferred (some []))) : Marks lo w' ds := by
  induction ds with
  | nil => trivial
  | cons d ds ih =>
    obtain ⟨⟨D, h1, h2, h3, h4⟩, h5⟩ := h
    exact ⟨⟨D, h1, h2, hk d (List.mem_cons_self ..) D (by rw [h1]) h3, h4⟩, ih h5 fun e he => hk e (List.mem_cons_of_mem _ he)⟩

set_option maxRecDepth 100000 in
/-- A frame of 98 slots, written out. -/
theorem slots98 (t : Array Value) (h : t.size = 98) : ∃ u : Nat → Value, t = #[u 0, u 1, u 2, u 3, u 4, u 5, u 6, u 7, u 8, u 9, u 10, u 11, u 12, u 13, u 14, u 15, u 16, u 17, u 18, u 19, u 20, u 21, u 22, u 23, u 24, u 25, u 26, u 27, u 28, u 29, u 30, u 31, u 32, u 33, u 34, u 35, u 36, u 37, u 38, u 39, u 40, u 41, u 42, u 43, u 44, u 45, u 46, u 47, u 48, u 49, u 50, u 51, u 52, u 53, u 54, u 55, u 56, u 57, u 58, u 59, u 60, u 61, u 62, u 63, u 64, u 65, u 66, u 67, u 68, u 69, u 70, u 71, u 72, u 73, u 74, u 75, u 76, u 77, u 78, u 79, u 80, u 81, u 82, u 83, u 84, u 85, u 86, u 87, u 88, u 89, u 90, u 91, u 92, u 93, u 94, u 95, u 96, u 97] := by
  refine ⟨fun i => t.getD i undef, ?_⟩
  have e : ∀ u : Nat → Value, (#[u 0, u 1, u 2, u 3, u 4, u 5, u 6, u 7, u 8, u 9, u 10, u 11, u 12, u 13, u 14, u 15, u 16, u 17, u 18, u 19, u 20, u 21, u 22, u 23, u 24, u 25, u 26, u 27, u 28, u 29, u 30, u 31, u 32, u 33, u 34, u 35, u 36, u 37, u 38, u 39, u 40, u 41, u 42, u 43, u 44, u 45, u 46, u 47, u 48, u 49, u 50, u 51, u 52, u 53, u 54, u 55, u 56, u 57, u 58, u 59, u 60, u 61, u 62, u 63, u 64, u 65, u 66, u 67, u 68, u 69, u 70, u 71, u 72, u 73, u 74, u 75, u 76, u 77, u 78, u 79, u 80, u 81, u 82, u 83, u 84, u 85, u 86, u 87, u 88, u 89, u 90, u 91, u 92, u 93, u 94, u 95, u 96, u 97] : Array Value) = ((List.range 98).map u).toArray := fun u => rfl
  refine Eq.trans ?_ (e fun i => t.getD i undef).symm
  apply Array.ext
  · simp [h]
  · intro i h1 h2
    simp [Array.getD, h1]

end Go.Proofs.Ytkcehbnmcdppkaa

/- Contract: leastSpills. -/
namespace Go.Proofs.Ytkcehbnmcdppkaa
open Go.RowKit Fl Go.Shelf
set_option linter.unusedVariables false
attribute [local go_sem] Oper.semAt_some

end Go.Proofs.Ytkcehbnmcdppkaa

/- Contracts: water's byCell, whatever function it is given; Filled over a right field and slope. -/
namespace Go.Proofs.Ytkcehbnmcdppkaa
open Go.RowKit Fl Go.Shelf
set_option linter.unusedVariables false

theorem Clos1.stay {g : Nat} {caps : Array Value} {n : Nat} {f : Nat → Nat} {w w' : World} (h : Clos1 g caps n f w) (hb : Below w.heap.size w w') : Clos1 g caps n f w' :=
  fun i W' h1 hb' => h i W' h1 (hb.trans (hb'.mono hb.size))

/-- A function of a cell's number in a box. -/
abbrev fn1Obj (g : Nat) (caps : Array Value) : Obj := .cells #[.func (.func g) #[] caps] 94

/-- A list of singles in a box. -/
abbrev rowO (b n cap : Nat) : Obj := .cells #[.slice (some ⟨b, 0, none⟩) n cap] 39

set_option maxHeartbeats 1000000 in
theorem check_off (X Y : Int) (W H n b off cap : Nat) (v : Nat → Nat) (w : World) (h0 : checkR X Y W H = 0) (hn : n = W * H) (hc : FlAt w b off n v) (hh : allB n (fun i => hgtB (v i)) = true) :
    Calls Try.prog 87 #[fldV X Y W H (.slice (some ⟨b, off, none⟩) n cap)] w fun e w' => e = .returned (.int .i64 0) ∧ Below w.heap.size w w' := by
  have HH := Lib.hid (fldE_zero.2 hh)
  obtain ⟨b1, b2, b3, b4, b5, _⟩ := checkR_zero h0
  have en : wrap64 ((W : Int) * (H : Int)) = (n : Int) := by
    have : ((W : Int) * (H : Int)) = (n : Int) := by rw [hn]; simp
    rw [this]; rw [this] at b5; exact IntWalk.wrap64_in _ ⟨by omega, by omega⟩
  have hn2 : n ≤ 65536 := by
    have : ((W : Int) * (H : Int)) = (n : Int) := by rw [hn]; simp
    omega
  have h1 : 1 ≤ n := by
    have := Nat.mul_pos (by omega : 0 < W) (by omega : 0 < H)
    omega
  have hlt : b < w.heap.size := World.block_lt_of_cell? w _ (hc 0 h1)
  have CH := Lib.hid (fun W' (hb : Below w.heap.size w W') => CheckHeights_row b off cap n v (by omega) W' (flAt_congr hc (hb.block _ hlt)))
  rw [HH.out] at CH
  have RC := Lib.hid (fun w => checkRegion_any X Y W H w)
  rw [h0] at RC
  clear hn hc hh h0 b5
  go_enter Try.func87, Try.ntmps87
  go_wp2_with (first | (go_at_call 84; refine (RC.out _).mono ?_; rintro e w' ⟨rfl, rfl⟩) | (go_at_call 76; refine (CH.out _ (by repeat (first | exact Below.refl _ _ | refine Below.alloc ?_ (by first | omega | (simp; done) | (simp; omega)) _ | refine Below.setCell ?_ (by first | omega | (simp; done) | (simp; omega)) _ | refine Below.drew ?_))).mono ?_; rintro e w' ⟨rfl, rfl⟩))
  go_ret
  exact ⟨rfl, (by repeat (first | exact Below.refl _ _ | refine Below.alloc ?_ (by first | omega | (simp; done) | (simp; omega)) _ | refine Below.setCell ?_ (by first | omega | (simp; done) | (simp; omega)) _ | refine Below.drew ?_))⟩

/-- What Filled answers over a right field and slope. -/
def FilledPost (w : World) (X Y : Int) (W H n : Nat) (v : Nat → Nat) (sl : Nat) (e : Ending) (w' : World) : Prop := ∃ s, Spills (gndOf W H v sl) s ∧ MadePost w X Y W H n s e w'

end Go.Proofs.Ytkcehbnmcdppkaa

/- Contracts: searchOf of a right field and ray; HitBounds of boxes that are not those of the field. -/
namespace Go.Proofs.Ytkcehbnmcdppkaa
open Go.RowKit Fl
set_option linter.unusedVariables false

set_option maxHeartbeats 1000000 in
set_option maxRecDepth 100000 in
theorem searchOf_ok (X Y W H : Int) (s : Value) (c : Cam) (w : World)
    (CK : ∀ W', Below w.heap.size w W' → Calls Try.prog 87 #[fldV X Y W H s] W' fun e w' => e = .returned (.int .i64 0) ∧ Below W'.heap.size W' w') (h0 : rayE c = 0) :
    Calls Try.prog 104 #[fldV X Y W H s, .agg c.vs] w fun e w' => ∃ p, e = .returned (.tuple #[.pointer (some ⟨p, 0, none⟩), .int .i64 0]) ∧ Below w.heap.size w w' := by
  have CK' := Lib.hid CK
  have RY := Lib.hid (fun w => checkRay_any c w)
  rw [h0] at RY
  clear CK h0
  obtain ⟨cx, cy, ch, cdx, cdy, cdh, cz⟩ := c
  go_enter Try.func104, Try.ntmps104
  go_wp2_with (first
    | (go_at_call 87; (with_reducible refine Calls.mono (CK'.out _ (by repeat (first | exact Below.refl _ _ | refine Below.alloc ?_ (by first | omega | (simp; done) | (simp; omega)) _ | refine Below.setCell ?_ (by first | omega | (simp; done) | (simp; omega)) _ | refine Below.drew ?_))) ?_); rintro e w1 ⟨rfl, hb1⟩; have HF1 := Lib.hid (blkStay (b := w.heap.size) (o := fldO X Y W H s) (by (first | (rw [heap_alloc_get, if_pos rfl]; done) | ((simp only [heap_alloc_get, heap_size_alloc, if_true]) <;> ((repeat' split) <;> first | rfl | omega)))) hb1); have HC1 := Lib.hid (blkStay (b := w.heap.size + 1) (o := .cells #[.float .f32 cx, .float .f32 cy, .float .f32 ch, .float .f32 cdx, .float .f32 cdy, .float .f32 cdh, .float .f32 cz] 65) (by (first | (rw [heap_alloc_get, if_pos rfl]; done) | ((simp only [heap_alloc_get, heap_size_alloc, if_true]) <;> ((repeat' split) <;> first | rfl | omega)))) hb1); have B1 := Lib.hid (Below.trans (show Below w.heap.size w _ from (by repeat (first | exact Below.refl _ _ | refine Below.alloc ?_ (by first | omega | (simp; done) | (simp; omega)) _ | refine Below.setCell ?_ (by first | omega | (simp; done) | (simp; omega)) _ | refine Below.drew ?_))) (hb1.mono (by first | omega | (simp; done) | (simp; omega)))); clear hb1; obtain ⟨cF, fF, zF⟩ := blkC HF1.out; obtain ⟨cC, fC, zC⟩ := blkC HC1.out)
    | (go_at_call 148; (with_reducible refine Calls.mono (RY.out _) ?_); rintro e w2 ⟨rfl, hb2⟩; have HF2 := Lib.hid (blkStay HF1.out hb2); have HC2 := Lib.hid (blkStay HC1.out hb2); have B2 := Lib.hid (B1.out.trans (hb2.mono B1.out.size)); clear hb2 cF fF zF cC fC zC; obtain ⟨cF, fF, zF⟩ := blkC HF2.out; obtain ⟨cC, fC, zC⟩ := blkC HC2.out))
  refine bodyPost_ret (v := .tuple #[.pointer (some ⟨w2.heap.size, 0, none⟩), .int .i64 0]) (by simp [results, Try.results104, go_sem]) rfl ⟨_, rfl, B2.out.alloc B2.out.size _⟩

/-- This is the list of a field's boxes, m in all. -/
def IsBx (v : Nat → Nat) (W H m : Nat) (T : Nat → BxR) : Prop := ∃ l, m = ofN W H (l + 1) ∧ l ≤ 9 ∧ lvN W H l = 1 ∧ (∀ l', l' < l → lvN W H l' ≠ 1) ∧ BxsTo v W H (l + 1) 0 T

abbrev zeroStrike : Value := .agg #[.int .i64 0, .int .i64 0, .float .f32 0]

set_option maxHeartbeats 2000000 in
set_option maxRecDepth 100000 in
theorem hitBounds_no (X Y : Int) (W H b off cap n : Nat) (v : Nat → Nat) (c : Cam) (w : World) (a : Option Addr) (ln lc : Nat)
    (h0 : checkR X Y W H = 0) (hn : n = W * H) (hr : FlAt w b off n v) (hh : allB n (fun i => hgtB (v i)) = true) (hcap : n ≤ cap) (hc : rayE c = 0)
    (EQ : ∀ (W' : World) (g c2 m : Nat) (T : Nat → BxR), Below w.heap.size w W' → BxRow W' g m T → IsBx v W H m T →
      Calls Try.prog 105 #[.slice a ln lc, .slice (some ⟨g, 0, none⟩) m c2] W' fun e w' => e = .returned (.bool false) ∧ Below W'.heap.size W' w') :
    Calls Try.prog 47 #[fldV X Y W H (.slice (some ⟨b, off, none⟩) n cap), .slice a ln lc, .agg c.vs] w fun e w' => e = .returned (.tuple #[zeroStrike, .bool false, .int .i64 0, .int .i64 2]) ∧ Below w.heap.size w w' := by
  obtain ⟨b1, b2, b3, b4, b5, b6, b7, b8, b9⟩ := checkR_zero h0
  have hn1 : 1 ≤ n := by rw [hn]; exact Nat.mul_pos (by omega) (by omega)
  have zb : b < w.heap.size := World.block_lt_of_cell? w _ (hr 0 hn1)
  have SO := Lib.hid (fun W' (hB : Below w.heap.size w W') => searchOf_ok X Y W H (.slice (some ⟨b, off, none⟩) n cap) c W' (fun W'' hB2 => check_off X Y W H n b off cap v W'' h0 hn (flAt_congr hr ((hB.trans (hB2.mono hB.size)).block b zb)) hh) hc)
  have BO := Lib.hid (fun W' (hB : Below w.heap.size w W') => boundsOf_any X Y W H b off cap n v W' h0 hn (flAt_congr hr (hB.block b zb)) hh hcap)
  have EQ' := Lib.hid EQ
  have RS := fun (w : World) (a : Addr) (m : Mode) k b => run_store_float (P := Try.prog) (w := w) (a := a) (m := m) k b
  clear EQ h0 hn hr hh hcap hc b1 b2 b3 b4 b5 b6 b7 b8 b9 hn1 zb
  obtain ⟨cx, cy, ch, cdx, cdy, cdh, cz⟩ := c
  go_enter Try.func47, Try.ntmps47
  go_wp2_with (first
    | (go_at_call 104; (with_reducible refine Calls.mono (SO.out _ (by repeat (first | exact Below.refl _ _ | refine Below.alloc ?_ (by first | omega | (simp; done) | (simp; omega)) _ | refine Below.setCell ?_ (by first | omega | (simp; done) | (simp; omega)) _ | refine Below.drew ?_))) ?_); rintro e w1 ⟨p, rfl, hb1⟩; have HF1 := Lib.hid (blkStay (b := w.heap.size) (o := fldO X Y W H (.slice (some ⟨b, off, none⟩) n cap)) (by (first | (rw [heap_alloc_get, if_pos rfl]; done) | ((simp only [heap_alloc_get, heap_size_alloc, if_true]) <;> ((repeat' split) <;> first | rfl | omega)))) hb1); have HS1 := Lib.hid (blkStay (b := w.heap.size + 2) (o := .cells #[.int .i64 0, .int .i64 0, .float .f32 0] 75) (by (first | (rw [heap_alloc_get, if_pos rfl]; done) | ((simp only [heap_alloc_get, heap_size_alloc, if_true]) <;> ((repeat' split) <;> first | rfl | omega)))) hb1); have B1 := Lib.hid (Below.trans (show Below w.heap.size w _ from (by repeat (first | exact Below.refl _ _ | refine Below.alloc ?_ (by first | omega | (simp; done) | (simp; omega)) _ | refine Below.setCell ?_ (by first | omega | (simp; done) | (simp; omega)) _ | refine Below.drew ?_))) (hb1.mono (by first | omega | (simp; done) | (simp; omega)))); clear hb1; obtain ⟨cF, fF, zF⟩ := blkC HF1.out; obtain ⟨cS, fS, zS⟩ := blkC HS1.out)
    | (go_at_call 106; (with_reducible refine Calls.mono (BO.out _ B1.out) ?_); rintro e w2 ⟨g, c2, l, T, rfl, hg, hl, hl1, hl2, hrow, hto, hb2⟩; have HROW := Lib.hid hrow; have HIS := Lib.hid (show IsBx v W H (ofN W H (l + 1)) T from ⟨l, rfl, hl, hl1, hl2, hto⟩); have HS2 := Lib.hid (blkStay HS1.out hb2); have B2 := Lib.hid (B1.out.trans (hb2.mono B1.out.size)); clear hb2 hg hl hl1 hl2 hrow hto cF fF zF cS fS zS; obtain ⟨cS, fS, zS⟩ := blkC HS2.out)
    | (go_at_call 105; (with_reducible refine Calls.mono (EQ'.out _ _ _ _ _ B2.out HROW.out HIS.out) ?_); rintro e w3 ⟨rfl, hb3⟩; have HS3 := Lib.hid (blkStay HS2.out hb3); have B3 := Lib.hid (B2.out.trans (hb3.mono B2.out.size)); clear hb3 cS fS zS; obtain ⟨cS, fS, zS⟩ := blkC HS3.out))
  have h1 := heap_setCell_same w3 (w.heap.size + 2) 0 _ _ (.int .i64 0) HS3.out
  have h2 := heap_setCell_same _ (w.heap.size + 2) 1 _ _ (.int .i64 0) h1
  have h3 := heap_setCell_same _ (w.heap.size + 2) 2 _ _ (.float .f32 0) h2
  have BE : Below w.heap.size w (((w3.setCell ⟨w.heap.size + 2, 0, none⟩ (.int .i64 0)).setCell ⟨w.heap.size + 2, 1, none⟩ (.int .i64 0)).setCell ⟨w.heap.size + 2, 2, none⟩ (.float .f32 0)) := by
    repeat (first | exact B3.out | refine Below.setCell ?_ (by simp) _)
  obtain ⟨cE, fE, zE⟩ := blkC h3
  clear cS fS zS HS1 HS2 HS3
  refine bodyPost_ret (v := .tuple #[zeroStrike, .bool false, .int .i64 0, .int .i64 2]) (by simp [results, Try.results47, go_sem, cE]) rfl ⟨rfl, BE⟩
end Go.Proofs.Ytkcehbnmcdppkaa

/- Two words of one value that is not nought are one word. -/
namespace Go.Proofs.Ytkcehbnmcdppkaa.Fl
open Ieee

theorem binS : single.binade = 8388608 := by decide
theorem infS : single.infRung = 2139095040 := by decide
theorem lpS : single.leastPlace = -149 := by decide

/-- The digits and the place of a rung. -/
def rgM (r : Nat) : Nat := if r < 8388608 then r else 8388608 + r % 8388608
def rgE (r : Nat) : Nat := if r < 8388608 then 925 else 924 + r / 8388608
theorem rgM_lt (r : Nat) : rgM r < 16777216 := by unfold rgM; split <;> omega
theorem rgE_le (r : Nat) : 925 ≤ rgE r := by unfold rgE; split <;> omega
theorem rgM_ge {r : Nat} (h : 925 < rgE r) : 8388608 ≤ rgM r := by
  unfold rgE at h
  unfold rgM
  split at h
  · omega
  · rename_i q; rw [if_neg q]; omega
theorem rg_inj {r t : Nat} (h : rgM r * 2 ^ rgE r = rgM t * 2 ^ rgE t) : r = t := by
  have key : ∀ r t, rgE r < rgE t → rgM r * 2 ^ rgE r = rgM t * 2 ^ rgE t → False := by
    intro r t hlt h
    have e : 2 ^ rgE t = 2 ^ (rgE t - rgE r - 1) * 2 * 2 ^ rgE r := by rw [← Nat.pow_succ, ← Nat.pow_add]; congr 1; omega
    have p := Nat.two_pow_pos (rgE r)
    have p2 := Nat.two_pow_pos (rgE t - rgE r - 1)
    rw [e, ← Nat.mul_assoc] at h
    have h2 := Nat.eq_of_mul_eq_mul_right p h
    have mt := rgM_ge (show 925 < rgE t by have := rgE_le r; omega)
    have mr := rgM_lt r
    have : 8388608 * 2 ≤ rgM t * (2 ^ (rgE t - rgE r - 1) * 2) := Nat.mul_le_mul mt (by omega)
    omega
  rcases Nat.lt_trichotomy (rgE r) (rgE t) with c | c | c
  · exact (key r t c h).elim
  · rw [c] at h
    have h2 := Nat.eq_of_mul_eq_mul_right (Nat.two_pow_pos _) h
    unfold rgM at h2
    unfold rgE at c
    split at h2 <;> split at h2 <;> simp_all <;> omega
  · exact (key t r c h.symm).elim

theorem read_rung {x : Nat} {a : Int} (hx : x < 4294967296) (h : vS x = some a) : ∃ (s : Bool) (r : Nat), x = s.toNat * 2147483648 + r ∧ a = (if s then -1 else 1) * ((rgM r * 2 ^ rgE r : Nat) : Int) := by
  obtain ⟨s, m, p, e, rfl⟩ := vS_some h
  refine ⟨x / 2147483648 % 2 == 1, x % 2147483648, ?_, ?_⟩
  · have : x / 2147483648 < 2 := by omega
    have q : x / 2147483648 = 0 ∨ x / 2147483648 = 1 := by omega
    rcases q with q | q <;> rw [q] <;> simp <;> omega
  · unfold Format.read at e
    simp only [swS, binS, infS, lpS] at e
    rw [vOf_mag]
    split at e
    · rename_i c
      cases e
      have h1 : rgM (x % 2147483648) = x % 2147483648 := by unfold rgM; rw [if_pos c]
      have h2 : rgE (x % 2147483648) = (-149 + 1074 : Int).toNat := by unfold rgE; rw [if_pos c]; decide
      rw [h1, h2]
    · rename_i c
      split at e
      · cases e
        unfold rgM rgE
        rw [if_neg c, if_neg c]
        congr 4
        omega
      · split at e <;> cases e

/-- One value that is not 0, one word. -/
theorem word_inj {x y : Nat} {a : Int} (hx : x < 4294967296) (hy : y < 4294967296) (vx : vS x = some a) (vy : vS y = some a) (ha : a ≠ 0) : x = y := by
  obtain ⟨s, r, rfl, e1⟩ := read_rung hx vx
  obtain ⟨t, q, rfl, e2⟩ := read_rung hy vy
  rw [e1] at e2
  generalize hR : rgM r * 2 ^ rgE r = R at *
  generalize hQ : rgM q * 2 ^ rgE q = Q at *
  have hst : s = t ∧ R = Q := by
    cases s <;> cases t <;> simp at e1 e2 ⊢ <;> omega
  obtain ⟨rfl, h⟩ := hst
  rw [rg_inj (hR.trans (h.trans hQ.symm))]
end Go.Proofs.Ytkcehbnmcdppkaa.Fl

/- Doubles cut to whole numbers: the words that math.trunc and math.floor make, and their values. -/
namespace Go.Proofs.Ytkcehbnmcdppkaa.Fl
open Ieee

/-- The value of a finite double in units of 2 ^ -1074. -/
def vD (x : Nat) : Option Int := match double.read x with | .number s m p => some (vOf s m p) | _ => none
theorem vD_num {x : Nat} {s : Bool} {m : Nat} {p : Int} (h : double.read x = .number s m p) : vD x = some (vOf s m p) := by unfold vD; rw [h]
theorem vD_some {x : Nat} {a : Int} (h : vD x = some a) : ∃ s m p, double.read x = .number s m p ∧ vOf s m p = a := by
  unfold vD at h
  split at h
  · rename_i s m p e
    exact ⟨s, m, p, e, Option.some.inj h⟩
  · cases h

/-- 2 ^ 63 and 2 ^ 52 behind names. -/
def s63 : Nat := 9223372036854775808
def b52 : Nat := 4503599627370496
theorem s63_eq : s63 = 2048 * b52 := rfl
theorem b52_pos : 0 < b52 := by decide
theorem swD' : double.signWeight = s63 := by decide
theorem bnD : double.binade = b52 := by decide
theorem infD : double.infRung = 2047 * b52 := by decide
theorem lpD : double.leastPlace = -1074 := by decide

/-- A double by its sign, its exponent field and its fraction field. -/
theorem read_parts {s E f : Nat} (hs : s ≤ 1) (hE : E < 2047) (hf : f < b52) :
    double.read (s * s63 + E * b52 + f) = if E = 0 then .number (s == 1) f (-1074) else .number (s == 1) (b52 + f) ((E : Int) - 1075) := by
  have hlt : E * b52 + f < s63 := by
    rw [s63_eq]
    have : E * b52 ≤ 2046 * b52 := Nat.mul_le_mul_right _ (by omega)
    omega
  have p63 : 0 < s63 := by decide
  have h1 : (s * s63 + E * b52 + f) / s63 = s := by
    rw [Nat.add_assoc, Nat.mul_comm, Nat.mul_add_div p63, Nat.div_eq_of_lt hlt]; rfl
  have h2 : (s * s63 + E * b52 + f) % s63 = E * b52 + f := by
    rw [Nat.add_assoc, Nat.mul_comm, Nat.mul_add_mod, Nat.mod_eq_of_lt hlt]
  have h3 : (E * b52 + f) / b52 = E := by
    rw [Nat.mul_comm, Nat.mul_add_div b52_pos, Nat.div_eq_of_lt hf]; rfl
  have h4 : (E * b52 + f) % b52 = f := by
    rw [Nat.mul_comm, Nat.mul_add_mod, Nat.mod_eq_of_lt hf]
  have h5 : (s % 2 == 1) = (s == 1) := by rw [Nat.mod_eq_of_lt (by omega)]
  unfold Format.read
  rw [swD', bnD, infD, lpD]
  simp only [h1, h2, h3, h4, h5]
  by_cases z : E = 0
  · subst z
    rw [if_pos (by omega), if_pos rfl]; simp
  · rw [if_neg (by have : b52 ≤ E * b52 := Nat.le_mul_of_pos_left _ (by omega); omega), if_pos (by
      have : E * b52 ≤ 2046 * b52 := Nat.mul_le_mul_right _ (by omega)
      omega), if_neg z]
    congr 1
    omega

/-- Its magnitude. -/
def magOf (E f : Nat) : Nat := if E = 0 then f else (b52 + f) * 2 ^ (E - 1)
theorem vD_parts {s E f : Nat} (hs : s ≤ 1) (hE : E < 2047) (hf : f < b52) : vD (s * s63 + E * b52 + f) = some ((if s = 1 then -1 else 1) * ((magOf E f : Nat) : Int)) := by
  have h := read_parts hs hE hf
  unfold magOf
  by_cases z : E = 0
  · rw [if_pos z] at h ⊢
    rw [vD_num h]; unfold vOf; rw [signed_eq]
    simp
  · rw [if_neg z] at h ⊢
    rw [vD_num h]; unfold vOf; rw [signed_eq]
    rw [show ((E : Int) - 1075 + 1074).toNat = E - 1 by omega]
    simp

/-- Every finite double is so. -/
theorem parts_of {X : Nat} {a : Int} (hX : X < 2 * s63) (h : vD X = some a) : ∃ s E f, s ≤ 1 ∧ E < 2047 ∧ f < b52 ∧ X = s * s63 + E * b52 + f := by
  refine ⟨X / s63, X % s63 / b52, X % s63 % b52, ?_, ?_, Nat.mod_lt _ b52_pos, ?_⟩
  · have := Nat.div_lt_of_lt_mul (show X < s63 * 2 by omega); omega
  · rcases Nat.lt_or_ge (X % s63 / b52) 2047 with c | c
    · exact c
    · exfalso
      have d := Nat.div_add_mod (X % s63) b52
      have e : 2047 * b52 ≤ X % s63 := by
        have h1 : b52 * 2047 ≤ b52 * (X % s63 / b52) := Nat.mul_le_mul_left _ c
        rw [Nat.mul_comm]
        exact Nat.le_trans h1 (Nat.mul_div_le _ _)
      unfold vD Format.read at h
      rw [swD', bnD, infD] at h
      simp only at h
      rw [if_neg (by have := b52_pos; omega), if_neg (by omega)] at h
      split at h
      · rename_i q; split at q <;> cases q
      · cases h
  · have d := Nat.div_add_mod (X % s63) b52
    have e := Nat.div_add_mod X s63
    rw [Nat.mul_comm] at d e
    omega

/-- Cut towards zero: the word. -/
def truncW (X : Nat) : Nat :=
  if X % s63 / b52 < 1023 then X / s63 * s63 else if X % s63 / b52 < 1075 then X - X % 2 ^ (1075 - X % s63 / b52) else X

theorem parts_div {s E f : Nat} (hE : E < 2047) (hf : f < b52) : (s * s63 + E * b52 + f) / s63 = s ∧ (s * s63 + E * b52 + f) % s63 / b52 = E ∧ (s * s63 + E * b52 + f) % s63 = E * b52 + f := by
  have hlt : E * b52 + f < s63 := by
    rw [s63_eq]
    have : E * b52 ≤ 2046 * b52 := Nat.mul_le_mul_right _ (by omega)
    omega
  have p63 : 0 < s63 := by decide
  have h2 : (s * s63 + E * b52 + f) % s63 = E * b52 + f := by
    rw [Nat.add_assoc, Nat.mul_comm, Nat.mul_add_mod, Nat.mod_eq_of_lt hlt]
  refine ⟨?_, ?_, h2⟩
  · rw [Nat.add_assoc, Nat.mul_comm, Nat.mul_add_div p63, Nat.div_eq_of_lt hlt]; rfl
  · rw [h2, Nat.mul_comm, Nat.mul_add_div b52_pos, Nat.div_eq_of_lt hf]; rfl

theorem mag_small {E f : Nat} (hE : E < 1023) (hf : f < b52) : magOf E f < one := by
  obtain ⟨j, hj⟩ : ∃ j : Nat, j = 1021 := ⟨_, rfl⟩
  have eo : one = 2 * b52 * 2 ^ j := by rw [one_split (a := 53) (j := j) (by omega)]; rfl
  unfold magOf
  split
  · rw [eo]
    have : 1 ≤ 2 ^ j := Nat.two_pow_pos j
    have := Nat.mul_le_mul_left (2 * b52) this
    omega
  · rw [eo]
    have a : 2 ^ (E - 1) ≤ 2 ^ j := Nat.pow_le_pow_right (by omega) (by omega)
    exact Nat.lt_of_le_of_lt (Nat.mul_le_mul_left _ a) (Nat.mul_lt_mul_of_pos_right (by omega) (Nat.two_pow_pos j))
theorem mag_great {E f : Nat} (hE : 1023 ≤ E) : one ≤ magOf E f := by
  obtain ⟨j, hj⟩ : ∃ j : Nat, j = 1022 := ⟨_, rfl⟩
  have eo : one = b52 * 2 ^ j := by rw [one_split (a := 52) (j := j) (by omega)]; rfl
  unfold magOf
  rw [if_neg (by omega), eo]
  have a : 2 ^ j ≤ 2 ^ (E - 1) := Nat.pow_le_pow_right (by omega) (by omega)
  exact Nat.mul_le_mul (by omega) a

theorem trunc_parts {s E f : Nat} (_ : s ≤ 1) (hE : E < 2047) (hf : f < b52) :
    ∃ E' f', E' < 2047 ∧ f' < b52 ∧ truncW (s * s63 + E * b52 + f) = s * s63 + E' * b52 + f' ∧ magOf E' f' = magOf E f / one * one ∧ (magOf E f < one → E' = 0 ∧ f' = 0) := by
  obtain ⟨h1, h2, h3⟩ := parts_div (s := s) hE hf
  unfold truncW
  rw [h1, h2]
  by_cases c : E < 1023
  · rw [if_pos c]
    refine ⟨0, 0, by omega, b52_pos, by omega, ?_, fun _ => ⟨rfl, rfl⟩⟩
    rw [Nat.div_eq_of_lt (mag_small c hf)]; simp [magOf]
  · rw [if_neg c]
    have hb := mag_great (f := f) (show 1023 ≤ E by omega)
    by_cases d : E < 1075
    · rw [if_pos d]
      obtain ⟨k, hk⟩ : ∃ k, k = 1075 - E := ⟨_, rfl⟩
      have hk52 : k ≤ 52 := by omega
      rw [← hk]
      have pk : 0 < 2 ^ k := Nat.two_pow_pos k
      have eb : b52 = 2 ^ k * 2 ^ (52 - k) := by rw [← Nat.pow_add, show k + (52 - k) = 52 by omega]; rfl
      have hm : (s * s63 + E * b52 + f) % 2 ^ k = f % 2 ^ k := by
        have : s * s63 + E * b52 + f = 2 ^ k * (2 ^ (52 - k) * (2048 * s + E)) + f := by
          rw [← Nat.mul_assoc, ← eb, s63_eq, Nat.mul_add]
          have : s * (2048 * b52) = b52 * (2048 * s) := by rw [Nat.mul_comm b52, Nat.mul_comm s, Nat.mul_assoc, Nat.mul_comm b52 s, ← Nat.mul_assoc]
          rw [this, Nat.mul_comm E]
        rw [this, Nat.mul_add_mod]
      have hr := Nat.mod_le f (2 ^ k)
      rw [hm]
      refine ⟨E, f - f % 2 ^ k, hE, by omega, by omega, ?_, fun c' => by omega⟩
      unfold magOf
      rw [if_neg (by omega), if_neg (by omega)]
      have eo : one = 2 ^ k * 2 ^ (E - 1) := one_split (by omega)
      have pE : 0 < 2 ^ (E - 1) := Nat.two_pow_pos _
      rw [eo, Nat.mul_div_mul_right _ _ pE, ← Nat.mul_assoc]
      refine congrArg (· * 2 ^ (E - 1)) ?_
      have dm := Nat.div_add_mod (b52 + f) (2 ^ k)
      have em : (b52 + f) % 2 ^ k = f % 2 ^ k := by rw [eb, Nat.mul_add_mod]
      rw [em, Nat.mul_comm] at dm
      omega
    · rw [if_neg d]
      refine ⟨E, f, hE, hf, rfl, ?_, fun c' => by omega⟩
      unfold magOf
      rw [if_neg (by omega)]
      obtain ⟨j, hj⟩ : ∃ j : Nat, j = 1074 := ⟨_, rfl⟩
      have : (b52 + f) * 2 ^ (E - 1) = (b52 + f) * 2 ^ (E - 1 - j) * one := by
        rw [one_pow hj, Nat.mul_assoc, ← Nat.pow_add]; congr 2; omega
      rw [this, Nat.mul_div_cancel _ one_pos]

end Go.Proofs.Ytkcehbnmcdppkaa.Fl

/- math.floor of doubles: its words and their values. -/
namespace Go.Proofs.Ytkcehbnmcdppkaa.Fl
open Ieee

theorem read_dbl_low {x : Nat} {s : Bool} {m : Nat} {p : Int} (h : double.read x = .number s m p) : -1074 ≤ p := by
  unfold Format.read at h
  rw [lpD] at h
  simp only at h
  split at h
  · cases h; omega
  · split at h
    · cases h; omega
    · split at h <;> cases h

theorem order_valD {x y : Nat} {a b : Int} (hx : vD x = some a) (hy : vD y = some b) : double.order x y = some (compare a b) := by
  obtain ⟨s, m, p, h1, rfl⟩ := vD_some hx
  obtain ⟨t, n, q, h2, rfl⟩ := vD_some hy
  unfold Format.order
  rw [h1, h2]
  exact order_num (read_dbl_low h1) (read_dbl_low h2)
theorem eql_valD {x y : Nat} {a b : Int} (hx : vD x = some a) (hy : vD y = some b) : (double.order x y == some .eq) = decide (a = b) := by rw [order_valD hx hy, some_beq, cmp_eq]
theorem lss_valD {x y : Nat} {a b : Int} (hx : vD x = some a) (hy : vD y = some b) : (double.order x y == some .lt) = decide (a < b) := by rw [order_valD hx hy, some_beq, cmp_lt]

theorem vD_word {sg : Bool} {V B : Nat} (hB : V < 2 ^ B) (hB' : B < 2098) : vD (wordAt double 0 sg V) = some ((if sg then -1 else 1) * ((rd double 0 V : Nat) : Int)) := by
  obtain ⟨M, I, q1, _, q3⟩ := read_val double sg (-1074) 0 leastD V (rungD_lt hB hB')
  rw [vD_num q1]; unfold vOf; rw [signed_eq]
  have e : (I - (-1074)).toNat = (I + 1074).toNat := by omega
  rw [e] at q3; rw [q3]

/-- A sum of doubles that is a double. -/
theorem vD_sum {s t : Bool} {m n : Nat} {i j : Int} {c : Int} {u k B : Nat} (hi : -1074 ≤ i) (hj : -1074 ≤ j) (hc : vOf s m i + vOf t n j = c) (hu : c.natAbs = u * 2 ^ k) (hu2 : u < 2 ^ 53) (hB : c.natAbs < 2 ^ B) (hB' : B < 2098) :
    ∃ r, ((Datum.number s m i).sum (.number t n j)).map double.write = some r ∧ vD r = some c := by
  obtain ⟨p, q, q1, q2, q3⟩ := sum_val (s := s) (t := t) (m := m) (n := n) hi hj
  rw [q1]
  refine ⟨_, rfl, ?_⟩
  show vD (double.nearest _ p q) = _
  rw [nearest_val double _ (-1074) 0 leastD p (p := q) q2, show (q - (-1074)).toNat = (q + 1074).toNat by omega, q3, hc, vD_word hB hB']
  rw [hu, rd_exact double 0 u k (by rw [fbD]; exact hu2) (by omega), ← hu]
  by_cases z : c = 0
  · rw [if_pos z, z]; simp
  · rw [if_neg z]
    by_cases z' : c < 0
    · simp [z']; omega
    · simp [z']; omega

theorem vD_add {x y : Nat} {a b c : Int} {u k B : Nat} (hx : vD x = some a) (hy : vD y = some b) (hc : a + b = c) (hu : c.natAbs = u * 2 ^ k) (hu2 : u < 2 ^ 53) (hB : c.natAbs < 2 ^ B) (hB' : B < 2098) :
    ∃ r, Go.floatBits .add .f64 x y = some r ∧ vD r = some c := by
  obtain ⟨s, m, p, h1, rfl⟩ := vD_some hx
  obtain ⟨t, n, q, h2, rfl⟩ := vD_some hy
  obtain ⟨r, e1, e2⟩ := vD_sum (read_dbl_low h1) (read_dbl_low h2) hc hu hu2 hB hB'
  refine ⟨r, ?_, e2⟩
  show ((double.read x).sum (double.read y)).map double.write = some r
  rw [h1, h2]; exact e1
theorem vD_sub {x y : Nat} {a b c : Int} {u k B : Nat} (hx : vD x = some a) (hy : vD y = some b) (hc : a - b = c) (hu : c.natAbs = u * 2 ^ k) (hu2 : u < 2 ^ 53) (hB : c.natAbs < 2 ^ B) (hB' : B < 2098) :
    ∃ r, Go.floatBits .sub .f64 x y = some r ∧ vD r = some c := by
  obtain ⟨s, m, p, h1, rfl⟩ := vD_some hx
  obtain ⟨t, n, q, h2, rfl⟩ := vD_some hy
  obtain ⟨r, e1, e2⟩ := vD_sum (s := s) (t := !t) (m := m) (n := n) (read_dbl_low h1) (read_dbl_low h2) (c := c) (by rw [vOf_opp, ← hc]; omega) hu hu2 hB hB'
  refine ⟨r, ?_, e2⟩
  show ((double.read x).sum (double.read y).opposite).map double.write = some r
  rw [h1, h2]; exact e1

/-- What is left behind the point has few enough digits. -/
theorem frac_form {E f : Nat} (hf : f < b52) : ∃ t j, t < 2 ^ 53 ∧ magOf E f % one = t * 2 ^ j := by
  have h53 : (2 : Nat) ^ 53 = 2 * b52 := rfl
  unfold magOf
  by_cases z : E = 0
  · rw [if_pos z]
    have : f < one := by
      have := mag_small (E := 0) (f := f) (by omega) hf
      simpa [magOf] using this
    exact ⟨f, 0, by omega, by rw [Nat.mod_eq_of_lt this]; simp⟩
  · rw [if_neg z]
    rcases Nat.lt_or_ge 1074 (E - 1) with c | c
    · refine ⟨0, 0, by omega, ?_⟩
      obtain ⟨j, hj⟩ : ∃ j : Nat, j = 1074 := ⟨_, rfl⟩
      have : (b52 + f) * 2 ^ (E - 1) = (b52 + f) * 2 ^ (E - 1 - j) * one := by
        rw [one_pow hj, Nat.mul_assoc, ← Nat.pow_add, show E - 1 - j + j = E - 1 by omega]
      rw [this, Nat.mul_mod_left, Nat.zero_mul]
    · obtain ⟨k, hk⟩ : ∃ k, k = 1074 - (E - 1) := ⟨_, rfl⟩
      have eo : one = 2 ^ k * 2 ^ (E - 1) := one_split (by omega)
      refine ⟨(b52 + f) % 2 ^ k, E - 1, ?_, by rw [eo, Nat.mul_mod_mul_right]⟩
      exact Nat.lt_of_le_of_lt (Nat.mod_le _ _) (by omega)

/-- Copysign as words. -/
def copyW (X Y : Nat) : Nat := X % s63 + Y / s63 * s63

/-- What math.floor does with a double that is no zero: the words of its steps. -/
structure FloorNeg (X T F G R : Nat) : Prop where
  d1 : truncW (X - s63) = T
  d2 : Go.floatBits .sub .f64 (X - s63) T = some F
  d3 : (double.order (copyW F (X - s63)) 0 == some .eq) = false → Go.floatBits .add .f64 T 4607182418800017408 = some G
  d4 : (double.order (copyW F (X - s63)) 0 == some .eq) = false → R = G + s63 ∧ G < s63
  d5 : (double.order (copyW F (X - s63)) 0 == some .eq) = true → R = T + s63 ∧ T < s63

theorem vD_oneW : vD 4607182418800017408 = some (one : Int) := by
  have := vD_parts (s := 0) (E := 1023) (f := 0) (by omega) (by omega) b52_pos
  have e : 0 * s63 + 1023 * b52 + 0 = 4607182418800017408 := by decide
  rw [e] at this
  rw [this]
  obtain ⟨j, hj⟩ : ∃ j : Nat, j = 1022 := ⟨_, rfl⟩
  have eo : one = b52 * 2 ^ j := by rw [one_split (a := 52) (j := j) (by omega)]; rfl
  unfold magOf
  rw [if_neg (by omega), eo, show 1023 - 1 = j by omega]; simp
theorem vD_zeroW : vD 0 = some 0 := by
  have := vD_parts (s := 0) (E := 0) (f := 0) (by omega) (by omega) b52_pos
  simpa [magOf] using this

theorem mag_lt {E f : Nat} (hE : E < 2047) (hf : f < b52) {B : Nat} (hB : B = 2098) : magOf E f < 2 ^ B := by
  obtain ⟨j, hj⟩ : ∃ j : Nat, j = 2045 := ⟨_, rfl⟩
  have h : 2 ^ B = 2 * b52 * 2 ^ j := by rw [show B = 53 + j by omega, Nat.pow_add]; rfl
  unfold magOf
  rw [h]
  split
  · have := Nat.mul_le_mul_left (2 * b52) (Nat.two_pow_pos j : 1 ≤ 2 ^ j)
    omega
  · exact Nat.lt_of_le_of_lt (Nat.mul_le_mul_left _ (Nat.pow_le_pow_right (by omega) (by omega) : 2 ^ (E - 1) ≤ 2 ^ j)) (Nat.mul_lt_mul_of_pos_right (by omega) (Nat.two_pow_pos j))

end Go.Proofs.Ytkcehbnmcdppkaa.Fl

/- Any single that is no NaN: sums, quotients, floors and levels of it (pure). -/
namespace Go.Proofs.Ytkcehbnmcdppkaa.Fl
open Ieee

theorem infS' : single.infRung = 2139095040 := by decide
theorem infD' : double.infRung = 9218868437227405312 := by decide
theorem binS' : single.binade = 8388608 := by decide

/-- A number or an infinity of the sign s. -/
def Sg (s : Bool) (x : Nat) : Prop := (∃ m p, single.read x = .number s m p) ∨ single.read x = .infinity s
/-- No NaN. -/
def Sgl' (x : Nat) : Prop := ∃ s, Sg s x

theorem read_inf (s : Bool) : single.read (single.word s single.infRung) = .infinity s := by cases s <;> decide
theorem read_infD (s : Bool) : double.read (double.word s double.infRung) = .infinity s := by cases s <;> decide
theorem read_le (s : Bool) (r : Nat) (h : r ≤ single.infRung) : Sg s (single.word s r) := by
  rcases Nat.lt_or_eq_of_le h with c | c
  · left
    rw [infS'] at c
    have e1 : (single.word s r / single.signWeight % 2 == 1) = s := by
      unfold Format.word; rw [swS]
      cases s with
      | false => simp; omega
      | true => simp; omega
    have e2 : single.word s r % single.signWeight = r := by
      unfold Format.word; rw [swS]
      cases s with
      | false => simp; omega
      | true => simp; omega
    unfold Format.read
    simp only [e1, e2, binS', infS']
    split
    · exact ⟨_, _, rfl⟩
    · first | exact ⟨_, _, rfl⟩ | (rw [if_pos c]; exact ⟨_, _, rfl⟩)
  · subst c; exact .inr (read_inf s)
theorem near_sg (s : Bool) (m : Nat) (p : Int) : Sg s (single.nearest s m p) := by
  unfold Format.nearest
  split
  · exact read_le s 0 (by omega)
  · exact read_le s _ (Nat.min_le_right _ _)

theorem op_near {d : Option Datum} (h : ∃ s m p, d = some (.number s m p)) : ∃ r, d.map single.write = some r ∧ Sgl' r := by
  obtain ⟨s, m, p, rfl⟩ := h
  exact ⟨single.nearest s m p, rfl, s, near_sg s m p⟩
theorem op_inf {d : Option Datum} (h : ∃ s, d = some (.infinity s)) : ∃ r, d.map single.write = some r ∧ Sgl' r := by
  obtain ⟨s, rfl⟩ := h
  exact ⟨single.word s single.infRung, rfl, s, .inr (read_inf s)⟩
theorem sub_sgl {x y : Nat} {a b : Int} (ha : vS x = some a) (hb : vS y = some b) : ∃ r, Go.floatBits .sub .f32 x y = some r ∧ Sgl' r := by
  obtain ⟨s, m, i, h1, -⟩ := vS_some ha
  obtain ⟨t, n, j, h2, -⟩ := vS_some hb
  show ∃ r, ((single.read x).sum (single.read y).opposite).map single.write = some r ∧ _
  rw [h1, h2]
  exact op_near ⟨_, _, _, rfl⟩
theorem add_sgl {x y : Nat} {b : Int} (ha : Sgl' x) (hb : vS y = some b) : ∃ r, Go.floatBits .add .f32 x y = some r ∧ Sgl' r := by
  obtain ⟨t, n, j, h2, -⟩ := vS_some hb
  show ∃ r, ((single.read x).sum (single.read y)).map single.write = some r ∧ _
  obtain ⟨s, ⟨m, i, h1⟩ | h1⟩ := ha
  · rw [h1, h2]
    exact op_near ⟨_, _, _, rfl⟩
  · rw [h1, h2]
    exact op_inf ⟨_, rfl⟩
theorem quo_sgl {x y : Nat} {b : Int} (ha : Sgl' x) (hb : vS y = some b) (hb0 : b ≠ 0) : ∃ r, Go.floatBits .quo .f32 x y = some r ∧ Sgl' r := by
  obtain ⟨t, n, j, h2, e⟩ := vS_some hb
  have hn : n ≠ 0 := by
    intro z; subst z; apply hb0; rw [← e, vOf_mag]; simp
  show ∃ r, ((single.read x).quotient (single.fractionBits + 2) (single.read y)).map single.write = some r ∧ _
  obtain ⟨s, ⟨m, i, h1⟩ | h1⟩ := ha
  · rw [h1, h2]
    refine op_near ?_
    unfold Datum.quotient
    simp only
    rw [if_neg hn]
    exact ⟨_, _, _, rfl⟩
  · rw [h1, h2]
    exact op_inf ⟨_, rfl⟩

/-- Truncation of what is not negative. -/
theorem toInt_floor {x : Nat} {a : Int} (h : vS x = some a) (h0 : 0 ≤ a) (hb : a / (one : Int) ≤ 1073741824) : Go.floatToIntVal .f32 x .i64 = some (a / (one : Int)) := by
  obtain ⟨s, m, p, e, hv⟩ := vS_some h
  have lo := (read_single e).low
  obtain ⟨A, hA⟩ : ∃ A, m * 2 ^ (p + 1074).toNat = A := ⟨_, rfl⟩
  have hs : a = (if s then -1 else 1) * (A : Int) := by rw [← hv, vOf_mag, hA]
  have hz : s = true → A = 0 := by
    intro c; subst c; simp at hs; omega
  have haA : a = (A : Int) := by
    cases s with
    | false => simpa using hs
    | true => rw [hz rfl] at hs ⊢; simpa using hs
  unfold Go.floatToIntVal
  have hd : Go.FloatKind.f32.decode x = .number s m p := e
  have ht : (Datum.number s m p).toInt .zero = some (a / (one : Int)) := by
    unfold Datum.toInt
    rw [integral_zero (s := s) (by omega) hA]
    show some (signed s (A / one) 0) = _
    rw [signed_eq, Nat.pow_zero, Nat.mul_one, haA]
    cases s with
    | false => simp
    | true => rw [hz rfl]; simp
  have hq : 0 ≤ a / (one : Int) := Int.ediv_nonneg h0 (by omega)
  rw [hd, ht]
  have e1 : Go.IntKind.i64.min = -9223372036854775808 := by decide
  have e2 : Go.IntKind.i64.max = 9223372036854775807 := by decide
  simp only [e1, e2]
  rw [if_pos ⟨by omega, by omega⟩]

/-- The double of an int that is not great. -/
theorem int_valD {n : Nat} (h : n < 2 ^ 53) : vD (Go.floatOfInt .f64 (n : Int)) = some ((n * one : Nat) : Int) := by
  obtain ⟨J, hJ⟩ : ∃ J : Nat, J = 1074 := ⟨_, rfl⟩
  have e : Go.floatOfInt .f64 (n : Int) = double.nearest (decide ((n : Int) < 0)) n 0 := rfl
  rw [e, show decide ((n : Int) < 0) = false by simp, nearest_val double false (-1074) 0 leastD n (p := 0) (by omega), show ((0 : Int) - (-1074)).toNat = J by omega, ← one_pow hJ]
  have hB : n * one < 2 ^ (53 + J) := by
    rw [Nat.pow_add, ← one_pow hJ]
    exact Nat.mul_lt_mul_of_pos_right h one_pos
  rw [vD_word hB (by omega), one_pow hJ, rd_exact double 0 n J (by rw [fbD]; exact h) (by omega)]
  simp

/-- The double of a single has its value. -/
theorem toD_val {x : Nat} {a : Int} (h : vS x = some a) : ∃ X, Go.floatToFloatBits .f32 x .f64 = some X ∧ vD X = some a := by
  obtain ⟨s, m, p, e, rfl⟩ := vS_some h
  obtain ⟨X, M, I, c1, c2, c3, c4, _⟩ := toD e
  exact ⟨X, c1, by rw [vD_num c2, vOf_mag, vOf_mag, c4]⟩

theorem geq_valD {x y : Nat} {a b : Int} (hx : vD x = some a) (hy : vD y = some b) : (double.order x y == some .gt || double.order x y == some .eq) = decide (b ≤ a) := by
  rw [order_valD hx hy, some_beq, some_beq, cmp_gt, cmp_eq, ← Bool.decide_or]
  exact decide_eq_decide.2 (by omega)
end Go.Proofs.Ytkcehbnmcdppkaa.Fl

/- Singles by their words; halves and shorts of them (pure). -/
namespace Go.Proofs.Ytkcehbnmcdppkaa.Fl
open Ieee

/-- The magnitude of a rung. -/
def rv (r : Nat) : Nat := rgM r * 2 ^ rgE r

theorem read_rungs (s : Bool) {r : Nat} (h : r < 2139095040) : single.read (s.toNat * 2147483648 + r) = .number s (rgM r) ((rgE r : Int) - 1074) := by
  have e1 : ((s.toNat * 2147483648 + r) / 2147483648 % 2 == 1) = s := by
    cases s with
    | false => simp; omega
    | true => simp; omega
  have e2 : (s.toNat * 2147483648 + r) % 2147483648 = r := by
    cases s with
    | false => simp; omega
    | true => simp; omega
  unfold Format.read
  simp only [swS, binS, infS, lpS, e1, e2]
  unfold rgM rgE
  split
  · rfl
  · congr 1
    omega
theorem vS_rung (s : Bool) {r : Nat} (h : r < 2139095040) : vS (s.toNat * 2147483648 + r) = some ((if s then -1 else 1) * ((rv r : Nat) : Int)) := by
  rw [vS_num (read_rungs s h), vOf_mag, show (((rgE r : Nat) : Int) - 1074 + 1074).toNat = rgE r by omega]
  rfl
theorem vS_pos {r : Nat} (h : r < 2139095040) : vS r = some ((rv r : Nat) : Int) := by
  have := vS_rung false h
  simpa using this

theorem rv_lt {r q : Nat} (h : r < q) : rv r < rv q := by
  unfold rv
  have p := Nat.two_pow_pos (rgE r)
  rcases Nat.lt_trichotomy (rgE r) (rgE q) with c | c | c
  · have mq := rgM_ge (show 925 < rgE q by have := rgE_le r; omega)
    have mr := rgM_lt r
    have e : 2 ^ rgE q = 2 ^ (rgE q - rgE r - 1) * 2 * 2 ^ rgE r := by rw [← Nat.pow_succ, ← Nat.pow_add]; congr 1; omega
    have p2 := Nat.two_pow_pos (rgE q - rgE r - 1)
    rw [e, ← Nat.mul_assoc]
    refine Nat.mul_lt_mul_of_pos_right ?_ p
    have : 8388608 * 2 ≤ rgM q * (2 ^ (rgE q - rgE r - 1) * 2) := Nat.mul_le_mul mq (by omega)
    omega
  · rw [c]
    refine Nat.mul_lt_mul_of_pos_right ?_ (Nat.two_pow_pos _)
    unfold rgM
    unfold rgE at c
    repeat' split at c
    all_goals (repeat' split)
    all_goals omega
  · exfalso
    unfold rgE at c
    repeat' split at c
    all_goals omega
theorem rv_le {r q : Nat} : rv r ≤ rv q ↔ r ≤ q := by
  constructor
  · intro h
    rcases Nat.lt_or_ge q r with c | c
    · have := rv_lt c; omega
    · exact c
  · intro h
    rcases Nat.lt_or_eq_of_le h with c | c
    · exact Nat.le_of_lt (rv_lt c)
    · rw [c]; exact Nat.le_refl _
theorem rv_lt' {r q : Nat} : rv r < rv q ↔ r < q := by
  have := @rv_le q r
  omega

/-- 2 ^ -24. -/
def u24 : Nat := 2 ^ (1050 : Int).toNat
theorem u24_pow {j : Nat} (h : j = 1050) : u24 = 2 ^ j := by unfold u24; exact congrArg (2 ^ ·) (by omega)
theorem u24_pos : 0 < u24 := Nat.two_pow_pos _
theorem one_u24 : one = 16777216 * u24 := by
  obtain ⟨j, hj⟩ : ∃ j : Nat, j = 1050 := ⟨_, rfl⟩
  rw [one_pow (j := 24 + j) (by omega), Nat.pow_add, u24_pow hj]
/-- The value of a half that is no infinity. -/
def hvM (r : Nat) : Nat := if r < 1024 then r * u24 else (1024 + r % 1024) * 2 ^ (1049 + r / 1024)
/-- The word of a half's magnitude. -/
def whW (r : Nat) : Nat := (Go.floatBits .mul .f32 (r * 8192) 2004877312).getD 0

theorem near_word (s : Bool) (m : Nat) (p : Int) : ∃ q, q ≤ single.infRung ∧ single.nearest s m p = single.word s q := by
  unfold Format.nearest
  split
  · exact ⟨0, by omega, rfl⟩
  · exact ⟨_, Nat.min_le_right _ _, rfl⟩

theorem mul_pos_word {x y : Nat} {a b : Nat} (ha : vS x = some (a : Int)) (hb : vS y = some (b : Int)) (hx : x < 2147483648) (hy : y < 2147483648) : ∃ r, Go.floatBits .mul .f32 x y = some r ∧ r ≤ 2139095040 := by
  obtain ⟨s, m, i, h1, -⟩ := vS_some ha
  obtain ⟨t, n, j, h2, -⟩ := vS_some hb
  have hs : ∀ {x : Nat} {s : Bool} {m : Nat} {i : Int}, x < 2147483648 → single.read x = .number s m i → s = false := by
    intro x s m i hx h
    unfold Format.read at h
    simp only [swS] at h
    have : (x / 2147483648 % 2 == 1) = false := by rw [Nat.div_eq_of_lt hx]; rfl
    rw [this] at h
    split at h
    · cases h; rfl
    · split at h
      · cases h; rfl
      · split at h <;> cases h
  obtain rfl := hs hx h1
  obtain rfl := hs hy h2
  obtain ⟨q, q1, q2⟩ := near_word (false ^^ false) (m * n) (i + j)
  refine ⟨q, ?_, by rw [infS] at q1; exact q1⟩
  show ((single.read x).product (single.read y)).map single.write = _
  rw [h1, h2]
  show some (single.nearest (false ^^ false) (m * n) (i + j)) = _
  rw [q2]; rfl

theorem vS_big {j : Nat} (hj : j = 1186) : vS 2004877312 = some ((2 ^ j : Nat) : Int) := by
  have h : single.read 2004877312 = .number false 8388608 89 := by decide
  rw [vS_num h, vOf_mag, show ((89 : Int) + 1074).toNat = j - 23 by omega]
  simp only [Bool.false_eq_true, if_false, Int.one_mul]
  congr 1
  have : (8388608 : Nat) = 2 ^ 23 := by decide
  rw [this, ← Nat.pow_add]
  congr 2
  omega

theorem whole_val {r : Nat} {e : Nat} (he : e = rgE (r * 8192)) (h : r < 31744) : rgM (r * 8192) * 2 ^ (e + 112) = hvM r := by
  rw [he]
  unfold hvM rgM rgE
  obtain ⟨K, hK⟩ : ∃ K : Nat, K = 1050 := ⟨_, rfl⟩
  by_cases c : r < 1024
  · rw [if_pos (show r * 8192 < 8388608 by omega), if_pos (show r * 8192 < 8388608 by omega), if_pos c, show 925 + 112 = K - 13 by omega, Nat.mul_assoc, u24_pow hK, show (8192 : Nat) = 2 ^ 13 by decide, ← Nat.pow_add]
    congr 2
    omega
  · rw [if_neg (show ¬ r * 8192 < 8388608 by omega), if_neg (show ¬ r * 8192 < 8388608 by omega), if_neg c]
    have e1 : 8388608 + r * 8192 % 8388608 = (1024 + r % 1024) * 2 ^ 13 := by omega
    have e2 : r * 8192 / 8388608 = r / 1024 := by omega
    rw [e1, e2, Nat.mul_assoc, ← Nat.pow_add]
    congr 2
    omega
theorem whole_word {r : Nat} (h : r < 31744) : Go.floatBits .mul .f32 (r * 8192) 2004877312 = some (whW r) ∧ whW r < 2139095040 ∧ vS (whW r) = some ((hvM r : Nat) : Int) := by
  obtain ⟨J, hJ⟩ : ∃ J : Nat, J = 1074 := ⟨_, rfl⟩
  have h1 : vS (r * 8192) = some ((rv (r * 8192) : Nat) : Int) := vS_pos (by omega)
  obtain ⟨U, hU⟩ : ∃ U : Nat, U = 1186 := ⟨_, rfl⟩
  have h2 := vS_big hU
  obtain ⟨q, q1, q2⟩ := mul_pos_word h1 h2 (by omega) (by omega)
  have hw : whW r = q := by unfold whW; rw [q1]; rfl
  rw [hw]
  obtain ⟨e, he⟩ : ∃ e, e = rgE (r * 8192) := ⟨_, rfl⟩
  have he2 : e ≤ 955 := by
    rw [he]; unfold rgE
    split <;> omega
  have hm := rgM_lt (r * 8192)
  have hc : ((rv (r * 8192) : Nat) : Int) * ((2 ^ U : Nat) : Int) = ((rgM (r * 8192) * 2 ^ (e + 112) : Nat) : Int) * (one : Int) := by
    unfold rv
    rw [← he, one_pow hJ, ← Int.natCast_mul, ← Int.natCast_mul]
    refine congrArg (fun z : Nat => (z : Int)) ?_
    rw [Nat.mul_assoc, Nat.mul_assoc, ← Nat.pow_add, ← Nat.pow_add, show e + U = e + 112 + J by omega]
  obtain ⟨B, hB⟩ : ∃ B : Nat, B = 1100 := ⟨_, rfl⟩
  have hlt : rgM (r * 8192) * 2 ^ (e + 112) < 2 ^ B := by
    calc rgM (r * 8192) * 2 ^ (e + 112) < 16777216 * 2 ^ (e + 112) := Nat.mul_lt_mul_of_pos_right hm (Nat.two_pow_pos _)
      _ = 2 ^ (24 + (e + 112)) := (Nat.pow_add 2 24 (e + 112)).symm
      _ ≤ 2 ^ B := Nat.pow_le_pow_right (by omega) (by omega)
  have hv := vS_mul (B := B) q1 h1 h2 hc (by rw [Int.natAbs_natCast]; exact hlt) (by omega)
  rw [rdS_exact ((rgM (r * 8192) : Nat) : Int) (e + 112) (by rw [Int.natAbs_natCast]; exact hm) (by have := rgE_le (r * 8192); omega) (by rw [Int.natCast_mul])] at hv
  have hval := whole_val he h
  rw [hval] at hv
  refine ⟨q1, ?_, hv⟩
  rcases Nat.lt_or_eq_of_le q2 with c | c
  · exact c
  · exfalso
    subst c
    have : single.read 2139095040 = .infinity false := by decide
    unfold vS at hv
    rw [this] at hv
    cases hv

/-- The word of a half that is not small. -/
theorem whW_big {r : Nat} (h : r < 31744) (h0 : 1024 ≤ r) : whW r = r * 8192 + 939524096 := by
  obtain ⟨-, h2, h3⟩ := whole_word h
  have hv : vS (r * 8192 + 939524096) = some ((hvM r : Nat) : Int) := by
    rw [vS_pos (by omega)]
    unfold rv rgM rgE hvM
    rw [if_neg (by omega), if_neg (by omega), if_neg (by omega)]
    have e1 : 8388608 + (r * 8192 + 939524096) % 8388608 = (1024 + r % 1024) * 2 ^ 13 := by omega
    have e2 : (r * 8192 + 939524096) / 8388608 = r / 1024 + 112 := by omega
    rw [e1, e2, Nat.mul_assoc, ← Nat.pow_add, show 13 + (924 + (r / 1024 + 112)) = 1049 + r / 1024 by omega]
  refine word_inj (by omega) (by omega) h3 hv ?_
  unfold hvM
  rw [if_neg (by omega)]
  have : 0 < (1024 + r % 1024) * 2 ^ (1049 + r / 1024) := Nat.mul_pos (by omega) (Nat.two_pow_pos _)
  omega

theorem rv_m14 : rv 947912704 = 1024 * u24 := by
  obtain ⟨j, hj⟩ : ∃ j : Nat, j = 1037 := ⟨_, rfl⟩
  unfold rv
  rw [show rgM 947912704 = 2 ^ 23 by decide, show rgE 947912704 = j by rw [hj]; decide, ← Nat.pow_add, u24_pow (j := 13 + j) (by omega), Nat.pow_add, Nat.pow_add, ← Nat.mul_assoc]

/-- The nearest half of a magnitude below 2 ^ -14, as the program has it. -/
theorem small_sum {r : Nat} (h : r < 947912704) : Go.floatBits .add .f32 r 1056964608 = some (1056964608 + rnq (rv r) u24) ∧ rnq (rv r) u24 ≤ 1024 := by
  have h1 := read_rungs false (r := r) (by omega)
  simp only [Bool.toNat_false, Nat.zero_mul, Nat.zero_add] at h1
  have h2 : single.read 1056964608 = .number false 8388608 (-24) := by decide
  obtain ⟨K, hK⟩ : ∃ K : Nat, K = 1050 := ⟨_, rfl⟩
  have hU := u24_pow hK
  have p1 := u24_pos
  obtain ⟨p, q, q1, q2, q3⟩ := sum_val (s := false) (t := false) (m := rgM r) (n := 8388608) (i := (rgE r : Int) - 1074) (j := -24) (by have := rgE_le r; omega) (by omega)
  have hrv : rv r < 1024 * u24 := by rw [← rv_m14]; exact rv_lt h
  have hv : vOf false (rgM r) ((rgE r : Int) - 1074) + vOf false 8388608 (-24) = ((8388608 * u24 + rv r : Nat) : Int) := by
    rw [vOf_mag, vOf_mag, show (((rgE r : Nat) : Int) - 1074 + 1074).toNat = rgE r by omega, show ((-24 : Int) + 1074).toNat = K by omega, ← hU]
    unfold rv
    simp only [Bool.false_eq_true, if_false, Int.one_mul]
    rw [← Int.natCast_add, Nat.add_comm]
  rw [hv] at q1 q3
  rw [Int.natAbs_natCast] at q3
  have e23 : 8388608 * u24 = 2 ^ (23 + K) := by rw [hU, Nat.pow_add]
  have hlog : (8388608 * u24 + rv r).log2 = 23 + K := by
    rw [Nat.log2_eq_iff (by omega)]
    refine ⟨by omega, ?_⟩
    rw [Nat.pow_succ, ← e23]
    omega
  have hrq : rnq (8388608 * u24 + rv r) u24 = 8388608 + rnq (rv r) u24 := by
    unfold rnq
    generalize u24 = P at *
    have d1 : (8388608 * P + rv r) / P = 8388608 + rv r / P := by rw [Nat.mul_comm, Nat.mul_add_div p1]
    have d2 : (8388608 * P + rv r) % P = rv r % P := by rw [Nat.mul_comm, Nat.mul_add_mod]
    rw [d1, d2]
    have d3 : (8388608 + rv r / P) % 2 = rv r / P % 2 := by omega
    rw [d3]
    omega
  have hsmall : rnq (rv r) u24 ≤ 1024 := by
    have := rnq_mono p1 (Nat.le_of_lt hrv)
    rwa [rnq_mul _ _ p1] at this
  have hrung : rungOf single 925 (8388608 * u24 + rv r) = 1056964608 + rnq (rv r) u24 := by
    have hlast : lastOf single 925 (8388608 * u24 + rv r) = K := by unfold lastOf; rw [hlog, fbS]; omega
    unfold rungOf
    rw [hlast, ← hU, hrq, binS]
    omega
  refine ⟨?_, hsmall⟩
  show ((single.read r).sum (single.read 1056964608)).map single.write = _
  rw [h1, h2, q1]
  show some (single.nearest _ p q) = _
  rw [nearest_val single _ (-1074) 925 leastS p (p := q) q2, show (q - (-1074)).toNat = (q + 1074).toNat by omega, q3]
  unfold wordAt
  rw [hrung, infS, Nat.min_eq_left (by omega)]
  have hp : ¬ (((8388608 * u24 + rv r : Nat) : Int) = 0) := by omega
  have hp2 : ¬ (((8388608 * u24 + rv r : Nat) : Int) < 0) := by omega
  rw [if_neg hp]
  simp only [hp2, decide_false]
  rfl
end Go.Proofs.Ytkcehbnmcdppkaa.Fl

/- Halves and shorts: how far they are from their singles, in doubles (pure). -/
namespace Go.Proofs.Ytkcehbnmcdppkaa.Fl
open Ieee

theorem gtr_valD {x y : Nat} {a b : Int} (hx : vD x = some a) (hy : vD y = some b) : (double.order x y == some .gt) = decide (b < a) := by rw [order_valD hx hy, some_beq, cmp_gt]
theorem leq_valD {x y : Nat} {a b : Int} (hx : vD x = some a) (hy : vD y = some b) : (double.order x y == some .lt || double.order x y == some .eq) = decide (a ≤ b) := by
  rw [order_valD hx hy, some_beq, some_beq, cmp_lt, cmp_eq, ← Bool.decide_or]
  exact decide_eq_decide.2 (by omega)

/-- A magnitude by the place of its last bit. -/
theorem rv_near {r r' : Nat} (h : 8388608 ≤ r) (h1 : r / 8388608 * 8388608 ≤ r') (h2 : r' ≤ r / 8388608 * 8388608 + 8388608) : rv r' = (8388608 + (r' - r / 8388608 * 8388608)) * 2 ^ (924 + r / 8388608) := by
  unfold rv
  rcases Nat.lt_or_eq_of_le h2 with c | c
  · have e1 : r' / 8388608 = r / 8388608 := by omega
    unfold rgM rgE
    rw [if_neg (by omega), if_neg (by omega), e1]
    congr 2
    omega
  · have e1 : r' / 8388608 = r / 8388608 + 1 := by omega
    unfold rgM rgE
    rw [if_neg (by omega), if_neg (by omega), e1, ← Nat.add_assoc, Nat.pow_succ]
    have e2 : r' % 8388608 = 0 := by omega
    have e3 : r' - r / 8388608 * 8388608 = 8388608 := by omega
    rw [e2, e3]
    generalize 2 ^ (924 + r / 8388608) = P
    omega

/-- What is lost, and the bound: both are singles times a power of 2. -/
theorem near_lost {r r' k : Nat} (h : 8388608 ≤ r) (hk : k ≤ 23) (h1 : r / 8388608 * 8388608 ≤ r') (h2 : r' ≤ r / 8388608 * 8388608 + 8388608) (h3 : r' ≤ r + 2 ^ (23 - k)) (h4 : r ≤ r' + 2 ^ (23 - k)) :
    ∃ u j, ((rv r' : Nat) : Int) - ((rv r : Nat) : Int) = (if r ≤ r' then 1 else -1) * ((u * 2 ^ j : Nat) : Int) ∧ u ≤ 8388608 ∧ j = 924 + r / 8388608 ∧ u * 2 ^ j * 2 ^ k ≤ rv r := by
  have e1 := rv_near h h1 h2
  have e2 := rv_near h (r' := r) (by omega) (by omega)
  have p := Nat.two_pow_pos (924 + r / 8388608)
  have p23 : 2 ^ (23 - k) ≤ 8388608 := by
    have : (8388608 : Nat) = 2 ^ 23 := by decide
    rw [this]; exact Nat.pow_le_pow_right (by omega) (by omega)
  refine ⟨(r' - r) + (r - r'), 924 + r / 8388608, ?_, by omega, rfl, ?_⟩
  · rw [e1, e2]
    have a1 : r / 8388608 * 8388608 ≤ r := by omega
    obtain ⟨B, hB⟩ : ∃ B, B = r / 8388608 * 8388608 := ⟨_, rfl⟩
    rw [← hB] at h1 a1 ⊢
    generalize 2 ^ (924 + r / 8388608) = P
    by_cases c : r ≤ r'
    · rw [if_pos c]
      have : (8388608 + (r' - B)) * P = (8388608 + (r - B)) * P + (r' - r + (r - r')) * P := by rw [← Nat.add_mul]; congr 1; omega
      omega
    · rw [if_neg c]
      have : (8388608 + (r - B)) * P = (8388608 + (r' - B)) * P + (r' - r + (r - r')) * P := by rw [← Nat.add_mul]; congr 1; omega
      omega
  · rw [e2, Nat.mul_right_comm]
    refine Nat.mul_le_mul_right _ ?_
    have q : (r' - r + (r - r')) ≤ 2 ^ (23 - k) := by omega
    calc (r' - r + (r - r')) * 2 ^ k ≤ 2 ^ (23 - k) * 2 ^ k := Nat.mul_le_mul_right _ q
      _ = 8388608 := by rw [← Nat.pow_add, Nat.sub_add_cancel hk]
      _ ≤ _ := by omega

theorem dbl_small {X : Nat} {s : Bool} {m : Nat} {i : Int} (h : double.read X = .number s m i) : m < 2 ^ 53 := by
  unfold Format.read at h
  have e : (2 : Nat) ^ 53 = 9007199254740992 := by decide
  have e2 : b52 = 4503599627370496 := rfl
  rw [bnD, infD, e2] at h
  simp only at h
  rw [e]
  split at h
  · cases h; omega
  · split at h
    · cases h; omega
    · split at h <;> cases h

/-- A quotient by a power of 2 is exact. -/
theorem quo_pow {X Y t : Nat} {s : Bool} {m : Nat} {i j : Int} (h : double.read X = .number s m i) (hi : -300 ≤ i) (hi2 : i ≤ 200) (hy : double.read Y = .number false 4503599627370496 j) (hj : j = (t : Int) - 52) (ht : t ≤ 100) :
    ∃ Q V, Go.floatBits .quo .f64 X Y = some Q ∧ vD Q = some ((if s then -1 else 1) * ((V : Nat) : Int)) ∧ V * 2 ^ t = m * 2 ^ (i + 1074).toNat := by
  have hm := dbl_small h
  obtain ⟨e, he⟩ : ∃ e : Nat, e = (i + 1074).toNat - t := ⟨_, rfl⟩
  have h52 : (4503599627370496 : Nat) = 2 ^ 52 := by decide
  have hl52 : (4503599627370496 : Nat).log2 = 52 := by rw [h52]; exact Nat.log2_two_pow
  have hlm : m.log2 ≤ 52 := by
    rcases Nat.eq_zero_or_pos m with z | z
    · subst z; decide
    · have := (Nat.log2_lt (n := m) (k := 53) (by omega)).2 hm; omega
  obtain ⟨more, hmore⟩ : ∃ more : Nat, more = 54 + 52 - m.log2 := ⟨_, rfl⟩
  have hdiv : m * 2 ^ more = m * 2 ^ (more - 52) * 4503599627370496 := by rw [h52, Nat.mul_assoc, ← Nat.pow_add, Nat.sub_add_cancel (by omega)]
  have hq : (Datum.number s m i).quotient 54 (.number false 4503599627370496 j) = some (.number s (m * 2 ^ (more - 51)) (i - j - more - 1)) := by
    have q1 : 2 * (m <<< more / 4503599627370496) + (m <<< more % 4503599627370496 != 0).toNat = m * 2 ^ (more - 51) := by
      rw [Nat.shiftLeft_eq, hdiv, Nat.mul_div_cancel _ (by decide), Nat.mul_mod_left, show more - 51 = (more - 52) + 1 by omega, Nat.pow_succ]
      simp only [bne_self_eq_false, Bool.toNat_false, Nat.add_zero]
      rw [Nat.mul_comm 2, Nat.mul_assoc]
    show some (Datum.number (s ^^ false) (2 * (m <<< (54 + (4503599627370496 : Nat).log2 - m.log2) / 4503599627370496) + (m <<< (54 + (4503599627370496 : Nat).log2 - m.log2) % 4503599627370496 != 0).toNat) (i - j - ((54 + (4503599627370496 : Nat).log2 - m.log2 : Nat) : Int) - 1)) = _
    rw [hl52, ← hmore, q1, Bool.xor_false]
  refine ⟨double.nearest s (m * 2 ^ (more - 51)) (i - j - more - 1), m * 2 ^ e, ?_, ?_, by rw [Nat.mul_assoc, ← Nat.pow_add, show e + t = (i + 1074).toNat by omega]⟩
  · show ((double.read X).quotient 54 (double.read Y)).map double.write = _
    rw [h, hy, hq]
    rfl
  · show vD (double.nearest s (m * 2 ^ (more - 51)) (i - j - more - 1)) = _
    rw [nearest_val double s (-1074) 0 leastD _ (p := i - j - more - 1) (by omega)]
    have hV : m * 2 ^ (more - 51) * 2 ^ (i - j - more - 1 - (-1074)).toNat = m * 2 ^ e := by
      rw [Nat.mul_assoc, ← Nat.pow_add, show more - 51 + (i - j - more - 1 - (-1074)).toNat = e by omega]
    obtain ⟨B, hB⟩ : ∃ B : Nat, B = 1500 := ⟨_, rfl⟩
    have hlt : m * 2 ^ e < 2 ^ B := by
      calc m * 2 ^ e < 2 ^ 53 * 2 ^ e := Nat.mul_lt_mul_of_pos_right hm (Nat.two_pow_pos _)
        _ = 2 ^ (53 + e) := (Nat.pow_add 2 53 e).symm
        _ ≤ 2 ^ B := Nat.pow_le_pow_right (by omega) (by omega)
    rw [hV, vD_word hlt (by omega), rd_exact double 0 m e (by rw [fbD]; exact hm) (by omega)]

theorem abs_valD {X : Nat} {a : Int} (h : vD X = some a) : vD (X % 9223372036854775808) = some ((a.natAbs : Nat) : Int) := by
  obtain ⟨s, m, p, e, rfl⟩ := vD_some h
  have hr := read_abs double X
  rw [swD, e] at hr
  rw [vD_num hr, vOf_mag, vOf_mag, Int.natAbs_mul, Int.natAbs_natCast]
  cases s <;> simp

/-- The half nearest to a magnitude that is not small. -/
def nrH (r : Nat) : Nat := (r + 4095 + r / 8192 % 2) / 8192 - 114688
/-- The short nearest to a word. -/
def nrS (b : Nat) : Nat := (b + 32767 + b / 65536 % 2) / 65536

theorem half_near {r : Nat} (h1 : 947912704 ≤ r) (h2 : r ≤ 1199562752) : 1024 ≤ nrH r ∧ nrH r < 31744 ∧ r / 8388608 * 8388608 ≤ whW (nrH r) ∧ whW (nrH r) ≤ r / 8388608 * 8388608 + 8388608 ∧ whW (nrH r) ≤ r + 4096 ∧ r ≤ whW (nrH r) + 4096 := by
  have a1 : 1024 ≤ nrH r := by unfold nrH; omega
  have a2 : nrH r < 31744 := by unfold nrH; omega
  rw [whW_big a2 a1]
  refine ⟨a1, a2, ?_, ?_, ?_, ?_⟩ <;> (unfold nrH; omega)

theorem short_sign {s r : Nat} (hs : s ≤ 1) : nrS (s * 2147483648 + r) = s * 32768 + nrS r := by
  unfold nrS
  rcases (show s = 0 ∨ s = 1 by omega) with rfl | rfl
  · omega
  · have e : (1 * 2147483648 + r) / 65536 % 2 = r / 65536 % 2 := by omega
    rw [e]; omega
theorem short_near {r : Nat} (hr : r < 2130706432) : nrS r < 32640 ∧ r / 8388608 * 8388608 ≤ nrS r * 65536 ∧ nrS r * 65536 ≤ r / 8388608 * 8388608 + 8388608 ∧ nrS r * 65536 ≤ r + 32768 ∧ r ≤ nrS r * 65536 + 32768 := by
  have h : ∃ q, q = nrS r := ⟨_, rfl⟩
  obtain ⟨q, hq⟩ := h
  have h2 : q = (r + 32767 + r / 65536 % 2) / 65536 := hq
  rw [← hq]
  clear hq
  refine ⟨?_, ?_, ?_, ?_, ?_⟩ <;> omega
end Go.Proofs.Ytkcehbnmcdppkaa.Fl

/- The level of any single that is no NaN (pure). -/
namespace Go.Proofs.Ytkcehbnmcdppkaa.Fl
open Ieee

/-- What a level takes: the double of the single, its floor, this as a single; whether it is below 0, or beyond; the level. -/
structure LvD (x : Nat) (most : Int) (X F r : Nat) (n h : Bool) (k : Int) : Prop where
  c1 : Go.floatToFloatBits .f32 x .f64 = some X
  c2 : double.write ((double.read X).integral .down) = F
  c3 : Go.floatToFloatBits .f64 F .f32 = some r
  c4 : ∃ s, (∃ M I, double.read X = .number s M I) ∨ double.read X = .infinity s
  p1 : (single.order r 0 == some .lt) = n
  p2 : n = false → (single.order r (Go.floatOfInt .f32 most) == some .gt) = h
  p3 : n = false → h = false → Go.floatToIntVal .f32 r .i64 = some k
  q1 : (single.order x 0 == some .lt) = n
  q2 : n = false → (double.order X (Go.floatOfInt .f64 (most + 1)) == some .gt || double.order X (Go.floatOfInt .f64 (most + 1)) == some .eq) = h
  q3 : n = false → h = false → Go.floatToIntVal .f32 x .i64 = some k
  kk : n = false → h = false → 0 ≤ k ∧ k ≤ most

/-- A magnitude of a single has a rung. -/
theorem rung_fit {m j : Nat} (hm : m < 16777216) (hj : j ≤ 1178) (hc : 925 ≤ j) : rungOf single 925 (m * 2 ^ j) < single.infRung := by
  rw [infS']
  rcases Nat.eq_zero_or_pos m with z | z
  · subst z; rw [Nat.zero_mul, rungOf_zero]; omega
  obtain ⟨V, hV⟩ : ∃ V, V = m * 2 ^ j := ⟨_, rfl⟩
  have hV0 : 0 < V := by rw [hV]; exact Nat.mul_pos z (Nat.two_pow_pos _)
  have hl : V.log2 = m.log2 + j := by rw [hV]; exact log2_mul_pow z j
  have hm2 : m.log2 < 24 := (Nat.log2_lt (by omega)).2 hm
  have e1 : lastOf single 925 V = max (V.log2 - 23) 925 := rfl
  have hle : lastOf single 925 V ≤ j := by rw [e1, hl]; omega
  have hge : V.log2 < lastOf single 925 V + 24 := by rw [e1]; omega
  rw [← hV]
  unfold rungOf
  rw [binS']
  generalize lastOf single 925 V = l at *
  have hq : V = m * 2 ^ (j - l) * 2 ^ l := by rw [hV, Nat.mul_assoc, ← Nat.pow_add, Nat.sub_add_cancel hle]
  have hlt : V < 2 ^ (24 + l) := Nat.lt_of_lt_of_le (Nat.lt_log2_self) (Nat.pow_le_pow_right (by omega) (by omega))
  have hq2 : m * 2 ^ (j - l) < 16777216 := by
    rw [hq, Nat.pow_add] at hlt
    exact Nat.lt_of_mul_lt_mul_right hlt
  rw [hq, rnq_mul _ _ (Nat.two_pow_pos _)]
  have := Nat.mul_le_mul_right 8388608 (show l - 925 ≤ 253 by omega)
  omega
theorem back_sgl {F : Nat} {s : Bool} {M : Nat} {I : Int} (h : double.read F = .number s M I) (h2 : ∃ m p, single.read (single.nearest s M I) = .number s m p) :
    Go.floatToFloatBits .f64 F .f32 = some (single.nearest s M I) := by
  unfold Go.floatToFloatBits
  rw [if_neg (by decide)]
  have d : Go.FloatKind.f64.decode F = .number s M I := h
  simp only [d]
  have w : Go.FloatKind.f32.encode (.number s M I) = single.nearest s M I := rfl
  rw [w]
  obtain ⟨m, p, e⟩ := h2
  have d2 : Go.FloatKind.f32.decode (single.nearest s M I) = .number s m p := e
  rw [d2]; rfl
theorem conv_infS {x : Nat} {s : Bool} (h : single.read x = .infinity s) : Go.floatToFloatBits .f32 x .f64 = some (double.word s double.infRung) := by
  unfold Go.floatToFloatBits
  rw [if_neg (by decide)]
  have d : Go.FloatKind.f32.decode x = .infinity s := h
  simp only [d]
  have w : Go.FloatKind.f64.encode (.infinity s) = double.word s double.infRung := rfl
  rw [w]
theorem back_inf (s : Bool) : Go.floatToFloatBits .f64 (double.word s double.infRung) .f32 = some (single.word s single.infRung) := by
  cases s <;> decide

theorem order_inf {x y : Nat} {s : Bool} {b : Int} (h : single.read x = .infinity s) (hb : vS y = some b) : single.order x y = some (if s then .lt else .gt) := by
  obtain ⟨t, n, j, h2, -⟩ := vS_some hb
  unfold Format.order
  rw [h, h2]; rfl
theorem order_infD {x y : Nat} {s : Bool} {b : Int} (h : double.read x = .infinity s) (hb : vD y = some b) : double.order x y = some (if s then .lt else .gt) := by
  obtain ⟨t, n, j, h2, -⟩ := vD_some hb
  unfold Format.order
  rw [h, h2]; rfl

theorem most_val {most : Nat} (h2 : most < 16777216) : vS (Go.floatOfInt .f32 (most : Int)) = some ((most : Int) * (one : Int)) := (int_val (n := (most : Int)) (by omega)).1
theorem most_valD {most : Nat} (h2 : most < 16777216) : vD (Go.floatOfInt .f64 ((most : Int) + 1)) = some (((most + 1) * one : Nat) : Int) := by
  have e : (2 : Nat) ^ 53 = 9007199254740992 := by decide
  exact int_valD (n := most + 1) (by rw [e]; omega)

theorem lvd_small {x : Nat} {a : Int} (ha : vS x = some a) (hb : Bd 120 x) {most : Nat} (h2 : most < 16777216) : ∃ X F r n h k, LvD x (most : Int) X F r n h k := by
  obtain ⟨X, s, M, I, F, c1, c2, c3, c4, c5⟩ := floor_parts2 ha hb (by omega)
  have hp : (0 : Int) < (one : Int) := Int.natCast_pos.2 one_pos
  have e1 : a / (one : Int) * (one : Int) ≤ a := Int.ediv_mul_le a (Int.ne_of_gt hp)
  have e2 : 0 ≤ a / (one : Int) ↔ 0 ≤ a := Int.ediv_nonneg_iff_of_pos hp
  have e3 : ((most : Int) + 1 ≤ a / (one : Int)) ↔ ((most : Int) + 1) * (one : Int) ≤ a := Int.le_ediv_iff_mul_le hp
  obtain ⟨X', d1, d2⟩ := toD_val ha
  rw [c1] at d1; cases d1
  have c5' : vS (flW x) = some (a / (one : Int) * (one : Int)) := c5
  obtain ⟨g, hg⟩ : ∃ g, g = a / (one : Int) := ⟨_, rfl⟩
  have c1' := c1
  refine ⟨X, F, flW x, decide (a < 0), decide ((most : Int) < g), g, c1, c3, c4, ⟨s, .inl ⟨M, I, c2⟩⟩, ?_, ?_, ?_, ?_, ?_, ?_, ?_⟩
  · rw [lss_val c5' vS_zero, decide_eq_decide, ← hg]
    rw [← hg] at e2
    constructor
    · intro q
      rcases Int.lt_or_le g 0 with l | l
      · omega
      · have := Int.mul_nonneg l (Int.le_of_lt hp); omega
    · intro q
      exact Int.mul_neg_of_neg_of_pos (by omega) hp
  · intro _
    rw [gtr_val c5' (most_val h2), decide_eq_decide, ← hg]
    exact ⟨fun q => Int.lt_of_mul_lt_mul_right q (Int.le_of_lt hp), fun q => Int.mul_lt_mul_of_pos_right q hp⟩
  · intro q1 q2
    have q1' : ¬ a < 0 := of_decide_eq_false q1
    have q2' : ¬ (most : Int) < g := of_decide_eq_false q2
    rw [← hg] at c5' e2
    exact toInt_whole c5' (by omega) (by omega)
  · rw [lss_val ha vS_zero]
  · intro _
    rw [geq_valD d2 (most_valD h2), decide_eq_decide, hg, Int.natCast_mul, Int.natCast_add]
    constructor
    · intro q; have := e3.2 (by simpa using q); omega
    · intro q; have := e3.1 (by omega); simpa using this
  · intro q1 q2
    have q1' : ¬ a < 0 := of_decide_eq_false q1
    have q2' : ¬ (most : Int) < g := of_decide_eq_false q2
    rw [hg]
    exact toInt_floor ha (by omega) (by omega)
  · intro q1 q2
    have q1' : ¬ a < 0 := of_decide_eq_false q1
    have q2' : ¬ (most : Int) < g := of_decide_eq_false q2
    rw [← hg] at e2
    omega

theorem lvd_big {x : Nat} {s : Bool} {m : Nat} {p : Int} (e : single.read x = .number s m p) (hA : 2 ^ (1074 + 120) < m * 2 ^ (p + 1074).toNat) {most : Nat} (h2 : most < 16777216) : ∃ X F r n h k, LvD x (most : Int) X F r n h k := by
  obtain ⟨X, M, I, c1, c2, c3, c4, _⟩ := toD e
  have g := read_single e
  have g1 := g.small
  have g3 := g.high
  have ha := vS_num e
  rw [vOf_mag] at ha
  obtain ⟨X', d1, d2⟩ := toD_val ha
  rw [c1] at d1; cases d1
  obtain ⟨J, hJ⟩ : ∃ J : Nat, J = 1074 := ⟨_, rfl⟩
  rw [← hJ] at hA
  have hj : J ≤ (p + 1074).toNat := by
    rcases Nat.lt_or_ge (p + 1074).toNat J with q | q
    · exfalso
      have b1 : 2 ^ (p + 1074).toNat ≤ 2 ^ J := Nat.pow_le_pow_right (by omega) (by omega)
      have b2 : m * 2 ^ (p + 1074).toNat ≤ 16777216 * 2 ^ J := Nat.mul_le_mul (by omega) b1
      have b3 : 2 ^ (J + 120) = 2 ^ 96 * 16777216 * 2 ^ J := by rw [Nat.add_comm, Nat.pow_add]
      have p1 : 0 < 2 ^ J := Nat.two_pow_pos _
      have b4 : 16777216 * 2 ^ J ≤ 2 ^ 96 * 16777216 * 2 ^ J := Nat.mul_le_mul_right _ (by decide)
      omega
    · exact q
  obtain ⟨j, hj2⟩ : ∃ j, j = (p + 1074).toNat := ⟨_, rfl⟩
  have hjl : j ≤ 1178 := by omega
  rw [← hj2] at hj hA c4 ha d2
  obtain ⟨A, hAe⟩ : ∃ A, A = m * 2 ^ j := ⟨_, rfl⟩
  have hdv : A = m * 2 ^ (j - J) * one := by rw [hAe, one_pow hJ, Nat.mul_assoc, ← Nat.pow_add, Nat.sub_add_cancel hj]
  have hi := integral_down (s := s) c3 c4
  rw [← hAe, hdv, Nat.mul_mod_left, Nat.mul_div_cancel _ one_pos] at hi
  simp only [ne_eq, not_true_eq_false, decide_false, Bool.and_false, Bool.toNat_false, Nat.add_zero] at hi
  have hw : double.write ((double.read X).integral .down) = wordAt double 0 s A := by
    rw [c2, hi]
    show double.nearest s _ 0 = _
    rw [nearest_val double s (-1074) 0 leastD _ (p := 0) (by omega), show ((0 : Int) - (-1074)).toNat = J by omega, ← one_pow hJ, ← hdv]
  obtain ⟨B, hB⟩ : ∃ B : Nat, B = 1203 := ⟨_, rfl⟩
  have hlt : A < 2 ^ B := by
    rw [hAe]
    calc m * 2 ^ j < 16777216 * 2 ^ j := Nat.mul_lt_mul_of_pos_right g1 (Nat.two_pow_pos _)
      _ = 2 ^ (24 + j) := by rw [Nat.pow_add]
      _ ≤ 2 ^ B := Nat.pow_le_pow_right (by omega) (by omega)
  obtain ⟨M2, I2, r1, r2, r3⟩ := read_val double s (-1074) 0 leastD A (rungD_lt hlt (by omega))
  have hrd : rd double 0 A = A := by rw [hAe]; exact rd_exact double 0 m j (by rw [fbD]; exact Nat.lt_of_lt_of_le g1 (by decide)) (by omega)
  rw [hrd] at r3
  have hlp : double.leastPlace = -1074 := by decide
  rw [hlp] at r2
  have hn := nearest_val single s (-1074) 925 leastS M2 (p := I2) r2
  rw [r3] at hn
  obtain ⟨M3, I3, t1, t2, t3⟩ := read_val single s (-1074) 925 leastS A (by rw [hAe]; exact rung_fit g1 hjl (by omega))
  have hb := back_sgl r1 ⟨M3, I3, by rw [hn]; exact t1⟩
  rw [hn] at hb
  -- the value of the word, or an infinity
  have hA0 : most * one < A ∧ (most + 1) * one < A := by
    have b3 : 2 ^ (J + 120) = 2 ^ 96 * 16777216 * one := by rw [Nat.add_comm, Nat.pow_add, one_pow hJ]
    have b4 : (most + 1) * one ≤ 2 ^ 96 * 16777216 * one := Nat.mul_le_mul_right _ (Nat.le_trans h2 (by decide))
    have b5 : most * one ≤ (most + 1) * one := Nat.mul_le_mul_right _ (by omega)
    rw [← hAe] at hA
    omega
  obtain ⟨hA1, hA2⟩ := hA0
  rw [← hAe] at ha d2
  have q : vS (wordAt single 925 s A) = some ((if s then -1 else 1) * ((A : Nat) : Int)) := by
    rw [vS_num t1, vOf_mag, show (I3 + 1074).toNat = (I3 - (-1074)).toNat by omega, t3]
    rw [hAe, rd_exact single 925 m j (by rw [fbS]; exact g1) (by omega)]
  have hmo : ((most : Int) * (one : Int)) = ((most * one : Nat) : Int) := by rw [Int.natCast_mul]
  have hAp : 0 < A := by omega
  refine ⟨X, _, _, s, !s, 0, c1, hw, hb, ⟨s, .inl ⟨M, I, c2⟩⟩, ?_, ?_, ?_, ?_, ?_, ?_, ?_⟩
  · rw [lss_val q vS_zero]
    cases s
    · simp
    · simp; omega
  · intro hs
    subst hs
    rw [gtr_val q (most_val h2), hmo]
    simp only [Bool.false_eq_true, if_false, Bool.not_false, decide_eq_true_eq]
    omega
  · intro a b; rw [a] at b; cases b
  · rw [lss_val ha vS_zero]
    cases s
    · simp
    · simp; omega
  · intro hs
    subst hs
    rw [geq_valD d2 (most_valD h2)]
    simp only [Bool.false_eq_true, if_false, Bool.not_false, decide_eq_true_eq]
    omega
  · intro a b; rw [a] at b; cases b
  · intro a b; rw [a] at b; cases b

theorem lvd {x : Nat} (hx : Sgl' x) {mo : Int} (h0 : 0 ≤ mo) (h2' : mo < 16777216) : ∃ X F r n h k, LvD x mo X F r n h k := by
  obtain ⟨most, rfl⟩ := Int.eq_ofNat_of_zero_le h0
  have h2 : most < 16777216 := by omega
  obtain ⟨s, ⟨m, p, e⟩ | e⟩ := hx
  · rcases Nat.lt_or_ge (2 ^ (1074 + 120)) (m * 2 ^ (p + 1074).toNat) with c | c
    · exact lvd_big e c h2
    · exact lvd_small (vS_num e) ⟨s, m, p, e, c⟩ h2
  · refine ⟨_, _, _, s, !s, 0, conv_infS e, ?_, back_inf s, ⟨s, .inr (read_infD s)⟩, ?_, ?_, ?_, ?_, ?_, ?_, ?_⟩
    · rw [read_infD]; rfl
    · rw [order_inf (read_inf s) vS_zero]; cases s <;> rfl
    · intro hs
      rw [order_inf (read_inf s) (most_val h2), hs]; rfl
    · intro a b; rw [a] at b; cases b
    · rw [order_inf e vS_zero]; cases s <;> rfl
    · intro hs
      rw [order_infD (read_infD s) (most_valD h2), hs]; rfl
    · intro a b; rw [a] at b; cases b
    · intro a b; rw [a] at b; cases b
end Go.Proofs.Ytkcehbnmcdppkaa.Fl
