/- Lemmas and contracts for the proof that the last text of this claim holds. -/
import Derived.Test.YtooikploflnnjaaLinJC
import Derived.Deep.AppendLies
import Derived.Deep.RegionLaw
import Derived.StillTailTactics
import Derived.Laws.Bits64b
import Derived.IntWalk

/- Contract: Values of the reference. -/
namespace Go.Proofs.Ytooikploflnnjaa
open Go.RowKit Fl
set_option linter.unusedVariables false

/-- What holds of the world when k singles have been appended to a list of one's own from the block base on. -/
structure FrAt (w0 : World) (base : Nat) (f : Nat → Nat) (k : Nat) (ov : Value) (wr : World) : Prop where
  own : wr.ownsRow base 46 1 ov k (rowL f k)
  bel : Below base w0 wr
  size : base ≤ wr.heap.size
theorem FrAt.push {w0 wr w5 w6 : World} {base k g' cap' : Nat} {f : Nat → Nat} {ov : Value} {o : Obj} (h : FrAt w0 base f k ov wr) (h5 : Below wr.heap.size wr w5)
    (hgrow : (w5.alloc o).grownBy w6 ov.ownBlock) (hown : w6.ownsRow base 46 1 (.slice (some ⟨g', 0, none⟩) (k + 1) cap') (k + 1) (rowL f k ++ [.float .f32 (f k)])) :
    FrAt w0 base f (k + 1) (.slice (some ⟨g', 0, none⟩) (k + 1) cap') w6 := by
  have z5 : base ≤ w5.heap.size := Nat.le_trans h.size h5.size
  have own5 := ownsRow_below h.own h5
  have B5 : Below base w0 w5 := h.bel.trans (h5.mono h.size)
  have e4 : ∀ j, j < base → w6.heap[j]? = w5.heap[j]? := fun j hj => (hgrow.block j (by show j < (w5.alloc o).heap.size; rw [heap_size_alloc]; omega) (ownsRow_far own5 hj)).trans (heap_alloc_old _ _ (by omega))
  have B4 : Below base w0 (w5.alloc o) := B5.alloc z5 o
  have z6 := hgrow.size
  rw [heap_size_alloc] at z6
  exact ⟨by rw [rowL_succ]; exact hown, ⟨hgrow.os.trans B4.os, hgrow.tape.trans B4.tape, hgrow.output.trans B4.output, Nat.le_trans B4.size hgrow.size, fun j hj => (e4 j hj).trans (B5.block j hj)⟩, by omega⟩

/-- A list of singles is there. -/
def FlsPost (w : World) (n : Nat) (f : Nat → Nat) (e : Ending) (w' : World) : Prop :=
  ∃ g cap, e = .returned (.slice (some ⟨g, 0, none⟩) n cap) ∧ w.heap.size ≤ g ∧ FlAt w' g 0 n f ∧ Below w.heap.size w w'

set_option maxRecDepth 100000 in
set_option maxHeartbeats 4000000 in
theorem values_any (X Y : Int) (W H n b off cap : Nat) (v : Nat → Nat) (g M gc : Nat) (T : Nat → Pnt) (w : World) (hr : FlAt w b off n v) (h0 : checkR X Y W H = 0) (hnn : n = W * H)
    (hT : PtRow w g M T) (hI : ∀ i, i < M → InR X Y W H (T i)) (hM1 : 1 ≤ M) (hM : M ≤ 65536) :
    Calls Try.prog 21 #[fldV X Y W H (.slice (some ⟨b, off, none⟩) n cap), .slice (some ⟨g, 0, none⟩) M gc] w (FlsPost w M (fun i => atP X Y W v (T i))) := by
  obtain ⟨b1, b2, b3, b4, b5, b6, b7, b8, b9⟩ := checkR_zero h0
  have en : ((W : Int) * (H : Int)) = (n : Int) := by rw [hnn]; simp
  have hn1 : 1 ≤ n := by rw [hnn]; exact Nat.mul_pos (by omega) (by omega)
  have zb : b < w.heap.size := World.block_lt_of_cell? w _ (hr 0 hn1)
  have CE := Lib.hid (fun x y w (hp : InR X Y W H ⟨x, y⟩) => qCell_any X Y W H x y w (by omega) (by omega) (by omega) (by omega) (by omega) (by omega) (by have := hp.1; simp only at this; omega) (by have := hp.2.1; simp only at this; omega) (by have := hp.2.2.1; simp only at this; omega) (by have := hp.2.2.2; simp only at this; omega))
  have NU := Lib.hid (fun p (hp : InR X Y W H p) => inR_num (X := X) (Y := Y) (W := W) (H := H) (n := n) (p := p) (by omega) hp (by rw [hnn, Nat.mul_comm]))
  have HT := Lib.hid hT
  have HI := Lib.hid hI
  have HR := Lib.hid hr
  have HM := Lib.hid hM
  have HM1 := Lib.hid hM1
  have hinfo : (Try.prog.info? 46).map (fun i => (i.zero, i.size, i.bytes)) = some (some (.float .f32 0), 1, 4) := by kernel_rfl
  obtain ⟨ti, hi, hz0, hz1, hz2⟩ := info_parts hinfo
  have HTI := Lib.hid hi
  have hn2 : (n : Int) ≤ 65536 := by omega
  have HN2 := Lib.hid hn2
  clear hr h0 hnn hT hI hM hM1 hinfo hi b1 b2 b3 b4 b5 b6 b7 b8 b9 en hn1 hn2
  go_enter Try.func21, Try.ntmps21
  go_wp2
  obtain ⟨w1, hw1⟩ : ∃ w1, w1 = w.alloc (fldO X Y W H (.slice (some ⟨b, off, none⟩) n cap)) := ⟨_, rfl⟩
  have HF := Lib.hid (show w1.heap[w.heap.size]? = some (fldO X Y W H (.slice (some ⟨b, off, none⟩) n cap)) from by rw [hw1]; (first | (rw [heap_alloc_get, if_pos rfl]; done) | ((simp only [heap_alloc_get, heap_size_alloc, if_true]) <;> ((repeat' split) <;> first | rfl | omega))))
  have B1 := Lib.hid (show Below w.heap.size w w1 from by rw [hw1]; exact (by repeat (first | exact Below.refl _ _ | refine Below.alloc ?_ (by first | omega | (simp; done) | (simp; omega)) _ | refine Below.setCell ?_ (by first | omega | (simp; done) | (simp; omega)) _ | refine Below.drew ?_)))
  try rw [← hw1]
  clear hw1
  have HS := Lib.hid (show FrAt w1 w1.heap.size (fun i => atP X Y W v (T i)) 0 (.slice none 0 0) w1 from ⟨⟨by simp [rowL], .inl ⟨rfl, rfl⟩⟩, Below.refl _ _, Nat.le_refl _⟩)
  go_loopw [5, 10] (fun l s10 wr => ∃ (k : Nat) (ov : Value), k ≤ M ∧ s10 = .int .i64 k ∧ ov = l ∧ FrAt w1 w1.heap.size (fun i => atP X Y W v (T i)) k ov wr) (fun _ s10 _ => M - (intOf s10).toNat)
  case atStart => exact ⟨0, _, Nat.zero_le _, rfl, rfl, HS.out⟩
  case round =>
    obtain ⟨k, ov, hk, rfl, rfl, hm⟩ := hrel
    have HMr := Lib.hid hm
    have HFr := Lib.hid (blkStay HF.out hm.bel)
    have BWr := Lib.hid (B1.out.trans (hm.bel.mono B1.out.size))
    clear hm
    by_cases hlt : k < M
    · obtain ⟨p0, p1, zP⟩ := pt_at (HT.out.stay BWr.out) hlt
      have PK := HI.out k hlt
      obtain ⟨e1, e2⟩ := NU.out _ PK
      have AK := Lib.hid (show atP X Y W v (T k) = v (((T k).y - Y) * W + ((T k).x - X)).toNat from rfl)
      have CEK := Lib.hid (fun w => CE.out (T k).x (T k).y w PK)
      obtain ⟨j, hj⟩ : ∃ j, (((T k).y - Y) * (W : Int) + ((T k).x - X)).toNat = j := ⟨_, rfl⟩
      rw [hj] at e1 e2 AK
      rw [← e1] at CEK
      have hcell := (flAt_congr HR.out (BWr.out.block b zb)) j e2
      have HC := Lib.hid hcell
      have zbr : b < wr.heap.size := World.block_lt_of_cell? wr _ hcell
      have hj2 : (j : Int) < (n : Int) := by omega
      have HLT := Lib.hid hlt
      have HK := Lib.hid (show k + 1 ≤ 65536 by have := HM.out; omega)
      clear e1 e2 hj PK hcell
      generalize (T k).x = tx at *
      generalize (T k).y = ty at *
      have hi := HTI.out
      have hN := HN2.out
      go_upto_region 5 with fail
      have HP5 := Lib.hid (show (wr.alloc (ptObj tx ty)).heap[wr.heap.size]? = some (ptObj tx ty) from heap_alloc_new _ _)
      have BP5 := Lib.hid (show Below wr.heap.size wr (wr.alloc (ptObj tx ty)) from (by repeat (first | exact Below.refl _ _ | refine Below.alloc ?_ (by first | omega | (simp; done) | (simp; omega)) _ | refine Below.setCell ?_ (by first | omega | (simp; done) | (simp; omega)) _ | refine Below.drew ?_)))
      have HF5 := Lib.hid (blkStay HFr.out BP5.out)
      have HC5 := Lib.hid ((Below.cell (p := ⟨b, off + j, none⟩) BP5.out zbr).trans HC.out)
      clear p0 p1 zP
      generalize wr.alloc (ptObj tx ty) = w5 at *
      obtain ⟨cF, fF, zF⟩ := blkC HF5.out
      obtain ⟨cP, fP, zP⟩ := blkC HP5.out
      have cV := HC5.out
      go_region_law (first
        | (go_simp; (with_reducible refine Calls.mono (CEK.out _) ?_); rintro e w7 ⟨rfl, hb7⟩; have hb7' : Below w5.heap.size w5 w7 := ⟨hb7.os, hb7.tape, hb7.output, hb7.size, hb7.block⟩; have B7 := Lib.hid hb7'; have OW7 := Lib.hid (ownsRow_below HMr.out.own (BP5.out.trans (hb7'.mono BP5.out.size))); clear cF fF zF cP fP zP cV; obtain ⟨cF, fF, zF⟩ := blkC (blkStay HF5.out hb7'); have cV := (Below.cell (p := ⟨b, off + j, none⟩) hb7' (World.block_lt_of_cell? w5 _ HC5.out)).trans HC5.out; clear hb7 hb7')
        | (refine step_append_lies _ (by rfl) _ _ _ (by rfl) w1.heap.size 46 ti _ 1 4 Try.underlying24 hi hz0 hz1 hz2 rfl (by omega) ov k (rowL (fun i => atP X Y W v (T i)) k) (by rfl) (OW7.out.alloc _) ⟨w7.heap.size, 0, none⟩ 1 1 [.float .f32 (v j)] (by rfl) (by rfl) (World.news_of_block (cs := #[.float .f32 (v j)]) (t := 46) (fr := (0, 0)) (heap_alloc_new w7 _)) (by simp [Value.oneCell']) (by omega) (by have := HK.out; unfold maxLen; omega) (by have := HK.out; omega) (by have := HMr.out.size; have := BP5.out.size; have := B7.out.size; simp; omega) (w7.heap.size + 1) (by simp) ?_; intro g' cap' w8 hown8 hgrow hat hlt8))
      all_goals
        have HN8 := Lib.hid (FrAt.push (o := .cells #[.float .f32 (v j)] 46) HMr.out (BP5.out.trans (B7.out.mono BP5.out.size)) ⟨hgrow.os, hgrow.tape, hgrow.output, hgrow.size, hgrow.block⟩ (by rw [AK.out]; exact hown8))
        clear hown8 hgrow hat hlt8
        have hk2 : (k : Int) ≤ 65536 := by have := HK.out; omega
        go_wp2
        go_roundw
        case rel => exact ⟨k + 1, _, HLT.out, by go_num, rfl, HN8.out⟩
        case measure => have := HLT.out; simp [intOf]; omega
    · have hkn : k = M := by omega
      subst hkn
      obtain ⟨g', gcap, rfl, _, _⟩ := HMr.out.own.form (show 0 < k from HM1.out)
      obtain ⟨q1, q2, q3⟩ := ownsRow_flAt HMr.out.own (show 0 < k from HM1.out)
      have Q1 := Lib.hid q1
      have Q3 := Lib.hid (show w.heap.size ≤ g' by have := B1.out.size; omega)
      clear q1 q2 q3
      go_wp2
      go_ret
      exact ⟨g', gcap, rfl, Q3.out, Q1.out, BWr.out⟩
end Go.Proofs.Ytooikploflnnjaa

/- Contracts: squareAt, mean, Down. -/
namespace Go.Proofs.Ytooikploflnnjaa
open Go.RowKit Fl
set_option linter.unusedVariables false

abbrev sqV (a b c d : Nat) : Value := .agg #[.float .f32 a, .float .f32 b, .float .f32 c, .float .f32 d]
/-- The mean of four singles, as the words on the way. -/
structure MeanAt (a b c d s1 s2 s3 m : Nat) : Prop where
  e1 : floatBits .add .f32 a b = some s1
  e2 : floatBits .add .f32 c d = some s2
  e3 : floatBits .add .f32 s1 s2 = some s3
  e4 : floatBits .mul .f32 s3 1048576000 = some m
/-- The mean as a word. -/
def meanW (a b c d : Nat) : Nat :=
  (floatBits .mul .f32 ((floatBits .add .f32 ((floatBits .add .f32 a b).getD 0) ((floatBits .add .f32 c d).getD 0)).getD 0) 1048576000).getD 0
theorem MeanAt.w {a b c d s1 s2 s3 m : Nat} (h : MeanAt a b c d s1 s2 s3 m) : meanW a b c d = m := by
  unfold meanW
  rw [h.e1, h.e2, Option.getD_some, Option.getD_some, h.e3, Option.getD_some, h.e4, Option.getD_some]

set_option maxHeartbeats 1000000 in
theorem mean_any (a b c d s1 s2 s3 m : Nat) (h : MeanAt a b c d s1 s2 s3 m) (w : World) :
    Calls Try.prog 81 #[sqV a b c d] w fun e w' => e = .returned (.float .f32 m) ∧ Below w.heap.size w w' := by
  have x1 := fun (ww : World) => run_float_arith (P := Try.prog) ww .add 46 .f32 a b s1 h.e1
  have x2 := fun (ww : World) => run_float_arith (P := Try.prog) ww .add 46 .f32 c d s2 h.e2
  have x3 := fun (ww : World) => run_float_arith (P := Try.prog) ww .add 46 .f32 s1 s2 s3 h.e3
  have x4 := fun (ww : World) => run_float_arith (P := Try.prog) ww .mul 46 .f32 s3 1048576000 m h.e4
  clear h
  go_enter Try.func81, Try.ntmps81
  go_wp2
  go_ret
  exact ⟨rfl, (by repeat (first | exact Below.refl _ _ | refine Below.alloc ?_ (by first | omega | (simp; done) | (simp; omega)) _ | refine Below.setCell ?_ (by first | omega | (simp; done) | (simp; omega)) _ | refine Below.drew ?_))⟩

theorem store_sq0 {w : World} {p o x : Nat} {cs : Array Value} {t : TypeId} {m : Mode} (h : w.heap[p]? = some (.cells cs t (0, 0))) (ho : o < cs.size) :
    (store ⟨p, o, none⟩ (.float .f32 x) m).run Try.prog w = .ok () (w.setCell ⟨p, o, none⟩ (.float .f32 x)) := by
  obtain ⟨c, f, z⟩ := blkC h
  have c0 := c o
  have f0 := f o
  rw [run_store_float]
  have : cs[o]? = some cs[o] := Array.getElem?_eq_getElem ho
  rw [this] at c0
  simp [stored, c0, f0]
theorem store_sq {w : World} {p o x : Nat} {cs : Array Value} {t : TypeId} {m : Mode} (h : w.heap[p]? = some (.cells cs t (0, 0))) (ho : o < cs.size) :
    (store ⟨p, o, none⟩ (.float .f32 x) m).run Try.prog w.drew = .ok () (w.setCell ⟨p, o, none⟩ (.float .f32 x)).drew := store_sq0 (w := w.drew) h ho
theorem store4_sq {w : World} {p : Nat} {z0 z1 z2 z3 : Value} {t : TypeId} (h : w.heap[p]? = some (.cells #[z0, z1, z2, z3] t (0, 0))) (a b c d : Nat) :
    (store ⟨p, 0, none⟩ (.float .f32 a) .plain).run Try.prog w.drew = .ok () (w.setCell ⟨p, 0, none⟩ (.float .f32 a)).drew ∧
    (store ⟨p, 1, none⟩ (.float .f32 b) .plain).run Try.prog (w.setCell ⟨p, 0, none⟩ (.float .f32 a)).drew = .ok () ((w.setCell ⟨p, 0, none⟩ (.float .f32 a)).setCell ⟨p, 1, none⟩ (.float .f32 b)).drew ∧
    (store ⟨p, 2, none⟩ (.float .f32 c) .plain).run Try.prog ((w.setCell ⟨p, 0, none⟩ (.float .f32 a)).setCell ⟨p, 1, none⟩ (.float .f32 b)).drew = .ok () (((w.setCell ⟨p, 0, none⟩ (.float .f32 a)).setCell ⟨p, 1, none⟩ (.float .f32 b)).setCell ⟨p, 2, none⟩ (.float .f32 c)).drew ∧
    (store ⟨p, 3, none⟩ (.float .f32 d) .plain).run Try.prog (((w.setCell ⟨p, 0, none⟩ (.float .f32 a)).setCell ⟨p, 1, none⟩ (.float .f32 b)).setCell ⟨p, 2, none⟩ (.float .f32 c)).drew = .ok () ((((w.setCell ⟨p, 0, none⟩ (.float .f32 a)).setCell ⟨p, 1, none⟩ (.float .f32 b)).setCell ⟨p, 2, none⟩ (.float .f32 c)).setCell ⟨p, 3, none⟩ (.float .f32 d)).drew := by
  have h1 := heap_setCell_same w p 0 _ _ (.float .f32 a) h
  have h2 := heap_setCell_same _ p 1 _ _ (.float .f32 b) h1
  have h3 := heap_setCell_same _ p 2 _ _ (.float .f32 c) h2
  exact ⟨store_sq h (by simp), store_sq h1 (by simp), store_sq h2 (by simp), store_sq h3 (by simp)⟩
abbrev sqO : Obj := .cells #[.float .f32 0, .float .f32 0, .float .f32 0, .float .f32 0] 127
set_option maxRecDepth 100000 in
set_option maxHeartbeats 4000000 in
theorem squareAt_any (X Y : Int) (W H n b off cap : Nat) (v : Nat → Nat) (i : Nat) (w : World) (hr : FlAt w b off n v) (hn : n ≤ 65536) (hW : W ≤ 512) (hi : i + W + 1 < n) :
    Calls Try.prog 79 #[fldV X Y W H (.slice (some ⟨b, off, none⟩) n cap), .int .i64 i] w fun e w' => e = .returned (sqV (v i) (v (i + 1)) (v (i + W)) (v (i + W + 1))) ∧ Below w.heap.size w w' := by
  have k0 := hr i (by omega)
  have k1 := hr (i + 1) (by omega)
  have k2 := hr (i + W) (by omega)
  have k3 := hr (i + W + 1) (by omega)
  have zb : b < w.heap.size := World.block_lt_of_cell? w _ k0
  obtain ⟨i1, e1⟩ : ∃ k, k = i + 1 := ⟨_, rfl⟩
  obtain ⟨i2, e2⟩ : ∃ k, k = i + W := ⟨_, rfl⟩
  obtain ⟨i3, e3⟩ : ∃ k, k = i + W + 1 := ⟨_, rfl⟩
  rw [← e3, ← e1, ← e2]
  rw [← e1] at k1
  rw [← e2] at k2
  rw [← e3] at k3
  have f1 : (i : Int) + 1 = (i1 : Int) := by omega
  have f2 : (i : Int) + (W : Int) = (i2 : Int) := by omega
  have f3 : (i2 : Int) + 1 = (i3 : Int) := by omega
  have u1 : IntKind.i64.wrap ((i : Int) + 1) = (i1 : Int) := by rw [f1]; exact IntWalk.i64_in _ (by omega)
  have u2 : IntKind.i64.wrap ((i : Int) + (W : Int)) = (i2 : Int) := by rw [f2]; exact IntWalk.i64_in _ (by omega)
  have u3 : IntKind.i64.wrap ((i2 : Int) + 1) = (i3 : Int) := by rw [f3]; exact IntWalk.i64_in _ (by omega)
  have g0 : (i : Int) < (n : Int) := by omega
  have g1 : (i1 : Int) < (n : Int) := by omega
  have g2 : (i2 : Int) < (n : Int) := by omega
  have g3 : (i3 : Int) < (n : Int) := by omega
  have p0 : (0 : Int) ≤ (i : Int) := by omega
  have p1 : (0 : Int) ≤ (i1 : Int) := by omega
  have p2 : (0 : Int) ≤ (i2 : Int) := by omega
  have p3 : (0 : Int) ≤ (i3 : Int) := by omega
  have hsf := fun (w : World) (a : Addr) (m : Mode) (k : FloatKind) (b : Nat) => run_store_float (P := Try.prog) (w := w) (a := a) (m := m) k b
  clear hr hn hW hi e1 e2 e3 f1 f2 f3
  go_enter Try.func79, Try.ntmps79
  go_wp2
  have HF := Lib.hid (show ((w.alloc (fldO X Y W H (.slice (some ⟨b, off, none⟩) n cap))).alloc sqO).heap[w.heap.size]? = some (fldO X Y W H (.slice (some ⟨b, off, none⟩) n cap)) from by (first | (rw [heap_alloc_get, if_pos rfl]; done) | ((simp only [heap_alloc_get, heap_size_alloc, if_true]) <;> ((repeat' split) <;> first | rfl | omega))))
  have HR := Lib.hid (show ((w.alloc (fldO X Y W H (.slice (some ⟨b, off, none⟩) n cap))).alloc sqO).heap[w.heap.size + 1]? = some sqO from by (first | (rw [heap_alloc_get, if_pos rfl]; done) | ((simp only [heap_alloc_get, heap_size_alloc, if_true]) <;> ((repeat' split) <;> first | rfl | omega))))
  have HB := Lib.hid (show Below w.heap.size w ((w.alloc (fldO X Y W H (.slice (some ⟨b, off, none⟩) n cap))).alloc sqO) from (by repeat (first | exact Below.refl _ _ | refine Below.alloc ?_ (by first | omega | (simp; done) | (simp; omega)) _ | refine Below.setCell ?_ (by first | omega | (simp; done) | (simp; omega)) _ | refine Below.drew ?_)))
  generalize (w.alloc (fldO X Y W H (.slice (some ⟨b, off, none⟩) n cap))).alloc sqO = w2 at *
  obtain ⟨cF, fF, zF⟩ := blkC HF.out
  have j0 := (Below.cell (p := ⟨b, off + i, none⟩) HB.out zb).trans k0
  have j1 := (Below.cell (p := ⟨b, off + i1, none⟩) HB.out zb).trans k1
  have j2 := (Below.cell (p := ⟨b, off + i2, none⟩) HB.out zb).trans k2
  have j3 := (Below.cell (p := ⟨b, off + i3, none⟩) HB.out zb).trans k3
  obtain ⟨s0, s1, s2, s3⟩ := store4_sq HR.out (v i) (v i1) (v i2) (v i3)
  have h1 := heap_setCell_same w2 (w.heap.size + 1) 0 _ _ (.float .f32 (v i)) HR.out
  have h2 := heap_setCell_same _ (w.heap.size + 1) 1 _ _ (.float .f32 (v i1)) h1
  have h3 := heap_setCell_same _ (w.heap.size + 1) 2 _ _ (.float .f32 (v i2)) h2
  have h4 := heap_setCell_same _ (w.heap.size + 1) 3 _ _ (.float .f32 (v i3)) h3
  have h5 : ((((w2.setCell ⟨w.heap.size + 1, 0, none⟩ (.float .f32 (v i))).setCell ⟨w.heap.size + 1, 1, none⟩ (.float .f32 (v i1))).setCell ⟨w.heap.size + 1, 2, none⟩ (.float .f32 (v i2))).setCell ⟨w.heap.size + 1, 3, none⟩ (.float .f32 (v i3))).drew.heap[w.heap.size + 1]? = _ := h4
  have HRES := (blkC h5).1
  have HBEL := Lib.hid ((((HB.out.setCell (p := ⟨w.heap.size + 1, 0, none⟩) (show w.heap.size ≤ w.heap.size + 1 by omega) (.float .f32 (v i))).setCell (p := ⟨w.heap.size + 1, 1, none⟩) (show w.heap.size ≤ w.heap.size + 1 by omega) (.float .f32 (v i1))).setCell (p := ⟨w.heap.size + 1, 2, none⟩) (show w.heap.size ≤ w.heap.size + 1 by omega) (.float .f32 (v i2))).setCell (p := ⟨w.heap.size + 1, 3, none⟩) (show w.heap.size ≤ w.heap.size + 1 by omega) (.float .f32 (v i3))).drew
  clear h1 h2 h3 h4 h5 k0 k1 k2 k3 hsf
  go_still_tail 31, (by kernel_rfl)
  change wpList _ _ _ _ _ w2.drew
  go_wp2
  refine bodyPost_ret (v := sqV (v i) (v i1) (v i2) (v i3)) (by simp [results, Try.results79, go_sem, HRES]) rfl ?_
  exact ⟨rfl, HBEL.out⟩
end Go.Proofs.Ytooikploflnnjaa

/- Whether one of four integers is odd, as the program asks it. -/
namespace Go.Proofs.Ytooikploflnnjaa
open Go.RowKit

theorem par_toNat (a : Int) : ((BitVec.ofInt 64 a).toNat : Int) % 2 = a % 2 := by
  rw [BitVec.toNat_ofInt]
  omega
theorem par_wrap (n : Int) : (IntKind.i64.wrap n) % 2 = n % 2 := by
  rw [IntKind.wrap_i64]; omega
theorem bits_or_par (a b : Int) : (bits .or .i64 a b) % 2 = 0 ↔ (a % 2 = 0 ∧ b % 2 = 0) := by
  have h : bits .or .i64 a b = IntKind.i64.wrap ((BitVec.ofInt 64 a ||| BitVec.ofInt 64 b).toNat : Int) := rfl
  rw [h, par_wrap, BitVec.toNat_or]
  have p := par_toNat a
  have q := par_toNat b
  have r := @Nat.or_mod_two_eq_one (BitVec.ofInt 64 a).toNat (BitVec.ofInt 64 b).toNat
  omega
theorem bits_and_one (a : Int) : bits .and .i64 a 1 = a % 2 := by
  have h : bits .and .i64 a 1 = IntKind.i64.wrap ((BitVec.ofInt 64 a &&& BitVec.ofInt 64 1).toNat : Int) := rfl
  rw [h, BitVec.toNat_and]
  have p := par_toNat a
  have e : (BitVec.ofInt 64 1).toNat = 1 := by decide
  rw [e, Nat.and_one_is_mod, IntKind.wrap_i64]
  omega
/-- Whether one of four integers is odd. -/
theorem odd4 (a b c d : Int) : bits .and .i64 (bits .or .i64 (bits .or .i64 (bits .or .i64 a b) c) d) 1 = 0 ↔ (a % 2 = 0 ∧ b % 2 = 0 ∧ c % 2 = 0 ∧ d % 2 = 0) := by
  rw [bits_and_one, bits_or_par, bits_or_par, bits_or_par]
  omega
end Go.Proofs.Ytooikploflnnjaa

/- Contracts: Down. -/
namespace Go.Proofs.Ytooikploflnnjaa
open Go.RowKit Fl
set_option linter.unusedVariables false

/-- The first of the four cells below the cell number j of a half; the value there. -/
def dnI (W j : Nat) : Nat := (2 * (j / W)) * (2 * W) + 2 * (j % W)
def dnF (v : Nat → Nat) (W j : Nat) : Nat := meanW (v (dnI W j)) (v (dnI W j + 1)) (v (dnI W j + 2 * W)) (v (dnI W j + 2 * W + 1))
def DnAt (v : Nat → Nat) (W n : Nat) : Prop := ∀ j, j < n → ∃ s1 s2 s3, MeanAt (v (dnI W j)) (v (dnI W j + 1)) (v (dnI W j + 2 * W)) (v (dnI W j + 2 * W + 1)) s1 s2 s3 (dnF v W j)
theorem enters_dn1 : Enters 78 := by intro args W; simp [callFunc, Try.func78, Try.f78]

theorem dn_parts {X Y x y : Int} {W H j : Nat} (hW : 1 ≤ W) (h1 : X ≤ x) (h2 : x < X + W) (h3 : Y ≤ y) (h4 : y < Y + H) (hj : (j : Int) = (y - Y) * W + (x - X)) :
    ((dnI W j : Nat) : Int) = (2 * y - 2 * Y) * ((2 * W : Nat) : Int) + (2 * x - 2 * X) ∧ dnI W j + 2 * W + 1 < (2 * H) * (2 * W) ∧ j < H * W := by
  obtain ⟨a, ha⟩ : ∃ a : Nat, x - X = a := ⟨(x - X).toNat, by omega⟩
  obtain ⟨b, hb⟩ : ∃ b : Nat, y - Y = b := ⟨(y - Y).toNat, by omega⟩
  rw [ha, hb] at hj
  have ej : j = b * W + a := by
    have : ((b * W + a : Nat) : Int) = (b : Int) * W + a := by simp
    omega
  have aW : a < W := by omega
  have bH : b < H := by omega
  have d1 : j / W = b := by rw [ej, Nat.mul_comm, Nat.mul_add_div (by omega), Nat.div_eq_of_lt aW, Nat.add_zero]
  have d2 : j % W = a := by rw [ej, Nat.mul_comm, Nat.mul_add_mod]; exact Nat.mod_eq_of_lt aW
  have e : dnI W j = 2 * b * (2 * W) + 2 * a := by unfold dnI; rw [d1, d2]
  have m1 : (2 * b + 1) * (2 * W) ≤ (2 * H - 1) * (2 * W) := Nat.mul_le_mul_right _ (by omega)
  have m2 : (2 * b + 1) * (2 * W) = 2 * b * (2 * W) + 2 * W := by rw [Nat.add_mul, Nat.one_mul]
  have m3 : (2 * H - 1) * (2 * W) + 2 * W = (2 * H) * (2 * W) := by
    rw [show 2 * H = (2 * H - 1) + 1 by omega, Nat.add_mul, Nat.one_mul]
    simp
  have m4 : b * W + W ≤ H * W := by
    have := Nat.mul_le_mul_right W (show b + 1 ≤ H by omega)
    rwa [Nat.add_mul, Nat.one_mul] at this
  refine ⟨?_, by omega, by omega⟩
  rw [e, show 2 * y - 2 * Y = ((2 * b : Nat) : Int) by omega, show 2 * x - 2 * X = ((2 * a : Nat) : Int) by omega]
  simp

set_option maxHeartbeats 4000000 in
theorem dn1_any (X Y RX RY : Int) (W H RW RH n b off cap : Nat) (v : Nat → Nat) (p : Nat) (w : World) (hRX : RX = 2 * X) (hRY : RY = 2 * Y) (hRW : RW = 2 * W) (hRH : RH = 2 * H)
    (hp : w.heap[p]? = some (fldO RX RY RW RH (.slice (some ⟨b, off, none⟩) n cap))) (hr : FlAt w b off n v) (hM : DnAt v W (H * W))
    (hX1 : -4194304 ≤ X) (hX2 : X ≤ 4194304) (hY1 : -4194304 ≤ Y) (hY2 : Y ≤ 4194304) (hW1 : 1 ≤ W) (hW2 : W ≤ 256) (hH1 : 1 ≤ H) (hH2 : H ≤ 256) (hnn : n = RH * RW) (hn : n ≤ 65536) :
    Clos2 78 #[.pointer (some ⟨p, 0, none⟩)] X Y W H (dnF v W) w := by
  intro x y j w2 h1 h2 h3 h4 h5 hb
  obtain ⟨q1, q2, q3⟩ := dn_parts hW1 h1 h2 h3 h4 h5
  rw [← hRW] at q1 q2
  rw [← hRH, ← hnn] at q2
  obtain ⟨s1, s2, s3, MA⟩ := hM j q3
  have hn1 : 1 ≤ n := by rw [hnn]; exact Nat.mul_pos (by omega) (by omega)
  have hz : b < w.heap.size := World.block_lt_of_cell? w _ (hr 0 hn1)
  have HFl := flAt_congr hr (hb.block _ hz)
  have K := blkStay hp hb
  obtain ⟨i, hi⟩ : ∃ i, dnI W j = i := ⟨_, rfl⟩
  obtain ⟨m, hm⟩ : ∃ m, dnF v W j = m := ⟨_, rfl⟩
  rw [hi] at q1 q2 MA
  rw [hm, ← hRW] at MA
  show Calls _ _ _ _ fun e w' => e = .returned (.float .f32 (dnF v W j)) ∧ _
  rw [hm]
  have IX := Lib.hid (fun w => index_any RX RY RW RH i (2 * x) (2 * y) w (by omega) (by omega) (by omega) (by omega) (by omega) (by omega) (by omega) (by omega) (by omega) (by omega) (by omega) (by rw [hRX, hRY]; exact q1) (by omega))
  have zb2 : b < w2.heap.size := Nat.lt_of_lt_of_le hz hb.size
  have SQ := Lib.hid (fun W' (hB : Below w2.heap.size w2 W') => squareAt_any RX RY RW RH n b off cap v i W' (flAt_congr HFl (hB.block b zb2)) hn (by omega) (by omega))
  have MM := Lib.hid (fun w => mean_any _ _ _ _ _ _ _ _ MA w)
  have HF := Lib.hid K
  have u1 : IntKind.i64.wrap (2 * x) = 2 * x := IntWalk.i64_in _ (by omega)
  have u2 : IntKind.i64.wrap (2 * y) = 2 * y := IntWalk.i64_in _ (by omega)
  obtain ⟨cF, fF, zF⟩ := blkC K
  clear hp hr hM hb K HFl MA q1 q2 q3 hi hm hnn h5 hRX hRY hRW hRH h1 h2 h3 h4 hX1 hX2 hY1 hY2 hW1 hW2 hH1 hH2 hn hn1
  go_enter Try.func78, Try.ntmps78
  go_wp2
  go_region_held3 (fun w' => (∀ o, w'.cell? ⟨p, o, none⟩ = #[.int .i64 RX, .int .i64 RY, .int .i64 RW, .int .i64 RH, .slice (some ⟨b, off, none⟩) n cap][o]?) ∧ Below w2.heap.size w2 w') (first | exact ⟨(blkC (blkStay HF.out hb9)).1, hb9⟩ | exact ⟨(blkC (blkStay HF.out (by repeat (first | exact Below.refl _ _ | refine Below.alloc ?_ (by first | omega | (simp; done) | (simp; omega)) _ | refine Below.setCell ?_ (by first | omega | (simp; done) | (simp; omega)) _ | refine Below.drew ?_)))).1, (by repeat (first | exact Below.refl _ _ | refine Below.alloc ?_ (by first | omega | (simp; done) | (simp; omega)) _ | refine Below.setCell ?_ (by first | omega | (simp; done) | (simp; omega)) _ | refine Below.drew ?_))⟩) (first
    | (go_at_call 80; (with_reducible refine Calls.mono (IX.out _) ?_); rintro e w' ⟨rfl, rfl⟩)
    | (go_at_call 79; (with_reducible refine Calls.mono (SQ.out _ ?_) ?_); exact (by repeat (first | exact Below.refl _ _ | refine Below.alloc ?_ (by first | omega | (simp; done) | (simp; omega)) _ | refine Below.setCell ?_ (by first | omega | (simp; done) | (simp; omega)) _ | refine Below.drew ?_)); rintro e w' ⟨rfl, hb8⟩; have hb9 : Below w2.heap.size w2 w' := Below.trans (by repeat (first | exact Below.refl _ _ | refine Below.alloc ?_ (by first | omega | (simp; done) | (simp; omega)) _ | refine Below.setCell ?_ (by first | omega | (simp; done) | (simp; omega)) _ | refine Below.drew ?_)) (Below.mono hb8 (by first | exact Nat.le_refl _ | (simp; done) | (simp; omega))); clear hb8)
    | (go_at_call 81; (with_reducible refine Calls.mono (MM.out _) ?_); rintro e w' ⟨rfl, hb8⟩; have hb7 := hb9.trans (hb8.mono hb9.size); clear hb9 hb8; have hb9 := hb7; clear hb7))
  rename_i hHeld
  go_wp2
  go_ret
  exact ⟨rfl, hHeld.2⟩

set_option maxHeartbeats 4000000 in
theorem down_ok (X Y RX RY : Int) (W H RW RH n b off cap : Nat) (v : Nat → Nat) (w : World) (hRX : RX = 2 * X) (hRY : RY = 2 * Y) (hRW : RW = 2 * W) (hRH : RH = 2 * H) (h0 : checkR RX RY RW RH = 0) (hr : FlAt w b off n v) (hE : SlE w (some ⟨b, off, none⟩) n cap 0) (hM : DnAt v W (H * W)) (hnn : n = RH * RW) :
    Calls Try.prog 31 #[fldV RX RY RW RH (.slice (some ⟨b, off, none⟩) n cap)] w (MadePost w X Y W H (H * W) (dnF v W)) := by
  have CK := Lib.hid (fun W' (hB : Below w.heap.size w W') => checkA_any RX RY RW RH (some ⟨b, off, none⟩) n cap 0 W' (hE.stay hB).1)
  rw [show fldChk RX RY RW RH n 0 = 0 from by unfold fldChk; rw [if_neg (by rw [h0]; simp), if_neg (by rw [hnn, Nat.mul_comm]; simp)]] at CK
  obtain ⟨b1, b2, b3, b4, b5, b6, b7, b8, b9⟩ := checkR_zero h0
  have par : bits .and .i64 (bits .or .i64 (bits .or .i64 (bits .or .i64 RX RY) RW) RH) 1 = 0 := (odd4 _ _ _ _).2 ⟨by omega, by omega, by omega, by omega⟩
  have t1 : RX.tdiv 2 = X := by rw [hRX]; exact Int.mul_tdiv_cancel_left _ (by decide)
  have t2 : RY.tdiv 2 = Y := by rw [hRY]; exact Int.mul_tdiv_cancel_left _ (by decide)
  have t3 : (RW : Int) / 2 = (W : Int) := by omega
  have t4 : (RH : Int) / 2 = (H : Int) := by omega
  have t5 : IntKind.i64.wrap X = X := IntWalk.i64_in _ (by omega)
  have t6 : IntKind.i64.wrap Y = Y := IntWalk.i64_in _ (by omega)
  have hhalf : checkR X Y W H = 0 := by
    have q : (W : Int) * H ≤ 65536 := by
      have q1 : ((RW : Int) * RH) = 4 * ((W : Int) * H) := by
        rw [hRW, hRH, Int.natCast_mul, Int.natCast_mul, Int.mul_assoc, ← Int.mul_assoc (W : Int), Int.mul_comm (W : Int) ((2 : Nat) : Int), Int.mul_assoc, ← Int.mul_assoc]
        rfl
      have q2 : 0 ≤ (W : Int) * H := Int.mul_nonneg (by omega) (by omega)
      omega
    unfold checkR
    rw [if_neg (by omega), if_neg (by omega), if_neg (by omega)]
  have hn : n ≤ 65536 := by
    have : ((RW : Int) * (RH : Int)) = (n : Int) := by rw [hnn, Nat.mul_comm]; simp
    omega
  have hn1 : 1 ≤ n := by rw [hnn]; exact Nat.mul_pos (by omega) (by omega)
  have zb : b < w.heap.size := World.block_lt_of_cell? w _ (hr 0 hn1)
  have MK := Lib.hid (fun (W' : World) (hB : Below w.heap.size w W') (hk : W'.heap[w.heap.size]? = some (fldO RX RY RW RH (.slice (some ⟨b, off, none⟩) n cap))) => make_ok X Y W H (H * W) 78 #[.pointer (some ⟨w.heap.size, 0, none⟩)] (dnF v W) W' enters_dn1
    (dn1_any X Y RX RY W H RW RH n b off cap v w.heap.size W' hRX hRY hRW hRH hk (flAt_congr hr (hB.block b zb)) hM (by omega) (by omega) (by omega) (by omega) (by omega) (by omega) (by omega) (by omega) hnn hn) hhalf rfl)
  have HN := Lib.hid (And.intro b1 (And.intro b2 (And.intro b3 b4)))
  clear hRX hRY hRW hRH h0 hr hE hM hnn hhalf hn hn1 zb b5
  generalize H * W = k at *
  generalize dnF v W = f at *
  go_enter Try.func31, Try.ntmps31
  go_wp2_with (go_at_call 55; refine (CK.out _ (by repeat (first | exact Below.refl _ _ | refine Below.alloc ?_ (by first | omega | (simp; done) | (simp; omega)) _ | refine Below.setCell ?_ (by first | omega | (simp; done) | (simp; omega)) _ | refine Below.drew ?_))).mono ?_; rintro e w1 ⟨rfl, hb1⟩; have HF1 := Lib.hid (blkStay (b := w.heap.size) (o := fldO RX RY RW RH (.slice (some ⟨b, off, none⟩) n cap)) (by (first | (rw [heap_alloc_get, if_pos rfl]; done) | ((simp only [heap_alloc_get, heap_size_alloc, if_true]) <;> ((repeat' split) <;> first | rfl | omega)))) hb1); have HR1 := Lib.hid (blkStay (b := w.heap.size + 1) (o := fldO 0 0 0 0 (.slice none 0 0)) (by (first | (rw [heap_alloc_get, if_pos rfl]; done) | ((simp only [heap_alloc_get, heap_size_alloc, if_true]) <;> ((repeat' split) <;> first | rfl | omega)))) hb1); have B1 := Lib.hid (Below.trans (show Below w.heap.size w _ from (by repeat (first | exact Below.refl _ _ | refine Below.alloc ?_ (by first | omega | (simp; done) | (simp; omega)) _ | refine Below.setCell ?_ (by first | omega | (simp; done) | (simp; omega)) _ | refine Below.drew ?_))) (hb1.mono (by first | omega | (simp; done) | (simp; omega)))); clear hb1; obtain ⟨cF, fF, zF⟩ := blkC HF1.out)
  have hb2 : Below w1.heap.size w1 (w1.alloc (regObj X Y W H)) := (Below.refl _ _).alloc (Nat.le_refl _) _
  refine (MK.out _ (B1.out.trans (hb2.mono B1.out.size)) (blkStay HF1.out hb2)).mono ?_
  intro e w4 hmade
  have zR := (blkC HR1.out).2.2
  rcases hmade with ⟨hall, b', cap', rfl, hb', hlt', hrow, hbel⟩ | ⟨hall, rfl, hbel⟩
  · have hS := Lib.hid (blkStay (blkStay HR1.out hb2) hbel)
    have hB : Below w.heap.size w w4 := (B1.out.trans (hb2.mono B1.out.size)).trans (hbel.mono (B1.out.trans (hb2.mono B1.out.size)).size)
    obtain ⟨cS, fS, zS⟩ := blkC hS.out
    have HB := Lib.hid hb'
    have HL := Lib.hid hlt'
    have HRW := Lib.hid hrow
    have HAL := Lib.hid hall
    have zw := B1.out.size
    clear hb' hlt' hrow hall cF fF zF
    go_wp2
    refine bodyPost_ret (v := .tuple #[fldV X Y W H (.slice (some ⟨b', 0, none⟩) k cap'), .int .i64 0]) (by simp [results, Try.results31, go_sem, cS]) rfl ?_
    have hb' := HB.out
    simp only [heap_size_alloc] at hb'
    exact .inl ⟨HAL.out, b', cap', rfl, by omega, by rw [set5_size]; exact HL.out, flAt_congr HRW.out (set5_heap w4 _ _ _ _ _ _ _ (by omega)), set5_below hB _ _ _ _ _ _ (by omega)⟩
  · have hS := Lib.hid (blkStay (blkStay HR1.out hb2) hbel)
    have hB : Below w.heap.size w w4 := (B1.out.trans (hb2.mono B1.out.size)).trans (hbel.mono (B1.out.trans (hb2.mono B1.out.size)).size)
    obtain ⟨cS, fS, zS⟩ := blkC hS.out
    have HAL := Lib.hid hall
    clear hall cF fF zF
    go_wp2
    refine bodyPost_ret (v := .tuple #[fldV 0 0 0 0 (.slice none 0 0), .int .i64 3]) (by simp [results, Try.results31, go_sem, cS]) rfl ?_
    exact .inr ⟨HAL.out, rfl, set5_below hB _ _ _ _ _ _ (by omega)⟩
end Go.Proofs.Ytooikploflnnjaa

/- Contract: levels, which each law of chapter 9 asks first. -/
namespace Go.Proofs.Ytooikploflnnjaa
open Go.RowKit Fl
set_option linter.unusedVariables false

/-- The four singles 1, 3, 2, 2. -/
def lev4 (i : Nat) : Nat := match i with | 0 => 1065353216 | 1 => 1077936128 | _ => 1073741824
theorem lev_mean : MeanAt 1065353216 1077936128 1073741824 1073741824 1082130432 1082130432 1090519040 1073741824 :=
  ⟨by kernel_rfl, by kernel_rfl, by kernel_rfl, by kernel_rfl⟩
theorem lev_dn : DnAt lev4 1 (1 * 1) := fun j hj => by
  obtain rfl : j = 0 := by omega
  have e : dnF lev4 1 0 = 1073741824 := lev_mean.w
  rw [e]
  exact ⟨_, _, _, lev_mean⟩
abbrev lev4O : Obj := .cells #[.float .f32 1065353216, .float .f32 1077936128, .float .f32 1073741824, .float .f32 1073741824] 46
theorem lev_flAt {w : World} {p : Nat} (h : w.heap[p]? = some lev4O) : FlAt w p 0 4 lev4 := fun i hi => by
  rw [(blkC h).1]
  match i, hi with
  | 0, _ => rfl
  | 1, _ => rfl
  | 2, _ => rfl
  | 3, _ => rfl
theorem lev_hgt : allB 4 (fun i => hgtB (lev4 i)) = true := by kernel_rfl
theorem lev_down {w : World} {p cap : Nat} (h : w.heap[p]? = some lev4O) :
    Calls Try.prog 31 #[fldV 0 0 2 2 (.slice (some ⟨p, 0, none⟩) 4 cap)] w fun e w' => ∃ b' cap', e = .returned (.tuple #[fldV 0 0 1 1 (.slice (some ⟨b', 0, none⟩) 1 cap'), .int .i64 0]) ∧ w'.cell? ⟨b', 0, none⟩ = some (.float .f32 1073741824) ∧ b' < w'.heap.size ∧ Below w.heap.size w w' := by
  have hE : SlE w (some ⟨p, 0, none⟩) 4 cap 0 := by
    have := slE_row (cap := cap) (by omega) (by omega) (lev_flAt h)
    rwa [fldE_zero.2 lev_hgt] at this
  have D := down_ok 0 0 0 0 1 1 2 2 4 p 0 cap lev4 w rfl rfl rfl rfl (by decide) (lev_flAt h) hE lev_dn rfl
  refine Calls.mono D ?_
  intro e w' hm
  have e0 : dnF lev4 1 0 = 1073741824 := lev_mean.w
  rcases hm with ⟨_, b', cap', rfl, _, hlt, hrow, hb⟩ | ⟨hall, _, _⟩
  · refine ⟨b', cap', rfl, ?_, hlt, hb⟩
    have := hrow 0 (by omega)
    rw [e0] at this
    exact this
  · exfalso
    have : allB (1 * 1) (fun i => hgtB (dnF lev4 1 i)) = true := allB_iff.2 fun i hi => by
      obtain rfl : i = 0 := by omega
      rw [e0]
      kernel_rfl
    rw [this] at hall
    cases hall

set_option maxHeartbeats 2000000 in
theorem levels_any (w : World) : Calls Try.prog 15 #[] w fun e w' => e = .returned (.bool true) ∧ Below w.heap.size w w' := by
  have DN := Lib.hid (fun (p cap : Nat) (w : World) (h : w.heap[p]? = some lev4O) => lev_down (cap := cap) h)
  have fe : (FloatKind.f32.format.order 1073741824 1073741824 == some .eq) = true := by kernel_rfl
  go_enter Try.func15, Try.ntmps15
  go_wp2_with (go_at_call 31; refine Calls.mono (DN.out _ _ _ (by (first | (rw [heap_alloc_get, if_pos rfl]; done) | ((simp only [heap_alloc_get, heap_size_alloc, if_true]) <;> ((repeat' split) <;> first | rfl | omega))))) ?_; rintro e w1 ⟨b', cap', rfl, hc, hz, hb1⟩; have B1 := Lib.hid (Below.trans (show Below w.heap.size w _ from (by repeat (first | exact Below.refl _ _ | refine Below.alloc ?_ (by first | omega | (simp; done) | (simp; omega)) _ | refine Below.setCell ?_ (by first | omega | (simp; done) | (simp; omega)) _ | refine Below.drew ?_))) (hb1.mono (by first | omega | (simp; done) | (simp; omega)))); clear hb1)
  go_ret
  exact ⟨rfl, B1.out.alloc B1.out.size _⟩
end Go.Proofs.Ytooikploflnnjaa

/- LinesMatch, walked, by cases. -/
namespace Go.Proofs.Ytooikploflnnjaa
open Go.RowKit Fl
set_option linter.unusedVariables false

/-- Whether a place is in a region of whatever four integers, as the reference asks it. -/
def hasW (X Y W H x y : Int) : Bool := (decide (X ≤ x) && decide (x < wrap64 (X + W))) && (decide (Y ≤ y) && decide (y < wrap64 (Y + H)))
set_option maxHeartbeats 1000000 in
theorem qHasW_any (X Y W H x y : Int) (w : World) :
    Calls Try.prog 19 #[reg X Y W H, .int .i64 x, .int .i64 y] w fun e w' => e = .returned (.bool (hasW X Y W H x y)) ∧ Below w.heap.size w w' := by
  have HB := Lib.hid (show hasW X Y W H x y = ((decide (X ≤ x) && decide (x < wrap64 (X + W))) && (decide (Y ≤ y) && decide (y < wrap64 (Y + H)))) from rfl)
  generalize hasW X Y W H x y = q at *
  go_enter Try.func19, Try.ntmps19
  go_wp2
  all_goals go_ret
  all_goals exact ⟨ret_bool (by rw [HB.out, Bool.eq_iff_iff]; simp; omega), (by repeat (first | exact Below.refl _ _ | refine Below.alloc ?_ (by first | omega | (simp; done) | (simp; omega)) _ | refine Below.setCell ?_ (by first | omega | (simp; done) | (simp; omega)) _ | refine Below.drew ?_))⟩

/-- What the law keeps: the boxes of its field and of its two places. -/
structure LnAt (w : World) (X Y W H : Int) (s : Value) (ax ay cx cy : Int) (wr : World) : Prop where
  f : wr.heap[w.heap.size]? = some (fldO X Y W H s)
  a : wr.heap[w.heap.size + 1]? = some (ptObj ax ay)
  c : wr.heap[w.heap.size + 1 + 1]? = some (ptObj cx cy)
  b : Below w.heap.size w wr
theorem LnAt.stay {w w1 w2 : World} {X Y W H : Int} {s : Value} {ax ay cx cy : Int} (h : LnAt w X Y W H s ax ay cx cy w1) (hb : Below w1.heap.size w1 w2) : LnAt w X Y W H s ax ay cx cy w2 :=
  ⟨blkStay h.f hb, blkStay h.a hb, blkStay h.c hb, h.b.trans (hb.mono h.b.size)⟩
theorem LnAt.new (w : World) (X Y W H : Int) (s : Value) (ax ay cx cy : Int) : LnAt w X Y W H s ax ay cx cy (((w.alloc (fldO X Y W H s)).alloc (ptObj ax ay)).alloc (ptObj cx cy)) :=
  ⟨by (first | (rw [heap_alloc_get, if_pos rfl]; done) | ((simp only [heap_alloc_get, heap_size_alloc, if_true]) <;> ((repeat' split) <;> first | rfl | omega))), by (first | (rw [heap_alloc_get, if_pos rfl]; done) | ((simp only [heap_alloc_get, heap_size_alloc, if_true]) <;> ((repeat' split) <;> first | rfl | omega))), by (first | (rw [heap_alloc_get, if_pos rfl]; done) | ((simp only [heap_alloc_get, heap_size_alloc, if_true]) <;> ((repeat' split) <;> first | rfl | omega))), (by repeat (first | exact Below.refl _ _ | refine Below.alloc ?_ (by first | omega | (simp; done) | (simp; omega)) _ | refine Below.setCell ?_ (by first | omega | (simp; done) | (simp; omega)) _ | refine Below.drew ?_))⟩

/-- The errors of the two places, as the law reckons them. -/
def want1 (bxa bya : Bool) : Int := firstE 0 (whenE (!bxa || !bya) 5)
def want2 (bxa bya bxc byc : Bool) : Int := firstE (want1 bxa bya) (whenE (!bxc || !byc) 5)
set_option maxRecDepth 100000 in
set_option maxHeartbeats 8000000 in
theorem linAt (X Y W H : Int) (a : Option Addr) (n cap : Nat) (ax ay cx cy : Int) (w : World) (bxa bya bxc byc : Bool) (pe fe : Int) (hc : Bool)
    (WXA : Hid (∀ w, Calls Try.prog 14 #[.int .i64 ax, .int .i64 (-4194304), .int .i64 4194304] w fun e w' => e = .returned (.bool bxa) ∧ w = w'))
    (WYA : Hid (∀ w, Calls Try.prog 14 #[.int .i64 ay, .int .i64 (-4194304), .int .i64 4194304] w fun e w' => e = .returned (.bool bya) ∧ w = w'))
    (WXC : Hid (∀ w, Calls Try.prog 14 #[.int .i64 cx, .int .i64 (-4194304), .int .i64 4194304] w fun e w' => e = .returned (.bool bxc) ∧ w = w'))
    (WYC : Hid (∀ w, Calls Try.prog 14 #[.int .i64 cy, .int .i64 (-4194304), .int .i64 4194304] w fun e w' => e = .returned (.bool byc) ∧ w = w'))
    (hw2 : want2 bxa bya bxc byc = 5)
    (LI : Hid (∀ w', Below w.heap.size w w' → Calls Try.prog 10 #[ptV ax ay, ptV cx cy] w' fun e w'' => e = .returned (.tuple #[.slice none 0 0, .int .i64 5]) ∧ Below w'.heap.size w' w''))
    (PR : Hid (∀ w', Below w.heap.size w w' → Calls Try.prog 11 #[fldV X Y W H (.slice a n cap), ptV ax ay, ptV cx cy] w' fun e w'' => e = .returned (.tuple #[.slice none 0 0, .int .i64 pe]) ∧ Below w'.heap.size w' w''))
    (FE : Hid (∀ w', Below w.heap.size w w' → Calls Try.prog 18 #[fldV X Y W H (.slice a n cap)] w' fun e w'' => e = .returned (.int .i64 fe) ∧ Below w'.heap.size w' w''))
    (HA : Hid (∀ w, Calls Try.prog 19 #[reg X Y W H, .int .i64 ax, .int .i64 ay] w fun e w' => e = .returned (.bool true) ∧ Below w.heap.size w w'))
    (HC : Hid (∀ w, Calls Try.prog 19 #[reg X Y W H, .int .i64 cx, .int .i64 cy] w fun e w' => e = .returned (.bool hc) ∧ Below w.heap.size w w'))
    (FI2 : Hid (∀ p w, w.heap[p]? = some (.cells #[.int .i64 fe, .int .i64 (whenE (!hc) 5)] 30) → Calls Try.prog 12 #[.slice (some ⟨p, 0, none⟩) 2 2] w fun e w' => e = .returned (.int .i64 pe) ∧ w = w')) (hpe : (pe != 0) = true) :
    Calls Try.prog 3 #[fldV X Y W H (.slice a n cap), ptV ax ay, ptV cx cy] w fun e w' => e = .returned (.bool true) ∧ Below w.heap.size w w' := by
  have A0 := Lib.hid (LnAt.new w X Y W H (.slice a n cap) ax ay cx cy)
  have WH := Lib.hid (fun c w => when_any c 5 w)
  have FI := Lib.hid (fun x y p w h => first2_any x y p w h)
  have E1 := Lib.hid (show want1 bxa bya = firstE 0 (whenE (!bxa || !bya) 5) from rfl)
  have E2 := Lib.hid (show want2 bxa bya bxc byc = firstE (want1 bxa bya) (whenE (!bxc || !byc) 5) from rfl)
  rw [hw2] at E2
  clear hw2
  generalize want1 bxa bya = p1 at *
  go_enter Try.func3, Try.ntmps3
  go_wp2_with (first | (go_at_call 10; refine (LI.out _ (A0.out.b)).mono ?_; rintro e w1 ⟨rfl, hb1⟩; have A1 := Lib.hid (A0.out.stay hb1); clear hb1; obtain ⟨cF, fF, zF⟩ := blkC A1.out.f; obtain ⟨cA, fA, zA⟩ := blkC A1.out.a; obtain ⟨cC, fC, zC⟩ := blkC A1.out.c) | (go_at_call 11; refine (PR.out _ (A1.out.b)).mono ?_; rintro e w2 ⟨rfl, hb2⟩; have A2 := Lib.hid (A1.out.stay hb2); clear hb2; clear cF fF zF cA fA zA cC fC zC; obtain ⟨cF, fF, zF⟩ := blkC A2.out.f; obtain ⟨cA, fA, zA⟩ := blkC A2.out.a; obtain ⟨cC, fC, zC⟩ := blkC A2.out.c))
  have hl := heap_alloc_new w2 (.cells #[.int .i64 ax, .int .i64 ay, .int .i64 cx, .int .i64 cy] 28)
  have hbl : Below w2.heap.size w2 (w2.alloc (.cells #[.int .i64 ax, .int .i64 ay, .int .i64 cx, .int .i64 cy] 28)) := (Below.refl _ _).alloc (Nat.le_refl _) _
  have A3 := Lib.hid (A2.out.stay hbl)
  have HL3 := Lib.hid hl
  have BL3 := Lib.hid hbl
  obtain ⟨lp, hlp⟩ : ∃ lp, lp = w2.heap.size := ⟨_, rfl⟩
  rw [← hlp] at HL3 ⊢
  clear hl hbl hlp cF fF zF cA fA zA cC fC zC
  generalize w2.alloc (.cells #[.int .i64 ax, .int .i64 ay, .int .i64 cx, .int .i64 cy] 28) = w3 at *
  go_loopw [11, 31] (fun s11 s31 wr => ((s31 = .int .i64 0 ∧ s11 = .int .i64 0) ∨ (s31 = .int .i64 1 ∧ s11 = .int .i64 p1) ∨ (s31 = .int .i64 2 ∧ s11 = .int .i64 5)) ∧ Below w3.heap.size w3 wr) (fun _ s31 _ => 3 - (intOf s31).toNat)
  case atStart => exact ⟨.inl ⟨rfl, rfl⟩, Below.refl _ _⟩
  case round =>
    obtain ⟨hs, hb⟩ := hrel
    have HB := Lib.hid hb
    have AR := Lib.hid (A3.out.stay hb)
    obtain ⟨cL, fL, zL⟩ := blkC (blkStay HL3.out hb)
    clear hb
    rcases hs with ⟨rfl, rfl⟩ | ⟨rfl, rfl⟩ | ⟨rfl, rfl⟩
    · cases bxa
      · go_wp2_with (first | (go_at_call 14; (with_reducible refine (WXA.out _).mono ?_); rintro e w' ⟨rfl, rfl⟩) | (go_at_call 13; refine (WH.out _ _).mono ?_; rintro e w' ⟨rfl, rfl⟩) | (go_at_call 12; refine (FI.out 0 (whenE true 5) _ _ (by (first | (rw [heap_alloc_get, if_pos rfl]; done) | ((simp only [heap_alloc_get, heap_size_alloc, if_true]) <;> ((repeat' split) <;> first | rfl | omega))))).mono ?_; rintro e w' ⟨rfl, rfl⟩))
        go_roundw
        case rel => exact ⟨.inr (.inl ⟨rfl, congrArg (Value.int .i64) E1.out.symm⟩), HB.out.trans (Below.mono (show Below wr.heap.size wr _ from (by repeat (first | exact Below.refl _ _ | refine Below.alloc ?_ (by first | omega | (simp; done) | (simp; omega)) _ | refine Below.setCell ?_ (by first | omega | (simp; done) | (simp; omega)) _ | refine Below.drew ?_))) HB.out.size)⟩
        case measure => simp [intOf]
      · go_wp2_with (first | (go_at_call 14; (with_reducible refine (WXA.out _).mono ?_); rintro e w' ⟨rfl, rfl⟩) | (go_at_call 14; (with_reducible refine (WYA.out _).mono ?_); rintro e w' ⟨rfl, rfl⟩) | (go_at_call 13; refine (WH.out _ _).mono ?_; rintro e w' ⟨rfl, rfl⟩) | (go_at_call 12; refine (FI.out 0 (whenE (!bya) 5) _ _ (by (first | (rw [heap_alloc_get, if_pos rfl]; done) | ((simp only [heap_alloc_get, heap_size_alloc, if_true]) <;> ((repeat' split) <;> first | rfl | omega))))).mono ?_; rintro e w' ⟨rfl, rfl⟩))
        go_roundw
        case rel => exact ⟨.inr (.inl ⟨rfl, congrArg (Value.int .i64) E1.out.symm⟩), HB.out.trans (Below.mono (show Below wr.heap.size wr _ from (by repeat (first | exact Below.refl _ _ | refine Below.alloc ?_ (by first | omega | (simp; done) | (simp; omega)) _ | refine Below.setCell ?_ (by first | omega | (simp; done) | (simp; omega)) _ | refine Below.drew ?_))) HB.out.size)⟩
        case measure => simp [intOf]
    · cases bxc
      · go_wp2_with (first | (go_at_call 14; (with_reducible refine (WXC.out _).mono ?_); rintro e w' ⟨rfl, rfl⟩) | (go_at_call 13; refine (WH.out _ _).mono ?_; rintro e w' ⟨rfl, rfl⟩) | (go_at_call 12; refine (FI.out p1 (whenE true 5) _ _ (by (first | (rw [heap_alloc_get, if_pos rfl]; done) | ((simp only [heap_alloc_get, heap_size_alloc, if_true]) <;> ((repeat' split) <;> first | rfl | omega))))).mono ?_; rintro e w' ⟨rfl, rfl⟩))
        go_roundw
        case rel => exact ⟨.inr (.inr ⟨rfl, congrArg (Value.int .i64) E2.out.symm⟩), HB.out.trans (Below.mono (show Below wr.heap.size wr _ from (by repeat (first | exact Below.refl _ _ | refine Below.alloc ?_ (by first | omega | (simp; done) | (simp; omega)) _ | refine Below.setCell ?_ (by first | omega | (simp; done) | (simp; omega)) _ | refine Below.drew ?_))) HB.out.size)⟩
        case measure => simp [intOf]
      · go_wp2_with (first | (go_at_call 14; (with_reducible refine (WXC.out _).mono ?_); rintro e w' ⟨rfl, rfl⟩) | (go_at_call 14; (with_reducible refine (WYC.out _).mono ?_); rintro e w' ⟨rfl, rfl⟩) | (go_at_call 13; refine (WH.out _ _).mono ?_; rintro e w' ⟨rfl, rfl⟩) | (go_at_call 12; refine (FI.out p1 (whenE (!byc) 5) _ _ (by (first | (rw [heap_alloc_get, if_pos rfl]; done) | ((simp only [heap_alloc_get, heap_size_alloc, if_true]) <;> ((repeat' split) <;> first | rfl | omega))))).mono ?_; rintro e w' ⟨rfl, rfl⟩))
        go_roundw
        case rel => exact ⟨.inr (.inr ⟨rfl, congrArg (Value.int .i64) E2.out.symm⟩), HB.out.trans (Below.mono (show Below wr.heap.size wr _ from (by repeat (first | exact Below.refl _ _ | refine Below.alloc ?_ (by first | omega | (simp; done) | (simp; omega)) _ | refine Below.setCell ?_ (by first | omega | (simp; done) | (simp; omega)) _ | refine Below.drew ?_))) HB.out.size)⟩
        case measure => simp [intOf]
    · obtain ⟨cF, fF, zF⟩ := blkC AR.out.f
      obtain ⟨cA, fA, zA⟩ := blkC AR.out.a
      obtain ⟨cC, fC, zC⟩ := blkC AR.out.c
      clear cL fL zL
      go_wp2_with (go_at_call 15; refine (levels_any _).mono ?_; rintro e w4 ⟨rfl, hb4⟩; have A4 := Lib.hid (AR.out.stay hb4); clear hb4; clear cF fF zF cA fA zA cC fC zC; obtain ⟨cF, fF, zF⟩ := blkC A4.out.f; obtain ⟨cA, fA, zA⟩ := blkC A4.out.a; obtain ⟨cC, fC, zC⟩ := blkC A4.out.c)
      refine wp_region_held_drew (S := (fun w' => (∀ o, w'.cell? ⟨w.heap.size, o, none⟩ = #[.int .i64 X, .int .i64 Y, .int .i64 W, .int .i64 H, .slice a n cap][o]?) ∧ (∀ o, w'.cell? ⟨w.heap.size + 1, o, none⟩ = #[.int .i64 ax, .int .i64 ay][o]?) ∧ (∀ o, w'.cell? ⟨w.heap.size + 1 + 1, o, none⟩ = #[.int .i64 cx, .int .i64 cy][o]?) ∧ Below w4.heap.size w4 w')) (by kernel_rfl) ?_ (fun hHeld => ?_)
      · try dsimp only
        exact (fun K => ⟨(blkC (A4.out.stay K).f).1, (blkC (A4.out.stay K).a).1, (blkC (A4.out.stay K).c).1, K⟩) (by repeat (first | exact hb9 | exact Below.refl _ _ | refine Below.drew ?_ | refine Below.alloc ?_ (by first | exact Nat.le_refl _ | exact hb9.size | (simp; done) | (have := hb9.size; simp; omega) | (simp; omega)) _))
      refine wpAnyH_take (i := 0) (v := ?hv1) rfl (by kernel_rfl) (by kernel_rfl) (by kernel_rfl) (fun _ _ _ h => h) (Or.inl ⟨by rfl, ?hy1⟩) (by assumption) ?hr1; (case hy1 => ((intro w hSw; (try dsimp only at hSw); go_simp) <;> with_reducible rfl)); try simp only [Act.put, List.setIfInBounds_toArray]
      refine wpAnyH_take (i := 2) (v := ?hv3) rfl (by kernel_rfl) (by kernel_rfl) (by kernel_rfl) (fun _ _ _ h => h) (Or.inl ⟨by rfl, ?hy3⟩) (by assumption) ?hr3; (case hy3 => ((intro w hSw; (try dsimp only at hSw); go_simp) <;> with_reducible rfl)); try simp only [Act.put]
      refine wpAnyH_take (i := 3) (v := ?hv4) rfl (by kernel_rfl) (by kernel_rfl) (by kernel_rfl) (fun _ _ _ h => h) (Or.inl ⟨by rfl, ?hy4⟩) (by assumption) ?hr4; (case hy4 => ((intro w hSw; (try dsimp only at hSw); go_simp) <;> with_reducible rfl)); try simp only [Act.put]
      refine wpAnyH_take (i := 4) (v := ?hv5) rfl (by kernel_rfl) (by kernel_rfl) (by kernel_rfl) (fun _ _ _ h => h) (Or.inl ⟨by rfl, ?hy5⟩) (by assumption) ?hr5; (case hy5 => ((intro w hSw; (try dsimp only at hSw); go_simp) <;> with_reducible rfl)); try simp only [Act.put]
      refine wpAnyH_take (i := 5) (v := ?hv6) rfl (by kernel_rfl) (by kernel_rfl) (by kernel_rfl) (fun _ _ _ h => h) (Or.inl ⟨by rfl, ?hy6⟩) (by assumption) ?hr6; (case hy6 => ((intro w hSw; (try dsimp only at hSw); go_simp) <;> with_reducible rfl)); try simp only [Act.put]
      refine wpAnyH_take (i := 6) (v := ?hv7) rfl (by kernel_rfl) (by kernel_rfl) (by kernel_rfl) (fun _ _ _ h => h) (Or.inl ⟨by rfl, ?hy7⟩) (by assumption) ?hr7; (case hy7 => ((intro w hSw; (try dsimp only at hSw); go_simp) <;> with_reducible rfl)); try simp only [Act.put]
      refine wpAnyH_take (i := 7) (v := ?hv8) rfl (by kernel_rfl) (by kernel_rfl) (by kernel_rfl) (fun _ _ _ h => h) (Or.inl ⟨by rfl, ?hy8⟩) (by assumption) ?hr8; (case hy8 => ((intro w hSw; (try dsimp only at hSw); go_simp) <;> with_reducible rfl)); try simp only [Act.put]
      refine wpAnyH_ready (rs := [1]) (by kernel_rfl) (by simp) ?_; refine AllReadyH.cons rfl (fun K hK => ?_) AllReadyH.nil; go_simp
      (with_reducible refine Calls.mono (FE.out _ (A4.out.b.trans (Below.mono (by repeat (first | exact hb9 | exact Below.refl _ _ | refine Below.drew ?_ | refine Below.alloc ?_ (by first | exact Nat.le_refl _ | exact hb9.size | (simp; done) | (have := hb9.size; simp; omega) | (simp; omega)) _)) A4.out.b.size))) ?_); rintro e w1r ⟨rfl, hb8⟩
      have hb7 : Below w4.heap.size w4 w1r := Below.trans (by repeat (first | exact hb9 | exact Below.refl _ _ | refine Below.drew ?_ | refine Below.alloc ?_ (by first | exact Nat.le_refl _ | exact hb9.size | (simp; done) | (have := hb9.size; simp; omega) | (simp; omega)) _)) (Below.mono hb8 (by first | exact Nat.le_refl _ | exact hb9.size | (simp; done) | (have := hb9.size; simp; omega) | (simp; omega)))
      clear hb8; (try clear hb9); have hb9 := hb7; clear hb7
      try go_wp2_with fail
      refine hK.out _ _ ?_ (fun hHeld => ?_)
      · try dsimp only
        exact (fun K => ⟨(blkC (A4.out.stay K).f).1, (blkC (A4.out.stay K).a).1, (blkC (A4.out.stay K).c).1, K⟩) (by repeat (first | exact hb9 | exact Below.refl _ _ | refine Below.drew ?_ | refine Below.alloc ?_ (by first | exact Nat.le_refl _ | exact hb9.size | (simp; done) | (have := hb9.size; simp; omega) | (simp; omega)) _))
      clear hK K; try simp only [Act.put, List.setIfInBounds_toArray, List.set_cons_zero, List.set_cons_succ]
      refine wpAnyH_ready (rs := [8]) (by kernel_rfl) (by simp) ?_; refine AllReadyH.cons rfl (fun K hK => ?_) AllReadyH.nil; go_simp
      (with_reducible refine Calls.mono (HA.out _) ?_); rintro e w8r ⟨rfl, hb8⟩
      have hb7 : Below w4.heap.size w4 w8r := Below.trans (by repeat (first | exact hb9 | exact Below.refl _ _ | refine Below.drew ?_ | refine Below.alloc ?_ (by first | exact Nat.le_refl _ | exact hb9.size | (simp; done) | (have := hb9.size; simp; omega) | (simp; omega)) _)) (Below.mono hb8 (by first | exact Nat.le_refl _ | exact hb9.size | (simp; done) | (have := hb9.size; simp; omega) | (simp; omega)))
      clear hb8; (try clear hb9); have hb9 := hb7; clear hb7
      try go_wp2_with fail
      refine hK.out _ _ ?_ (fun hHeld => ?_)
      · try dsimp only
        exact (fun K => ⟨(blkC (A4.out.stay K).f).1, (blkC (A4.out.stay K).a).1, (blkC (A4.out.stay K).c).1, K⟩) (by repeat (first | exact hb9 | exact Below.refl _ _ | refine Below.drew ?_ | refine Below.alloc ?_ (by first | exact Nat.le_refl _ | exact hb9.size | (simp; done) | (have := hb9.size; simp; omega) | (simp; omega)) _))
      clear hK K; try simp only [Act.put, List.setIfInBounds_toArray, List.set_cons_zero, List.set_cons_succ]
      refine wpAnyH_take (i := 9) (v := ?hv9) rfl (by kernel_rfl) (by kernel_rfl) (by kernel_rfl) (fun _ _ _ h => h) (Or.inl ⟨by rfl, ?hy9⟩) (by assumption) ?hr9; (case hy9 => ((intro w hSw; (try dsimp only at hSw); go_simp) <;> with_reducible rfl)); try simp only [Act.put]
      refine wpAnyH_take (i := 10) (v := ?hv10) rfl (by kernel_rfl) (by kernel_rfl) (by kernel_rfl) (fun _ _ _ h => h) (Or.inl ⟨by rfl, ?hy10⟩) (by assumption) ?hr10; (case hy10 => ((intro w hSw; (try dsimp only at hSw); go_simp) <;> with_reducible rfl)); try simp only [Act.put]
      refine wpAnyH_take (i := 11) (v := ?hv23) rfl (by kernel_rfl) (by kernel_rfl) (by kernel_rfl) (fun _ _ _ h => h) (Or.inl ⟨by kernel_rfl, ?hy23⟩) (by assumption) ?hr23; (case hy23 => ((intro w hSw; (try dsimp only at hSw); go_simp) <;> with_reducible rfl)); try simp only [Act.put]
      refine wpAnyH_take (i := 12) (v := ?hv24) rfl (by kernel_rfl) (by kernel_rfl) (by kernel_rfl) (fun _ _ _ h => h) (Or.inl ⟨by kernel_rfl, ?hy24⟩) (by assumption) ?hr24; (case hy24 => ((intro w hSw; (try dsimp only at hSw); go_simp) <;> with_reducible rfl)); try simp only [Act.put]
      refine wpAnyH_take (i := 13) (v := ?hv25) rfl (by kernel_rfl) (by kernel_rfl) (by kernel_rfl) (fun _ _ _ h => h) (Or.inl ⟨by kernel_rfl, ?hy25⟩) (by assumption) ?hr25; (case hy25 => ((intro w hSw; (try dsimp only at hSw); go_simp) <;> with_reducible rfl)); try simp only [Act.put]
      refine wpAnyH_take (i := 14) (v := ?hv26) rfl (by kernel_rfl) (by kernel_rfl) (by kernel_rfl) (fun _ _ _ h => h) (Or.inl ⟨by kernel_rfl, ?hy26⟩) (by assumption) ?hr26; (case hy26 => ((intro w hSw; (try dsimp only at hSw); go_simp) <;> with_reducible rfl)); try simp only [Act.put]
      refine wpAnyH_take (i := 15) (v := ?hv27) rfl (by kernel_rfl) (by kernel_rfl) (by kernel_rfl) (fun _ _ _ h => h) (Or.inl ⟨by kernel_rfl, ?hy27⟩) (by assumption) ?hr27; (case hy27 => ((intro w hSw; (try dsimp only at hSw); go_simp) <;> with_reducible rfl)); try simp only [Act.put]
      refine wpAnyH_take (i := 16) (v := ?hv28) rfl (by kernel_rfl) (by kernel_rfl) (by kernel_rfl) (fun _ _ _ h => h) (Or.inl ⟨by kernel_rfl, ?hy28⟩) (by assumption) ?hr28; (case hy28 => ((intro w hSw; (try dsimp only at hSw); go_simp) <;> with_reducible rfl)); try simp only [Act.put]
      refine wpAnyH_ready (rs := [17]) (by kernel_rfl) (by simp) ?_; refine AllReadyH.cons rfl (fun K hK => ?_) AllReadyH.nil; go_simp
      (with_reducible refine Calls.mono (HC.out _) ?_); rintro e w17r ⟨rfl, hb8⟩
      have hb7 : Below w4.heap.size w4 w17r := Below.trans (by repeat (first | exact hb9 | exact Below.refl _ _ | refine Below.drew ?_ | refine Below.alloc ?_ (by first | exact Nat.le_refl _ | exact hb9.size | (simp; done) | (have := hb9.size; simp; omega) | (simp; omega)) _)) (Below.mono hb8 (by first | exact Nat.le_refl _ | exact hb9.size | (simp; done) | (have := hb9.size; simp; omega) | (simp; omega)))
      clear hb8; (try clear hb9); have hb9 := hb7; clear hb7
      try go_wp2_with fail
      refine hK.out _ _ ?_ (fun hHeld => ?_)
      · try dsimp only
        exact (fun K => ⟨(blkC (A4.out.stay K).f).1, (blkC (A4.out.stay K).a).1, (blkC (A4.out.stay K).c).1, K⟩) (by repeat (first | exact hb9 | exact Below.refl _ _ | refine Below.drew ?_ | refine Below.alloc ?_ (by first | exact Nat.le_refl _ | exact hb9.size | (simp; done) | (have := hb9.size; simp; omega) | (simp; omega)) _))
      clear hK K; try simp only [Act.put, List.setIfInBounds_toArray, List.set_cons_zero, List.set_cons_succ]
      refine wpAnyH_take (i := 18) (v := ?hv29) rfl (by kernel_rfl) (by kernel_rfl) (by kernel_rfl) (fun _ _ _ h => h) (Or.inl ⟨by kernel_rfl, ?hy29⟩) (by assumption) ?hr29; (case hy29 => ((intro w hSw; (try dsimp only at hSw); go_simp) <;> with_reducible rfl)); try simp only [Act.put]
      refine wpAnyH_take (i := 19) (v := ?hv11) rfl (by kernel_rfl) (by kernel_rfl) (by kernel_rfl) (fun _ _ _ h => h) (Or.inl ⟨by rfl, ?hy11⟩) (by assumption) ?hr11; (case hy11 => ((intro w hSw; (try dsimp only at hSw); go_simp) <;> with_reducible rfl)); try simp only [Act.put]
      refine wpAnyH_ready (rs := [20]) (by kernel_rfl) (by simp) ?_; refine AllReadyH.cons rfl (fun K hK => ?_) AllReadyH.nil; go_simp
      (with_reducible refine Calls.mono (WH.out (!hc) _) ?_); rintro e w' ⟨rfl, rfl⟩
      try go_wp2_with fail
      refine hK.out _ _ ?_ (fun hHeld => ?_)
      · try dsimp only
        exact (fun K => ⟨(blkC (A4.out.stay K).f).1, (blkC (A4.out.stay K).a).1, (blkC (A4.out.stay K).c).1, K⟩) (by repeat (first | exact hb9 | exact Below.refl _ _ | refine Below.drew ?_ | refine Below.alloc ?_ (by first | exact Nat.le_refl _ | exact hb9.size | (simp; done) | (have := hb9.size; simp; omega) | (simp; omega)) _))
      clear hK K; try simp only [Act.put, List.setIfInBounds_toArray, List.set_cons_zero, List.set_cons_succ]
      refine wpAnyH_ready (rs := [21]) (by kernel_rfl) (by simp) ?_; refine AllReadyH.cons rfl (fun K hK => ?_) AllReadyH.nil; go_simp
      refine hK.out _ _ ?_ (fun hHeld => ?_)
      · try dsimp only
        exact (fun K => ⟨(blkC (A4.out.stay K).f).1, (blkC (A4.out.stay K).a).1, (blkC (A4.out.stay K).c).1, K⟩) (by repeat (first | exact hb9 | exact Below.refl _ _ | refine Below.drew ?_ | refine Below.alloc ?_ (by first | exact Nat.le_refl _ | exact hb9.size | (simp; done) | (have := hb9.size; simp; omega) | (simp; omega)) _))
      clear hK K; try simp only [Act.put, List.setIfInBounds_toArray, List.set_cons_zero, List.set_cons_succ]
      refine wpAnyH_ready (rs := [22]) (by kernel_rfl) (by simp) ?_; refine AllReadyH.cons rfl (fun K hK => ?_) AllReadyH.nil; go_simp
      (with_reducible refine Calls.mono (FI2.out _ _ (by first | ((simp only [heap_alloc_get, if_true]) <;> ((repeat' split) <;> first | rfl | omega)) | ((simp only [heap_alloc_get, heap_size_alloc, if_true]) <;> ((repeat' split) <;> first | rfl | omega)))) ?_); rintro e w' ⟨rfl, rfl⟩
      try go_wp2_with fail
      refine hK.out _ _ ?_ (fun hHeld => ?_)
      · try dsimp only
        exact (fun K => ⟨(blkC (A4.out.stay K).f).1, (blkC (A4.out.stay K).a).1, (blkC (A4.out.stay K).c).1, K⟩) (by repeat (first | exact hb9 | exact Below.refl _ _ | refine Below.drew ?_ | refine Below.alloc ?_ (by first | exact Nat.le_refl _ | exact hb9.size | (simp; done) | (have := hb9.size; simp; omega) | (simp; omega)) _))
      clear hK K; try simp only [Act.put, List.setIfInBounds_toArray, List.set_cons_zero, List.set_cons_succ]
      refine wpAnyH_take (i := 23) (v := ?hv12) rfl (by kernel_rfl) (by kernel_rfl) (by kernel_rfl) (fun _ _ _ h => h) (Or.inl ⟨by rfl, ?hy12⟩) (by assumption) ?hr12; (case hy12 => ((intro w hSw; (try dsimp only at hSw); go_simp) <;> with_reducible rfl)); try simp only [Act.put]
      refine wpAnyH_done (by kernel_rfl) ?_ _
      have AH := Lib.hid (A4.out.stay hHeld.2.2.2)
      clear hHeld
      go_wp2
      go_ret
      exact ⟨rfl, AH.out.b⟩

set_option maxRecDepth 100000 in
set_option maxHeartbeats 8000000 in
theorem linAf (X Y W H : Int) (a : Option Addr) (n cap : Nat) (ax ay cx cy : Int) (w : World) (bxa bya bxc byc : Bool) (pe fe : Int) (hc : Bool)
    (WXA : Hid (∀ w, Calls Try.prog 14 #[.int .i64 ax, .int .i64 (-4194304), .int .i64 4194304] w fun e w' => e = .returned (.bool bxa) ∧ w = w'))
    (WYA : Hid (∀ w, Calls Try.prog 14 #[.int .i64 ay, .int .i64 (-4194304), .int .i64 4194304] w fun e w' => e = .returned (.bool bya) ∧ w = w'))
    (WXC : Hid (∀ w, Calls Try.prog 14 #[.int .i64 cx, .int .i64 (-4194304), .int .i64 4194304] w fun e w' => e = .returned (.bool bxc) ∧ w = w'))
    (WYC : Hid (∀ w, Calls Try.prog 14 #[.int .i64 cy, .int .i64 (-4194304), .int .i64 4194304] w fun e w' => e = .returned (.bool byc) ∧ w = w'))
    (hw2 : want2 bxa bya bxc byc = 5)
    (LI : Hid (∀ w', Below w.heap.size w w' → Calls Try.prog 10 #[ptV ax ay, ptV cx cy] w' fun e w'' => e = .returned (.tuple #[.slice none 0 0, .int .i64 5]) ∧ Below w'.heap.size w' w''))
    (PR : Hid (∀ w', Below w.heap.size w w' → Calls Try.prog 11 #[fldV X Y W H (.slice a n cap), ptV ax ay, ptV cx cy] w' fun e w'' => e = .returned (.tuple #[.slice none 0 0, .int .i64 pe]) ∧ Below w'.heap.size w' w''))
    (FE : Hid (∀ w', Below w.heap.size w w' → Calls Try.prog 18 #[fldV X Y W H (.slice a n cap)] w' fun e w'' => e = .returned (.int .i64 fe) ∧ Below w'.heap.size w' w''))
    (HA : Hid (∀ w, Calls Try.prog 19 #[reg X Y W H, .int .i64 ax, .int .i64 ay] w fun e w' => e = .returned (.bool false) ∧ Below w.heap.size w w'))
    (FI2 : Hid (∀ p w, w.heap[p]? = some (.cells #[.int .i64 fe, .int .i64 (whenE true 5)] 30) → Calls Try.prog 12 #[.slice (some ⟨p, 0, none⟩) 2 2] w fun e w' => e = .returned (.int .i64 pe) ∧ w = w')) (hpe : (pe != 0) = true) :
    Calls Try.prog 3 #[fldV X Y W H (.slice a n cap), ptV ax ay, ptV cx cy] w fun e w' => e = .returned (.bool true) ∧ Below w.heap.size w w' := by
  have A0 := Lib.hid (LnAt.new w X Y W H (.slice a n cap) ax ay cx cy)
  have WH := Lib.hid (fun c w => when_any c 5 w)
  have FI := Lib.hid (fun x y p w h => first2_any x y p w h)
  have E1 := Lib.hid (show want1 bxa bya = firstE 0 (whenE (!bxa || !bya) 5) from rfl)
  have E2 := Lib.hid (show want2 bxa bya bxc byc = firstE (want1 bxa bya) (whenE (!bxc || !byc) 5) from rfl)
  rw [hw2] at E2
  clear hw2
  generalize want1 bxa bya = p1 at *
  go_enter Try.func3, Try.ntmps3
  go_wp2_with (first | (go_at_call 10; refine (LI.out _ (A0.out.b)).mono ?_; rintro e w1 ⟨rfl, hb1⟩; have A1 := Lib.hid (A0.out.stay hb1); clear hb1; obtain ⟨cF, fF, zF⟩ := blkC A1.out.f; obtain ⟨cA, fA, zA⟩ := blkC A1.out.a; obtain ⟨cC, fC, zC⟩ := blkC A1.out.c) | (go_at_call 11; refine (PR.out _ (A1.out.b)).mono ?_; rintro e w2 ⟨rfl, hb2⟩; have A2 := Lib.hid (A1.out.stay hb2); clear hb2; clear cF fF zF cA fA zA cC fC zC; obtain ⟨cF, fF, zF⟩ := blkC A2.out.f; obtain ⟨cA, fA, zA⟩ := blkC A2.out.a; obtain ⟨cC, fC, zC⟩ := blkC A2.out.c))
  have hl := heap_alloc_new w2 (.cells #[.int .i64 ax, .int .i64 ay, .int .i64 cx, .int .i64 cy] 28)
  have hbl : Below w2.heap.size w2 (w2.alloc (.cells #[.int .i64 ax, .int .i64 ay, .int .i64 cx, .int .i64 cy] 28)) := (Below.refl _ _).alloc (Nat.le_refl _) _
  have A3 := Lib.hid (A2.out.stay hbl)
  have HL3 := Lib.hid hl
  have BL3 := Lib.hid hbl
  obtain ⟨lp, hlp⟩ : ∃ lp, lp = w2.heap.size := ⟨_, rfl⟩
  rw [← hlp] at HL3 ⊢
  clear hl hbl hlp cF fF zF cA fA zA cC fC zC
  generalize w2.alloc (.cells #[.int .i64 ax, .int .i64 ay, .int .i64 cx, .int .i64 cy] 28) = w3 at *
  go_loopw [11, 31] (fun s11 s31 wr => ((s31 = .int .i64 0 ∧ s11 = .int .i64 0) ∨ (s31 = .int .i64 1 ∧ s11 = .int .i64 p1) ∨ (s31 = .int .i64 2 ∧ s11 = .int .i64 5)) ∧ Below w3.heap.size w3 wr) (fun _ s31 _ => 3 - (intOf s31).toNat)
  case atStart => exact ⟨.inl ⟨rfl, rfl⟩, Below.refl _ _⟩
  case round =>
    obtain ⟨hs, hb⟩ := hrel
    have HB := Lib.hid hb
    have AR := Lib.hid (A3.out.stay hb)
    obtain ⟨cL, fL, zL⟩ := blkC (blkStay HL3.out hb)
    clear hb
    rcases hs with ⟨rfl, rfl⟩ | ⟨rfl, rfl⟩ | ⟨rfl, rfl⟩
    · cases bxa
      · go_wp2_with (first | (go_at_call 14; (with_reducible refine (WXA.out _).mono ?_); rintro e w' ⟨rfl, rfl⟩) | (go_at_call 13; refine (WH.out _ _).mono ?_; rintro e w' ⟨rfl, rfl⟩) | (go_at_call 12; refine (FI.out 0 (whenE true 5) _ _ (by (first | (rw [heap_alloc_get, if_pos rfl]; done) | ((simp only [heap_alloc_get, heap_size_alloc, if_true]) <;> ((repeat' split) <;> first | rfl | omega))))).mono ?_; rintro e w' ⟨rfl, rfl⟩))
        go_roundw
        case rel => exact ⟨.inr (.inl ⟨rfl, congrArg (Value.int .i64) E1.out.symm⟩), HB.out.trans (Below.mono (show Below wr.heap.size wr _ from (by repeat (first | exact Below.refl _ _ | refine Below.alloc ?_ (by first | omega | (simp; done) | (simp; omega)) _ | refine Below.setCell ?_ (by first | omega | (simp; done) | (simp; omega)) _ | refine Below.drew ?_))) HB.out.size)⟩
        case measure => simp [intOf]
      · go_wp2_with (first | (go_at_call 14; (with_reducible refine (WXA.out _).mono ?_); rintro e w' ⟨rfl, rfl⟩) | (go_at_call 14; (with_reducible refine (WYA.out _).mono ?_); rintro e w' ⟨rfl, rfl⟩) | (go_at_call 13; refine (WH.out _ _).mono ?_; rintro e w' ⟨rfl, rfl⟩) | (go_at_call 12; refine (FI.out 0 (whenE (!bya) 5) _ _ (by (first | (rw [heap_alloc_get, if_pos rfl]; done) | ((simp only [heap_alloc_get, heap_size_alloc, if_true]) <;> ((repeat' split) <;> first | rfl | omega))))).mono ?_; rintro e w' ⟨rfl, rfl⟩))
        go_roundw
        case rel => exact ⟨.inr (.inl ⟨rfl, congrArg (Value.int .i64) E1.out.symm⟩), HB.out.trans (Below.mono (show Below wr.heap.size wr _ from (by repeat (first | exact Below.refl _ _ | refine Below.alloc ?_ (by first | omega | (simp; done) | (simp; omega)) _ | refine Below.setCell ?_ (by first | omega | (simp; done) | (simp; omega)) _ | refine Below.drew ?_))) HB.out.size)⟩
        case measure => simp [intOf]
    · cases bxc
      · go_wp2_with (first | (go_at_call 14; (with_reducible refine (WXC.out _).mono ?_); rintro e w' ⟨rfl, rfl⟩) | (go_at_call 13; refine (WH.out _ _).mono ?_; rintro e w' ⟨rfl, rfl⟩) | (go_at_call 12; refine (FI.out p1 (whenE true 5) _ _ (by (first | (rw [heap_alloc_get, if_pos rfl]; done) | ((simp only [heap_alloc_get, heap_size_alloc, if_true]) <;> ((repeat' split) <;> first | rfl | omega))))).mono ?_; rintro e w' ⟨rfl, rfl⟩))
        go_roundw
        case rel => exact ⟨.inr (.inr ⟨rfl, congrArg (Value.int .i64) E2.out.symm⟩), HB.out.trans (Below.mono (show Below wr.heap.size wr _ from (by repeat (first | exact Below.refl _ _ | refine Below.alloc ?_ (by first | omega | (simp; done) | (simp; omega)) _ | refine Below.setCell ?_ (by first | omega | (simp; done) | (simp; omega)) _ | refine Below.drew ?_))) HB.out.size)⟩
        case measure => simp [intOf]
      · go_wp2_with (first | (go_at_call 14; (with_reducible refine (WXC.out _).mono ?_); rintro e w' ⟨rfl, rfl⟩) | (go_at_call 14; (with_reducible refine (WYC.out _).mono ?_); rintro e w' ⟨rfl, rfl⟩) | (go_at_call 13; refine (WH.out _ _).mono ?_; rintro e w' ⟨rfl, rfl⟩) | (go_at_call 12; refine (FI.out p1 (whenE (!byc) 5) _ _ (by (first | (rw [heap_alloc_get, if_pos rfl]; done) | ((simp only [heap_alloc_get, heap_size_alloc, if_true]) <;> ((repeat' split) <;> first | rfl | omega))))).mono ?_; rintro e w' ⟨rfl, rfl⟩))
        go_roundw
        case rel => exact ⟨.inr (.inr ⟨rfl, congrArg (Value.int .i64) E2.out.symm⟩), HB.out.trans (Below.mono (show Below wr.heap.size wr _ from (by repeat (first | exact Below.refl _ _ | refine Below.alloc ?_ (by first | omega | (simp; done) | (simp; omega)) _ | refine Below.setCell ?_ (by first | omega | (simp; done) | (simp; omega)) _ | refine Below.drew ?_))) HB.out.size)⟩
        case measure => simp [intOf]
    · obtain ⟨cF, fF, zF⟩ := blkC AR.out.f
      obtain ⟨cA, fA, zA⟩ := blkC AR.out.a
      obtain ⟨cC, fC, zC⟩ := blkC AR.out.c
      clear cL fL zL
      go_wp2_with (go_at_call 15; refine (levels_any _).mono ?_; rintro e w4 ⟨rfl, hb4⟩; have A4 := Lib.hid (AR.out.stay hb4); clear hb4; clear cF fF zF cA fA zA cC fC zC; obtain ⟨cF, fF, zF⟩ := blkC A4.out.f; obtain ⟨cA, fA, zA⟩ := blkC A4.out.a; obtain ⟨cC, fC, zC⟩ := blkC A4.out.c)
      refine wp_region_held_drew (S := (fun w' => (∀ o, w'.cell? ⟨w.heap.size, o, none⟩ = #[.int .i64 X, .int .i64 Y, .int .i64 W, .int .i64 H, .slice a n cap][o]?) ∧ (∀ o, w'.cell? ⟨w.heap.size + 1, o, none⟩ = #[.int .i64 ax, .int .i64 ay][o]?) ∧ (∀ o, w'.cell? ⟨w.heap.size + 1 + 1, o, none⟩ = #[.int .i64 cx, .int .i64 cy][o]?) ∧ Below w4.heap.size w4 w')) (by kernel_rfl) ?_ (fun hHeld => ?_)
      · try dsimp only
        exact (fun K => ⟨(blkC (A4.out.stay K).f).1, (blkC (A4.out.stay K).a).1, (blkC (A4.out.stay K).c).1, K⟩) (by repeat (first | exact hb9 | exact Below.refl _ _ | refine Below.drew ?_ | refine Below.alloc ?_ (by first | exact Nat.le_refl _ | exact hb9.size | (simp; done) | (have := hb9.size; simp; omega) | (simp; omega)) _))
      refine wpAnyH_take (i := 0) (v := ?hv2) rfl (by kernel_rfl) (by kernel_rfl) (by kernel_rfl) (fun _ _ _ h => h) (Or.inl ⟨by rfl, ?hy2⟩) (by assumption) ?hr2; (case hy2 => ((intro w hSw; (try dsimp only at hSw); go_simp) <;> with_reducible rfl)); try simp only [Act.put, List.setIfInBounds_toArray]
      refine wpAnyH_take (i := 2) (v := ?hv13) rfl (by kernel_rfl) (by kernel_rfl) (by kernel_rfl) (fun _ _ _ h => h) (Or.inl ⟨by rfl, ?hy13⟩) (by assumption) ?hr13; (case hy13 => ((intro w hSw; (try dsimp only at hSw); go_simp) <;> with_reducible rfl)); try simp only [Act.put]
      refine wpAnyH_take (i := 3) (v := ?hv14) rfl (by kernel_rfl) (by kernel_rfl) (by kernel_rfl) (fun _ _ _ h => h) (Or.inl ⟨by rfl, ?hy14⟩) (by assumption) ?hr14; (case hy14 => ((intro w hSw; (try dsimp only at hSw); go_simp) <;> with_reducible rfl)); try simp only [Act.put]
      refine wpAnyH_take (i := 4) (v := ?hv15) rfl (by kernel_rfl) (by kernel_rfl) (by kernel_rfl) (fun _ _ _ h => h) (Or.inl ⟨by rfl, ?hy15⟩) (by assumption) ?hr15; (case hy15 => ((intro w hSw; (try dsimp only at hSw); go_simp) <;> with_reducible rfl)); try simp only [Act.put]
      refine wpAnyH_take (i := 5) (v := ?hv16) rfl (by kernel_rfl) (by kernel_rfl) (by kernel_rfl) (fun _ _ _ h => h) (Or.inl ⟨by rfl, ?hy16⟩) (by assumption) ?hr16; (case hy16 => ((intro w hSw; (try dsimp only at hSw); go_simp) <;> with_reducible rfl)); try simp only [Act.put]
      refine wpAnyH_take (i := 6) (v := ?hv17) rfl (by kernel_rfl) (by kernel_rfl) (by kernel_rfl) (fun _ _ _ h => h) (Or.inl ⟨by rfl, ?hy17⟩) (by assumption) ?hr17; (case hy17 => ((intro w hSw; (try dsimp only at hSw); go_simp) <;> with_reducible rfl)); try simp only [Act.put]
      refine wpAnyH_take (i := 7) (v := ?hv18) rfl (by kernel_rfl) (by kernel_rfl) (by kernel_rfl) (fun _ _ _ h => h) (Or.inl ⟨by rfl, ?hy18⟩) (by assumption) ?hr18; (case hy18 => ((intro w hSw; (try dsimp only at hSw); go_simp) <;> with_reducible rfl)); try simp only [Act.put]
      refine wpAnyH_ready (rs := [1]) (by kernel_rfl) (by simp) ?_; refine AllReadyH.cons rfl (fun K hK => ?_) AllReadyH.nil; go_simp
      (with_reducible refine Calls.mono (FE.out _ (A4.out.b.trans (Below.mono (by repeat (first | exact hb9 | exact Below.refl _ _ | refine Below.drew ?_ | refine Below.alloc ?_ (by first | exact Nat.le_refl _ | exact hb9.size | (simp; done) | (have := hb9.size; simp; omega) | (simp; omega)) _)) A4.out.b.size))) ?_); rintro e w1r ⟨rfl, hb8⟩
      have hb7 : Below w4.heap.size w4 w1r := Below.trans (by repeat (first | exact hb9 | exact Below.refl _ _ | refine Below.drew ?_ | refine Below.alloc ?_ (by first | exact Nat.le_refl _ | exact hb9.size | (simp; done) | (have := hb9.size; simp; omega) | (simp; omega)) _)) (Below.mono hb8 (by first | exact Nat.le_refl _ | exact hb9.size | (simp; done) | (have := hb9.size; simp; omega) | (simp; omega)))
      clear hb8; (try clear hb9); have hb9 := hb7; clear hb7
      try go_wp2_with fail
      refine hK.out _ _ ?_ (fun hHeld => ?_)
      · try dsimp only
        exact (fun K => ⟨(blkC (A4.out.stay K).f).1, (blkC (A4.out.stay K).a).1, (blkC (A4.out.stay K).c).1, K⟩) (by repeat (first | exact hb9 | exact Below.refl _ _ | refine Below.drew ?_ | refine Below.alloc ?_ (by first | exact Nat.le_refl _ | exact hb9.size | (simp; done) | (have := hb9.size; simp; omega) | (simp; omega)) _))
      clear hK K; try simp only [Act.put, List.setIfInBounds_toArray, List.set_cons_zero, List.set_cons_succ]
      refine wpAnyH_ready (rs := [8]) (by kernel_rfl) (by simp) ?_; refine AllReadyH.cons rfl (fun K hK => ?_) AllReadyH.nil; go_simp
      (with_reducible refine Calls.mono (HA.out _) ?_); rintro e w8r ⟨rfl, hb8⟩
      have hb7 : Below w4.heap.size w4 w8r := Below.trans (by repeat (first | exact hb9 | exact Below.refl _ _ | refine Below.drew ?_ | refine Below.alloc ?_ (by first | exact Nat.le_refl _ | exact hb9.size | (simp; done) | (have := hb9.size; simp; omega) | (simp; omega)) _)) (Below.mono hb8 (by first | exact Nat.le_refl _ | exact hb9.size | (simp; done) | (have := hb9.size; simp; omega) | (simp; omega)))
      clear hb8; (try clear hb9); have hb9 := hb7; clear hb7
      try go_wp2_with fail
      refine hK.out _ _ ?_ (fun hHeld => ?_)
      · try dsimp only
        exact (fun K => ⟨(blkC (A4.out.stay K).f).1, (blkC (A4.out.stay K).a).1, (blkC (A4.out.stay K).c).1, K⟩) (by repeat (first | exact hb9 | exact Below.refl _ _ | refine Below.drew ?_ | refine Below.alloc ?_ (by first | exact Nat.le_refl _ | exact hb9.size | (simp; done) | (have := hb9.size; simp; omega) | (simp; omega)) _))
      clear hK K; try simp only [Act.put, List.setIfInBounds_toArray, List.set_cons_zero, List.set_cons_succ]
      refine wpAnyH_take (i := 9) (v := ?hv19) rfl (by kernel_rfl) (by kernel_rfl) (by kernel_rfl) (fun _ _ _ h => h) (Or.inl ⟨by rfl, ?hy19⟩) (by assumption) ?hr19; (case hy19 => ((intro w hSw; (try dsimp only at hSw); go_simp) <;> with_reducible rfl)); try simp only [Act.put]
      refine wpAnyH_take (i := 10) (v := ?hv20) rfl (by kernel_rfl) (by kernel_rfl) (by kernel_rfl) (fun _ _ _ h => h) (Or.inl ⟨by rfl, ?hy20⟩) (by assumption) ?hr20; (case hy20 => ((intro w hSw; (try dsimp only at hSw); go_simp) <;> with_reducible rfl)); try simp only [Act.put]
      refine wpAnyH_take (i := 11) (v := undef) rfl (by kernel_rfl) (by kernel_rfl) (by kernel_rfl) (fun _ _ _ h => h) (Or.inr ⟨by kernel_rfl, rfl⟩) (by assumption) ?_; try simp only [Act.put]
      refine wpAnyH_take (i := 12) (v := undef) rfl (by kernel_rfl) (by kernel_rfl) (by kernel_rfl) (fun _ _ _ h => h) (Or.inr ⟨by kernel_rfl, rfl⟩) (by assumption) ?_; try simp only [Act.put]
      refine wpAnyH_take (i := 13) (v := undef) rfl (by kernel_rfl) (by kernel_rfl) (by kernel_rfl) (fun _ _ _ h => h) (Or.inr ⟨by kernel_rfl, rfl⟩) (by assumption) ?_; try simp only [Act.put]
      refine wpAnyH_take (i := 14) (v := undef) rfl (by kernel_rfl) (by kernel_rfl) (by kernel_rfl) (fun _ _ _ h => h) (Or.inr ⟨by kernel_rfl, rfl⟩) (by assumption) ?_; try simp only [Act.put]
      refine wpAnyH_take (i := 15) (v := undef) rfl (by kernel_rfl) (by kernel_rfl) (by kernel_rfl) (fun _ _ _ h => h) (Or.inr ⟨by kernel_rfl, rfl⟩) (by assumption) ?_; try simp only [Act.put]
      refine wpAnyH_take (i := 16) (v := undef) rfl (by kernel_rfl) (by kernel_rfl) (by kernel_rfl) (fun _ _ _ h => h) (Or.inr ⟨by kernel_rfl, rfl⟩) (by assumption) ?_; try simp only [Act.put]
      refine wpAnyH_take (i := 17) (v := undef) rfl (by kernel_rfl) (by kernel_rfl) (by kernel_rfl) (fun _ _ _ h => h) (Or.inr ⟨by kernel_rfl, rfl⟩) (by assumption) ?_; try simp only [Act.put]
      refine wpAnyH_take (i := 18) (v := undef) rfl (by kernel_rfl) (by kernel_rfl) (by kernel_rfl) (fun _ _ _ h => h) (Or.inr ⟨by kernel_rfl, rfl⟩) (by assumption) ?_; try simp only [Act.put]
      refine wpAnyH_take (i := 19) (v := ?hv21) rfl (by kernel_rfl) (by kernel_rfl) (by kernel_rfl) (fun _ _ _ h => h) (Or.inl ⟨by rfl, ?hy21⟩) (by assumption) ?hr21; (case hy21 => ((intro w hSw; (try dsimp only at hSw); go_simp) <;> with_reducible rfl)); try simp only [Act.put]
      refine wpAnyH_ready (rs := [20]) (by kernel_rfl) (by simp) ?_; refine AllReadyH.cons rfl (fun K hK => ?_) AllReadyH.nil; go_simp
      (with_reducible refine Calls.mono (WH.out true _) ?_); rintro e w' ⟨rfl, rfl⟩
      try go_wp2_with fail
      refine hK.out _ _ ?_ (fun hHeld => ?_)
      · try dsimp only
        exact (fun K => ⟨(blkC (A4.out.stay K).f).1, (blkC (A4.out.stay K).a).1, (blkC (A4.out.stay K).c).1, K⟩) (by repeat (first | exact hb9 | exact Below.refl _ _ | refine Below.drew ?_ | refine Below.alloc ?_ (by first | exact Nat.le_refl _ | exact hb9.size | (simp; done) | (have := hb9.size; simp; omega) | (simp; omega)) _))
      clear hK K; try simp only [Act.put, List.setIfInBounds_toArray, List.set_cons_zero, List.set_cons_succ]
      refine wpAnyH_ready (rs := [21]) (by kernel_rfl) (by simp) ?_; refine AllReadyH.cons rfl (fun K hK => ?_) AllReadyH.nil; go_simp
      refine hK.out _ _ ?_ (fun hHeld => ?_)
      · try dsimp only
        exact (fun K => ⟨(blkC (A4.out.stay K).f).1, (blkC (A4.out.stay K).a).1, (blkC (A4.out.stay K).c).1, K⟩) (by repeat (first | exact hb9 | exact Below.refl _ _ | refine Below.drew ?_ | refine Below.alloc ?_ (by first | exact Nat.le_refl _ | exact hb9.size | (simp; done) | (have := hb9.size; simp; omega) | (simp; omega)) _))
      clear hK K; try simp only [Act.put, List.setIfInBounds_toArray, List.set_cons_zero, List.set_cons_succ]
      refine wpAnyH_ready (rs := [22]) (by kernel_rfl) (by simp) ?_; refine AllReadyH.cons rfl (fun K hK => ?_) AllReadyH.nil; go_simp
      (with_reducible refine Calls.mono (FI2.out _ _ (by first | ((simp only [heap_alloc_get, if_true]) <;> ((repeat' split) <;> first | rfl | omega)) | ((simp only [heap_alloc_get, heap_size_alloc, if_true]) <;> ((repeat' split) <;> first | rfl | omega)))) ?_); rintro e w' ⟨rfl, rfl⟩
      try go_wp2_with fail
      refine hK.out _ _ ?_ (fun hHeld => ?_)
      · try dsimp only
        exact (fun K => ⟨(blkC (A4.out.stay K).f).1, (blkC (A4.out.stay K).a).1, (blkC (A4.out.stay K).c).1, K⟩) (by repeat (first | exact hb9 | exact Below.refl _ _ | refine Below.drew ?_ | refine Below.alloc ?_ (by first | exact Nat.le_refl _ | exact hb9.size | (simp; done) | (have := hb9.size; simp; omega) | (simp; omega)) _))
      clear hK K; try simp only [Act.put, List.setIfInBounds_toArray, List.set_cons_zero, List.set_cons_succ]
      refine wpAnyH_take (i := 23) (v := ?hv22) rfl (by kernel_rfl) (by kernel_rfl) (by kernel_rfl) (fun _ _ _ h => h) (Or.inl ⟨by rfl, ?hy22⟩) (by assumption) ?hr22; (case hy22 => ((intro w hSw; (try dsimp only at hSw); go_simp) <;> with_reducible rfl)); try simp only [Act.put]
      refine wpAnyH_done (by kernel_rfl) ?_ _
      have AH := Lib.hid (A4.out.stay hHeld.2.2.2)
      clear hHeld
      go_wp2
      go_ret
      exact ⟨rfl, AH.out.b⟩
end Go.Proofs.Ytooikploflnnjaa

/- LinesMatch, walked: the places are right, but too far. -/
namespace Go.Proofs.Ytooikploflnnjaa
open Go.RowKit Fl
set_option linter.unusedVariables false

set_option maxRecDepth 100000 in
set_option maxHeartbeats 8000000 in
theorem linBt (X Y W H : Int) (a : Option Addr) (n cap : Nat) (ax ay cx cy : Int) (w : World) (bxa bya bxc byc : Bool) (pe fe mm : Int) (hc : Bool)
    (WXA : Hid (∀ w, Calls Try.prog 14 #[.int .i64 ax, .int .i64 (-4194304), .int .i64 4194304] w fun e w' => e = .returned (.bool bxa) ∧ w = w'))
    (WYA : Hid (∀ w, Calls Try.prog 14 #[.int .i64 ay, .int .i64 (-4194304), .int .i64 4194304] w fun e w' => e = .returned (.bool bya) ∧ w = w'))
    (WXC : Hid (∀ w, Calls Try.prog 14 #[.int .i64 cx, .int .i64 (-4194304), .int .i64 4194304] w fun e w' => e = .returned (.bool bxc) ∧ w = w'))
    (WYC : Hid (∀ w, Calls Try.prog 14 #[.int .i64 cy, .int .i64 (-4194304), .int .i64 4194304] w fun e w' => e = .returned (.bool byc) ∧ w = w'))
    (hw2 : want2 bxa bya bxc byc = 0) (hmm : 65536 ≤ mm)
    (x1 : -4194304 ≤ ax) (x2 : ax ≤ 4194304) (x3 : -4194304 ≤ ay) (x4 : ay ≤ 4194304) (x5 : -4194304 ≤ cx) (x6 : cx ≤ 4194304) (x7 : -4194304 ≤ cy) (x8 : cy ≤ 4194304)
    (hmx : ∀ (W' : World) (ts : Array TypeId) (t : TypeId), (Builtin.max_ ts t #[.int .i64 (cx - ax), .int .i64 (ax - cx), .int .i64 (cy - ay), .int .i64 (ay - cy)]).run Try.prog W' = .ok (.int .i64 mm) W') (m0 : 0 ≤ mm) (m1 : mm ≤ 16777216)
    (LI : Hid (∀ w', Below w.heap.size w w' → Calls Try.prog 10 #[ptV ax ay, ptV cx cy] w' fun e w'' => e = .returned (.tuple #[.slice none 0 0, .int .i64 4]) ∧ Below w'.heap.size w' w''))
    (PR : Hid (∀ w', Below w.heap.size w w' → Calls Try.prog 11 #[fldV X Y W H (.slice a n cap), ptV ax ay, ptV cx cy] w' fun e w'' => e = .returned (.tuple #[.slice none 0 0, .int .i64 pe]) ∧ Below w'.heap.size w' w''))
    (FE : Hid (∀ w', Below w.heap.size w w' → Calls Try.prog 18 #[fldV X Y W H (.slice a n cap)] w' fun e w'' => e = .returned (.int .i64 fe) ∧ Below w'.heap.size w' w''))
    (HA : Hid (∀ w, Calls Try.prog 19 #[reg X Y W H, .int .i64 ax, .int .i64 ay] w fun e w' => e = .returned (.bool true) ∧ Below w.heap.size w w'))
    (HC : Hid (∀ w, Calls Try.prog 19 #[reg X Y W H, .int .i64 cx, .int .i64 cy] w fun e w' => e = .returned (.bool hc) ∧ Below w.heap.size w w'))
    (FI2 : Hid (∀ p w, w.heap[p]? = some (.cells #[.int .i64 fe, .int .i64 (whenE (!hc) 5)] 30) → Calls Try.prog 12 #[.slice (some ⟨p, 0, none⟩) 2 2] w fun e w' => e = .returned (.int .i64 pe) ∧ w = w')) (hpe : (pe != 0) = true) :
    Calls Try.prog 3 #[fldV X Y W H (.slice a n cap), ptV ax ay, ptV cx cy] w fun e w' => e = .returned (.bool true) ∧ Below w.heap.size w w' := by
  have A0 := Lib.hid (LnAt.new w X Y W H (.slice a n cap) ax ay cx cy)
  have WH := Lib.hid (fun c w => when_any c 5 w)
  have FI := Lib.hid (fun x y p w h => first2_any x y p w h)
  have E1 := Lib.hid (show want1 bxa bya = firstE 0 (whenE (!bxa || !bya) 5) from rfl)
  have E2 := Lib.hid (show want2 bxa bya bxc byc = firstE (want1 bxa bya) (whenE (!bxc || !byc) 5) from rfl)
  rw [hw2] at E2
  clear hw2
  generalize want1 bxa bya = p1 at *
  go_enter Try.func3, Try.ntmps3
  go_wp2_with (first | (go_at_call 10; refine (LI.out _ (A0.out.b)).mono ?_; rintro e w1 ⟨rfl, hb1⟩; have A1 := Lib.hid (A0.out.stay hb1); clear hb1; obtain ⟨cF, fF, zF⟩ := blkC A1.out.f; obtain ⟨cA, fA, zA⟩ := blkC A1.out.a; obtain ⟨cC, fC, zC⟩ := blkC A1.out.c) | (go_at_call 11; refine (PR.out _ (A1.out.b)).mono ?_; rintro e w2 ⟨rfl, hb2⟩; have A2 := Lib.hid (A1.out.stay hb2); clear hb2; clear cF fF zF cA fA zA cC fC zC; obtain ⟨cF, fF, zF⟩ := blkC A2.out.f; obtain ⟨cA, fA, zA⟩ := blkC A2.out.a; obtain ⟨cC, fC, zC⟩ := blkC A2.out.c))
  have hl := heap_alloc_new w2 (.cells #[.int .i64 ax, .int .i64 ay, .int .i64 cx, .int .i64 cy] 28)
  have hbl : Below w2.heap.size w2 (w2.alloc (.cells #[.int .i64 ax, .int .i64 ay, .int .i64 cx, .int .i64 cy] 28)) := (Below.refl _ _).alloc (Nat.le_refl _) _
  have A3 := Lib.hid (A2.out.stay hbl)
  have HL3 := Lib.hid hl
  have BL3 := Lib.hid hbl
  obtain ⟨lp, hlp⟩ : ∃ lp, lp = w2.heap.size := ⟨_, rfl⟩
  rw [← hlp] at HL3 ⊢
  clear hl hbl hlp cF fF zF cA fA zA cC fC zC
  generalize w2.alloc (.cells #[.int .i64 ax, .int .i64 ay, .int .i64 cx, .int .i64 cy] 28) = w3 at *
  go_loopw [11, 31] (fun s11 s31 wr => ((s31 = .int .i64 0 ∧ s11 = .int .i64 0) ∨ (s31 = .int .i64 1 ∧ s11 = .int .i64 p1) ∨ (s31 = .int .i64 2 ∧ s11 = .int .i64 0)) ∧ Below w3.heap.size w3 wr) (fun _ s31 _ => 3 - (intOf s31).toNat)
  case atStart => exact ⟨.inl ⟨rfl, rfl⟩, Below.refl _ _⟩
  case round =>
    obtain ⟨hs, hb⟩ := hrel
    have HB := Lib.hid hb
    have AR := Lib.hid (A3.out.stay hb)
    obtain ⟨cL, fL, zL⟩ := blkC (blkStay HL3.out hb)
    clear hb
    rcases hs with ⟨rfl, rfl⟩ | ⟨rfl, rfl⟩ | ⟨rfl, rfl⟩
    · cases bxa
      · go_wp2_with (first | (go_at_call 14; (with_reducible refine (WXA.out _).mono ?_); rintro e w' ⟨rfl, rfl⟩) | (go_at_call 13; refine (WH.out _ _).mono ?_; rintro e w' ⟨rfl, rfl⟩) | (go_at_call 12; refine (FI.out 0 (whenE true 5) _ _ (by (first | (rw [heap_alloc_get, if_pos rfl]; done) | ((simp only [heap_alloc_get, heap_size_alloc, if_true]) <;> ((repeat' split) <;> first | rfl | omega))))).mono ?_; rintro e w' ⟨rfl, rfl⟩))
        go_roundw
        case rel => exact ⟨.inr (.inl ⟨rfl, congrArg (Value.int .i64) E1.out.symm⟩), HB.out.trans (Below.mono (show Below wr.heap.size wr _ from (by repeat (first | exact Below.refl _ _ | refine Below.alloc ?_ (by first | omega | (simp; done) | (simp; omega)) _ | refine Below.setCell ?_ (by first | omega | (simp; done) | (simp; omega)) _ | refine Below.drew ?_))) HB.out.size)⟩
        case measure => simp [intOf]
      · go_wp2_with (first | (go_at_call 14; (with_reducible refine (WXA.out _).mono ?_); rintro e w' ⟨rfl, rfl⟩) | (go_at_call 14; (with_reducible refine (WYA.out _).mono ?_); rintro e w' ⟨rfl, rfl⟩) | (go_at_call 13; refine (WH.out _ _).mono ?_; rintro e w' ⟨rfl, rfl⟩) | (go_at_call 12; refine (FI.out 0 (whenE (!bya) 5) _ _ (by (first | (rw [heap_alloc_get, if_pos rfl]; done) | ((simp only [heap_alloc_get, heap_size_alloc, if_true]) <;> ((repeat' split) <;> first | rfl | omega))))).mono ?_; rintro e w' ⟨rfl, rfl⟩))
        go_roundw
        case rel => exact ⟨.inr (.inl ⟨rfl, congrArg (Value.int .i64) E1.out.symm⟩), HB.out.trans (Below.mono (show Below wr.heap.size wr _ from (by repeat (first | exact Below.refl _ _ | refine Below.alloc ?_ (by first | omega | (simp; done) | (simp; omega)) _ | refine Below.setCell ?_ (by first | omega | (simp; done) | (simp; omega)) _ | refine Below.drew ?_))) HB.out.size)⟩
        case measure => simp [intOf]
    · cases bxc
      · go_wp2_with (first | (go_at_call 14; (with_reducible refine (WXC.out _).mono ?_); rintro e w' ⟨rfl, rfl⟩) | (go_at_call 13; refine (WH.out _ _).mono ?_; rintro e w' ⟨rfl, rfl⟩) | (go_at_call 12; refine (FI.out p1 (whenE true 5) _ _ (by (first | (rw [heap_alloc_get, if_pos rfl]; done) | ((simp only [heap_alloc_get, heap_size_alloc, if_true]) <;> ((repeat' split) <;> first | rfl | omega))))).mono ?_; rintro e w' ⟨rfl, rfl⟩))
        go_roundw
        case rel => exact ⟨.inr (.inr ⟨rfl, congrArg (Value.int .i64) E2.out.symm⟩), HB.out.trans (Below.mono (show Below wr.heap.size wr _ from (by repeat (first | exact Below.refl _ _ | refine Below.alloc ?_ (by first | omega | (simp; done) | (simp; omega)) _ | refine Below.setCell ?_ (by first | omega | (simp; done) | (simp; omega)) _ | refine Below.drew ?_))) HB.out.size)⟩
        case measure => simp [intOf]
      · go_wp2_with (first | (go_at_call 14; (with_reducible refine (WXC.out _).mono ?_); rintro e w' ⟨rfl, rfl⟩) | (go_at_call 14; (with_reducible refine (WYC.out _).mono ?_); rintro e w' ⟨rfl, rfl⟩) | (go_at_call 13; refine (WH.out _ _).mono ?_; rintro e w' ⟨rfl, rfl⟩) | (go_at_call 12; refine (FI.out p1 (whenE (!byc) 5) _ _ (by (first | (rw [heap_alloc_get, if_pos rfl]; done) | ((simp only [heap_alloc_get, heap_size_alloc, if_true]) <;> ((repeat' split) <;> first | rfl | omega))))).mono ?_; rintro e w' ⟨rfl, rfl⟩))
        go_roundw
        case rel => exact ⟨.inr (.inr ⟨rfl, congrArg (Value.int .i64) E2.out.symm⟩), HB.out.trans (Below.mono (show Below wr.heap.size wr _ from (by repeat (first | exact Below.refl _ _ | refine Below.alloc ?_ (by first | omega | (simp; done) | (simp; omega)) _ | refine Below.setCell ?_ (by first | omega | (simp; done) | (simp; omega)) _ | refine Below.drew ?_))) HB.out.size)⟩
        case measure => simp [intOf]
    · obtain ⟨cF, fF, zF⟩ := blkC AR.out.f
      obtain ⟨cA, fA, zA⟩ := blkC AR.out.a
      obtain ⟨cC, fC, zC⟩ := blkC AR.out.c
      clear cL fL zL
      go_wp2_with (go_at_call 15; refine (levels_any _).mono ?_; rintro e w4 ⟨rfl, hb4⟩; have A4 := Lib.hid (AR.out.stay hb4); clear hb4; clear cF fF zF cA fA zA cC fC zC; obtain ⟨cF, fF, zF⟩ := blkC A4.out.f; obtain ⟨cA, fA, zA⟩ := blkC A4.out.a; obtain ⟨cC, fC, zC⟩ := blkC A4.out.c)
      refine wp_region_held_drew (S := (fun w' => (∀ o, w'.cell? ⟨w.heap.size, o, none⟩ = #[.int .i64 X, .int .i64 Y, .int .i64 W, .int .i64 H, .slice a n cap][o]?) ∧ (∀ o, w'.cell? ⟨w.heap.size + 1, o, none⟩ = #[.int .i64 ax, .int .i64 ay][o]?) ∧ (∀ o, w'.cell? ⟨w.heap.size + 1 + 1, o, none⟩ = #[.int .i64 cx, .int .i64 cy][o]?) ∧ Below w4.heap.size w4 w')) (by kernel_rfl) ?_ (fun hHeld => ?_)
      · try dsimp only
        exact (fun K => ⟨(blkC (A4.out.stay K).f).1, (blkC (A4.out.stay K).a).1, (blkC (A4.out.stay K).c).1, K⟩) (by repeat (first | exact hb9 | exact Below.refl _ _ | refine Below.drew ?_ | refine Below.alloc ?_ (by first | exact Nat.le_refl _ | exact hb9.size | (simp; done) | (have := hb9.size; simp; omega) | (simp; omega)) _))
      refine wpAnyH_take (i := 0) (v := ?hv1) rfl (by kernel_rfl) (by kernel_rfl) (by kernel_rfl) (fun _ _ _ h => h) (Or.inl ⟨by rfl, ?hy1⟩) (by assumption) ?hr1; (case hy1 => ((intro w hSw; (try dsimp only at hSw); go_simp) <;> with_reducible rfl)); try simp only [Act.put, List.setIfInBounds_toArray]
      refine wpAnyH_take (i := 2) (v := ?hv3) rfl (by kernel_rfl) (by kernel_rfl) (by kernel_rfl) (fun _ _ _ h => h) (Or.inl ⟨by rfl, ?hy3⟩) (by assumption) ?hr3; (case hy3 => ((intro w hSw; (try dsimp only at hSw); go_simp) <;> with_reducible rfl)); try simp only [Act.put]
      refine wpAnyH_take (i := 3) (v := ?hv4) rfl (by kernel_rfl) (by kernel_rfl) (by kernel_rfl) (fun _ _ _ h => h) (Or.inl ⟨by rfl, ?hy4⟩) (by assumption) ?hr4; (case hy4 => ((intro w hSw; (try dsimp only at hSw); go_simp) <;> with_reducible rfl)); try simp only [Act.put]
      refine wpAnyH_take (i := 4) (v := ?hv5) rfl (by kernel_rfl) (by kernel_rfl) (by kernel_rfl) (fun _ _ _ h => h) (Or.inl ⟨by rfl, ?hy5⟩) (by assumption) ?hr5; (case hy5 => ((intro w hSw; (try dsimp only at hSw); go_simp) <;> with_reducible rfl)); try simp only [Act.put]
      refine wpAnyH_take (i := 5) (v := ?hv6) rfl (by kernel_rfl) (by kernel_rfl) (by kernel_rfl) (fun _ _ _ h => h) (Or.inl ⟨by rfl, ?hy6⟩) (by assumption) ?hr6; (case hy6 => ((intro w hSw; (try dsimp only at hSw); go_simp) <;> with_reducible rfl)); try simp only [Act.put]
      refine wpAnyH_take (i := 6) (v := ?hv7) rfl (by kernel_rfl) (by kernel_rfl) (by kernel_rfl) (fun _ _ _ h => h) (Or.inl ⟨by rfl, ?hy7⟩) (by assumption) ?hr7; (case hy7 => ((intro w hSw; (try dsimp only at hSw); go_simp) <;> with_reducible rfl)); try simp only [Act.put]
      refine wpAnyH_take (i := 7) (v := ?hv8) rfl (by kernel_rfl) (by kernel_rfl) (by kernel_rfl) (fun _ _ _ h => h) (Or.inl ⟨by rfl, ?hy8⟩) (by assumption) ?hr8; (case hy8 => ((intro w hSw; (try dsimp only at hSw); go_simp) <;> with_reducible rfl)); try simp only [Act.put]
      refine wpAnyH_ready (rs := [1]) (by kernel_rfl) (by simp) ?_; refine AllReadyH.cons rfl (fun K hK => ?_) AllReadyH.nil; go_simp
      (with_reducible refine Calls.mono (FE.out _ (A4.out.b.trans (Below.mono (by repeat (first | exact hb9 | exact Below.refl _ _ | refine Below.drew ?_ | refine Below.alloc ?_ (by first | exact Nat.le_refl _ | exact hb9.size | (simp; done) | (have := hb9.size; simp; omega) | (simp; omega)) _)) A4.out.b.size))) ?_); rintro e w1r ⟨rfl, hb8⟩
      have hb7 : Below w4.heap.size w4 w1r := Below.trans (by repeat (first | exact hb9 | exact Below.refl _ _ | refine Below.drew ?_ | refine Below.alloc ?_ (by first | exact Nat.le_refl _ | exact hb9.size | (simp; done) | (have := hb9.size; simp; omega) | (simp; omega)) _)) (Below.mono hb8 (by first | exact Nat.le_refl _ | exact hb9.size | (simp; done) | (have := hb9.size; simp; omega) | (simp; omega)))
      clear hb8; (try clear hb9); have hb9 := hb7; clear hb7
      try go_wp2_with fail
      refine hK.out _ _ ?_ (fun hHeld => ?_)
      · try dsimp only
        exact (fun K => ⟨(blkC (A4.out.stay K).f).1, (blkC (A4.out.stay K).a).1, (blkC (A4.out.stay K).c).1, K⟩) (by repeat (first | exact hb9 | exact Below.refl _ _ | refine Below.drew ?_ | refine Below.alloc ?_ (by first | exact Nat.le_refl _ | exact hb9.size | (simp; done) | (have := hb9.size; simp; omega) | (simp; omega)) _))
      clear hK K; try simp only [Act.put, List.setIfInBounds_toArray, List.set_cons_zero, List.set_cons_succ]
      refine wpAnyH_ready (rs := [8]) (by kernel_rfl) (by simp) ?_; refine AllReadyH.cons rfl (fun K hK => ?_) AllReadyH.nil; go_simp
      (with_reducible refine Calls.mono (HA.out _) ?_); rintro e w8r ⟨rfl, hb8⟩
      have hb7 : Below w4.heap.size w4 w8r := Below.trans (by repeat (first | exact hb9 | exact Below.refl _ _ | refine Below.drew ?_ | refine Below.alloc ?_ (by first | exact Nat.le_refl _ | exact hb9.size | (simp; done) | (have := hb9.size; simp; omega) | (simp; omega)) _)) (Below.mono hb8 (by first | exact Nat.le_refl _ | exact hb9.size | (simp; done) | (have := hb9.size; simp; omega) | (simp; omega)))
      clear hb8; (try clear hb9); have hb9 := hb7; clear hb7
      try go_wp2_with fail
      refine hK.out _ _ ?_ (fun hHeld => ?_)
      · try dsimp only
        exact (fun K => ⟨(blkC (A4.out.stay K).f).1, (blkC (A4.out.stay K).a).1, (blkC (A4.out.stay K).c).1, K⟩) (by repeat (first | exact hb9 | exact Below.refl _ _ | refine Below.drew ?_ | refine Below.alloc ?_ (by first | exact Nat.le_refl _ | exact hb9.size | (simp; done) | (have := hb9.size; simp; omega) | (simp; omega)) _))
      clear hK K; try simp only [Act.put, List.setIfInBounds_toArray, List.set_cons_zero, List.set_cons_succ]
      refine wpAnyH_take (i := 9) (v := ?hv9) rfl (by kernel_rfl) (by kernel_rfl) (by kernel_rfl) (fun _ _ _ h => h) (Or.inl ⟨by rfl, ?hy9⟩) (by assumption) ?hr9; (case hy9 => ((intro w hSw; (try dsimp only at hSw); go_simp) <;> with_reducible rfl)); try simp only [Act.put]
      refine wpAnyH_take (i := 10) (v := ?hv10) rfl (by kernel_rfl) (by kernel_rfl) (by kernel_rfl) (fun _ _ _ h => h) (Or.inl ⟨by rfl, ?hy10⟩) (by assumption) ?hr10; (case hy10 => ((intro w hSw; (try dsimp only at hSw); go_simp) <;> with_reducible rfl)); try simp only [Act.put]
      refine wpAnyH_take (i := 11) (v := ?hv23) rfl (by kernel_rfl) (by kernel_rfl) (by kernel_rfl) (fun _ _ _ h => h) (Or.inl ⟨by kernel_rfl, ?hy23⟩) (by assumption) ?hr23; (case hy23 => ((intro w hSw; (try dsimp only at hSw); go_simp) <;> with_reducible rfl)); try simp only [Act.put]
      refine wpAnyH_take (i := 12) (v := ?hv24) rfl (by kernel_rfl) (by kernel_rfl) (by kernel_rfl) (fun _ _ _ h => h) (Or.inl ⟨by kernel_rfl, ?hy24⟩) (by assumption) ?hr24; (case hy24 => ((intro w hSw; (try dsimp only at hSw); go_simp) <;> with_reducible rfl)); try simp only [Act.put]
      refine wpAnyH_take (i := 13) (v := ?hv25) rfl (by kernel_rfl) (by kernel_rfl) (by kernel_rfl) (fun _ _ _ h => h) (Or.inl ⟨by kernel_rfl, ?hy25⟩) (by assumption) ?hr25; (case hy25 => ((intro w hSw; (try dsimp only at hSw); go_simp) <;> with_reducible rfl)); try simp only [Act.put]
      refine wpAnyH_take (i := 14) (v := ?hv26) rfl (by kernel_rfl) (by kernel_rfl) (by kernel_rfl) (fun _ _ _ h => h) (Or.inl ⟨by kernel_rfl, ?hy26⟩) (by assumption) ?hr26; (case hy26 => ((intro w hSw; (try dsimp only at hSw); go_simp) <;> with_reducible rfl)); try simp only [Act.put]
      refine wpAnyH_take (i := 15) (v := ?hv27) rfl (by kernel_rfl) (by kernel_rfl) (by kernel_rfl) (fun _ _ _ h => h) (Or.inl ⟨by kernel_rfl, ?hy27⟩) (by assumption) ?hr27; (case hy27 => ((intro w hSw; (try dsimp only at hSw); go_simp) <;> with_reducible rfl)); try simp only [Act.put]
      refine wpAnyH_take (i := 16) (v := ?hv28) rfl (by kernel_rfl) (by kernel_rfl) (by kernel_rfl) (fun _ _ _ h => h) (Or.inl ⟨by kernel_rfl, ?hy28⟩) (by assumption) ?hr28; (case hy28 => ((intro w hSw; (try dsimp only at hSw); go_simp) <;> with_reducible rfl)); try simp only [Act.put]
      refine wpAnyH_ready (rs := [17]) (by kernel_rfl) (by simp) ?_; refine AllReadyH.cons rfl (fun K hK => ?_) AllReadyH.nil; go_simp
      (with_reducible refine Calls.mono (HC.out _) ?_); rintro e w17r ⟨rfl, hb8⟩
      have hb7 : Below w4.heap.size w4 w17r := Below.trans (by repeat (first | exact hb9 | exact Below.refl _ _ | refine Below.drew ?_ | refine Below.alloc ?_ (by first | exact Nat.le_refl _ | exact hb9.size | (simp; done) | (have := hb9.size; simp; omega) | (simp; omega)) _)) (Below.mono hb8 (by first | exact Nat.le_refl _ | exact hb9.size | (simp; done) | (have := hb9.size; simp; omega) | (simp; omega)))
      clear hb8; (try clear hb9); have hb9 := hb7; clear hb7
      try go_wp2_with fail
      refine hK.out _ _ ?_ (fun hHeld => ?_)
      · try dsimp only
        exact (fun K => ⟨(blkC (A4.out.stay K).f).1, (blkC (A4.out.stay K).a).1, (blkC (A4.out.stay K).c).1, K⟩) (by repeat (first | exact hb9 | exact Below.refl _ _ | refine Below.drew ?_ | refine Below.alloc ?_ (by first | exact Nat.le_refl _ | exact hb9.size | (simp; done) | (have := hb9.size; simp; omega) | (simp; omega)) _))
      clear hK K; try simp only [Act.put, List.setIfInBounds_toArray, List.set_cons_zero, List.set_cons_succ]
      refine wpAnyH_take (i := 18) (v := ?hv29) rfl (by kernel_rfl) (by kernel_rfl) (by kernel_rfl) (fun _ _ _ h => h) (Or.inl ⟨by kernel_rfl, ?hy29⟩) (by assumption) ?hr29; (case hy29 => ((intro w hSw; (try dsimp only at hSw); go_simp) <;> with_reducible rfl)); try simp only [Act.put]
      refine wpAnyH_take (i := 19) (v := ?hv11) rfl (by kernel_rfl) (by kernel_rfl) (by kernel_rfl) (fun _ _ _ h => h) (Or.inl ⟨by rfl, ?hy11⟩) (by assumption) ?hr11; (case hy11 => ((intro w hSw; (try dsimp only at hSw); go_simp) <;> with_reducible rfl)); try simp only [Act.put]
      refine wpAnyH_ready (rs := [20]) (by kernel_rfl) (by simp) ?_; refine AllReadyH.cons rfl (fun K hK => ?_) AllReadyH.nil; go_simp
      (with_reducible refine Calls.mono (WH.out (!hc) _) ?_); rintro e w' ⟨rfl, rfl⟩
      try go_wp2_with fail
      refine hK.out _ _ ?_ (fun hHeld => ?_)
      · try dsimp only
        exact (fun K => ⟨(blkC (A4.out.stay K).f).1, (blkC (A4.out.stay K).a).1, (blkC (A4.out.stay K).c).1, K⟩) (by repeat (first | exact hb9 | exact Below.refl _ _ | refine Below.drew ?_ | refine Below.alloc ?_ (by first | exact Nat.le_refl _ | exact hb9.size | (simp; done) | (have := hb9.size; simp; omega) | (simp; omega)) _))
      clear hK K; try simp only [Act.put, List.setIfInBounds_toArray, List.set_cons_zero, List.set_cons_succ]
      refine wpAnyH_ready (rs := [21]) (by kernel_rfl) (by simp) ?_; refine AllReadyH.cons rfl (fun K hK => ?_) AllReadyH.nil; go_simp
      refine hK.out _ _ ?_ (fun hHeld => ?_)
      · try dsimp only
        exact (fun K => ⟨(blkC (A4.out.stay K).f).1, (blkC (A4.out.stay K).a).1, (blkC (A4.out.stay K).c).1, K⟩) (by repeat (first | exact hb9 | exact Below.refl _ _ | refine Below.drew ?_ | refine Below.alloc ?_ (by first | exact Nat.le_refl _ | exact hb9.size | (simp; done) | (have := hb9.size; simp; omega) | (simp; omega)) _))
      clear hK K; try simp only [Act.put, List.setIfInBounds_toArray, List.set_cons_zero, List.set_cons_succ]
      refine wpAnyH_ready (rs := [22]) (by kernel_rfl) (by simp) ?_; refine AllReadyH.cons rfl (fun K hK => ?_) AllReadyH.nil; go_simp
      (with_reducible refine Calls.mono (FI2.out _ _ (by first | ((simp only [heap_alloc_get, if_true]) <;> ((repeat' split) <;> first | rfl | omega)) | ((simp only [heap_alloc_get, heap_size_alloc, if_true]) <;> ((repeat' split) <;> first | rfl | omega)))) ?_); rintro e w' ⟨rfl, rfl⟩
      try go_wp2_with fail
      refine hK.out _ _ ?_ (fun hHeld => ?_)
      · try dsimp only
        exact (fun K => ⟨(blkC (A4.out.stay K).f).1, (blkC (A4.out.stay K).a).1, (blkC (A4.out.stay K).c).1, K⟩) (by repeat (first | exact hb9 | exact Below.refl _ _ | refine Below.drew ?_ | refine Below.alloc ?_ (by first | exact Nat.le_refl _ | exact hb9.size | (simp; done) | (have := hb9.size; simp; omega) | (simp; omega)) _))
      clear hK K; try simp only [Act.put, List.setIfInBounds_toArray, List.set_cons_zero, List.set_cons_succ]
      refine wpAnyH_take (i := 23) (v := ?hv12) rfl (by kernel_rfl) (by kernel_rfl) (by kernel_rfl) (fun _ _ _ h => h) (Or.inl ⟨by rfl, ?hy12⟩) (by assumption) ?hr12; (case hy12 => ((intro w hSw; (try dsimp only at hSw); go_simp) <;> with_reducible rfl)); try simp only [Act.put]
      refine wpAnyH_done (by kernel_rfl) ?_ _
      have AH := Lib.hid (A4.out.stay hHeld.2.2.2)
      clear hHeld
      go_wp2
      go_ret
      exact ⟨rfl, AH.out.b⟩

set_option maxRecDepth 100000 in
set_option maxHeartbeats 8000000 in
theorem linBf (X Y W H : Int) (a : Option Addr) (n cap : Nat) (ax ay cx cy : Int) (w : World) (bxa bya bxc byc : Bool) (pe fe mm : Int) (hc : Bool)
    (WXA : Hid (∀ w, Calls Try.prog 14 #[.int .i64 ax, .int .i64 (-4194304), .int .i64 4194304] w fun e w' => e = .returned (.bool bxa) ∧ w = w'))
    (WYA : Hid (∀ w, Calls Try.prog 14 #[.int .i64 ay, .int .i64 (-4194304), .int .i64 4194304] w fun e w' => e = .returned (.bool bya) ∧ w = w'))
    (WXC : Hid (∀ w, Calls Try.prog 14 #[.int .i64 cx, .int .i64 (-4194304), .int .i64 4194304] w fun e w' => e = .returned (.bool bxc) ∧ w = w'))
    (WYC : Hid (∀ w, Calls Try.prog 14 #[.int .i64 cy, .int .i64 (-4194304), .int .i64 4194304] w fun e w' => e = .returned (.bool byc) ∧ w = w'))
    (hw2 : want2 bxa bya bxc byc = 0) (hmm : 65536 ≤ mm)
    (x1 : -4194304 ≤ ax) (x2 : ax ≤ 4194304) (x3 : -4194304 ≤ ay) (x4 : ay ≤ 4194304) (x5 : -4194304 ≤ cx) (x6 : cx ≤ 4194304) (x7 : -4194304 ≤ cy) (x8 : cy ≤ 4194304)
    (hmx : ∀ (W' : World) (ts : Array TypeId) (t : TypeId), (Builtin.max_ ts t #[.int .i64 (cx - ax), .int .i64 (ax - cx), .int .i64 (cy - ay), .int .i64 (ay - cy)]).run Try.prog W' = .ok (.int .i64 mm) W') (m0 : 0 ≤ mm) (m1 : mm ≤ 16777216)
    (LI : Hid (∀ w', Below w.heap.size w w' → Calls Try.prog 10 #[ptV ax ay, ptV cx cy] w' fun e w'' => e = .returned (.tuple #[.slice none 0 0, .int .i64 4]) ∧ Below w'.heap.size w' w''))
    (PR : Hid (∀ w', Below w.heap.size w w' → Calls Try.prog 11 #[fldV X Y W H (.slice a n cap), ptV ax ay, ptV cx cy] w' fun e w'' => e = .returned (.tuple #[.slice none 0 0, .int .i64 pe]) ∧ Below w'.heap.size w' w''))
    (FE : Hid (∀ w', Below w.heap.size w w' → Calls Try.prog 18 #[fldV X Y W H (.slice a n cap)] w' fun e w'' => e = .returned (.int .i64 fe) ∧ Below w'.heap.size w' w''))
    (HA : Hid (∀ w, Calls Try.prog 19 #[reg X Y W H, .int .i64 ax, .int .i64 ay] w fun e w' => e = .returned (.bool false) ∧ Below w.heap.size w w'))
    (FI2 : Hid (∀ p w, w.heap[p]? = some (.cells #[.int .i64 fe, .int .i64 (whenE true 5)] 30) → Calls Try.prog 12 #[.slice (some ⟨p, 0, none⟩) 2 2] w fun e w' => e = .returned (.int .i64 pe) ∧ w = w')) (hpe : (pe != 0) = true) :
    Calls Try.prog 3 #[fldV X Y W H (.slice a n cap), ptV ax ay, ptV cx cy] w fun e w' => e = .returned (.bool true) ∧ Below w.heap.size w w' := by
  have A0 := Lib.hid (LnAt.new w X Y W H (.slice a n cap) ax ay cx cy)
  have WH := Lib.hid (fun c w => when_any c 5 w)
  have FI := Lib.hid (fun x y p w h => first2_any x y p w h)
  have E1 := Lib.hid (show want1 bxa bya = firstE 0 (whenE (!bxa || !bya) 5) from rfl)
  have E2 := Lib.hid (show want2 bxa bya bxc byc = firstE (want1 bxa bya) (whenE (!bxc || !byc) 5) from rfl)
  rw [hw2] at E2
  clear hw2
  generalize want1 bxa bya = p1 at *
  go_enter Try.func3, Try.ntmps3
  go_wp2_with (first | (go_at_call 10; refine (LI.out _ (A0.out.b)).mono ?_; rintro e w1 ⟨rfl, hb1⟩; have A1 := Lib.hid (A0.out.stay hb1); clear hb1; obtain ⟨cF, fF, zF⟩ := blkC A1.out.f; obtain ⟨cA, fA, zA⟩ := blkC A1.out.a; obtain ⟨cC, fC, zC⟩ := blkC A1.out.c) | (go_at_call 11; refine (PR.out _ (A1.out.b)).mono ?_; rintro e w2 ⟨rfl, hb2⟩; have A2 := Lib.hid (A1.out.stay hb2); clear hb2; clear cF fF zF cA fA zA cC fC zC; obtain ⟨cF, fF, zF⟩ := blkC A2.out.f; obtain ⟨cA, fA, zA⟩ := blkC A2.out.a; obtain ⟨cC, fC, zC⟩ := blkC A2.out.c))
  have hl := heap_alloc_new w2 (.cells #[.int .i64 ax, .int .i64 ay, .int .i64 cx, .int .i64 cy] 28)
  have hbl : Below w2.heap.size w2 (w2.alloc (.cells #[.int .i64 ax, .int .i64 ay, .int .i64 cx, .int .i64 cy] 28)) := (Below.refl _ _).alloc (Nat.le_refl _) _
  have A3 := Lib.hid (A2.out.stay hbl)
  have HL3 := Lib.hid hl
  have BL3 := Lib.hid hbl
  obtain ⟨lp, hlp⟩ : ∃ lp, lp = w2.heap.size := ⟨_, rfl⟩
  rw [← hlp] at HL3 ⊢
  clear hl hbl hlp cF fF zF cA fA zA cC fC zC
  generalize w2.alloc (.cells #[.int .i64 ax, .int .i64 ay, .int .i64 cx, .int .i64 cy] 28) = w3 at *
  go_loopw [11, 31] (fun s11 s31 wr => ((s31 = .int .i64 0 ∧ s11 = .int .i64 0) ∨ (s31 = .int .i64 1 ∧ s11 = .int .i64 p1) ∨ (s31 = .int .i64 2 ∧ s11 = .int .i64 0)) ∧ Below w3.heap.size w3 wr) (fun _ s31 _ => 3 - (intOf s31).toNat)
  case atStart => exact ⟨.inl ⟨rfl, rfl⟩, Below.refl _ _⟩
  case round =>
    obtain ⟨hs, hb⟩ := hrel
    have HB := Lib.hid hb
    have AR := Lib.hid (A3.out.stay hb)
    obtain ⟨cL, fL, zL⟩ := blkC (blkStay HL3.out hb)
    clear hb
    rcases hs with ⟨rfl, rfl⟩ | ⟨rfl, rfl⟩ | ⟨rfl, rfl⟩
    · cases bxa
      · go_wp2_with (first | (go_at_call 14; (with_reducible refine (WXA.out _).mono ?_); rintro e w' ⟨rfl, rfl⟩) | (go_at_call 13; refine (WH.out _ _).mono ?_; rintro e w' ⟨rfl, rfl⟩) | (go_at_call 12; refine (FI.out 0 (whenE true 5) _ _ (by (first | (rw [heap_alloc_get, if_pos rfl]; done) | ((simp only [heap_alloc_get, heap_size_alloc, if_true]) <;> ((repeat' split) <;> first | rfl | omega))))).mono ?_; rintro e w' ⟨rfl, rfl⟩))
        go_roundw
        case rel => exact ⟨.inr (.inl ⟨rfl, congrArg (Value.int .i64) E1.out.symm⟩), HB.out.trans (Below.mono (show Below wr.heap.size wr _ from (by repeat (first | exact Below.refl _ _ | refine Below.alloc ?_ (by first | omega | (simp; done) | (simp; omega)) _ | refine Below.setCell ?_ (by first | omega | (simp; done) | (simp; omega)) _ | refine Below.drew ?_))) HB.out.size)⟩
        case measure => simp [intOf]
      · go_wp2_with (first | (go_at_call 14; (with_reducible refine (WXA.out _).mono ?_); rintro e w' ⟨rfl, rfl⟩) | (go_at_call 14; (with_reducible refine (WYA.out _).mono ?_); rintro e w' ⟨rfl, rfl⟩) | (go_at_call 13; refine (WH.out _ _).mono ?_; rintro e w' ⟨rfl, rfl⟩) | (go_at_call 12; refine (FI.out 0 (whenE (!bya) 5) _ _ (by (first | (rw [heap_alloc_get, if_pos rfl]; done) | ((simp only [heap_alloc_get, heap_size_alloc, if_true]) <;> ((repeat' split) <;> first | rfl | omega))))).mono ?_; rintro e w' ⟨rfl, rfl⟩))
        go_roundw
        case rel => exact ⟨.inr (.inl ⟨rfl, congrArg (Value.int .i64) E1.out.symm⟩), HB.out.trans (Below.mono (show Below wr.heap.size wr _ from (by repeat (first | exact Below.refl _ _ | refine Below.alloc ?_ (by first | omega | (simp; done) | (simp; omega)) _ | refine Below.setCell ?_ (by first | omega | (simp; done) | (simp; omega)) _ | refine Below.drew ?_))) HB.out.size)⟩
        case measure => simp [intOf]
    · cases bxc
      · go_wp2_with (first | (go_at_call 14; (with_reducible refine (WXC.out _).mono ?_); rintro e w' ⟨rfl, rfl⟩) | (go_at_call 13; refine (WH.out _ _).mono ?_; rintro e w' ⟨rfl, rfl⟩) | (go_at_call 12; refine (FI.out p1 (whenE true 5) _ _ (by (first | (rw [heap_alloc_get, if_pos rfl]; done) | ((simp only [heap_alloc_get, heap_size_alloc, if_true]) <;> ((repeat' split) <;> first | rfl | omega))))).mono ?_; rintro e w' ⟨rfl, rfl⟩))
        go_roundw
        case rel => exact ⟨.inr (.inr ⟨rfl, congrArg (Value.int .i64) E2.out.symm⟩), HB.out.trans (Below.mono (show Below wr.heap.size wr _ from (by repeat (first | exact Below.refl _ _ | refine Below.alloc ?_ (by first | omega | (simp; done) | (simp; omega)) _ | refine Below.setCell ?_ (by first | omega | (simp; done) | (simp; omega)) _ | refine Below.drew ?_))) HB.out.size)⟩
        case measure => simp [intOf]
      · go_wp2_with (first | (go_at_call 14; (with_reducible refine (WXC.out _).mono ?_); rintro e w' ⟨rfl, rfl⟩) | (go_at_call 14; (with_reducible refine (WYC.out _).mono ?_); rintro e w' ⟨rfl, rfl⟩) | (go_at_call 13; refine (WH.out _ _).mono ?_; rintro e w' ⟨rfl, rfl⟩) | (go_at_call 12; refine (FI.out p1 (whenE (!byc) 5) _ _ (by (first | (rw [heap_alloc_get, if_pos rfl]; done) | ((simp only [heap_alloc_get, heap_size_alloc, if_true]) <;> ((repeat' split) <;> first | rfl | omega))))).mono ?_; rintro e w' ⟨rfl, rfl⟩))
        go_roundw
        case rel => exact ⟨.inr (.inr ⟨rfl, congrArg (Value.int .i64) E2.out.symm⟩), HB.out.trans (Below.mono (show Below wr.heap.size wr _ from (by repeat (first | exact Below.refl _ _ | refine Below.alloc ?_ (by first | omega | (simp; done) | (simp; omega)) _ | refine Below.setCell ?_ (by first | omega | (simp; done) | (simp; omega)) _ | refine Below.drew ?_))) HB.out.size)⟩
        case measure => simp [intOf]
    · obtain ⟨cF, fF, zF⟩ := blkC AR.out.f
      obtain ⟨cA, fA, zA⟩ := blkC AR.out.a
      obtain ⟨cC, fC, zC⟩ := blkC AR.out.c
      clear cL fL zL
      go_wp2_with (go_at_call 15; refine (levels_any _).mono ?_; rintro e w4 ⟨rfl, hb4⟩; have A4 := Lib.hid (AR.out.stay hb4); clear hb4; clear cF fF zF cA fA zA cC fC zC; obtain ⟨cF, fF, zF⟩ := blkC A4.out.f; obtain ⟨cA, fA, zA⟩ := blkC A4.out.a; obtain ⟨cC, fC, zC⟩ := blkC A4.out.c)
      refine wp_region_held_drew (S := (fun w' => (∀ o, w'.cell? ⟨w.heap.size, o, none⟩ = #[.int .i64 X, .int .i64 Y, .int .i64 W, .int .i64 H, .slice a n cap][o]?) ∧ (∀ o, w'.cell? ⟨w.heap.size + 1, o, none⟩ = #[.int .i64 ax, .int .i64 ay][o]?) ∧ (∀ o, w'.cell? ⟨w.heap.size + 1 + 1, o, none⟩ = #[.int .i64 cx, .int .i64 cy][o]?) ∧ Below w4.heap.size w4 w')) (by kernel_rfl) ?_ (fun hHeld => ?_)
      · try dsimp only
        exact (fun K => ⟨(blkC (A4.out.stay K).f).1, (blkC (A4.out.stay K).a).1, (blkC (A4.out.stay K).c).1, K⟩) (by repeat (first | exact hb9 | exact Below.refl _ _ | refine Below.drew ?_ | refine Below.alloc ?_ (by first | exact Nat.le_refl _ | exact hb9.size | (simp; done) | (have := hb9.size; simp; omega) | (simp; omega)) _))
      refine wpAnyH_take (i := 0) (v := ?hv2) rfl (by kernel_rfl) (by kernel_rfl) (by kernel_rfl) (fun _ _ _ h => h) (Or.inl ⟨by rfl, ?hy2⟩) (by assumption) ?hr2; (case hy2 => ((intro w hSw; (try dsimp only at hSw); go_simp) <;> with_reducible rfl)); try simp only [Act.put, List.setIfInBounds_toArray]
      refine wpAnyH_take (i := 2) (v := ?hv13) rfl (by kernel_rfl) (by kernel_rfl) (by kernel_rfl) (fun _ _ _ h => h) (Or.inl ⟨by rfl, ?hy13⟩) (by assumption) ?hr13; (case hy13 => ((intro w hSw; (try dsimp only at hSw); go_simp) <;> with_reducible rfl)); try simp only [Act.put]
      refine wpAnyH_take (i := 3) (v := ?hv14) rfl (by kernel_rfl) (by kernel_rfl) (by kernel_rfl) (fun _ _ _ h => h) (Or.inl ⟨by rfl, ?hy14⟩) (by assumption) ?hr14; (case hy14 => ((intro w hSw; (try dsimp only at hSw); go_simp) <;> with_reducible rfl)); try simp only [Act.put]
      refine wpAnyH_take (i := 4) (v := ?hv15) rfl (by kernel_rfl) (by kernel_rfl) (by kernel_rfl) (fun _ _ _ h => h) (Or.inl ⟨by rfl, ?hy15⟩) (by assumption) ?hr15; (case hy15 => ((intro w hSw; (try dsimp only at hSw); go_simp) <;> with_reducible rfl)); try simp only [Act.put]
      refine wpAnyH_take (i := 5) (v := ?hv16) rfl (by kernel_rfl) (by kernel_rfl) (by kernel_rfl) (fun _ _ _ h => h) (Or.inl ⟨by rfl, ?hy16⟩) (by assumption) ?hr16; (case hy16 => ((intro w hSw; (try dsimp only at hSw); go_simp) <;> with_reducible rfl)); try simp only [Act.put]
      refine wpAnyH_take (i := 6) (v := ?hv17) rfl (by kernel_rfl) (by kernel_rfl) (by kernel_rfl) (fun _ _ _ h => h) (Or.inl ⟨by rfl, ?hy17⟩) (by assumption) ?hr17; (case hy17 => ((intro w hSw; (try dsimp only at hSw); go_simp) <;> with_reducible rfl)); try simp only [Act.put]
      refine wpAnyH_take (i := 7) (v := ?hv18) rfl (by kernel_rfl) (by kernel_rfl) (by kernel_rfl) (fun _ _ _ h => h) (Or.inl ⟨by rfl, ?hy18⟩) (by assumption) ?hr18; (case hy18 => ((intro w hSw; (try dsimp only at hSw); go_simp) <;> with_reducible rfl)); try simp only [Act.put]
      refine wpAnyH_ready (rs := [1]) (by kernel_rfl) (by simp) ?_; refine AllReadyH.cons rfl (fun K hK => ?_) AllReadyH.nil; go_simp
      (with_reducible refine Calls.mono (FE.out _ (A4.out.b.trans (Below.mono (by repeat (first | exact hb9 | exact Below.refl _ _ | refine Below.drew ?_ | refine Below.alloc ?_ (by first | exact Nat.le_refl _ | exact hb9.size | (simp; done) | (have := hb9.size; simp; omega) | (simp; omega)) _)) A4.out.b.size))) ?_); rintro e w1r ⟨rfl, hb8⟩
      have hb7 : Below w4.heap.size w4 w1r := Below.trans (by repeat (first | exact hb9 | exact Below.refl _ _ | refine Below.drew ?_ | refine Below.alloc ?_ (by first | exact Nat.le_refl _ | exact hb9.size | (simp; done) | (have := hb9.size; simp; omega) | (simp; omega)) _)) (Below.mono hb8 (by first | exact Nat.le_refl _ | exact hb9.size | (simp; done) | (have := hb9.size; simp; omega) | (simp; omega)))
      clear hb8; (try clear hb9); have hb9 := hb7; clear hb7
      try go_wp2_with fail
      refine hK.out _ _ ?_ (fun hHeld => ?_)
      · try dsimp only
        exact (fun K => ⟨(blkC (A4.out.stay K).f).1, (blkC (A4.out.stay K).a).1, (blkC (A4.out.stay K).c).1, K⟩) (by repeat (first | exact hb9 | exact Below.refl _ _ | refine Below.drew ?_ | refine Below.alloc ?_ (by first | exact Nat.le_refl _ | exact hb9.size | (simp; done) | (have := hb9.size; simp; omega) | (simp; omega)) _))
      clear hK K; try simp only [Act.put, List.setIfInBounds_toArray, List.set_cons_zero, List.set_cons_succ]
      refine wpAnyH_ready (rs := [8]) (by kernel_rfl) (by simp) ?_; refine AllReadyH.cons rfl (fun K hK => ?_) AllReadyH.nil; go_simp
      (with_reducible refine Calls.mono (HA.out _) ?_); rintro e w8r ⟨rfl, hb8⟩
      have hb7 : Below w4.heap.size w4 w8r := Below.trans (by repeat (first | exact hb9 | exact Below.refl _ _ | refine Below.drew ?_ | refine Below.alloc ?_ (by first | exact Nat.le_refl _ | exact hb9.size | (simp; done) | (have := hb9.size; simp; omega) | (simp; omega)) _)) (Below.mono hb8 (by first | exact Nat.le_refl _ | exact hb9.size | (simp; done) | (have := hb9.size; simp; omega) | (simp; omega)))
      clear hb8; (try clear hb9); have hb9 := hb7; clear hb7
      try go_wp2_with fail
      refine hK.out _ _ ?_ (fun hHeld => ?_)
      · try dsimp only
        exact (fun K => ⟨(blkC (A4.out.stay K).f).1, (blkC (A4.out.stay K).a).1, (blkC (A4.out.stay K).c).1, K⟩) (by repeat (first | exact hb9 | exact Below.refl _ _ | refine Below.drew ?_ | refine Below.alloc ?_ (by first | exact Nat.le_refl _ | exact hb9.size | (simp; done) | (have := hb9.size; simp; omega) | (simp; omega)) _))
      clear hK K; try simp only [Act.put, List.setIfInBounds_toArray, List.set_cons_zero, List.set_cons_succ]
      refine wpAnyH_take (i := 9) (v := ?hv19) rfl (by kernel_rfl) (by kernel_rfl) (by kernel_rfl) (fun _ _ _ h => h) (Or.inl ⟨by rfl, ?hy19⟩) (by assumption) ?hr19; (case hy19 => ((intro w hSw; (try dsimp only at hSw); go_simp) <;> with_reducible rfl)); try simp only [Act.put]
      refine wpAnyH_take (i := 10) (v := ?hv20) rfl (by kernel_rfl) (by kernel_rfl) (by kernel_rfl) (fun _ _ _ h => h) (Or.inl ⟨by rfl, ?hy20⟩) (by assumption) ?hr20; (case hy20 => ((intro w hSw; (try dsimp only at hSw); go_simp) <;> with_reducible rfl)); try simp only [Act.put]
      refine wpAnyH_take (i := 11) (v := undef) rfl (by kernel_rfl) (by kernel_rfl) (by kernel_rfl) (fun _ _ _ h => h) (Or.inr ⟨by kernel_rfl, rfl⟩) (by assumption) ?_; try simp only [Act.put]
      refine wpAnyH_take (i := 12) (v := undef) rfl (by kernel_rfl) (by kernel_rfl) (by kernel_rfl) (fun _ _ _ h => h) (Or.inr ⟨by kernel_rfl, rfl⟩) (by assumption) ?_; try simp only [Act.put]
      refine wpAnyH_take (i := 13) (v := undef) rfl (by kernel_rfl) (by kernel_rfl) (by kernel_rfl) (fun _ _ _ h => h) (Or.inr ⟨by kernel_rfl, rfl⟩) (by assumption) ?_; try simp only [Act.put]
      refine wpAnyH_take (i := 14) (v := undef) rfl (by kernel_rfl) (by kernel_rfl) (by kernel_rfl) (fun _ _ _ h => h) (Or.inr ⟨by kernel_rfl, rfl⟩) (by assumption) ?_; try simp only [Act.put]
      refine wpAnyH_take (i := 15) (v := undef) rfl (by kernel_rfl) (by kernel_rfl) (by kernel_rfl) (fun _ _ _ h => h) (Or.inr ⟨by kernel_rfl, rfl⟩) (by assumption) ?_; try simp only [Act.put]
      refine wpAnyH_take (i := 16) (v := undef) rfl (by kernel_rfl) (by kernel_rfl) (by kernel_rfl) (fun _ _ _ h => h) (Or.inr ⟨by kernel_rfl, rfl⟩) (by assumption) ?_; try simp only [Act.put]
      refine wpAnyH_take (i := 17) (v := undef) rfl (by kernel_rfl) (by kernel_rfl) (by kernel_rfl) (fun _ _ _ h => h) (Or.inr ⟨by kernel_rfl, rfl⟩) (by assumption) ?_; try simp only [Act.put]
      refine wpAnyH_take (i := 18) (v := undef) rfl (by kernel_rfl) (by kernel_rfl) (by kernel_rfl) (fun _ _ _ h => h) (Or.inr ⟨by kernel_rfl, rfl⟩) (by assumption) ?_; try simp only [Act.put]
      refine wpAnyH_take (i := 19) (v := ?hv21) rfl (by kernel_rfl) (by kernel_rfl) (by kernel_rfl) (fun _ _ _ h => h) (Or.inl ⟨by rfl, ?hy21⟩) (by assumption) ?hr21; (case hy21 => ((intro w hSw; (try dsimp only at hSw); go_simp) <;> with_reducible rfl)); try simp only [Act.put]
      refine wpAnyH_ready (rs := [20]) (by kernel_rfl) (by simp) ?_; refine AllReadyH.cons rfl (fun K hK => ?_) AllReadyH.nil; go_simp
      (with_reducible refine Calls.mono (WH.out true _) ?_); rintro e w' ⟨rfl, rfl⟩
      try go_wp2_with fail
      refine hK.out _ _ ?_ (fun hHeld => ?_)
      · try dsimp only
        exact (fun K => ⟨(blkC (A4.out.stay K).f).1, (blkC (A4.out.stay K).a).1, (blkC (A4.out.stay K).c).1, K⟩) (by repeat (first | exact hb9 | exact Below.refl _ _ | refine Below.drew ?_ | refine Below.alloc ?_ (by first | exact Nat.le_refl _ | exact hb9.size | (simp; done) | (have := hb9.size; simp; omega) | (simp; omega)) _))
      clear hK K; try simp only [Act.put, List.setIfInBounds_toArray, List.set_cons_zero, List.set_cons_succ]
      refine wpAnyH_ready (rs := [21]) (by kernel_rfl) (by simp) ?_; refine AllReadyH.cons rfl (fun K hK => ?_) AllReadyH.nil; go_simp
      refine hK.out _ _ ?_ (fun hHeld => ?_)
      · try dsimp only
        exact (fun K => ⟨(blkC (A4.out.stay K).f).1, (blkC (A4.out.stay K).a).1, (blkC (A4.out.stay K).c).1, K⟩) (by repeat (first | exact hb9 | exact Below.refl _ _ | refine Below.drew ?_ | refine Below.alloc ?_ (by first | exact Nat.le_refl _ | exact hb9.size | (simp; done) | (have := hb9.size; simp; omega) | (simp; omega)) _))
      clear hK K; try simp only [Act.put, List.setIfInBounds_toArray, List.set_cons_zero, List.set_cons_succ]
      refine wpAnyH_ready (rs := [22]) (by kernel_rfl) (by simp) ?_; refine AllReadyH.cons rfl (fun K hK => ?_) AllReadyH.nil; go_simp
      (with_reducible refine Calls.mono (FI2.out _ _ (by first | ((simp only [heap_alloc_get, if_true]) <;> ((repeat' split) <;> first | rfl | omega)) | ((simp only [heap_alloc_get, heap_size_alloc, if_true]) <;> ((repeat' split) <;> first | rfl | omega)))) ?_); rintro e w' ⟨rfl, rfl⟩
      try go_wp2_with fail
      refine hK.out _ _ ?_ (fun hHeld => ?_)
      · try dsimp only
        exact (fun K => ⟨(blkC (A4.out.stay K).f).1, (blkC (A4.out.stay K).a).1, (blkC (A4.out.stay K).c).1, K⟩) (by repeat (first | exact hb9 | exact Below.refl _ _ | refine Below.drew ?_ | refine Below.alloc ?_ (by first | exact Nat.le_refl _ | exact hb9.size | (simp; done) | (have := hb9.size; simp; omega) | (simp; omega)) _))
      clear hK K; try simp only [Act.put, List.setIfInBounds_toArray, List.set_cons_zero, List.set_cons_succ]
      refine wpAnyH_take (i := 23) (v := ?hv22) rfl (by kernel_rfl) (by kernel_rfl) (by kernel_rfl) (fun _ _ _ h => h) (Or.inl ⟨by rfl, ?hy22⟩) (by assumption) ?hr22; (case hy22 => ((intro w hSw; (try dsimp only at hSw); go_simp) <;> with_reducible rfl)); try simp only [Act.put]
      refine wpAnyH_done (by kernel_rfl) ?_ _
      have AH := Lib.hid (A4.out.stay hHeld.2.2.2)
      clear hHeld
      go_wp2
      go_ret
      exact ⟨rfl, AH.out.b⟩
end Go.Proofs.Ytooikploflnnjaa
