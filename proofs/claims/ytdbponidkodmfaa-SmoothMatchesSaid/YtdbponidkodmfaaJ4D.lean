/- SmoothMatches, for every field and every number of steps: what Smooth answers is what the reference answers, bit by bit. No condition. -/
import Derived.Test.YtdbponidkodmfaaJ4C
import Derived.Deep.AppendLies
import Derived.Deep.RegionLaw
import Derived.Laws.OwnMore
import Derived.Deep.CutRange
import Derived.ProofKit
import Derived.OpenShut
import Derived.Lib.SmallJoins
import Derived.Laws.Cover2
import Derived.Deep.Slices

/- A step of smoothing of a cell: words and bounds; the program's and the reference's cell. -/
namespace Go.Proofs.Ytdbponidkodmfaa
open Go.RowKit Fl
set_option linter.unusedVariables false

/-- A cell behind a step of smoothing. -/
def smoW (c n w e s : Nat) : Nat := subW (addW c (mulW (addW (addW n w) (addW e s)) 1040187392)) (mulW c 1056964608)
structure SmoAt (k : Nat) (c n w e s t1 t2 t3 m t4 h r : Nat) : Prop where
  a1 : floatBits .add .f32 n w = some t1
  a1' : Same2 .add (k + 1) n w
  a2 : floatBits .add .f32 e s = some t2
  a2' : Same2 .add (k + 1) e s
  a3 : floatBits .add .f32 t1 t2 = some t3
  a3' : Same2 .add (k + 2) t1 t2
  m1 : floatBits .mul .f32 t3 1040187392 = some m
  m1' : Same2 .mul (k + 2) t3 1040187392
  a4 : floatBits .add .f32 c m = some t4
  a4' : Same2 .add (k + 3) c m
  h1 : floatBits .mul .f32 c 1056964608 = some h
  h1' : Same2 .mul k c 1056964608
  d1 : floatBits .sub .f32 t4 h = some r
  d1' : Same2 .sub (k + 4) t4 h
  w : smoW c n w e s = r
  bd : Bd (k + 4) r
  lt : r < 4294967296
theorem vS_eighth {j : Nat} (hj : j = 1071) : vS 1040187392 = some ((2 ^ j : Nat) : Int) := by
  have r : Ieee.single.read 1040187392 = .number false 8388608 (-26) := by decide
  have := vS_lit (t := 1) (k := 23) (j := j) r (by decide) (by omega)
  simpa using this
theorem bd_eighth : Bd 0 1040187392 := by
  obtain ⟨J, hJ⟩ : ∃ J : Nat, J = 1074 := ⟨_, rfl⟩
  exact bd_val' (j := J) (vS_eighth (j := J - 3) (by omega)) (by omega) (by rw [Int.natAbs_natCast]; exact Nat.pow_le_pow_right (by omega) (by omega))
theorem smo_parts {k c n w e s : Nat} (hk : k ≤ 110) (hc : Bd k c) (hn : Bd k n) (hw : Bd k w) (he : Bd k e) (hs : Bd k s) : ∃ t1 t2 t3 m t4 h r, SmoAt k c n w e s t1 t2 t3 m t4 h r := by
  have a1 : Same2 .add (k + 1) n w := add_same (k := k) (by omega) hn hw
  obtain ⟨t1, e1, b1⟩ := same_ex a1
  have a2 : Same2 .add (k + 1) e s := add_same (k := k) (by omega) he hs
  obtain ⟨t2, e2, b2⟩ := same_ex a2
  have a3 : Same2 .add (k + 2) t1 t2 := add_same (k := k + 1) (by omega) b1 b2
  obtain ⟨t3, e3, b3⟩ := same_ex a3
  have m1 : Same2 .mul (k + 2 + 0) t3 1040187392 := mul_same (by omega) b3 bd_eighth
  obtain ⟨m, e4, b4⟩ := same_ex m1
  have a4 : Same2 .add (k + 3) c m := add_same (k := k + 2) (by omega) (bd_up hc (by omega)) b4
  obtain ⟨t4, e5, b5⟩ := same_ex a4
  have h1 : Same2 .mul (k + 0) c 1056964608 := mul_same (by omega) hc bd_half
  obtain ⟨h, e6, b6⟩ := same_ex h1
  have d1 : Same2 .sub (k + 4) t4 h := sub_same (k := k + 3) (by omega) b5 (bd_up b6 (by omega))
  obtain ⟨r, e7, b7⟩ := same_ex d1
  refine ⟨t1, t2, t3, m, t4, h, r, e1, a1, e2, a2, e3, a3, e4, m1, e5, a4, e6, h1, e7, d1, ?_, b7, sub_lt e7⟩
  have w1 : addW n w = t1 := by unfold addW; rw [e1]; rfl
  have w2 : addW e s = t2 := by unfold addW; rw [e2]; rfl
  have w3 : addW t1 t2 = t3 := by unfold addW; rw [e3]; rfl
  have w4 : mulW t3 1040187392 = m := by unfold mulW; rw [e4]; rfl
  have w5 : addW c m = t4 := by unfold addW; rw [e5]; rfl
  have w6 : mulW c 1056964608 = h := by unfold mulW; rw [e6]; rfl
  unfold smoW
  rw [w1, w2, w3, w4, w5, w6]
  unfold subW; rw [e7]; rfl

set_option maxHeartbeats 1000000 in
theorem smooth_cross (k c n ww e s : Nat) (w : World) (hk : k ≤ 110) (hc : Bd k c) (hn : Bd k n) (hw : Bd k ww) (he : Bd k e) (hs : Bd k s) :
    Calls Try.prog 104 #[crossV c n ww e s] w fun e' w' => e' = .returned (.float .f32 (smoW c n ww e s)) ∧ Below w.heap.size w w' := by
  obtain ⟨t1, t2, t3, m, t4, h, r, C⟩ := smo_parts hk hc hn hw he hs
  rw [C.w]
  have a1 := fun (W : World) => run_float_arith (P := Try.prog) W .add 34 .f32 n ww t1 C.a1
  have a2 := fun (W : World) => run_float_arith (P := Try.prog) W .add 34 .f32 e s t2 C.a2
  have a3 := fun (W : World) => run_float_arith (P := Try.prog) W .add 34 .f32 t1 t2 t3 C.a3
  have a4 := fun (W : World) => run_float_arith (P := Try.prog) W .mul 34 .f32 t3 1040187392 m C.m1
  have a5 := fun (W : World) => run_float_arith (P := Try.prog) W .add 34 .f32 c m t4 C.a4
  have a6 := fun (W : World) => run_float_arith (P := Try.prog) W .mul 34 .f32 c 1056964608 h C.h1
  have a7 := fun (W : World) => run_float_arith (P := Try.prog) W .sub 34 .f32 t4 h r C.d1
  clear C hc hn hw he hs
  go_enter Try.func104, Try.ntmps104
  go_wp2
  go_ret
  exact ⟨rfl, (by repeat (first | exact Below.refl _ _ | refine Below.alloc ?_ (by first | omega | (simp; done) | (simp; omega)) _ | refine Below.setCell ?_ (by first | omega | (simp; done) | (simp; omega)) _ | refine Below.drew ?_))⟩

/-- A function of a cell with its four neighbours, in worlds behind w0; it makes values d bits greater at most. -/
structure AtK (g : Nat) (caps : Array Value) (F : Nat → Nat → Nat → Nat → Nat → Nat) (d : Nat) (w0 : World) : Prop where
  run : ∀ (k c n ww e s : Nat) (w : World), k ≤ 100 → Bd k c → Bd k n → Bd k ww → Bd k e → Bd k s → Below w0.heap.size w0 w →
    Calls Try.prog g (#[crossV c n ww e s] ++ caps) w fun e' w' => e' = .returned (.float .f32 (F c n ww e s)) ∧ Below w.heap.size w w'
  bd : ∀ (k c n ww e s : Nat), k ≤ 100 → Bd k c → Bd k n → Bd k ww → Bd k e → Bd k s → Bd (k + d) (F c n ww e s) ∧ F c n ww e s < 4294967296
theorem AtK.stay {g : Nat} {caps : Array Value} {F : Nat → Nat → Nat → Nat → Nat → Nat} {d : Nat} {w0 w1 : World} (h : AtK g caps F d w0) (hb : Below w0.heap.size w0 w1) : AtK g caps F d w1 :=
  ⟨fun k c n ww e s w hk h1 h2 h3 h4 h5 h6 => h.run k c n ww e s w hk h1 h2 h3 h4 h5 (hb.trans (h6.mono hb.size)), h.bd⟩
theorem at_smooth (w0 : World) : AtK 104 #[] smoW 4 w0 :=
  ⟨fun k c n ww e s w hk h1 h2 h3 h4 h5 _ => smooth_cross k c n ww e s w (by omega) h1 h2 h3 h4 h5, fun k c n ww e s hk h1 h2 h3 h4 h5 => by
    obtain ⟨_, _, _, _, _, _, r, C⟩ := smo_parts (show k ≤ 110 by omega) h1 h2 h3 h4 h5
    rw [C.w]; exact ⟨C.bd, C.lt⟩⟩
theorem enters_smooth : Enters 104 := by intro args W; simp [callFunc, Try.func104, Try.f104]

/-- A row of values of at most k bits. -/
def Row (k n : Nat) (v : Nat → Nat) : Prop := ∀ i, i < n → Bd k (v i) ∧ v i < 4294967296
theorem row_of_heights {n : Nat} {v : Nat → Nat} (hh : allB n (fun i => hgtB (v i)) = true) (wv : wf32 n v) : Row 20 n v := fun i hi => ⟨hgt_bd (allB_iff.1 hh i hi), wv i hi⟩
/-- .. behind a step. -/
theorem row_step {k d : Nat} {X Y : Int} {W H n W2 H2 : Nat} {v : Nat → Nat} {F : Nat → Nat → Nat → Nat → Nat → Nat} (hF : ∀ (k c n ww e s : Nat), k ≤ 100 → Bd k c → Bd k n → Bd k ww → Bd k e → Bd k s → Bd (k + d) (F c n ww e s) ∧ F c n ww e s < 4294967296)
    (hk : k ≤ 100) (hn : n = H * W) (eW : W = W2 + 2) (eH : H = H2 + 2) (w1 : 1 ≤ W2) (hv : Row k n v) : Row (k + d) (H2 * W2) (rimF F v W) := fun j hj => by
  obtain ⟨x, y, I⟩ := rim_cell (X := X) (Y := Y) hn eW eH w1 j hj
  exact hF k _ _ _ _ _ hk (hv _ I.a0).1 (hv _ I.a1).1 (hv _ I.a4).1 (hv _ I.a3).1 (hv _ I.a2).1

theorem enters_step1 : Enters 162 := by intro args W; simp [callFunc, Try.func162, Try.f162]
abbrev nxtObj (g : Nat) (caps : Array Value) : Obj := .cells #[.func (.func g) #[] caps] 99

set_option maxHeartbeats 4000000 in
set_option maxRecDepth 100000 in
theorem step1_any (X Y : Int) (W H n b cap k d : Nat) (v : Nat → Nat) (p q g : Nat) (caps : Array Value) (F : Nat → Nat → Nat → Nat → Nat → Nat) (w : World) (hg : AtK g caps F d w) (hcall : Enters g) (hp : w.heap[p]? = some (fldO X Y W H (.slice (some ⟨b, 0, none⟩) n cap))) (hq : w.heap[q]? = some (nxtObj g caps)) (hr : FlAt w b 0 n v)
    (h0 : checkR X Y W H = 0) (hn : n = H * W) (hcap : n ≤ cap) (hcp : cap ≤ 9223372036854775807) (hk : k ≤ 100) (hv : Row k n v) (hW : 3 ≤ W) (hH : 3 ≤ H) (x y : Int) (j : Nat) (w2 : World)
    (h1 : X + 1 ≤ x) (h2 : x < X + 1 + ((W : Int) - 2)) (h3 : Y + 1 ≤ y) (h4 : y < Y + 1 + ((H : Int) - 2)) (hj : (j : Int) = (y - (Y + 1)) * ((W : Int) - 2) + (x - (X + 1))) (hb : Below w.heap.size w w2) :
    Calls Try.prog 162 #[.int .i64 x, .int .i64 y, .pointer (some ⟨q, 0, none⟩), .pointer (some ⟨p, 0, none⟩)] w2 fun e w' => e = .returned (.float .f32 (rimF F v W j)) ∧ Below w2.heap.size w2 w' := by
  have n1 : 1 ≤ n := by rw [hn]; exact Nat.mul_pos (by omega) (by omega)
  have hr2 := flAt_congr hr (hb.block _ (World.block_lt_of_cell? w _ (hr 0 n1)))
  have hi := rim_num hW h1 h2 h3 hj
  unfold rimF
  obtain ⟨i, hi'⟩ : ∃ i, rimI W j = i := ⟨_, rfl⟩
  rw [hi'] at hi ⊢
  have I := in_cell hn h1 (show x + 1 < X + W by omega) h3 (show y + 1 < Y + H by omega) hi
  have zb : b < w2.heap.size := World.block_lt_of_cell? w2 _ (hr2 i I.a0)
  have CA := Lib.hid (fun W' (hb : Below w2.heap.size w2 W') => crossAt_any X Y W H n b cap i v x y W' h0 hn hcap hcp (flAt_congr hr2 (hb.block _ zb)) I.h1 I.h2 I.h3 I.h4 I.hi)
  have NO := Lib.hid (fun w (hB : Below w2.heap.size w2 w) => (hg.stay hb).run k (v i) (v (i - W)) (v (i - 1)) (v (i + 1)) (v (i + W)) w hk (hv _ I.a0).1 (hv _ I.a1).1 (hv _ I.a4).1 (hv _ I.a3).1 (hv _ I.a2).1 hB)
  have GF := Lib.hid (blkStay hp hb)
  have GQ := Lib.hid (blkStay hq hb)
  obtain ⟨cF, fF, zF⟩ := blkC GF.out
  obtain ⟨cQ, fQ, zQ⟩ := blkC GQ.out
  unfold Enters at hcall
  clear hp hq hr h0 hn hcap hcp hv hW hH hb hi hi' I h1 h2 h3 h4 hj n1 hr2 hg zb
  generalize F (v i) (v (i - W)) (v (i - 1)) (v (i + 1)) (v (i + W)) = res at *
  generalize v i = v0 at *
  generalize v (i - W) = v1 at *
  generalize v (i + W) = v2 at *
  generalize v (i + 1) = v3 at *
  generalize v (i - 1) = v4 at *
  go_enter Try.func162, Try.ntmps162
  go_wp2
  go_region_held3 (fun w' => (∀ o, w'.cell? ⟨p, o, none⟩ = #[.int .i64 X, .int .i64 Y, .int .i64 W, .int .i64 H, .slice (some ⟨b, 0, none⟩) n cap][o]?) ∧ (∀ o, w'.cell? ⟨q, o, none⟩ = #[.func (.func g) #[] caps][o]?) ∧ Below w2.heap.size w2 w') (first | exact ⟨(blkC (blkStay GF.out hb9)).1, (blkC (blkStay GQ.out hb9)).1, hb9⟩ | exact ⟨(blkC (blkStay GF.out (by repeat (first | exact Below.refl _ _ | refine Below.alloc ?_ (by first | omega | (simp; done) | (simp; omega)) _ | refine Below.setCell ?_ (by first | omega | (simp; done) | (simp; omega)) _ | refine Below.drew ?_)))).1, (blkC (blkStay GQ.out (by repeat (first | exact Below.refl _ _ | refine Below.alloc ?_ (by first | omega | (simp; done) | (simp; omega)) _ | refine Below.setCell ?_ (by first | omega | (simp; done) | (simp; omega)) _ | refine Below.drew ?_)))).1, (by repeat (first | exact Below.refl _ _ | refine Below.alloc ?_ (by first | omega | (simp; done) | (simp; omega)) _ | refine Below.setCell ?_ (by first | omega | (simp; done) | (simp; omega)) _ | refine Below.drew ?_))⟩) (first | (go_at_call 94; (with_reducible refine Calls.mono (CA.out _ ?_) ?_); exact (by repeat (first | exact Below.refl _ _ | refine Below.alloc ?_ (by first | omega | (simp; done) | (simp; omega)) _ | refine Below.setCell ?_ (by first | omega | (simp; done) | (simp; omega)) _ | refine Below.drew ?_)); rintro e w' ⟨rfl, hb8⟩; have hb9 : Below w2.heap.size w2 w' := Below.trans (by first | exact hb9 | exact hb9.drew | exact (by repeat (first | exact Below.refl _ _ | refine Below.alloc ?_ (by first | omega | (simp; done) | (simp; omega)) _ | refine Below.setCell ?_ (by first | omega | (simp; done) | (simp; omega)) _ | refine Below.drew ?_))) (Below.mono hb8 (by first | exact hb9.size | exact Nat.le_refl _ | (simp; done) | (simp; omega))); clear hb8) | (go_simp; (with_reducible refine Calls.mono (NO.out _ ?_) ?_); (first | exact hb9 | exact hb9.drew | exact (by repeat (first | exact Below.refl _ _ | refine Below.alloc ?_ (by first | omega | (simp; done) | (simp; omega)) _ | refine Below.setCell ?_ (by first | omega | (simp; done) | (simp; omega)) _ | refine Below.drew ?_))); rintro e w' ⟨rfl, hb8⟩; have hb9 : Below w2.heap.size w2 w' := Below.trans (by first | exact hb9 | exact hb9.drew | exact (by repeat (first | exact Below.refl _ _ | refine Below.alloc ?_ (by first | omega | (simp; done) | (simp; omega)) _ | refine Below.setCell ?_ (by first | omega | (simp; done) | (simp; omega)) _ | refine Below.drew ?_))) (Below.mono hb8 (by first | exact hb9.size | exact Nat.le_refl _ | (simp; done) | (simp; omega))); clear hb8))
  rename_i wh hHeld
  go_wp2
  go_ret
  exact ⟨rfl, hHeld.2.2⟩
end Go.Proofs.Ytdbponidkodmfaa

/- Contract: each of singles, of the program. -/
namespace Go.Proofs.Ytdbponidkodmfaa
open Go.RowKit Fl
set_option linter.unusedVariables false

/-- At the head of a loop that makes a list, when k of f are there; the region lies in the block bb. -/
structure EfAt (w0 : World) (X Y W H : Int) (bb base : Nat) (f : Nat → Nat) (k : Nat) (ov : Value) (wr : World) : Prop where
  own : wr.ownsRow base 34 1 ov k (rowL f k)
  reg : wr.heap[bb]? = some (regObj X Y W H)
  bel : Below w0.heap.size w0 wr
  size : base ≤ wr.heap.size

theorem EfAt.push {w0 wr w5 w6 : World} {X Y W H : Int} {bb base k g' cap' : Nat} {f : Nat → Nat} {ov : Value} {o : Obj} (h : EfAt w0 X Y W H bb base f k ov wr) (h5 : Below wr.heap.size wr w5) (hb : bb < base) (h0 : w0.heap.size ≤ base)
    (hgrow : (w5.alloc o).grownBy w6 ov.ownBlock) (hown : w6.ownsRow base 34 1 (.slice (some ⟨g', 0, none⟩) (k + 1) cap') (k + 1) (rowL f k ++ [.float .f32 (f k)])) :
    EfAt w0 X Y W H bb base f (k + 1) (.slice (some ⟨g', 0, none⟩) (k + 1) cap') w6 := by
  have z5 : base ≤ w5.heap.size := Nat.le_trans h.size h5.size
  have own5 := ownsRow_below h.own h5
  have B5 : Below w0.heap.size w0 w5 := h.bel.trans (h5.mono h.bel.size)
  have e4 : ∀ j, j < base → w6.heap[j]? = w5.heap[j]? := fun j hj => (hgrow.block j (by show j < (w5.alloc o).heap.size; rw [heap_size_alloc]; omega) (ownsRow_far own5 hj)).trans (heap_alloc_old _ _ (by omega))
  have B4 : Below w0.heap.size w0 (w5.alloc o) := B5.alloc B5.size o
  have z6 := hgrow.size
  rw [heap_size_alloc] at z6
  exact ⟨by rw [rowL_succ]; exact hown, (e4 _ hb).trans (blkStay h.reg h5), ⟨hgrow.os.trans B4.os, hgrow.tape.trans B4.tape, hgrow.output.trans B4.output, Nat.le_trans B4.size hgrow.size, fun j hj => (e4 j (by omega)).trans (B5.block j hj)⟩, by omega⟩

theorem EfAt.cells {w0 wr : World} {X Y W H : Int} {bb base g cap k : Nat} {f : Nat → Nat} (h : EfAt w0 X Y W H bb base f k (.slice (some ⟨g, 0, none⟩) k cap) wr) (hk : 0 < k) : FlAt wr g 0 k f ∧ base ≤ g ∧ g < wr.heap.size ∧ k ≤ cap ∧ cap ≤ 9223372036854775807 := by
  obtain ⟨h1, h2, h3⟩ := ownsRow_flAt h.own hk
  rcases h.own.2 with ⟨h0, _⟩ | ⟨g', cap', cur, hv, hg, hh, q1, q2, _, _⟩
  · cases h0
  · cases hv
    exact ⟨h1, h3, h2, q1, Nat.le_trans q2 (by decide)⟩

theorem make0_f32 (n : Nat) (hn : n ≤ 262144) (w : World) :
    (Instr.makeSlice 25 (.int .i64 0) (.int .i64 (n : Int))).run Try.prog w = .ok (.slice (some ⟨w.heap.size, 0, none⟩) 0 n) (w.alloc (.cells (madeCells #[Value.float .f32 0] n) 34)) := by
  have h : (Try.prog.info? 34).map (fun i => (i.zero, i.size, i.bytes)) = some (some (.float .f32 0), 1, 4) := by kernel_rfl
  obtain ⟨i0, hi, hz0, hz1, hz2⟩ := info_parts h
  have hr := run_make (P := Try.prog) w 25 34 i0 (.float .f32 0) Try.underlying25 hi hz0 .i64 .i64 0 n (by omega) (by omega) (by rw [hz2]; omega) (by omega)
  rw [hz1, Nat.mul_one, Int.toNat_natCast] at hr
  exact hr

set_option maxRecDepth 100000 in
set_option maxHeartbeats 4000000 in
theorem eachF_any (X Y : Int) (W H n : Nat) (p q : Nat) (f : Nat → Nat) (w : World)
    (hcl : ∀ (x y : Int) (j : Nat) (w2 : World), X ≤ x → x < X + W → Y ≤ y → y < Y + H → (j : Int) = (y - Y) * W + (x - X) → Below w.heap.size w w2 → Calls Try.prog 162 #[.int .i64 x, .int .i64 y, .pointer (some ⟨q, 0, none⟩), .pointer (some ⟨p, 0, none⟩)] w2 fun e w' => e = .returned (.float .f32 (f j)) ∧ Below w2.heap.size w2 w')
    (hX1 : -16777216 ≤ X) (hX2 : X ≤ 16777216) (hY1 : -16777216 ≤ Y) (hY2 : Y ≤ 16777216) (hW1 : 1 ≤ W) (hW2 : W ≤ 512) (hH1 : 1 ≤ H) (hH2 : H ≤ 512) (hn : n = H * W) :
    Calls Try.prog 161 #[reg X Y W H, .func (.func 162) #[] #[.pointer (some ⟨q, 0, none⟩), .pointer (some ⟨p, 0, none⟩)]] w fun e w' => ∃ g cap, e = .returned (.slice (some ⟨g, 0, none⟩) n cap) ∧ FlAt w' g 0 n f ∧ w.heap.size ≤ g ∧ g < w'.heap.size ∧ n ≤ cap ∧ cap ≤ 9223372036854775807 ∧ Below w.heap.size w w' := by
  have HCL := Lib.hid hcl
  have HN := Lib.hid hn
  have hn1 : 1 ≤ n := by rw [hn]; exact Nat.mul_pos hH1 hW1
  have hn2 : n ≤ 262144 := by rw [hn]; exact Nat.le_trans (Nat.mul_le_mul hH2 hW2) (by omega)
  have e1 : (W : Int) * (H : Int) = (n : Int) := by rw [hn, Nat.mul_comm]; simp
  have e2 : wrap64 ((W : Int) * (H : Int)) = (n : Int) := by rw [e1]; exact IntWalk.wrap64_in _ ⟨by omega, by omega⟩
  have hinfo : (Try.prog.info? 34).map (fun i => (i.zero, i.size, i.bytes)) = some (some (.float .f32 0), 1, 4) := by kernel_rfl
  obtain ⟨i0, hi, hz0, hz1, hz2⟩ := info_parts hinfo
  have MK := make0_f32 n hn2
  clear hcl hn hinfo e1
  go_enter Try.func161, Try.ntmps161
  go_wp2
  have HS := Lib.hid (show EfAt w X Y W H w.heap.size (w.heap.size + 1) f 0 (.slice (some ⟨w.heap.size + 1, 0, none⟩) 0 n) ((w.alloc (regObj X Y W H)).alloc (.cells (madeCells #[Value.float .f32 0] n) 34)) from
    ⟨⟨by simp [rowL], .inr ⟨_, n, _, rfl, Nat.le_refl _, by (first | (rw [heap_alloc_get, if_pos rfl]; done) | ((simp only [heap_alloc_get, heap_size_alloc, if_true]) <;> ((repeat' split) <;> first | rfl | omega))), by omega, by unfold maxLen; omega, by simp [madeCells], by simp [rowL]⟩⟩, by (first | (rw [heap_alloc_get, if_pos rfl]; done) | ((simp only [heap_alloc_get, heap_size_alloc, if_true]) <;> ((repeat' split) <;> first | rfl | omega))), (by repeat (first | exact Below.refl _ _ | refine Below.alloc ?_ (by first | omega | (simp; done) | (simp; omega)) _ | refine Below.setCell ?_ (by first | omega | (simp; done) | (simp; omega)) _ | refine Below.drew ?_)), by simp⟩)
  have HI := Lib.hid hi
  clear e2 MK
  generalize (w.alloc (regObj X Y W H)).alloc (.cells (madeCells #[Value.float .f32 0] n) 34) = w1 at *
  go_loopw [5, 6, 7] (fun l y x wr => ∃ (j : Nat) (ov : Value), j ≤ H ∧ y = .int .i64 (Y + j) ∧ ov = l ∧ EfAt w X Y W H w.heap.size (w.heap.size + 1) f (j * W) ov wr) (fun _ y _ _ => (Y + H - intOf y).toNat)
  case atStart => exact ⟨0, _, by omega, by simp, rfl, by rw [Nat.zero_mul]; exact HS.out⟩
  case round =>
    obtain ⟨j, ov, hj, rfl, rfl, hm⟩ := hrel
    have HM := Lib.hid hm
    obtain ⟨cB, fB, zB⟩ := blkC hm.reg
    clear hm
    by_cases hlt : j < H
    · go_wp2
      clear cB fB zB
      obtain ⟨w2, rfl⟩ : ∃ w2, w2 = wr := ⟨_, rfl⟩
      go_loopw [5, 7] (fun l x wr => ∃ (i : Nat) (ov : Value), i ≤ W ∧ x = .int .i64 (X + i) ∧ ov = l ∧ EfAt w X Y W H w.heap.size (w.heap.size + 1) f (j * W + i) ov wr) (fun _ x _ => (X + W - intOf x).toNat)
      case atStart => exact ⟨0, _, by omega, by simp, rfl, HM.out⟩
      case round =>
        obtain ⟨i, ov, hi1, rfl, rfl, hmi⟩ := hrel
        have HMi := Lib.hid hmi
        obtain ⟨cB, fB, zB⟩ := blkC hmi.reg
        have HB := Lib.hid hmi.bel
        clear hmi
        by_cases hlt2 : i < W
        · have hk : j * W + i < 262144 := by
            have : j * W ≤ 511 * 512 := Nat.mul_le_mul (by omega) hW2
            omega
          have CC := Lib.hid (fun W' hb => HCL.out (X + i) (Y + j) (j * W + i) W' (by omega) (by omega) (by omega) (by omega) (by rw [show (Y + (j : Int) - Y) = j by omega, show (X + (i : Int) - X) = i by omega]; simp) hb)
          obtain ⟨k, hke⟩ : ∃ k, j * W + i = k := ⟨_, rfl⟩
          rw [hke] at CC hk HMi
          have KE := Lib.hid (show j * W + (i + 1) = k + 1 by omega)
          have HZ := Lib.hid HMi.out.size
          have hi := HI.out
          clear hke
          go_wp2_with (first | (go_at_call 162; refine (CC.out _ HB.out).mono ?_; rintro e w5 ⟨rfl, hb5⟩; have HB5 := Lib.hid hb5; clear hb5 cB fB zB; have OW5 := Lib.hid (ownsRow_below HMi.out.own HB5.out)) | (at_builtin; go_loud (refine wpList_append_lies _ rfl _ _ _ rfl (w.heap.size + 1) 34 i0 _ 1 4 Try.underlying25 hi hz0 hz1 hz2 rfl (by omega) ov k (rowL f k) (by rfl) (OW5.out.alloc _) ⟨w5.heap.size, 0, none⟩ 1 1 [.float .f32 (f k)] (by rfl) (by rfl) (World.news_of_block (cs := #[.float .f32 (f k)]) (t := 34) (fr := (0, 0)) (heap_alloc_new w5 _)) (by simp [Value.oneCell']) (by omega) (by unfold maxLen; omega) (by omega) (by have := HB5.out.size; have := HZ.out; simp; omega) (w5.heap.size + 1) (by simp) ?_; intro g' cap' w6 hown6 hgrow hat hlt6; have HN6 := Lib.hid (EfAt.push HMi.out HB5.out (by omega) (by omega) hgrow hown6); clear hown6 hgrow hat hlt6)))
          go_roundw
          case rel => exact ⟨i + 1, _, by omega, by go_num, rfl, by rw [KE.out]; exact HN6.out⟩
          case measure => simp [intOf]; omega
        · have hiW : i = W := by omega
          have HM3 : Hid (EfAt w X Y W H w.heap.size (w.heap.size + 1) f ((j + 1) * W) ov wr) := by
            have h := HMi.out
            rw [hiW, ← Nat.succ_mul] at h
            exact h
          have hge : ¬ X + (i : Int) < X + W := by omega
          clear hiW
          go_wp2
          go_roundw
          case rel => exact ⟨j + 1, _, by omega, by go_num, rfl, HM3.out⟩
          case measure => simp [intOf]; omega
    · have hjH : j = H := by omega
      have hm := HM.out
      rw [hjH, ← HN.out] at hm
      have hge : ¬ Y + (j : Int) < Y + H := by omega
      obtain ⟨g, cap, rfl, _⟩ := hm.own.form (by omega)
      obtain ⟨hcell, hg, hgl, hcn, hcm⟩ := hm.cells (by omega)
      have HCN := Lib.hid hcn
      have HCM := Lib.hid hcm
      clear hcn hcm
      have HQ := Lib.hid hcell
      have HR := Lib.hid hm.bel
      clear hm hcell HM
      go_wp2
      go_ret
      exact ⟨g, cap, rfl, HQ.out, by omega, hgl, HCN.out, HCM.out, HR.out⟩
end Go.Proofs.Ytdbponidkodmfaa

/- Contracts: slices.Clone of singles, Check of a row of finite singles, and step, of the program. -/
namespace Go.Proofs.Ytdbponidkodmfaa
open Go.RowKit Fl
set_option linter.unusedVariables false

/-- What Clone answers: a new row of the same singles. -/
def ClnPost (n : Nat) (v : Nat → Nat) (w : World) (e : Ending) (w' : World) : Prop :=
  ∃ g cap, e = .returned (.slice (some ⟨g, 0, none⟩) n cap) ∧ w.heap.size ≤ g ∧ w'.ownsRow w.heap.size 34 1 (.slice (some ⟨g, 0, none⟩) n cap) n (rowL v n) ∧ Below w.heap.size w w'

set_option maxHeartbeats 1000000 in
theorem clone2_any (b off n cap : Nat) (v : Nat → Nat) (w : World) (h1 : 1 ≤ n) (hn : n ≤ 65536) (hc : FlAt w b off n v) :
    Calls Try.prog 151 #[.slice (some ⟨b, off, none⟩) n cap] w (ClnPost n v w) := by
  have zb : b < w.heap.size := World.block_lt_of_cell? w _ (hc 0 h1)
  have hnews := Lib.hid (show ∀ j u, (rowL v n)[j]? = some u → (w.alloc (.cells #[] 34)).cell? ((⟨b, off, none⟩ : Addr).add j) = some u from fun j u hu => by
    have hj : j < n := by
      rcases Nat.lt_or_ge j n with h | h
      · exact h
      · rw [List.getElem?_eq_none (by simpa [rowL] using h)] at hu; cases hu
    have : u = .float .f32 (v j) := by simpa [rowL, hj] using hu.symm
    rw [this]
    have e := hc j hj
    have : (⟨b, off, none⟩ : Addr).add j = ⟨b, off + j, none⟩ := by simp [Addr.add]
    rw [this]
    exact (World.cell?_of_block (w := w) (a := ⟨b, off + j, none⟩) (heap_alloc_old w _ zb)).trans e)
  have hinfo : (Try.prog.info? 34).map (fun i => (i.zero, i.size, i.bytes)) = some (some (.float .f32 0), 1, 4) := by kernel_rfl
  obtain ⟨i0, hi, hz0, hz1, hz2⟩ := info_parts hinfo
  have qT : ∀ (w : World) (a : Option Addr) (n c n' c' : Nat), (binOp .eql 25 (.slice a n c) (.slice none n' c')).run Try.prog w = .ok (.bool a.isNone) w := fun w a n c n' c' => Lib.run_eql_slice_nil w _ _ a n c n' c' Try.underlying25
  have H1 := Lib.hid h1
  have HN := Lib.hid hn
  clear hc hinfo h1 hn
  go_enter Try.func151, Try.ntmps151
  go_wp2_with (at_builtin; refine wpList_append_own _ rfl _ _ _ rfl w.heap.size 34 i0 (.float .f32 0) 1 4 Try.underlying25 hi hz0 hz1 hz2 rfl (by decide) (.slice (some ⟨w.heap.size, 0, none⟩) 0 0) 0 [] rfl (World.ownsRow_lit w #[] 0 (Nat.le_refl _) (by unfold maxLen; omega) rfl) ⟨b, off, none⟩ n cap (rowL v n) rfl (by simp [rowL]) hnews.out (by simp [rowL, Value.oneCell']) (by have := HN.out; unfold maxLen; omega) (by have := HN.out; omega) (by simp) ?_; intro v' w1 hown' hgrow hnil)
  rw [Nat.zero_add, List.nil_append] at hown'
  obtain ⟨g, cap', rfl, hg, _⟩ := hown'.form H1.out
  have HO := Lib.hid hown'
  have HG := Lib.hid hgrow
  clear hown' hgrow hnil
  go_ret
  exact ⟨g, cap', rfl, hg, HO.out, Below.grown (by repeat (first | exact Below.refl _ _ | refine Below.alloc ?_ (by first | omega | (simp; done) | (simp; omega)) _ | refine Below.setCell ?_ (by first | omega | (simp; done) | (simp; omega)) _ | refine Below.drew ?_)) HG.out (by simp) (fun k e => by simp [Value.ownBlock] at e; omega)⟩


theorem row_fin {k n : Nat} {v : Nat → Nat} (h : Row k n v) : allB n (fun i => finB (v i)) = true := allB_iff.2 fun i hi => by
  obtain ⟨a, ha, _⟩ := val_bd (h i hi).1
  unfold finB; rw [ha]; rfl
theorem row_err {k n : Nat} {v : Nat → Nat} (h : Row k n v) : fldE n v = if allB n (fun i => hgtB (v i)) = true then 0 else 3 := by
  unfold fldE hgtE
  rw [row_fin h]
  cases allB n (fun i => hgtB (v i)) <;> rfl

set_option maxHeartbeats 1000000 in
theorem check_row (X Y : Int) (W H n b cap k : Nat) (v : Nat → Nat) (w : World) (h0 : checkR X Y W H = 0) (hn : n = W * H) (hc : FlAt w b 0 n v) (hv : Row k n v) :
    Calls Try.prog 101 #[fldV X Y W H (.slice (some ⟨b, 0, none⟩) n cap)] w fun e w' => e = .returned (.int .i64 (if allB n (fun i => hgtB (v i)) = true then 0 else 3)) ∧ Below w.heap.size w w' := by
  obtain ⟨b1, b2, b3, b4, b5, b6, b7, b8, b9⟩ := checkR_zero h0
  have hm : (W : Int) * (H : Int) = (n : Int) := by rw [hn]; simp
  have h1 : 1 ≤ n := by rw [hn]; exact Nat.mul_pos (by omega) (by omega)
  have hlt : b < w.heap.size := World.block_lt_of_cell? w _ (hc 0 h1)
  have CH := Lib.hid (fun W' (hb : Below w.heap.size w W') => CheckHeights_row b 0 cap n v (by omega) W' (flAt_congr hc (hb.block _ hlt)))
  rw [row_err hv] at CH
  have RC := Lib.hid (fun w => checkRegion_any X Y W H w)
  rw [h0] at RC
  have en : wrap64 ((W : Int) * (H : Int)) = (n : Int) := by rw [hm]; exact IntWalk.wrap64_in _ ⟨by omega, by omega⟩
  generalize (if allB n (fun i => hgtB (v i)) = true then (0 : Int) else 3) = er at *
  clear h0 hn hc hv b1 b2 b3 b4 b5 b6 b7 b8 b9 hm h1
  go_enter Try.func101, Try.ntmps101
  go_wp2_with (first | (go_at_call 53; refine (RC.out _).mono ?_; rintro e w' ⟨rfl, rfl⟩) | (go_at_call 65; refine (CH.out _ (by repeat (first | exact Below.refl _ _ | refine Below.alloc ?_ (by first | omega | (simp; done) | (simp; omega)) _ | refine Below.setCell ?_ (by first | omega | (simp; done) | (simp; omega)) _ | refine Below.drew ?_))).mono ?_; rintro e w' ⟨rfl, rfl⟩))
  go_ret
  exact ⟨rfl, (by repeat (first | exact Below.refl _ _ | refine Below.alloc ?_ (by first | omega | (simp; done) | (simp; omega)) _ | refine Below.setCell ?_ (by first | omega | (simp; done) | (simp; omega)) _ | refine Below.drew ?_))⟩

/-- A field in the block c, its row in b: n values v. -/
structure FldAt (w : World) (c : Nat) (X Y : Int) (W H b n cap : Nat) (v : Nat → Nat) : Prop where
  fld : w.heap[c]? = some (fldO X Y W H (.slice (some ⟨b, 0, none⟩) n cap))
  row : FlAt w b 0 n v
  lt : b < w.heap.size
  nc : n ≤ cap
  cm : cap ≤ 9223372036854775807

/-- What step answers. -/
def StepPost (w : World) (X Y : Int) (W2 H2 n2 : Nat) (f : Nat → Nat) (e : Ending) (w' : World) : Prop :=
  ∃ b cap, e = .returned (fldV X Y W2 H2 (.slice (some ⟨b, 0, none⟩) n2 cap)) ∧ FlAt w' b 0 n2 f ∧ w.heap.size ≤ b ∧ b < w'.heap.size ∧ n2 ≤ cap ∧ cap ≤ 9223372036854775807 ∧ Below w.heap.size w w'

set_option maxHeartbeats 4000000 in
set_option maxRecDepth 100000 in
theorem step_any (X Y : Int) (W H n b cap W2 H2 k d : Nat) (v : Nat → Nat) (g : Nat) (caps : Array Value) (F : Nat → Nat → Nat → Nat → Nat → Nat) (w : World) (hg : AtK g caps F d w) (hcall : Enters g) (h0 : checkR X Y W H = 0) (hn : n = W * H) (hcap : n ≤ cap) (hcp : cap ≤ 9223372036854775807) (hc : FlAt w b 0 n v) (hk : k ≤ 100) (hv : Row k n v)
    (eW : W = W2 + 2) (eH : H = H2 + 2) (w1 : 1 ≤ W2) (g1 : 1 ≤ H2) :
    Calls Try.prog 152 #[fldV X Y W H (.slice (some ⟨b, 0, none⟩) n cap), .func (.func g) #[] caps] w (StepPost w (X + 1) (Y + 1) W2 H2 (H2 * W2) (rimF F v W)) := by
  obtain ⟨b1, b2, b3, b4, b5, b6, b7, b8, b9⟩ := checkR_zero h0
  have h1 : 1 ≤ n := by rw [hn]; exact Nat.mul_pos (by omega) (by omega)
  have hnn : n = H * W := by rw [hn]; exact Nat.mul_comm _ _
  have hlt : b < w.heap.size := World.block_lt_of_cell? w _ (hc 0 h1)
  have iW : (W : Int) - 2 = (W2 : Int) := by omega
  have iH : (H : Int) - 2 = (H2 : Int) := by omega
  have SH := Lib.hid (fun w => shrink_any X Y W H w (by omega) (by omega) (by omega) (by omega) (by omega) (by omega) (by omega) (by omega))
  rw [iW, iH] at SH
  have EA := Lib.hid (fun W' p (k1 : W'.heap[p]? = some (fldO X Y W H (.slice (some ⟨b, 0, none⟩) n cap))) (k2 : W'.heap[p + 1]? = some (nxtObj g caps)) (hb : Below w.heap.size w W') => eachF_any (X + 1) (Y + 1) W2 H2 (H2 * W2) p (p + 1) (rimF F v W) W'
    (fun x y j w2 q1 q2 q3 q4 q5 q6 => step1_any X Y W H n b cap k d v p (p + 1) g caps F W' (hg.stay hb) hcall k1 k2 (flAt_congr hc (hb.block _ hlt)) h0 hnn hcap hcp hk hv (by omega) (by omega) x y j w2 q1 (by rw [iW]; exact q2) q3 (by rw [iH]; exact q4) (by rw [iW]; exact q5) q6)
    (by omega) (by omega) (by omega) (by omega) (by omega) (by omega) (by omega) (by omega) rfl)
  generalize rimF F v W = f at *
  generalize H2 * W2 = n2 at *
  clear h0 hn hnn hcap hcp hc hv hk eW eH w1 g1 b1 b2 b3 b4 b5 b6 b7 b8 b9 iW iH h1 hg hcall hlt
  go_enter Try.func152, Try.ntmps152
  go_wp2_with (first | (go_at_call 146; refine (SH.out _).mono ?_; rintro e w2 ⟨rfl, hb2⟩; have HF2 := Lib.hid (blkStay (b := w.heap.size) (o := fldO X Y W H (.slice (some ⟨b, 0, none⟩) n cap)) (by (first | (rw [heap_alloc_get, if_pos rfl]; done) | ((simp only [heap_alloc_get, heap_size_alloc, if_true]) <;> ((repeat' split) <;> first | rfl | omega)))) hb2); have HN2 := Lib.hid (blkStay (b := w.heap.size + 1) (o := nxtObj g caps) (by (first | (rw [heap_alloc_get, if_pos rfl]; done) | ((simp only [heap_alloc_get, heap_size_alloc, if_true]) <;> ((repeat' split) <;> first | rfl | omega)))) hb2); have HS2 := Lib.hid (blkStay (b := w.heap.size + 1 + 1) (o := fldO 0 0 0 0 (.slice none 0 0)) (by (first | (rw [heap_alloc_get, if_pos rfl]; done) | ((simp only [heap_alloc_get, heap_size_alloc, if_true]) <;> ((repeat' split) <;> first | rfl | omega)))) hb2); have hB2 : Below w.heap.size w w2 := Below.trans (by repeat (first | exact Below.refl _ _ | refine Below.alloc ?_ (by first | omega | (simp; done) | (simp; omega)) _ | refine Below.setCell ?_ (by first | omega | (simp; done) | (simp; omega)) _ | refine Below.drew ?_)) (Below.mono hb2 (by first | omega | (simp; done) | (simp; omega))); clear hb2; obtain ⟨cS, fS, zS⟩ := blkC HS2.out))
  have z02 := hB2.size
  have hA := (show Below w2.heap.size w2 (w2.alloc (regObj (X + 1) (Y + 1) W2 H2)) from (Below.refl _ _).alloc (Nat.le_refl _) _)
  have HF3 := Lib.hid (blkStay HF2.out hA)
  have HN3 := Lib.hid (blkStay HN2.out hA)
  have HS3 := Lib.hid (blkStay HS2.out hA)
  have HB3 := Lib.hid (hB2.trans (hA.mono z02))
  have HR3 := Lib.hid (heap_alloc_new w2 (regObj (X + 1) (Y + 1) W2 H2))
  have zw : w2.heap.size < (w2.alloc (regObj (X + 1) (Y + 1) W2 H2)).heap.size := by simp
  have zs : w.heap.size + 1 + 1 < w2.heap.size := zS
  clear hA HF2 HN2 HS2 hB2 SH cS fS zS
  generalize w2.alloc (regObj (X + 1) (Y + 1) W2 H2) = w3 at *
  obtain ⟨cR, fR, zR⟩ := blkC HR3.out
  obtain ⟨cS, fS, zS⟩ := blkC HS3.out
  go_region_law (first
    | (go_simp; (with_reducible refine (EA.out _ w.heap.size (by first | exact HF3.out | exact blkDrew HF3.out | exact blkDrew (blkDrew HF3.out) | exact blkDrew (blkDrew (blkDrew HF3.out))) (by first | exact HN3.out | exact blkDrew HN3.out | exact blkDrew (blkDrew HN3.out) | exact blkDrew (blkDrew (blkDrew HN3.out))) (by first | exact HB3.out | exact HB3.out.drew | exact HB3.out.drew.drew | exact HB3.out.drew.drew.drew)).mono ?_); rintro e w4 ⟨gb, cap', rfl, hcl, hg, hgl, hnc, hcm, hb4⟩; have hb3 : Below w3.heap.size w3 w4 := ⟨hb4.os, hb4.tape, hb4.output, hb4.size, hb4.block⟩; have SS := Lib.hid (blkStay HS3.out hb3); have RR := Lib.hid (blkStay HR3.out hb3); have HB4 := Lib.hid (HB3.out.trans (hb3.mono HB3.out.size)); have HCL := Lib.hid hcl; obtain ⟨cR4, fR4, zR4⟩ := blkC RR.out; obtain ⟨cS4, fS4, zS4⟩ := blkC SS.out; clear hcl hb4 hb3))
  all_goals
    have HRES := fun (u1 u2 u3 u4 u5 : Value) => (blkC (set5_self u1 u2 u3 u4 u5 SS.out)).1
    simp only [set5] at HRES
    go_wp2
    refine bodyPost_ret (v := fldV (X + 1) (Y + 1) W2 H2 (.slice (some ⟨gb, 0, none⟩) n2 cap')) (by simp [results, Try.results152, go_sem, HRES]) rfl ?_
    have hg' : w3.heap.size ≤ gb := hg
    have z3 := HB3.out.size
    refine ⟨gb, cap', rfl, flAt_congr HCL.out (set5_heap w4 (w.heap.size + 1 + 1) gb (.int .i64 (X + 1)) (.int .i64 (Y + 1)) (.int .i64 W2) (.int .i64 H2) (.slice (some ⟨gb, 0, none⟩) n2 cap') (by omega)), by omega, ?_, hnc, hcm, ?_⟩
    · exact Nat.lt_of_lt_of_le hgl (Nat.le_of_eq (set5_size w4 (w.heap.size + 1 + 1) (.int .i64 (X + 1)) (.int .i64 (Y + 1)) (.int .i64 W2) (.int .i64 H2) (.slice (some ⟨gb, 0, none⟩) n2 cap')).symm)
    · exact set5_below HB4.out (w.heap.size + 1 + 1) (.int .i64 (X + 1)) (.int .i64 (Y + 1)) (.int .i64 W2) (.int .i64 H2) (.slice (some ⟨gb, 0, none⟩) n2 cap') (by omega)
end Go.Proofs.Ytdbponidkodmfaa

/- Contracts: shrink by several cells, and worn, of the program. -/
namespace Go.Proofs.Ytdbponidkodmfaa
open Go.RowKit Fl
set_option linter.unusedVariables false

set_option maxHeartbeats 1000000 in
theorem shrinkN_any (X Y W H : Int) (m : Nat) (w : World) (x1 : -4194304 ≤ X) (x2 : X ≤ 4194304) (y1 : -4194304 ≤ Y) (y2 : Y ≤ 4194304) (w1 : 1 ≤ W) (w2 : W ≤ 512) (h1 : 1 ≤ H) (h2 : H ≤ 512) (hm : m ≤ 64) :
    Calls Try.prog 146 #[reg X Y W H, .int .i64 m] w fun e w' => e = .returned (.tuple #[reg (X + m) (Y + m) (W - 2 * m) (H - 2 * m), .bool (decide (0 < W - 2 * (m : Int) ∧ 0 < H - 2 * (m : Int)))]) ∧ Below w.heap.size w w' := by
  cases c1 : decide (2 * (m : Int) < W) with
  | false =>
    have e : decide (0 < W - 2 * (m : Int) ∧ 0 < H - 2 * (m : Int)) = false := by simp at c1 ⊢; omega
    rw [e]
    clear e
    go_enter Try.func146, Try.ntmps146
    go_wp2
    go_region
    all_goals go_wp2
    all_goals refine bodyPost_ret (v := .tuple #[reg (X + m) (Y + m) (W - 2 * m) (H - 2 * m), .bool false]) (by simp [results, Try.results146, go_sem]) rfl ?_
    all_goals exact ⟨rfl, by repeat (first | exact Below.refl _ _ | refine Below.drew ?_ | refine Below.alloc ?_ (by simp; try omega) _ | refine Below.setCell ?_ (by simp; try omega) _)⟩
  | true =>
    cases c2 : decide (2 * (m : Int) < H) with
    | false =>
      have e : decide (0 < W - 2 * (m : Int) ∧ 0 < H - 2 * (m : Int)) = false := by simp at c1 c2 ⊢; omega
      rw [e]
      clear e
      go_enter Try.func146, Try.ntmps146
      go_wp2
      go_region
      all_goals go_wp2
      all_goals refine bodyPost_ret (v := .tuple #[reg (X + m) (Y + m) (W - 2 * m) (H - 2 * m), .bool false]) (by simp [results, Try.results146, go_sem]) rfl ?_
      all_goals exact ⟨rfl, by repeat (first | exact Below.refl _ _ | refine Below.drew ?_ | refine Below.alloc ?_ (by simp; try omega) _ | refine Below.setCell ?_ (by simp; try omega) _)⟩
    | true =>
      have e : decide (0 < W - 2 * (m : Int) ∧ 0 < H - 2 * (m : Int)) = true := by simp at c1 c2 ⊢; omega
      rw [e]
      clear e
      go_enter Try.func146, Try.ntmps146
      go_wp2
      go_region
      all_goals go_wp2
      all_goals refine bodyPost_ret (v := .tuple #[reg (X + m) (Y + m) (W - 2 * m) (H - 2 * m), .bool true]) (by simp [results, Try.results146, go_sem]) rfl ?_
      all_goals exact ⟨rfl, by repeat (first | exact Below.refl _ _ | refine Below.drew ?_ | refine Below.alloc ?_ (by simp; try omega) _ | refine Below.setCell ?_ (by simp; try omega) _)⟩

/-- A field behind t steps, its width W at first. -/
def smF (F : Nat → Nat → Nat → Nat → Nat → Nat) (v : Nat → Nat) (W : Nat) : Nat → Nat → Nat
  | 0 => v
  | t + 1 => rimF F (smF F v W t) (W - 2 * t)

theorem steps_check {X Y : Int} {W H : Nat} (h0 : checkR X Y W H = 0) : ∀ t : Nat, 2 * t < W → 2 * t < H → checkR (X + t) (Y + t) ((W - 2 * t : Nat) : Int) ((H - 2 * t : Nat) : Int) = 0
  | 0, _, _ => by simpa using h0
  | t + 1, h1, h2 => by
    have ih := steps_check h0 t (by omega) (by omega)
    have := rim_check (W2 := W - 2 * (t + 1)) (H2 := H - 2 * (t + 1)) ih (by omega) (by omega) (by omega) (by omega)
    rw [show X + ((t + 1 : Nat) : Int) = X + t + 1 by omega, show Y + ((t + 1 : Nat) : Int) = Y + t + 1 by omega]
    exact this
theorem steps_row {d : Nat} {W H n : Nat} {v : Nat → Nat} {F : Nat → Nat → Nat → Nat → Nat → Nat} (hF : ∀ (k c n ww e s : Nat), k ≤ 100 → Bd k c → Bd k n → Bd k ww → Bd k e → Bd k s → Bd (k + d) (F c n ww e s) ∧ F c n ww e s < 4294967296)
    (hn : n = H * W) (hv : Row 20 n v) : ∀ t : Nat, 2 * t < W → 2 * t < H → 20 + d * t ≤ 100 → Row (20 + d * t) ((H - 2 * t) * (W - 2 * t)) (smF F v W t)
  | 0, _, _, _ => by simpa [← hn, smF] using hv
  | t + 1, h1, h2, h3 => by
    have hd : d * (t + 1) = d * t + d := Nat.mul_succ d t
    have ih := steps_row hF hn hv t (by omega) (by omega) (by omega)
    have := row_step (X := 0) (Y := 0) (W2 := W - 2 * (t + 1)) (H2 := H - 2 * (t + 1)) hF (by omega) rfl (show W - 2 * t = W - 2 * (t + 1) + 2 by omega) (show H - 2 * t = H - 2 * (t + 1) + 2 by omega) (by omega) ih
    rw [hd, ← Nat.add_assoc]
    exact this

/-- At the head of a loop of steps, behind t of them: the field lies in the block c, its row at lo or above. -/
structure RepAt (w : World) (c lo : Nat) (X Y : Int) (W H : Nat) (F : Nat → Nat → Nat → Nat → Nat → Nat) (v : Nat → Nat) (t : Nat) (wr : World) : Prop where
  fld : ∃ b cap, FldAt wr c (X + t) (Y + t) (W - 2 * t) (H - 2 * t) b ((H - 2 * t) * (W - 2 * t)) cap (smF F v W t) ∧ lo ≤ b
  res : wr.heap[w.heap.size + 1]? = some (fldO 0 0 0 0 (.slice none 0 0))
  bel : Below w.heap.size w wr
  c1 : w.heap.size ≤ c
  c2 : c ≠ w.heap.size + 1
  c3 : lo ≤ c

theorem rep_next {w wr w5 : World} {X Y : Int} {c lo W H : Nat} {F : Nat → Nat → Nat → Nat → Nat → Nat} {v : Nat → Nat} {t W2 H2 b cap : Nat} {f : Nat → Nat} (hR : RepAt w c lo X Y W H F v t wr) (hb : Below wr.heap.size wr w5) (eW : W - 2 * (t + 1) = W2) (eH : H - 2 * (t + 1) = H2) (ef : smF F v W (t + 1) = f)
    (hrow : FlAt w5 b 0 (H2 * W2) f) (hbase : wr.heap.size ≤ b) (hlt : b < w5.heap.size) (hnc : H2 * W2 ≤ cap) (hcm : cap ≤ 9223372036854775807) :
    RepAt w c lo X Y W H F v (t + 1) (set5 w5 c (.int .i64 (X + t + 1)) (.int .i64 (Y + t + 1)) (.int .i64 W2) (.int .i64 H2) (.slice (some ⟨b, 0, none⟩) (H2 * W2) cap)) := by
  obtain ⟨b0, c0, hF, _⟩ := hR.fld
  have z := hR.bel.size
  have zc := (blkC hF.fld).2.2
  have d1 := hR.c1
  have d2 := hR.c2
  have d3 := hR.c3
  have e1 : X + ((t + 1 : Nat) : Int) = X + t + 1 := by omega
  have e2 : Y + ((t + 1 : Nat) : Int) = Y + t + 1 := by omega
  refine ⟨⟨b, cap, ⟨?_, ?_, ?_, ?_, hcm⟩, by omega⟩, ?_, ?_, d1, d2, d3⟩
  · rw [e1, e2, eW, eH]; exact set5_self _ _ _ _ _ (blkStay hF.fld hb)
  · rw [eW, eH, ef]; exact flAt_congr hrow (set5_heap w5 c b _ _ _ _ _ (by omega))
  · rw [set5_size]; exact hlt
  · rw [eW, eH]; exact hnc
  · exact (set5_heap w5 c (w.heap.size + 1) _ _ _ _ _ (by omega)).trans (blkStay hR.res hb)
  · exact set5_below (hR.bel.trans (hb.mono hR.bel.size)) c _ _ _ _ _ d1

theorem rep_start {w wr : World} {X Y : Int} {c lo W H n b cap : Nat} {F : Nat → Nat → Nat → Nat → Nat → Nat} {v : Nat → Nat} (hF : FldAt wr c X Y W H b n cap v) (hl : lo ≤ b) (hn : n = H * W) (hS : wr.heap[w.heap.size + 1]? = some (fldO 0 0 0 0 (.slice none 0 0))) (hB : Below w.heap.size w wr) (c1 : w.heap.size ≤ c) (c2 : c ≠ w.heap.size + 1) (c3 : lo ≤ c) : RepAt w c lo X Y W H F v 0 wr :=
  ⟨⟨b, cap, by simpa [smF, ← hn] using hF, hl⟩, hS, hB, c1, c2, c3⟩

theorem rg_cells {wr : World} {base g cap k : Nat} {f : Nat → Nat} (h : wr.ownsRow base 34 1 (.slice (some ⟨g, 0, none⟩) k cap) k (rowL f k)) (hk : 0 < k) : FlAt wr g 0 k f ∧ base ≤ g ∧ g < wr.heap.size ∧ k ≤ cap ∧ cap ≤ 9223372036854775807 := by
  obtain ⟨h1, h2, h3⟩ := ownsRow_flAt h hk
  rcases h.2 with ⟨h0, _⟩ | ⟨g', cap', cur, hv, hg, hh, q1, q2, _, _⟩
  · cases h0
  · cases hv
    exact ⟨h1, h3, h2, q1, Nat.le_trans q2 (by decide)⟩

set_option maxHeartbeats 2000000 in
theorem worn_no (X Y : Int) (W H n b cap m : Nat) (g : Nat) (caps : Array Value) (w : World) (h0 : checkR X Y W H = 0) (hm : m ≤ 64) (hs : W ≤ 2 * m ∨ H ≤ 2 * m) :
    Calls Try.prog 103 #[fldV X Y W H (.slice (some ⟨b, 0, none⟩) n cap), .int .i64 m, .func (.func g) #[] caps] w fun e w' => e = .returned (.tuple #[fldV 0 0 0 0 (.slice none 0 0), .int .i64 10]) ∧ Below w.heap.size w w' := by
  obtain ⟨b1, b2, b3, b4, b5, b6, b7, b8, b9⟩ := checkR_zero h0
  have SH := Lib.hid (fun w => shrinkN_any X Y W H m w (by omega) (by omega) (by omega) (by omega) (by omega) (by omega) (by omega) (by omega) hm)
  have e : decide (0 < (W : Int) - 2 * (m : Int) ∧ 0 < (H : Int) - 2 * (m : Int)) = false := by simp; omega
  rw [e] at SH
  clear h0 b1 b2 b3 b4 b5 b6 b7 b8 b9 e hs
  go_enter Try.func103, Try.ntmps103
  go_wp2_with (first | (go_at_call 146; refine (SH.out _).mono ?_; rintro e w2 ⟨rfl, hb2⟩; have HS2 := Lib.hid (blkStay (b := w.heap.size + 1) (o := fldO 0 0 0 0 (.slice none 0 0)) (by (first | (rw [heap_alloc_get, if_pos rfl]; done) | ((simp only [heap_alloc_get, heap_size_alloc, if_true]) <;> ((repeat' split) <;> first | rfl | omega)))) hb2); have hB2 : Below w.heap.size w w2 := Below.trans (by repeat (first | exact Below.refl _ _ | refine Below.alloc ?_ (by first | omega | (simp; done) | (simp; omega)) _ | refine Below.setCell ?_ (by first | omega | (simp; done) | (simp; omega)) _ | refine Below.drew ?_)) (Below.mono hb2 (by first | omega | (simp; done) | (simp; omega))); have z2 := hB2.size; clear hb2; obtain ⟨cS, fS, zS⟩ := blkC HS2.out))
  have HRES := fun (u1 u2 u3 u4 u5 : Value) (o : Obj) => (blkC ((heap_alloc_old (set5 w2 (w.heap.size + 1) u1 u2 u3 u4 u5) o (by rw [set5_size]; exact zS)).trans (set5_self u1 u2 u3 u4 u5 HS2.out))).1
  simp only [set5] at HRES
  refine bodyPost_ret (v := .tuple #[fldV 0 0 0 0 (.slice none 0 0), .int .i64 10]) (by simp [results, Try.results103, go_sem, HRES]) rfl ?_
  exact ⟨rfl, by repeat (first | exact hB2 | refine Below.alloc ?_ (by first | omega | (simp; done) | (simp; omega)) _ | refine Below.setCell ?_ (by first | omega | (simp; done) | (simp; omega)) _)⟩

set_option maxHeartbeats 4000000 in
set_option maxRecDepth 100000 in
theorem worn_ok (X Y : Int) (W H n b cap m d : Nat) (v : Nat → Nat) (g : Nat) (caps : Array Value) (F : Nat → Nat → Nat → Nat → Nat → Nat) (w : World) (hg : AtK g caps F d w) (hcall : Enters g) (h0 : checkR X Y W H = 0) (hn : n = W * H) (hcap : n ≤ cap) (hcp : cap ≤ 9223372036854775807) (hc : FlAt w b 0 n v) (hv : Row 20 n v)
    (hm : m ≤ 64) (mW : 2 * m < W) (mH : 2 * m < H) (hd : 20 + d * m ≤ 100) :
    Calls Try.prog 103 #[fldV X Y W H (.slice (some ⟨b, 0, none⟩) n cap), .int .i64 m, .func (.func g) #[] caps] w (ScPost w (X + m) (Y + m) ((W - 2 * m : Nat) : Int) ((H - 2 * m : Nat) : Int) ((H - 2 * m) * (W - 2 * m)) (smF F v W m) 0) := by
  obtain ⟨b1, b2, b3, b4, b5, b6, b7, b8, b9⟩ := checkR_zero h0
  have h1 : 1 ≤ n := by rw [hn]; exact Nat.mul_pos (by omega) (by omega)
  have hnn : n = H * W := by rw [hn]; exact Nat.mul_comm _ _
  have hlt : b < w.heap.size := World.block_lt_of_cell? w _ (hc 0 h1)
  have n2 : n ≤ 65536 := by
    have : (W : Int) * (H : Int) = (n : Int) := by rw [hn]; simp
    omega
  have SH := Lib.hid (fun w => shrinkN_any X Y W H m w (by omega) (by omega) (by omega) (by omega) (by omega) (by omega) (by omega) (by omega) hm)
  have e : decide (0 < (W : Int) - 2 * (m : Int) ∧ 0 < (H : Int) - 2 * (m : Int)) = true := by simp; omega
  rw [e] at SH
  have CL := Lib.hid (fun W' (hb : Below w.heap.size w W') => clone2_any b 0 n cap v W' h1 n2 (flAt_congr hc (hb.block _ hlt)))
  have DT : ∀ t, t < m → 20 + d * t ≤ 100 := fun t ht => by
    have := Nat.mul_le_mul_left d (show t ≤ m by omega)
    omega
  have ST := Lib.hid (fun (t : Nat) (ht : t < m) (bt ct : Nat) W' (hb : Below w.heap.size w W') (hnc : (H - 2 * t) * (W - 2 * t) ≤ ct) (hcm : ct ≤ 9223372036854775807) (hr : FlAt W' bt 0 ((H - 2 * t) * (W - 2 * t)) (smF F v W t)) =>
    step_any (X + t) (Y + t) (W - 2 * t) (H - 2 * t) ((H - 2 * t) * (W - 2 * t)) bt ct (W - 2 * (t + 1)) (H - 2 * (t + 1)) (20 + d * t) d (smF F v W t) g caps F W' (hg.stay hb) hcall (steps_check h0 t (by omega) (by omega)) (Nat.mul_comm _ _) hnc hcm hr
      (DT t ht) (steps_row hg.bd hnn hv t (by omega) (by omega) (DT t ht))
      (by omega) (by omega) (by omega) (by omega))
  have CK := Lib.hid (fun (bt ct : Nat) W' (hr : FlAt W' bt 0 ((H - 2 * m) * (W - 2 * m)) (smF F v W m)) => check_row (X + m) (Y + m) (W - 2 * m) (H - 2 * m) ((H - 2 * m) * (W - 2 * m)) bt ct (20 + d * m) (smF F v W m) W' (steps_check h0 m mW mH) (Nat.mul_comm _ _) hr (steps_row hg.bd hnn hv m mW mH hd))
  have HN := Lib.hid hnn
  have H1 := Lib.hid h1
  clear h0 hn hnn hcap hcp hc hv b1 b2 b3 b4 b5 b6 b7 b8 b9 e h1 n2 hlt hg hcall hd DT
  go_enter Try.func103, Try.ntmps103
  go_wp2_with (first | (go_at_call 146; refine (SH.out _).mono ?_; rintro e w2 ⟨rfl, hb2⟩; have HF2 := Lib.hid (blkStay (b := w.heap.size) (o := fldO X Y W H (.slice (some ⟨b, 0, none⟩) n cap)) (by (first | (rw [heap_alloc_get, if_pos rfl]; done) | ((simp only [heap_alloc_get, heap_size_alloc, if_true]) <;> ((repeat' split) <;> first | rfl | omega)))) hb2); have HS2 := Lib.hid (blkStay (b := w.heap.size + 1) (o := fldO 0 0 0 0 (.slice none 0 0)) (by (first | (rw [heap_alloc_get, if_pos rfl]; done) | ((simp only [heap_alloc_get, heap_size_alloc, if_true]) <;> ((repeat' split) <;> first | rfl | omega)))) hb2); have hB2 : Below w.heap.size w w2 := Below.trans (by repeat (first | exact Below.refl _ _ | refine Below.alloc ?_ (by first | omega | (simp; done) | (simp; omega)) _ | refine Below.setCell ?_ (by first | omega | (simp; done) | (simp; omega)) _ | refine Below.drew ?_)) (Below.mono hb2 (by first | omega | (simp; done) | (simp; omega))); have z2 := hB2.size; clear hb2; obtain ⟨cS, fS, zS⟩ := blkC HS2.out))
  have hA : Below w2.heap.size w2 (w2.alloc (regObj (X + m) (Y + m) ((W : Int) - 2 * m) ((H : Int) - 2 * m))) := (Below.refl _ _).alloc (Nat.le_refl _) _
  have HF3 := Lib.hid (blkStay HF2.out hA)
  have HS3 := Lib.hid (blkStay HS2.out hA)
  have HB3 := Lib.hid (hB2.trans (hA.mono z2))
  have zw : w2.heap.size < (w2.alloc (regObj (X + m) (Y + m) ((W : Int) - 2 * m) ((H : Int) - 2 * m))).heap.size := by simp
  clear hA HF2 HS2 hB2 SH cS fS zS
  generalize w2.alloc (regObj (X + m) (Y + m) ((W : Int) - 2 * m) ((H : Int) - 2 * m)) = w3 at *
  obtain ⟨cF, fF, zF⟩ := blkC HF3.out
  obtain ⟨cS, fS, zS⟩ := blkC HS3.out
  have HZ3 := Lib.hid (heap_alloc_new w3 (fldO 0 0 0 0 (.slice none 0 0)))
  have HA3 := Lib.hid (show Below w3.heap.size w3 (w3.alloc (fldO 0 0 0 0 (.slice none 0 0))) from (Below.refl _ _).alloc (Nat.le_refl _) _)
  have HBA := Lib.hid (HB3.out.trans (HA3.out.mono HB3.out.size))
  have zA := heap_size_alloc w3 (fldO 0 0 0 0 (.slice none 0 0))
  have zS3 := (blkC HS3.out).2.2
  have z03 := HB3.out.size
  go_upto_region 4 with fail
  go_cut [10] from 22 to 27 (fun s10 wx => ∃ cc, s10 = .pointer (some ⟨cc, 0, none⟩) ∧ RepAt w cc (w.heap.size + 1 + 1) X Y W H F v 0 wx)
  case first =>
    go_region_law (first
      | (go_simp; (with_reducible refine Calls.mono (CL.out _ ?_) ?_); (first | exact HBA.out | exact HBA.out.drew | exact HBA.out.drew.drew | exact HBA.out.drew.drew.drew); rintro e w4 ⟨g1, cap1, rfl, hg1, hown, hb4⟩; have hb3 : Below (w3.alloc (fldO 0 0 0 0 (.slice none 0 0))).heap.size (w3.alloc (fldO 0 0 0 0 (.slice none 0 0))) w4 := ⟨hb4.os, hb4.tape, hb4.output, hb4.size, hb4.block⟩; have ZZ := Lib.hid (blkStay HZ3.out hb3); have SS := Lib.hid (blkStay HS3.out (HA3.out.trans (hb3.mono HA3.out.size))); have FF := Lib.hid (blkStay HF3.out (HA3.out.trans (hb3.mono HA3.out.size))); have HB4 := Lib.hid (HBA.out.trans (hb3.mono HBA.out.size)); have HO := Lib.hid hown; have z34 := hb3.size; have hg1' : (w3.alloc (fldO 0 0 0 0 (.slice none 0 0))).heap.size ≤ g1 := hg1; obtain ⟨cF4, fF4, zF4⟩ := blkC FF.out; obtain ⟨cZ4, fZ4, zZ4⟩ := blkC ZZ.out; clear hown hb4 hb3 hg1)
      | (go_simp; (with_reducible refine Calls.mono (CL.out _ ?_) ?_); (first | exact HB3.out | exact HB3.out.drew | exact HB3.out.drew.drew | exact HB3.out.drew.drew.drew); rintro e w4 ⟨g1, cap1, rfl, hg1, hown, hb4⟩; have hb3 : Below w3.heap.size w3 w4 := ⟨hb4.os, hb4.tape, hb4.output, hb4.size, hb4.block⟩; have SS := Lib.hid (blkStay HS3.out hb3); have FF := Lib.hid (blkStay HF3.out hb3); have HB4 := Lib.hid (HB3.out.trans (hb3.mono HB3.out.size)); have HO := Lib.hid hown; have z34 := hb3.size; have hg1' : w3.heap.size ≤ g1 := hg1; obtain ⟨cF4, fF4, zF4⟩ := blkC FF.out; clear hown hb4 hb3 hg1))
    all_goals
      obtain ⟨hrow1, hbase1, hlt1, hnc1, hcm1⟩ := rg_cells HO.out H1.out
      have zS4 := (blkC SS.out).2.2
      have z04 := HB4.out.size
      go_wp2_with fail
      go_meet
      case rel =>
        first
          | exact ⟨_, rfl, rep_start (w := w) (c := w3.heap.size) (lo := w.heap.size + 1 + 1) (F := F) (wr := set5 w4 w3.heap.size (.int .i64 X) (.int .i64 Y) (.int .i64 W) (.int .i64 H) (.slice (some ⟨g1, 0, none⟩) n cap1)) ⟨set5_self _ _ _ _ _ ZZ.out, flAt_congr hrow1 (set5_heap w4 w3.heap.size g1 _ _ _ _ _ (by omega)), by rw [set5_size]; exact hlt1, hnc1, hcm1⟩ (by omega) HN.out ((set5_heap w4 w3.heap.size (w.heap.size + 1) _ _ _ _ _ (by omega)).trans SS.out) (set5_below HB4.out w3.heap.size _ _ _ _ _ z03) z03 (by omega) (by omega)⟩
          | exact ⟨_, rfl, rep_start (w := w) (c := w4.heap.size) (lo := w.heap.size + 1 + 1) (F := F) (wr := w4.alloc (fldO X Y W H (.slice (some ⟨g1, 0, none⟩) n cap1))) ⟨heap_alloc_new _ _, flAt_congr hrow1 (heap_alloc_old _ _ hlt1), by simp; omega, hnc1, hcm1⟩ (by omega) HN.out ((heap_alloc_old _ _ zS4).trans SS.out) (HB4.out.alloc z04 _) z04 (by omega) (by omega)⟩
  case rest =>
    obtain ⟨cc, rfl, RA0⟩ := hcut
    have RA := Lib.hid RA0
    clear RA0 cF fF zF cS fS zS HZ3 HA3 HBA zA zS3 z03 HF3 HS3 HB3 CL
    go_wp2
    go_loopw [29] (fun i wr => ∃ t : Nat, t ≤ m ∧ i = .int .i64 t ∧ RepAt w cc (w.heap.size + 1 + 1) X Y W H F v t wr) (fun i _ => m - (intOf i).toNat)
    case atStart => exact ⟨0, Nat.zero_le _, rfl, RA.out⟩
    case round =>
      obtain ⟨t, ht, rfl, hR⟩ := hrel
      obtain ⟨bt, ct, hF, hlo⟩ := hR.fld
      have HFF := Lib.hid hF.fld
      by_cases htm : t < m
      · have STI := Lib.hid (ST.out t htm bt ct wr hR.bel hF.nc hF.cm hF.row)
        have NX := Lib.hid (fun w5 b cap hb hrow h1 h2 h3 h4 => rep_next (b := b) (cap := cap) (w5 := w5) hR hb rfl rfl (show smF F v W (t + 1) = rimF F (smF F v W t) (W - 2 * t) from rfl) hrow h1 h2 h3 h4)
        obtain ⟨cF, fF, zF⟩ := blkC hF.fld
        clear hF hR hlo CK ST RA
        generalize rimF F (smF F v W t) (W - 2 * t) = f at *
        generalize (H - 2 * (t + 1)) * (W - 2 * (t + 1)) = n2 at *
        generalize W - 2 * (t + 1) = W2 at *
        generalize H - 2 * (t + 1) = H2 at *
        generalize (H - 2 * t) * (W - 2 * t) = n1 at *
        generalize ((W - 2 * t : Nat) : Int) = W1 at *
        generalize ((H - 2 * t : Nat) : Int) = H1 at *
        generalize X + (t : Int) = X1 at *
        generalize Y + (t : Int) = Y1 at *
        go_wp2_with (go_at_call 152; refine STI.out.mono ?_; rintro e w5 ⟨b5, cap5, rfl, hrow, hg, hgl, hnc, hcm, hb5⟩; have NXT := Lib.hid (NX.out w5 b5 cap5 hb5 hrow hg hgl hnc hcm); clear cF fF zF; obtain ⟨cF, fF, zF⟩ := blkC (blkStay HFF.out hb5); clear hrow hg hgl hnc hcm hb5)
        go_roundw
        case rel => exact ⟨t + 1, by omega, by go_num, NXT.out⟩
        case measure => simp [intOf]; omega
      · obtain rfl : t = m := by omega
        have CKI := Lib.hid (CK.out bt ct wr hF.row)
        have HS := Lib.hid hR.res
        have HB := Lib.hid hR.bel
        have ROW := Lib.hid hF.row
        have HLT := Lib.hid hF.lt
        have zS0 := (blkC hR.res).2.2
        have HLO := Lib.hid hlo
        obtain ⟨cF, fF, zF⟩ := blkC hF.fld
        clear hF hR CK ST RA mW mH hlo
        generalize smF F v W t = f at *
        generalize (H - 2 * t) * (W - 2 * t) = n2 at *
        generalize ((W - 2 * t : Nat) : Int) = W' at *
        generalize ((H - 2 * t : Nat) : Int) = H' at *
        generalize X + (t : Int) = X' at *
        generalize Y + (t : Int) = Y' at *
        cases hall : allB n2 (fun i => hgtB (f i)) with
        | true =>
          rw [hall] at CKI
          simp only [if_true] at CKI
          have HA := Lib.hid hall
          clear hall
          go_wp2_with (go_at_call 101; refine CKI.out.mono ?_; rintro e w6 ⟨rfl, hb6⟩; have HB6 := Lib.hid hb6; clear hb6 cF fF zF; obtain ⟨cF, fF, zF⟩ := blkC (blkStay HFF.out HB6.out); obtain ⟨cS, fS, zS⟩ := blkC (blkStay HS.out HB6.out))
          refine bodyPost_ret (v := .tuple #[fldV X' Y' W' H' (.slice (some ⟨bt, 0, none⟩) n2 ct), .int .i64 0]) (by simp [results, Try.results103, go_sem, cS]) rfl ?_
          exact .inr ⟨rfl, .inl ⟨HA.out, bt, ct, rfl, by have := HLO.out; omega, by rw [set5_size]; exact Nat.lt_of_lt_of_le HLT.out HB6.out.size, flAt_congr ROW.out ((set5_heap w6 _ _ _ _ _ _ _ (by have := HLO.out; omega)).trans (HB6.out.block _ HLT.out)), set5_below (HB.out.trans (HB6.out.mono HB.out.size)) _ _ _ _ _ _ (by omega)⟩⟩
        | false =>
          rw [hall] at CKI
          simp only [Bool.false_eq_true, if_false] at CKI
          have HA := Lib.hid hall
          clear hall
          go_wp2_with (go_at_call 101; refine CKI.out.mono ?_; rintro e w6 ⟨rfl, hb6⟩; have HB6 := Lib.hid hb6; clear hb6 cF fF zF; obtain ⟨cF, fF, zF⟩ := blkC (blkStay HFF.out HB6.out); obtain ⟨cS, fS, zS⟩ := blkC (blkStay HS.out HB6.out))
          refine bodyPost_ret (v := .tuple #[fldV 0 0 0 0 (.slice none 0 0), .int .i64 3]) (by simp [results, Try.results103, go_sem, cS]) rfl ?_
          exact .inr ⟨rfl, .inr ⟨HA.out, rfl, set5_below (HB.out.trans (HB6.out.mono HB.out.size)) _ _ _ _ _ _ (by omega)⟩⟩
end Go.Proofs.Ytdbponidkodmfaa

/- The reference's cell of smoothing; inner by several cells; the state of repeated. -/
namespace Go.Proofs.Ytdbponidkodmfaa
open Go.RowKit Fl
set_option linter.unusedVariables false

/-- A function of a field and a place that answers F of the cell there and its four neighbours. -/
structure AtF (g : Nat) (caps : Array Value) (F : Nat → Nat → Nat → Nat → Nat → Nat) (w0 : World) : Prop where
  run : ∀ (k : Nat) (X Y : Int) (W H n b cap : Nat) (v : Nat → Nat) (x y : Int) (i : Nat) (w : World), k ≤ 100 → checkR X Y W H = 0 → n = H * W → FlAt w b 0 n v → Row k n v →
    X + 1 ≤ x → x + 1 < X + W → Y + 1 ≤ y → y + 1 < Y + H → (i : Int) = (y - Y) * W + (x - X) → Below w0.heap.size w0 w →
    Calls Try.prog g (#[fldV X Y W H (.slice (some ⟨b, 0, none⟩) n cap), .int .i64 x, .int .i64 y] ++ caps) w fun e w' => e = .returned (.float .f32 (F (v i) (v (i - W)) (v (i - 1)) (v (i + 1)) (v (i + W)))) ∧ Below w.heap.size w w'
theorem AtF.stay {g : Nat} {caps : Array Value} {F : Nat → Nat → Nat → Nat → Nat → Nat} {w0 w1 : World} (h : AtF g caps F w0) (hb : Below w0.heap.size w0 w1) : AtF g caps F w1 :=
  ⟨fun k X Y W H n b cap v x y i w h1 h2 h3 h4 h5 h6 h7 h8 h9 h10 h11 => h.run k X Y W H n b cap v x y i w h1 h2 h3 h4 h5 h6 h7 h8 h9 h10 (hb.trans (h11.mono hb.size))⟩

theorem enters_rSmooth1 : Enters 106 := by intro args W; simp [callFunc, Try.func106, Try.f106]
set_option maxHeartbeats 2000000 in
set_option maxRecDepth 100000 in
theorem rsmooth1_any (w0 : World) : AtF 106 #[] smoW w0 := by
  refine ⟨fun k X Y W H n b cap v x y i w hk h0 hn hc hv h1 h2 h3 h4 hi _ => ?_⟩
  have I := in_cell hn h1 h2 h3 h4 hi
  obtain ⟨t1, t2, t3, m, t4, h, r, C⟩ := smo_parts (show k ≤ 110 by omega) (hv _ I.a0).1 (hv _ I.a1).1 (hv _ I.a4).1 (hv _ I.a3).1 (hv _ I.a2).1
  rw [C.w]
  have zb : b < w.heap.size := World.block_lt_of_cell? w _ (hc i I.a0)
  have AR := Lib.hid (fun W' (hb : Below w.heap.size w W') => around_any X Y W H n b cap i v x y W' h0 hn (flAt_congr hc (hb.block _ zb)) h1 h2 h3 h4 hi)
  have A1 := Lib.hid (fun w => refAdd_any _ _ _ t1 C.a1' C.a1 w)
  have A2 := Lib.hid (fun w => refAdd_any _ _ _ t2 C.a2' C.a2 w)
  have A3 := Lib.hid (fun w => refAdd_any _ _ _ t3 C.a3' C.a3 w)
  have M1 := Lib.hid (fun w => refMul_any _ _ _ m C.m1' C.m1 w)
  have A4 := Lib.hid (fun w => refAdd_any _ _ _ t4 C.a4' C.a4 w)
  have M2 := Lib.hid (fun w => refMul_any _ _ _ h C.h1' C.h1 w)
  have D1 := Lib.hid (fun w => refSub_any _ _ _ r C.d1' C.d1 w)
  clear C hk h0 hn hc hv h1 h2 h3 h4 hi I zb
  generalize v i = v0 at *
  generalize v (i - W) = v1 at *
  generalize v (i + W) = v2 at *
  generalize v (i + 1) = v3 at *
  generalize v (i - 1) = v4 at *
  go_enter Try.func106, Try.ntmps106
  go_wp2_with (first
    | (go_at_call 89; refine (AR.out _ (by repeat (first | exact Below.refl _ _ | refine Below.alloc ?_ (by first | omega | (simp; done) | (simp; omega)) _ | refine Below.setCell ?_ (by first | omega | (simp; done) | (simp; omega)) _ | refine Below.drew ?_))).mono ?_; rintro e' w3 ⟨rfl, hb3⟩; have B3 := Lib.hid (Below.trans (show Below w.heap.size w _ from (by repeat (first | exact Below.refl _ _ | refine Below.alloc ?_ (by first | omega | (simp; done) | (simp; omega)) _ | refine Below.setCell ?_ (by first | omega | (simp; done) | (simp; omega)) _ | refine Below.drew ?_))) (Below.mono hb3 (by first | omega | (simp; done) | (simp; omega)))); clear hb3)
    | (go_at_call 59; (with_reducible refine Calls.mono (A1.out _) ?_); rintro e' w' ⟨rfl, rfl⟩)
    | (go_at_call 59; (with_reducible refine Calls.mono (A2.out _) ?_); rintro e' w' ⟨rfl, rfl⟩)
    | (go_at_call 59; (with_reducible refine Calls.mono (A3.out _) ?_); rintro e' w' ⟨rfl, rfl⟩)
    | (go_at_call 59; (with_reducible refine Calls.mono (A4.out _) ?_); rintro e' w' ⟨rfl, rfl⟩)
    | (go_at_call 86; (with_reducible refine Calls.mono (M1.out _) ?_); rintro e' w' ⟨rfl, rfl⟩)
    | (go_at_call 86; (with_reducible refine Calls.mono (M2.out _) ?_); rintro e' w' ⟨rfl, rfl⟩)
    | (go_at_call 90; (with_reducible refine Calls.mono (D1.out _) ?_); rintro e' w' ⟨rfl, rfl⟩))
  go_ret
  exact ⟨rfl, B3.out⟩

/-- A region has cells left behind m steps. -/
def leftB (m W H : Nat) : Bool := decide (2 * m < W ∧ 2 * m < H)

set_option maxHeartbeats 1000000 in
theorem rinnerN_any (X Y : Int) (W H n b cap m : Nat) (w : World) (h0 : checkR X Y W H = 0) (hm : m ≤ 64) :
    Calls Try.prog 82 #[fldV X Y W H (.slice (some ⟨b, 0, none⟩) n cap), .int .i64 m] w fun e w' => e = .returned (.tuple #[if leftB m W H then reg (X + m) (Y + m) ((W : Int) - 2 * m) ((H : Int) - 2 * m) else reg 0 0 0 0, .int .i64 (if leftB m W H then 0 else 10)]) ∧ Below w.heap.size w w' := by
  obtain ⟨b1, b2, b3, b4, b5, b6, b7, b8, b9⟩ := checkR_zero h0
  have GR := Lib.hid (fun w => show Calls Try.prog 144 #[reg X Y W H, .int .i64 (-(m : Int))] w fun e w' => e = .returned (reg (X + m) (Y + m) ((W : Int) - 2 * m) ((H : Int) - 2 * m)) ∧ Below w.heap.size w w' by
    have := refGrown_any X Y W H (-(m : Int)) w (by omega) (by omega) (by omega) (by omega) (by omega) (by omega) (by omega) (by omega) (by omega) (by omega)
    rw [show X - -(m : Int) = X + m by omega, show Y - -(m : Int) = Y + m by omega, show (W : Int) + 2 * -(m : Int) = (W : Int) - 2 * m by omega, show (H : Int) + 2 * -(m : Int) = (H : Int) - 2 * m by omega] at this
    exact this)
  unfold leftB
  clear h0
  by_cases c1 : (W : Int) - 2 * m < 1
  · have e : decide (2 * m < W ∧ 2 * m < H) = false := by simp; omega
    rw [e]
    clear e
    go_enter Try.func82, Try.ntmps82
    go_wp2_with (first | (go_at_call 144; refine (GR.out _).mono ?_; rintro e w3 ⟨rfl, hb3⟩; have HS3 := Lib.hid (blkStay (b := w.heap.size + 1) (o := regObj 0 0 0 0) (by ((simp only [heap_alloc_get, heap_size_alloc, if_true]) <;> ((repeat' split) <;> first | rfl | omega))) hb3); have hB3 : Below w.heap.size w w3 := Below.trans (by repeat (first | exact Below.refl _ _ | refine Below.alloc ?_ (by first | omega | (simp; done) | (simp; omega)) _ | refine Below.setCell ?_ (by first | omega | (simp; done) | (simp; omega)) _ | refine Below.drew ?_)) (Below.mono hb3 (by first | omega | (simp; done) | (simp; omega))); clear hb3; obtain ⟨cS, fS, zS⟩ := blkC HS3.out))
    all_goals
      have HRES := fun (u1 u2 u3 u4 : Value) (o : Obj) => (blkC ((heap_alloc_old (set4 w3 (w.heap.size + 1) u1 u2 u3 u4) o (by rw [set4_size]; exact zS)).trans (set4_self u1 u2 u3 u4 HS3.out))).1
      simp only [set4] at HRES
      refine bodyPost_ret (v := .tuple #[reg 0 0 0 0, .int .i64 10]) (by simp [results, Try.results82, go_sem, HRES]) rfl ?_
      exact ⟨rfl, by repeat (first | exact hB3 | refine Below.alloc ?_ (by first | omega | (simp; done) | (simp; omega)) _ | refine Below.setCell ?_ (by first | omega | (simp; done) | (simp; omega)) _)⟩
  · by_cases c2 : (H : Int) - 2 * m < 1
    · have e : decide (2 * m < W ∧ 2 * m < H) = false := by simp; omega
      rw [e]
      clear e
      go_enter Try.func82, Try.ntmps82
      go_wp2_with (first | (go_at_call 144; refine (GR.out _).mono ?_; rintro e w3 ⟨rfl, hb3⟩; have HS3 := Lib.hid (blkStay (b := w.heap.size + 1) (o := regObj 0 0 0 0) (by ((simp only [heap_alloc_get, heap_size_alloc, if_true]) <;> ((repeat' split) <;> first | rfl | omega))) hb3); have hB3 : Below w.heap.size w w3 := Below.trans (by repeat (first | exact Below.refl _ _ | refine Below.alloc ?_ (by first | omega | (simp; done) | (simp; omega)) _ | refine Below.setCell ?_ (by first | omega | (simp; done) | (simp; omega)) _ | refine Below.drew ?_)) (Below.mono hb3 (by first | omega | (simp; done) | (simp; omega))); clear hb3; obtain ⟨cS, fS, zS⟩ := blkC HS3.out))
      all_goals
        have HRES := fun (u1 u2 u3 u4 : Value) (o : Obj) => (blkC ((heap_alloc_old (set4 w3 (w.heap.size + 1) u1 u2 u3 u4) o (by rw [set4_size]; exact zS)).trans (set4_self u1 u2 u3 u4 HS3.out))).1
        simp only [set4] at HRES
        refine bodyPost_ret (v := .tuple #[reg 0 0 0 0, .int .i64 10]) (by simp [results, Try.results82, go_sem, HRES]) rfl ?_
        exact ⟨rfl, by repeat (first | exact hB3 | refine Below.alloc ?_ (by first | omega | (simp; done) | (simp; omega)) _ | refine Below.setCell ?_ (by first | omega | (simp; done) | (simp; omega)) _)⟩
    · have e : decide (2 * m < W ∧ 2 * m < H) = true := by simp; omega
      rw [e]
      clear e
      go_enter Try.func82, Try.ntmps82
      go_wp2_with (first | (go_at_call 144; refine (GR.out _).mono ?_; rintro e w3 ⟨rfl, hb3⟩; have HS3 := Lib.hid (blkStay (b := w.heap.size + 1) (o := regObj 0 0 0 0) (by ((simp only [heap_alloc_get, heap_size_alloc, if_true]) <;> ((repeat' split) <;> first | rfl | omega))) hb3); have hB3 : Below w.heap.size w w3 := Below.trans (by repeat (first | exact Below.refl _ _ | refine Below.alloc ?_ (by first | omega | (simp; done) | (simp; omega)) _ | refine Below.setCell ?_ (by first | omega | (simp; done) | (simp; omega)) _ | refine Below.drew ?_)) (Below.mono hb3 (by first | omega | (simp; done) | (simp; omega))); clear hb3; obtain ⟨cS, fS, zS⟩ := blkC HS3.out))
      all_goals
        have HRES := fun (u1 u2 u3 u4 : Value) (o : Obj) => (blkC ((heap_alloc_old (set4 w3 (w.heap.size + 1) u1 u2 u3 u4) o (by rw [set4_size]; exact zS)).trans (set4_self u1 u2 u3 u4 HS3.out))).1
        simp only [set4] at HRES
        refine bodyPost_ret (v := .tuple #[reg (X + m) (Y + m) ((W : Int) - 2 * m) ((H : Int) - 2 * m), .int .i64 0]) (by simp [results, Try.results82, go_sem, HRES]) rfl ?_
        exact ⟨rfl, by repeat (first | exact hB3 | refine Below.alloc ?_ (by first | omega | (simp; done) | (simp; omega)) _ | refine Below.setCell ?_ (by first | omega | (simp; done) | (simp; omega)) _)⟩

set_option maxHeartbeats 1000000 in
theorem repeated_no (X Y : Int) (W H n b cap m g : Nat) (caps : Array Value) (w : World) (h0 : checkR X Y W H = 0) (hm : m ≤ 64) (hs : leftB m W H = false) :
    Calls Try.prog 105 #[fldV X Y W H (.slice (some ⟨b, 0, none⟩) n cap), .int .i64 m, .func (.func g) #[] caps] w fun e w' => e = .returned (.tuple #[fldV 0 0 0 0 (.slice none 0 0), .int .i64 10]) ∧ Below w.heap.size w w' := by
  have IN := Lib.hid (fun w => rinnerN_any X Y W H n b cap m w h0 hm)
  rw [hs] at IN
  simp only [Bool.false_eq_true, if_false] at IN
  clear h0 hm hs
  go_enter Try.func105, Try.ntmps105
  go_wp2_with (first | (go_at_call 82; refine (IN.out _).mono ?_; rintro e w2 ⟨rfl, hb2⟩; have HS2 := Lib.hid (blkStay (b := w.heap.size + 1) (o := fldO 0 0 0 0 (.slice none 0 0)) (by ((simp only [heap_alloc_get, heap_size_alloc, if_true]) <;> ((repeat' split) <;> first | rfl | omega))) hb2); have hB2 : Below w.heap.size w w2 := Below.trans (by repeat (first | exact Below.refl _ _ | refine Below.alloc ?_ (by first | omega | (simp; done) | (simp; omega)) _ | refine Below.setCell ?_ (by first | omega | (simp; done) | (simp; omega)) _ | refine Below.drew ?_)) (Below.mono hb2 (by first | omega | (simp; done) | (simp; omega))); have z2 := hB2.size; clear hb2; obtain ⟨cS, fS, zS⟩ := blkC HS2.out))
  have HRES := fun (u1 u2 u3 u4 u5 : Value) (o : Obj) => (blkC ((heap_alloc_old (set5 w2 (w.heap.size + 1) u1 u2 u3 u4 u5) o (by rw [set5_size]; exact zS)).trans (set5_self u1 u2 u3 u4 u5 HS2.out))).1
  simp only [set5] at HRES
  refine bodyPost_ret (v := .tuple #[fldV 0 0 0 0 (.slice none 0 0), .int .i64 10]) (by simp [results, Try.results105, go_sem, HRES]) rfl ?_
  exact ⟨rfl, by repeat (first | exact hB2 | refine Below.alloc ?_ (by first | omega | (simp; done) | (simp; omega)) _ | refine Below.setCell ?_ (by first | omega | (simp; done) | (simp; omega)) _)⟩

/-- At the head of the loops that make a step's list, when k of f are there: the new field lies in the block gb. -/
structure RgAt (w0 : World) (X Y W H : Int) (gb base : Nat) (f : Nat → Nat) (k : Nat) (wr : World) : Prop where
  ex : ∃ ov, wr.ownsRow base 34 1 ov k (rowL f k) ∧ wr.heap[gb]? = some (fldO X Y W H ov)
  bel : Below w0.heap.size w0 wr
  size : base ≤ wr.heap.size

theorem rg_push {w0 wr w2 w3 : World} {X Y W H : Int} {gb base k gg cap : Nat} {f : Nat → Nat} {ov : Value} {o : Obj} (HO : wr.ownsRow base 34 1 ov k (rowL f k)) (HV : wr.heap[gb]? = some (fldO X Y W H ov)) (hbel : Below w0.heap.size w0 wr) (hs : base ≤ wr.heap.size)
    (hb2 : Below wr.heap.size wr w2) (hg : gb < base) (h0 : w0.heap.size ≤ gb) (hgrow : (w2.alloc o).grownBy w3 ov.ownBlock)
    (hown3 : w3.ownsRow base 34 1 (.slice (some ⟨gg, 0, none⟩) (k + 1) cap) (k + 1) (rowL f k ++ [.float .f32 (f k)])) :
    RgAt w0 X Y W H gb base f (k + 1) (w3.setCell ⟨gb, 4, none⟩ (.slice (some ⟨gg, 0, none⟩) (k + 1) cap)) := by
  have own2 := ownsRow_below HO hb2
  have z2 := hb2.size
  have e3 : w3.heap[gb]? = some (fldO X Y W H ov) := by
    rw [hgrow.block gb (by rw [heap_size_alloc]; omega) (ownsRow_far own2 hg), heap_alloc_old _ _ (by omega)]
    exact blkStay HV hb2
  have B2 : Below w0.heap.size w0 w2 := hbel.trans (hb2.mono hbel.size)
  have B3 := (B2.alloc B2.size o).grown hgrow (by rw [heap_size_alloc]; have := B2.size; omega) (fun b hb => by
    rcases HO.2 with ⟨rfl, _⟩ | ⟨g, _, _, rfl, hg', _⟩
    · cases hb
    · have : b = g := by simpa [Value.ownBlock] using hb.symm
      omega)
  have z3 := hgrow.size
  rw [heap_size_alloc] at z3
  refine ⟨⟨.slice (some ⟨gg, 0, none⟩) (k + 1) cap, ?_, ?_⟩, B3.setCell (p := ⟨gb, 4, none⟩) h0 _, ?_⟩
  · rw [rowL_succ]; exact ownsRow_setCell_below hown3 hg _
  · rw [heap_setCell_same w3 gb 4 _ _ _ e3]; rfl
  · show base ≤ (World.setCell w3 _ _).heap.size
    simp; omega

end Go.Proofs.Ytdbponidkodmfaa

/- Contract: the reference's repeated, whatever cell it is given. -/
namespace Go.Proofs.Ytdbponidkodmfaa
open Go.RowKit Fl
set_option linter.unusedVariables false

theorem enters_rRep1 : Enters 153 := by intro args W; simp [callFunc, Try.func153, Try.f153]
set_option maxHeartbeats 1000000 in
theorem rep1_any (X Y : Int) (W H n b cap p : Nat) (v : Nat → Nat) (w : World) (hF : FldAt w p X Y W H b n cap v) (h0 : checkR X Y W H = 0) (hn : n = H * W) :
    Clos2 153 #[.pointer (some ⟨p, 0, none⟩)] X Y W H v w := by
  intro x y i w2 h1 h2 h3 h4 hi hb
  obtain ⟨b1, b2, b3, b4, b5, b6, b7, b8, b9⟩ := checkR_zero h0
  have hin := num_lt (by omega) h1 h2 h4 hi hn
  have hn2 : n ≤ 65536 := by
    have : ((W : Int) * (H : Int)) = (n : Int) := by rw [hn, Nat.mul_comm]; simp
    omega
  have GF := Lib.hid (blkStay hF.fld hb)
  obtain ⟨cF, fF, zF⟩ := blkC GF.out
  have AT := Lib.hid (refAt_any X Y W H n b cap i v x y w2 (by omega) (by omega) (by omega) (by omega) (by omega) (by omega) (by omega) h1 h2 h3 h4 hi hin hn2 (flAt_congr hF.row (hb.block _ hF.lt)))
  clear hF h0 hn b1 b2 b3 b4 b5 b6 b7 b8 b9 h1 h2 h3 h4 hi hb hin hn2
  go_enter Try.func153, Try.ntmps153
  go_wp2_with (go_at_call 58; refine AT.out.mono ?_; rintro e w' ⟨rfl, rfl⟩)
  go_ret
  exact ⟨rfl, (by repeat (first | exact Below.refl _ _ | refine Below.alloc ?_ (by first | omega | (simp; done) | (simp; omega)) _ | refine Below.setCell ?_ (by first | omega | (simp; done) | (simp; omega)) _ | refine Below.drew ?_))⟩

theorem AtF.cell {g : Nat} {caps : Array Value} {F : Nat → Nat → Nat → Nat → Nat → Nat} {w0 w : World} {X Y : Int} {W H n b cap k : Nat} {v : Nat → Nat} (hg : AtF g caps F w0) (hk : k ≤ 100) (h0 : checkR X Y W H = 0) (hn : n = H * W) (hW : 3 ≤ W) (hH : 3 ≤ H) (hc : FlAt w b 0 n v) (hv : Row k n v) (hb0 : Below w0.heap.size w0 w)
    (x y : Int) (j : Nat) (h1 : X + 1 ≤ x) (h2 : x < X + 1 + ((W : Int) - 2)) (h3 : Y + 1 ≤ y) (h4 : y < Y + 1 + ((H : Int) - 2)) (hj : (j : Int) = (y - (Y + 1)) * ((W : Int) - 2) + (x - (X + 1))) :
    Calls Try.prog g (#[fldV X Y W H (.slice (some ⟨b, 0, none⟩) n cap), .int .i64 x, .int .i64 y] ++ caps) w fun e w' => e = .returned (.float .f32 (rimF F v W j)) ∧ Below w.heap.size w w' :=
  hg.run k X Y W H n b cap v x y (rimI W j) w hk h0 hn hc hv h1 (by omega) h3 (by omega) (rim_num hW h1 h2 h3 hj) hb0

set_option maxHeartbeats 8000000 in
set_option maxRecDepth 100000 in
theorem repeated_ok (X Y : Int) (W H n b cap m d : Nat) (v : Nat → Nat) (g : Nat) (caps : Array Value) (F : Nat → Nat → Nat → Nat → Nat → Nat) (w : World) (hg : AtF g caps F w) (hcall : Enters g)
    (hbd : ∀ (k c n ww e s : Nat), k ≤ 100 → Bd k c → Bd k n → Bd k ww → Bd k e → Bd k s → Bd (k + d) (F c n ww e s) ∧ F c n ww e s < 4294967296)
    (h0 : checkR X Y W H = 0) (hn : n = W * H) (hcap : n ≤ cap) (hcp : cap ≤ 9223372036854775807) (hc : FlAt w b 0 n v) (hv : Row 20 n v) (hm : m ≤ 64) (mW : 2 * m < W) (mH : 2 * m < H) (hd : 20 + d * m ≤ 100) :
    Calls Try.prog 105 #[fldV X Y W H (.slice (some ⟨b, 0, none⟩) n cap), .int .i64 m, .func (.func g) #[] caps] w (ScPost w (X + m) (Y + m) ((W - 2 * m : Nat) : Int) ((H - 2 * m : Nat) : Int) ((H - 2 * m) * (W - 2 * m)) (smF F v W m) 0) := by
  obtain ⟨b1, b2, b3, b4, b5, b6, b7, b8, b9⟩ := checkR_zero h0
  have h1 : 1 ≤ n := by rw [hn]; exact Nat.mul_pos (by omega) (by omega)
  have hnn : n = H * W := by rw [hn]; exact Nat.mul_comm _ _
  have hlt : b < w.heap.size := World.block_lt_of_cell? w _ (hc 0 h1)
  have hl : leftB m W H = true := by unfold leftB; simp; omega
  have IN := Lib.hid (fun w => rinnerN_any X Y W H n b cap m w h0 hm)
  rw [hl] at IN
  simp only [if_true] at IN
  have SC := Lib.hid (fun t (h1 : 2 * t < W) (h2 : 2 * t < H) => steps_check h0 t h1 h2)
  have SR := Lib.hid (fun t (ht : t ≤ m) (h1 : 2 * t < W) (h2 : 2 * t < H) => steps_row hbd hnn hv t h1 h2 (by
    have : d * t ≤ d * m := Nat.mul_le_mul_left _ ht
    omega))
  have SK := Lib.hid (fun t (ht : t ≤ m) => show 20 + d * t ≤ 100 by
    have : d * t ≤ d * m := Nat.mul_le_mul_left _ ht
    omega)
  have MK := Lib.hid (fun W' bt ct (hF : FldAt W' w.heap.size (X + m) (Y + m) (W - 2 * m) (H - 2 * m) bt ((H - 2 * m) * (W - 2 * m)) ct (smF F v W m)) =>
    made_any (X + m) (Y + m) (W - 2 * m) (H - 2 * m) ((H - 2 * m) * (W - 2 * m)) 153 #[.pointer (some ⟨w.heap.size, 0, none⟩)] (smF F v W m) W' enters_rRep1
      (rep1_any _ _ _ _ _ bt ct w.heap.size _ W' hF (SC.out m mW mH) rfl) (fun i hi => (SR.out m (Nat.le_refl _) mW mH i hi).2) (by omega) (by omega) (by omega) (by omega) (by omega) (by omega) (by omega) (by omega) rfl)
  have HG := Lib.hid hg
  have HN := Lib.hid hnn
  have HC := Lib.hid (fun W' (hb : Below w.heap.size w W') => flAt_congr hc (hb.block _ hlt))
  have HL := Lib.hid hlt
  have HP := Lib.hid (And.intro hcap hcp)
  have XB := Lib.hid (show -4194304 ≤ X ∧ X ≤ 4194304 - (W : Int) ∧ -4194304 ≤ Y ∧ Y ≤ 4194304 - (H : Int) ∧ W ≤ 512 ∧ H ≤ 512 by omega)
  unfold Enters at hcall
  have hinfo : (Try.prog.info? 34).map (fun i => (i.zero, i.size, i.bytes)) = some (some (.float .f32 0), 1, 4) := by kernel_rfl
  obtain ⟨i0, hi, hz0, hz1, hz2⟩ := info_parts hinfo
  clear h0 hn hnn hcap hcp hc hv b1 b2 b3 b4 b5 b6 b7 b8 b9 h1 hlt hg hd hl hinfo hbd
  go_enter Try.func105, Try.ntmps105
  go_wp2_with (first | (go_at_call 82; refine (IN.out _).mono ?_; rintro e w2 ⟨rfl, hb2⟩; have HF2 := Lib.hid (blkStay (b := w.heap.size) (o := fldO X Y W H (.slice (some ⟨b, 0, none⟩) n cap)) (by ((simp only [heap_alloc_get, heap_size_alloc, if_true]) <;> ((repeat' split) <;> first | rfl | omega))) hb2); have HS2 := Lib.hid (blkStay (b := w.heap.size + 1) (o := fldO 0 0 0 0 (.slice none 0 0)) (by ((simp only [heap_alloc_get, heap_size_alloc, if_true]) <;> ((repeat' split) <;> first | rfl | omega))) hb2); have hB2 : Below w.heap.size w w2 := Below.trans (by repeat (first | exact Below.refl _ _ | refine Below.alloc ?_ (by first | omega | (simp; done) | (simp; omega)) _ | refine Below.setCell ?_ (by first | omega | (simp; done) | (simp; omega)) _ | refine Below.drew ?_)) (Below.mono hb2 (by first | omega | (simp; done) | (simp; omega))); have z2 := hb2.size; clear hb2; obtain ⟨cS, fS, zS⟩ := blkC HS2.out))
  have hA : Below w2.heap.size w2 (w2.alloc (regObj (X + m) (Y + m) ((W : Int) - 2 * m) ((H : Int) - 2 * m))) := (Below.refl _ _).alloc (Nat.le_refl _) _
  have RA := Lib.hid (rep_start (F := F) (v := v) (W := W) (H := H) (n := n) (lo := 0) ⟨blkStay HF2.out hA, HC.out _ (hB2.trans (hA.mono hB2.size)), Nat.lt_of_lt_of_le HL.out (hB2.trans (hA.mono hB2.size)).size, HP.out.1, HP.out.2⟩ (Nat.zero_le _) HN.out (blkStay HS2.out hA) (hB2.trans (hA.mono hB2.size)) (Nat.le_refl _) (by omega) (Nat.zero_le _))
  clear hA HF2 HS2 hB2 cS fS zS z2 IN HC HL HP HN
  generalize w2.alloc (regObj (X + m) (Y + m) ((W : Int) - 2 * m) ((H : Int) - 2 * m)) = w3 at *
  go_loopw [10, 11, 12, 24] (fun s10 s11 s12 i wr => ∃ t : Nat, t ≤ m ∧ i = .int .i64 t ∧ RepAt w w.heap.size 0 X Y W H F v t wr) (fun _ _ _ i _ => m - (intOf i).toNat)
  case atStart => exact ⟨0, Nat.zero_le _, rfl, RA.out⟩
  case round =>
    obtain ⟨t, ht, rfl, hR⟩ := hrel
    have HR := Lib.hid hR
    by_cases htm : t < m
    · obtain ⟨W2, eW2⟩ : ∃ W2, W - 2 * (t + 1) = W2 := ⟨_, rfl⟩
      obtain ⟨H2, eH2⟩ : ∃ H2, H - 2 * (t + 1) = H2 := ⟨_, rfl⟩
      obtain ⟨W1, eW1⟩ : ∃ W1, W - 2 * t = W1 := ⟨_, rfl⟩
      obtain ⟨H1, eH1⟩ : ∃ H1, H - 2 * t = H1 := ⟨_, rfl⟩
      obtain ⟨f, ef⟩ : ∃ f, smF F v W (t + 1) = f := ⟨_, rfl⟩
      have ef1 : rimF F (smF F v W t) W1 = f := by rw [← ef, ← eW1]; rfl
      obtain ⟨bt, ct, hF, _⟩ := hR.fld
      have CC := Lib.hid (fun (x y : Int) (j : Nat) W' h1 h2 h3 h4 hj (hb : Below wr.heap.size wr W') => (HG.out.stay (hR.bel.trans (hb.mono hR.bel.size))).cell (SK.out t ht) (SC.out t (by omega) (by omega)) rfl (by omega) (by omega) (cap := ct) (flAt_congr hF.row (hb.block _ hF.lt)) (SR.out t ht (by omega) (by omega)) (Below.refl _ _) x y j h1 h2 h3 h4 hj)
      have NX := Lib.hid (fun w5 b cap (hb : Below wr.heap.size wr w5) hrow h1 h2 h3 h4 => rep_next (b := b) (cap := cap) hR hb eW2 eH2 ef hrow h1 h2 h3 h4)
      have FW := Lib.hid (fun i hi => (SR.out (t + 1) htm (by omega) (by omega) i hi).2)
      rw [eW2, eH2, ef] at FW
      have iW : (W1 : Int) - 2 = (W2 : Int) := by omega
      have iH : (H1 : Int) - 2 = (H2 : Int) := by omega
      simp only [eW1, eH1, ef1, iW, iH] at CC
      rw [eW1, eH1] at hF
      obtain ⟨xb1, xb2, yb1, yb2, wb, hb⟩ := XB.out
      have xb3 : -4194304 ≤ X + t := by omega
      have xb4 : X + t ≤ 4194400 := by omega
      have yb3 : -4194304 ≤ Y + t := by omega
      have yb4 : Y + t ≤ 4194400 := by omega
      have w21 : 1 ≤ W2 := by omega
      have w22 : W2 ≤ 512 := by omega
      have h21 : 1 ≤ H2 := by omega
      have h22 : H2 ≤ 512 := by omega
      have GR := Lib.hid (fun w' => show Calls Try.prog 144 #[reg (X + t) (Y + t) W1 H1, .int .i64 (-1)] w' fun e w'' => e = .returned (reg (X + t + 1) (Y + t + 1) W2 H2) ∧ Below w'.heap.size w' w'' by
        have h := refGrown_any (X + t) (Y + t) W1 H1 (-1) w' (by omega) (by omega) (by omega) (by omega) (by omega) (by omega) (by omega) (by omega) (by omega) (by omega)
        rw [show X + (t : Int) - (-1) = X + t + 1 by omega, show Y + (t : Int) - (-1) = Y + t + 1 by omega, show (W1 : Int) + 2 * (-1) = W2 by omega, show (H1 : Int) + 2 * (-1) = H2 by omega] at h
        exact h)
      have HF := Lib.hid hF.fld
      obtain ⟨cF, fF, zF⟩ := blkC hF.fld
      have TT := Lib.hid (show ((t + 1 : Nat) : Int) = (t : Int) + 1 by omega)
      have HT := Lib.hid htm
      clear hF hR eW1 eH1 eW2 eH2 ef ef1 iW iH xb1 xb2 yb1 yb2 wb hb SC SR SK MK HG XB mW mH RA
      generalize X + (t : Int) = X1 at *
      generalize Y + (t : Int) = Y1 at *
      go_wp2_with (go_at_call 144; refine (GR.out _).mono ?_; rintro e w4 ⟨rfl, hb4⟩; have B4 := Lib.hid (Below.trans (show Below wr.heap.size wr _ from (by repeat (first | exact Below.refl _ _ | refine Below.alloc ?_ (by first | omega | (simp; done) | (simp; omega)) _ | refine Below.setCell ?_ (by first | omega | (simp; done) | (simp; omega)) _ | refine Below.drew ?_))) (Below.mono hb4 (by first | omega | (simp; done) | (simp; omega)))); clear hb4)
      have z4 := B4.out.size
      have HS := Lib.hid (show RgAt wr (X1 + 1) (Y1 + 1) W2 H2 w4.heap.size (w4.heap.size + 1) f 0 (w4.alloc (fldO (X1 + 1) (Y1 + 1) W2 H2 (.slice none 0 0))) from
        ⟨⟨.slice none 0 0, ⟨by simp [rowL], .inl ⟨rfl, by simp⟩⟩, heap_alloc_new _ _⟩, B4.out.alloc z4 _, by simp⟩)
      clear cF fF zF B4 GR
      generalize w4.alloc (fldO (X1 + 1) (Y1 + 1) W2 H2 (.slice none 0 0)) = w5 at *
      generalize w4.heap.size = gb at *
      obtain ⟨w1, rfl⟩ : ∃ w1, w1 = wr := ⟨_, rfl⟩
      go_loopw [11, 12] (fun y x wr => ∃ j : Nat, j ≤ H2 ∧ y = .int .i64 (Y1 + 1 + j) ∧ RgAt w1 (X1 + 1) (Y1 + 1) W2 H2 gb (gb + 1) f (j * W2) wr) (fun y _ _ => (Y1 + 1 + H2 - intOf y).toNat)
      case atStart => exact ⟨0, by omega, by simp, by rw [Nat.zero_mul]; exact HS.out⟩
      case round =>
        obtain ⟨j, hj, rfl, hx⟩ := hrel
        have HX := Lib.hid hx
        obtain ⟨ov, hown, hout⟩ := hx.ex
        obtain ⟨cV, fV, zV⟩ := blkC hout
        by_cases hlt : j < H2
        · clear hx hown hout
          go_wp2
          clear cV fV zV
          obtain ⟨w6, rfl⟩ : ∃ w6, w6 = wr := ⟨_, rfl⟩
          go_loopw [12] (fun x wr => ∃ i : Nat, i ≤ W2 ∧ x = .int .i64 (X1 + 1 + i) ∧ RgAt w1 (X1 + 1) (Y1 + 1) W2 H2 gb (gb + 1) f (j * W2 + i) wr) (fun x _ => (X1 + 1 + W2 - intOf x).toNat)
          case atStart => exact ⟨0, by omega, by simp, HX.out⟩
          case round =>
            obtain ⟨i, hi1, rfl, hz⟩ := hrel
            have HZ := Lib.hid hz
            obtain ⟨ov2, hown, hout⟩ := hz.ex
            have HO := Lib.hid hown
            have HV := Lib.hid hout
            have HBz := Lib.hid hz.bel
            have HSz := Lib.hid hz.size
            obtain ⟨cV, fV, zV⟩ := blkC hout
            obtain ⟨cF, fF, zF⟩ := blkC (blkStay HF.out hz.bel)
            clear hz hown hout
            by_cases hlt2 : i < W2
            · have CCi := Lib.hid (fun W' hb => CC.out (X1 + 1 + i) (Y1 + 1 + j) (j * W2 + i) W' (by omega) (by omega) (by omega) (by omega) (by rw [show (Y1 + 1 + (j : Int) - (Y1 + 1)) = j by omega, show (X1 + 1 + (i : Int) - (X1 + 1)) = i by omega]; simp) hb)
              have hk : j * W2 + i < 262144 := by
                have : j * W2 ≤ 511 * 512 := Nat.mul_le_mul (by omega) w22
                omega
              have hx : f (j * W2 + i) < 4294967296 := FW.out _ (by
                have : (j + 1) * W2 ≤ H2 * W2 := Nat.mul_le_mul_right _ hlt
                rw [Nat.succ_mul] at this; omega)
              obtain ⟨k, hke⟩ : ∃ k, j * W2 + i = k := ⟨_, rfl⟩
              rw [hke] at CCi hk hx HO
              have KE := Lib.hid (show j * W2 + (i + 1) = k + 1 by omega)
              clear hke HZ
              have hrd : Below w1.heap.size w1 wr.drew := HBz.out.drew
              have HB1 := Lib.hid (show k + 1 ≤ maxLen by unfold maxLen; omega)
              have HB2 := Lib.hid (show (k + 1) * 4 ≤ 140737488355328 by omega)
              go_wp2_with fail
              go_region_law (first
                | (go_simp; (with_reducible refine (CCi.out _ hrd).mono ?_); rintro e w2 ⟨rfl, hb2'⟩; have hb2 : Below wr.heap.size wr w2 := ⟨hb2'.os, hb2'.tape, hb2'.output, hb2'.size, hb2'.block⟩; have own2 := Lib.hid (ownsRow_below HO.out hb2); have out2 := Lib.hid (blkStay HV.out hb2); obtain ⟨cV2, fV2, zV2⟩ := blkC out2.out)
                | (refine step_append_lies _ (by rfl) _ _ _ (by rfl) (gb + 1) 34 i0 _ 1 4 Try.underlying25 hi hz0 hz1 hz2 rfl (by omega) ov2 k (rowL f k) (by rfl) (own2.out.alloc _) ⟨w2.heap.size, 0, none⟩ 1 1 [.float .f32 (f k)] (by rfl) (by rfl) (World.news_of_block (cs := #[.float .f32 (f k)]) (t := 34) (fr := (0, 0)) (heap_alloc_new w2 _)) (by simp [Value.oneCell']) (by omega) HB1.out HB2.out (by simp; omega) (w2.heap.size + 1) (by simp) ?_; intro gg cap w3 hown3 hgrow hat hlt3; have hF := ownsRow_far HO.out (show gb < gb + 1 by omega); have out3 := Lib.hid ((hgrow.block gb (by rw [heap_size_alloc]; omega) hF).trans ((heap_alloc_old _ _ zV2).trans out2.out)); obtain ⟨cV3, fV3, zV3⟩ := blkC out3.out))
              all_goals
                have HM2 := Lib.hid (rg_push HO.out HV.out HBz.out HSz.out hb2 (by omega) z4 hgrow hown3)
                clear hown3 hgrow hat hlt3 hF cV3 fV3 zV3 cV2 fV2 zV2 cV fV zV cF fF zF
                go_wp2
                go_roundw
                case rel => exact ⟨i + 1, by omega, by go_num, by rw [KE.out]; exact HM2.out⟩
                case measure => simp [intOf]; omega
            · have hiW : i = W2 := by omega
              have HM3 : Hid (RgAt w1 (X1 + 1) (Y1 + 1) W2 H2 gb (gb + 1) f ((j + 1) * W2) wr) := by
                have h := HZ.out
                rw [hiW, ← Nat.succ_mul] at h
                exact h
              have hge : ¬ X1 + 1 + (i : Int) < X1 + 1 + W2 := by omega
              clear hiW
              go_wp2
              go_roundw
              case rel => exact ⟨j + 1, by omega, by go_num, HM3.out⟩
              case measure => simp [intOf]; omega
        · have hjH : j = H2 := by omega
          have hpos : 0 < H2 * W2 := Nat.mul_pos h21 w21
          rw [hjH] at hown
          obtain ⟨g', cap', rfl, _⟩ := hown.form hpos
          obtain ⟨hrow, hbase, hgl, hnc, hcm⟩ := rg_cells hown hpos
          have NXT := Lib.hid (NX.out wr g' cap' hx.bel hrow (by omega) hgl hnc hcm)
          obtain ⟨cF, fF, zF⟩ := blkC (blkStay HF.out hx.bel)
          have hge : ¬ Y1 + 1 + (j : Int) < Y1 + 1 + H2 := by omega
          have htm := HT.out
          clear hx hown hout hrow hbase hgl hnc hcm hpos NX HX CC FW hjH
          go_wp2
          go_roundw
          case rel => exact ⟨t + 1, by omega, by go_num, NXT.out⟩
          case measure => simp [intOf]; omega
    · obtain rfl : t = m := by omega
      obtain ⟨bt, ct, hF, _⟩ := hR.fld
      have MKI := Lib.hid (MK.out wr bt ct hF)
      have HS := Lib.hid hR.res
      have zS0 := (blkC hR.res).2.2
      have HB := Lib.hid hR.bel
      obtain ⟨cF, fF, zF⟩ := blkC hF.fld
      clear hF hR SC SR SK MK HG XB RA HR
      generalize smF F v W t = f at *
      generalize X + (t : Int) = X' at *
      generalize Y + (t : Int) = Y' at *
      generalize (H - 2 * t) * (W - 2 * t) = n2 at *
      generalize ((W - 2 * t : Nat) : Int) = W' at *
      generalize ((H - 2 * t : Nat) : Int) = H' at *
      go_wp2_with fail
      refine MKI.out.mono ?_
      intro e w4 hmade
      rcases hmade with ⟨hall, b', cap', rfl, hb', hlt', hrow, hbel⟩ | ⟨hall, rfl, hbel⟩
      · obtain ⟨cS, fS, zS⟩ := blkC (blkStay HS.out hbel)
        have hB := HB.out.trans (hbel.mono HB.out.size)
        go_wp2
        refine bodyPost_ret (v := .tuple #[fldV X' Y' W' H' (.slice (some ⟨b', 0, none⟩) n2 cap'), .int .i64 0]) (by simp [results, Try.results105, go_sem, cS]) rfl ?_
        exact .inr ⟨rfl, .inl ⟨hall, b', cap', rfl, by omega, by rw [set5_size]; exact hlt', flAt_congr hrow (set5_heap w4 _ _ _ _ _ _ _ (by omega)), set5_below hB _ _ _ _ _ _ (by omega)⟩⟩
      · obtain ⟨cS, fS, zS⟩ := blkC (blkStay HS.out hbel)
        have hB := HB.out.trans (hbel.mono HB.out.size)
        go_wp2
        refine bodyPost_ret (v := .tuple #[fldV 0 0 0 0 (.slice none 0 0), .int .i64 3]) (by simp [results, Try.results105, go_sem, cS]) rfl ?_
        exact .inr ⟨rfl, .inr ⟨hall, rfl, set5_below hB _ _ _ _ _ _ (by omega)⟩⟩
end Go.Proofs.Ytdbponidkodmfaa

/- Smooth of both sides, for every field that is right and at most 40 wide, and any number of steps. -/
namespace Go.Proofs.Ytdbponidkodmfaa
open Go.RowKit Fl
set_option linter.unusedVariables false

/-- The error of a number of steps. -/
def stpE (m : Int) : Int := if withinB m 0 64 = true then 0 else 3
set_option maxHeartbeats 400000 in
theorem checkSteps_any (m : Int) (w : World) : Calls Try.prog 102 #[.int .i64 m] w fun e w' => e = .returned (.int .i64 (stpE m)) ∧ w = w' := by
  unfold stpE
  cases c : withinB m 0 64 <;>
  · have WI := Lib.hid (fun w => within_any m 0 64 w)
    rw [c] at WI
    go_enter Try.func102, Try.ntmps102
    go_wp2_with (go_at_call 63; refine (WI.out _).mono ?_; rintro e w' ⟨rfl, rfl⟩)
    go_ret
    exact ⟨rfl, rfl⟩

set_option maxHeartbeats 1000000 in
theorem smooth_bad (X Y : Int) (W H n b cap : Nat) (v : Nat → Nat) (m : Int) (w : World) (h0 : checkR X Y W H = 0) (hn : n = W * H) (hc : FlAt w b 0 n v) (hh : allB n (fun i => hgtB (v i)) = true) (hm : stpE m = 3) :
    Calls Try.prog 38 #[fldV X Y W H (.slice (some ⟨b, 0, none⟩) n cap), .int .i64 m] w fun e w' => e = .returned (.tuple #[fldV 0 0 0 0 (.slice none 0 0), .int .i64 3]) ∧ Below w.heap.size w w' := by
  have h1 : 1 ≤ n := by
    obtain ⟨b1, b2, b3, b4, b5, _⟩ := checkR_zero h0
    rw [hn]; exact Nat.mul_pos (by omega) (by omega)
  have hlt : b < w.heap.size := World.block_lt_of_cell? w _ (hc 0 h1)
  have CH := Lib.hid (fun W' (hb : Below w.heap.size w W') => check_ok X Y W H n b cap v W' h0 hn (flAt_congr hc (hb.block _ hlt)) hh)
  have CS := Lib.hid (fun w => checkSteps_any m w)
  rw [hm] at CS
  clear h0 hn hc hh h1 hm
  go_enter Try.func38, Try.ntmps38
  go_wp2_with (first | (go_at_call 101; refine (CH.out _ (by repeat (first | exact Below.refl _ _ | refine Below.alloc ?_ (by first | omega | (simp; done) | (simp; omega)) _ | refine Below.setCell ?_ (by first | omega | (simp; done) | (simp; omega)) _ | refine Below.drew ?_))).mono ?_; rintro e w2 ⟨rfl, hb2⟩; have HS2 := Lib.hid (blkStay (b := w.heap.size + 1) (o := fldO 0 0 0 0 (.slice none 0 0)) (by ((simp only [heap_alloc_get, heap_size_alloc, if_true]) <;> ((repeat' split) <;> first | rfl | omega))) hb2); have hB2 : Below w.heap.size w w2 := Below.trans (by repeat (first | exact Below.refl _ _ | refine Below.alloc ?_ (by first | omega | (simp; done) | (simp; omega)) _ | refine Below.setCell ?_ (by first | omega | (simp; done) | (simp; omega)) _ | refine Below.drew ?_)) (Below.mono hb2 (by first | omega | (simp; done) | (simp; omega))); clear hb2; obtain ⟨cS, fS, zS⟩ := blkC HS2.out) | (go_at_call 102; refine (CS.out _).mono ?_; rintro e w' ⟨rfl, rfl⟩))
  refine bodyPost_ret (v := .tuple #[fldV 0 0 0 0 (.slice none 0 0), .int .i64 3]) (by simp [results, Try.results38, go_sem, cS]) rfl ?_
  exact ⟨rfl, set5_below hB2 _ _ _ _ _ _ (by omega)⟩

set_option maxHeartbeats 1000000 in
theorem smooth_no (X Y : Int) (W H n b cap m : Nat) (v : Nat → Nat) (w : World) (h0 : checkR X Y W H = 0) (hn : n = W * H) (hc : FlAt w b 0 n v) (hh : allB n (fun i => hgtB (v i)) = true) (hm : m ≤ 64) (hs : W ≤ 2 * m ∨ H ≤ 2 * m) :
    Calls Try.prog 38 #[fldV X Y W H (.slice (some ⟨b, 0, none⟩) n cap), .int .i64 m] w fun e w' => e = .returned (.tuple #[fldV 0 0 0 0 (.slice none 0 0), .int .i64 10]) ∧ Below w.heap.size w w' := by
  have h1 : 1 ≤ n := by
    obtain ⟨b1, b2, b3, b4, b5, _⟩ := checkR_zero h0
    rw [hn]; exact Nat.mul_pos (by omega) (by omega)
  have hlt : b < w.heap.size := World.block_lt_of_cell? w _ (hc 0 h1)
  have CH := Lib.hid (fun W' (hb : Below w.heap.size w W') => check_ok X Y W H n b cap v W' h0 hn (flAt_congr hc (hb.block _ hlt)) hh)
  have CS := Lib.hid (fun w => checkSteps_any m w)
  rw [show stpE m = 0 by unfold stpE; rw [if_pos (withinB_iff.2 ⟨by omega, by omega⟩)]] at CS
  have WN := Lib.hid (fun W' => worn_no X Y W H n b cap m 104 #[] W' h0 hm hs)
  clear h0 hn hc hh h1 hm hs
  go_enter Try.func38, Try.ntmps38
  go_wp2_with (first | (go_at_call 101; refine (CH.out _ (by repeat (first | exact Below.refl _ _ | refine Below.alloc ?_ (by first | omega | (simp; done) | (simp; omega)) _ | refine Below.setCell ?_ (by first | omega | (simp; done) | (simp; omega)) _ | refine Below.drew ?_))).mono ?_; rintro e w2 ⟨rfl, hb2⟩; have HS2 := Lib.hid (blkStay (b := w.heap.size + 1) (o := fldO 0 0 0 0 (.slice none 0 0)) (by ((simp only [heap_alloc_get, heap_size_alloc, if_true]) <;> ((repeat' split) <;> first | rfl | omega))) hb2); have HF2 := Lib.hid (blkStay (b := w.heap.size) (o := fldO X Y W H (.slice (some ⟨b, 0, none⟩) n cap)) (by ((simp only [heap_alloc_get, heap_size_alloc, if_true]) <;> ((repeat' split) <;> first | rfl | omega))) hb2); have hB2 : Below w.heap.size w w2 := Below.trans (by repeat (first | exact Below.refl _ _ | refine Below.alloc ?_ (by first | omega | (simp; done) | (simp; omega)) _ | refine Below.setCell ?_ (by first | omega | (simp; done) | (simp; omega)) _ | refine Below.drew ?_)) (Below.mono hb2 (by first | omega | (simp; done) | (simp; omega))); clear hb2; obtain ⟨cF, fF, zF⟩ := blkC HF2.out) | (go_at_call 102; refine (CS.out _).mono ?_; rintro e w' ⟨rfl, rfl⟩) | (go_at_call 103; refine (WN.out _).mono ?_; rintro e w3 ⟨rfl, hb3⟩; have hB3 := hB2.trans (hb3.mono hB2.size); obtain ⟨cS, fS, zS⟩ := blkC (blkStay HS2.out hb3)))
  refine bodyPost_ret (v := .tuple #[fldV 0 0 0 0 (.slice none 0 0), .int .i64 10]) (by simp [results, Try.results38, go_sem, cS]) rfl ?_
  exact ⟨rfl, set5_below hB3 _ _ _ _ _ _ (by omega)⟩

/-- A result that goes on from an inner call into the variable of the caller's result. -/
theorem scp_store {w w2 w3 : World} {X Y W H : Int} {n b cap : Nat} {f : Nat → Nat} (hB : Below w.heap.size w w2) (hall : allB n (fun i => hgtB (f i)) = true) (hb : w2.heap.size ≤ b) (hlt : b < w3.heap.size) (hrow : FlAt w3 b 0 n f) (hbel : Below w2.heap.size w2 w3) (u1 u2 u3 u4 u5 : Value) (hS : w.heap.size + 1 < w2.heap.size) :
    ScPost w X Y W H n f 0 (.returned (.tuple #[fldV X Y W H (.slice (some ⟨b, 0, none⟩) n cap), .int .i64 0])) (set5 w3 (w.heap.size + 1) u1 u2 u3 u4 u5) := by
  have hB3 := hB.trans (hbel.mono hB.size)
  exact .inr ⟨rfl, .inl ⟨hall, b, cap, rfl, by omega, by rw [set5_size]; exact hlt, flAt_congr hrow (set5_heap w3 _ _ _ _ _ _ _ (by omega)), set5_below hB3 _ _ _ _ _ _ (by omega)⟩⟩

set_option maxHeartbeats 2000000 in
theorem smooth_ok (X Y : Int) (W H n b cap m : Nat) (v : Nat → Nat) (w : World) (h0 : checkR X Y W H = 0) (hn : n = W * H) (hcap : n ≤ cap) (hcp : cap ≤ 9223372036854775807) (hc : FlAt w b 0 n v) (hh : allB n (fun i => hgtB (v i)) = true) (wv : wf32 n v) (hW : W ≤ 40) (mW : 2 * m < W) (mH : 2 * m < H) :
    Calls Try.prog 38 #[fldV X Y W H (.slice (some ⟨b, 0, none⟩) n cap), .int .i64 m] w (ScPost w (X + m) (Y + m) ((W - 2 * m : Nat) : Int) ((H - 2 * m : Nat) : Int) ((H - 2 * m) * (W - 2 * m)) (smF smoW v W m) 0) := by
  have h1 : 1 ≤ n := by
    obtain ⟨b1, b2, b3, b4, b5, _⟩ := checkR_zero h0
    rw [hn]; exact Nat.mul_pos (by omega) (by omega)
  have hlt : b < w.heap.size := World.block_lt_of_cell? w _ (hc 0 h1)
  have CH := Lib.hid (fun W' (hb : Below w.heap.size w W') => check_ok X Y W H n b cap v W' h0 hn (flAt_congr hc (hb.block _ hlt)) hh)
  have CS := Lib.hid (fun w => checkSteps_any m w)
  rw [show stpE m = 0 by unfold stpE; rw [if_pos (withinB_iff.2 ⟨by omega, by omega⟩)]] at CS
  have WN := Lib.hid (fun W' (hb : Below w.heap.size w W') => worn_ok X Y W H n b cap m 4 v 104 #[] smoW W' (at_smooth W') enters_smooth h0 hn hcap hcp (flAt_congr hc (hb.block _ hlt)) (row_of_heights hh wv) (by omega) mW mH (by omega))
  clear h0 hn hc hh h1 hcap hcp wv hW mW mH
  generalize smF smoW v W m = f at *
  generalize X + (m : Int) = X' at *
  generalize Y + (m : Int) = Y' at *
  generalize (H - 2 * m) * (W - 2 * m) = n2 at *
  generalize ((W - 2 * m : Nat) : Int) = W' at *
  generalize ((H - 2 * m : Nat) : Int) = H' at *
  go_enter Try.func38, Try.ntmps38
  go_wp2_with (first | (go_at_call 101; refine (CH.out _ (by repeat (first | exact Below.refl _ _ | refine Below.alloc ?_ (by first | omega | (simp; done) | (simp; omega)) _ | refine Below.setCell ?_ (by first | omega | (simp; done) | (simp; omega)) _ | refine Below.drew ?_))).mono ?_; rintro e w2 ⟨rfl, hb2⟩; have HS2 := Lib.hid (blkStay (b := w.heap.size + 1) (o := fldO 0 0 0 0 (.slice none 0 0)) (by ((simp only [heap_alloc_get, heap_size_alloc, if_true]) <;> ((repeat' split) <;> first | rfl | omega))) hb2); have HF2 := Lib.hid (blkStay (b := w.heap.size) (o := fldO X Y W H (.slice (some ⟨b, 0, none⟩) n cap)) (by ((simp only [heap_alloc_get, heap_size_alloc, if_true]) <;> ((repeat' split) <;> first | rfl | omega))) hb2); have hB2 : Below w.heap.size w w2 := Below.trans (by repeat (first | exact Below.refl _ _ | refine Below.alloc ?_ (by first | omega | (simp; done) | (simp; omega)) _ | refine Below.setCell ?_ (by first | omega | (simp; done) | (simp; omega)) _ | refine Below.drew ?_)) (Below.mono hb2 (by first | omega | (simp; done) | (simp; omega))); clear hb2; obtain ⟨cF, fF, zF⟩ := blkC HF2.out) | (go_at_call 102; refine (CS.out _).mono ?_; rintro e w' ⟨rfl, rfl⟩))
  refine (WN.out _ hB2).mono ?_
  intro e w3 hp
  have zS2 := (blkC HS2.out).2.2
  rcases hp with ⟨hne, _⟩ | ⟨_, hmade⟩
  · exact absurd rfl hne
  rcases hmade with ⟨hall, b', cap', rfl, hb', hlt', hrow, hbel⟩ | ⟨hall, rfl, hbel⟩
  · obtain ⟨cS, fS, zS⟩ := blkC (blkStay HS2.out hbel)
    go_wp2
    refine bodyPost_ret (v := .tuple #[fldV X' Y' W' H' (.slice (some ⟨b', 0, none⟩) n2 cap'), .int .i64 0]) (by simp [results, Try.results38, go_sem, cS]) rfl ?_
    exact scp_store hB2 hall hb' hlt' hrow hbel _ _ _ _ _ zS2
  · obtain ⟨cS, fS, zS⟩ := blkC (blkStay HS2.out hbel)
    go_wp2
    refine bodyPost_ret (v := .tuple #[fldV 0 0 0 0 (.slice none 0 0), .int .i64 3]) (by simp [results, Try.results38, go_sem, cS]) rfl ?_
    exact .inr ⟨rfl, .inr ⟨hall, rfl, set5_below (hB2.trans (hbel.mono hB2.size)) _ _ _ _ _ _ (by omega)⟩⟩

-- the reference

set_option maxHeartbeats 1000000 in
theorem rsmooth_bad (X Y : Int) (W H n b cap : Nat) (m : Int) (w : World) (hm : stpE m = 3) :
    Calls Try.prog 39 #[fldV X Y W H (.slice (some ⟨b, 0, none⟩) n cap), .int .i64 m] w fun e w' => e = .returned (.tuple #[fldV 0 0 0 0 (.slice none 0 0), .int .i64 3]) ∧ Below w.heap.size w w' := by
  have hq : m < 0 ∨ 64 < m := by
    unfold stpE at hm
    cases c : withinB m 0 64 with
    | true => rw [c] at hm; simp at hm
    | false => exact withinB_no.1 c
  by_cases c1 : m < 0
  · clear hq hm
    go_enter Try.func39, Try.ntmps39
    go_wp2
    all_goals refine bodyPost_ret (v := .tuple #[fldV 0 0 0 0 (.slice none 0 0), .int .i64 3]) (by simp [results, Try.results39, go_sem]) rfl ?_
    all_goals exact ⟨rfl, (by repeat (first | exact Below.refl _ _ | refine Below.alloc ?_ (by first | omega | (simp; done) | (simp; omega)) _ | refine Below.setCell ?_ (by first | omega | (simp; done) | (simp; omega)) _ | refine Below.drew ?_))⟩
  · have c2 : 64 < m := by omega
    clear hq hm
    go_enter Try.func39, Try.ntmps39
    go_wp2
    all_goals refine bodyPost_ret (v := .tuple #[fldV 0 0 0 0 (.slice none 0 0), .int .i64 3]) (by simp [results, Try.results39, go_sem]) rfl ?_
    all_goals exact ⟨rfl, (by repeat (first | exact Below.refl _ _ | refine Below.alloc ?_ (by first | omega | (simp; done) | (simp; omega)) _ | refine Below.setCell ?_ (by first | omega | (simp; done) | (simp; omega)) _ | refine Below.drew ?_))⟩

set_option maxHeartbeats 1000000 in
theorem rsmooth_no (X Y : Int) (W H n b cap m : Nat) (w : World) (h0 : checkR X Y W H = 0) (hm : m ≤ 64) (hs : leftB m W H = false) :
    Calls Try.prog 39 #[fldV X Y W H (.slice (some ⟨b, 0, none⟩) n cap), .int .i64 m] w fun e w' => e = .returned (.tuple #[fldV 0 0 0 0 (.slice none 0 0), .int .i64 10]) ∧ Below w.heap.size w w' := by
  have RN := Lib.hid (fun W' => repeated_no X Y W H n b cap m 106 #[] W' h0 hm hs)
  have c1 : ¬ (m : Int) < 0 := by omega
  have c2 : ¬ 64 < (m : Int) := by omega
  clear h0 hm hs
  go_enter Try.func39, Try.ntmps39
  go_wp2_with (go_at_call 105; refine (RN.out _).mono ?_; rintro e w3 ⟨rfl, hb3⟩; have HS3 := Lib.hid (blkStay (b := w.heap.size + 1) (o := fldO 0 0 0 0 (.slice none 0 0)) (by ((simp only [heap_alloc_get, heap_size_alloc, if_true]) <;> ((repeat' split) <;> first | rfl | omega))) hb3); have hB3 : Below w.heap.size w w3 := Below.trans (by repeat (first | exact Below.refl _ _ | refine Below.alloc ?_ (by first | omega | (simp; done) | (simp; omega)) _ | refine Below.setCell ?_ (by first | omega | (simp; done) | (simp; omega)) _ | refine Below.drew ?_)) (Below.mono hb3 (by first | omega | (simp; done) | (simp; omega))); obtain ⟨cS, fS, zS⟩ := blkC HS3.out)
  all_goals refine bodyPost_ret (v := .tuple #[fldV 0 0 0 0 (.slice none 0 0), .int .i64 10]) (by simp [results, Try.results39, go_sem, cS]) rfl ?_
  all_goals exact ⟨rfl, set5_below hB3 _ _ _ _ _ _ (by omega)⟩

set_option maxHeartbeats 2000000 in
theorem rsmooth_ok (X Y : Int) (W H n b cap m : Nat) (v : Nat → Nat) (w : World) (h0 : checkR X Y W H = 0) (hn : n = W * H) (hcap : n ≤ cap) (hcp : cap ≤ 9223372036854775807) (hc : FlAt w b 0 n v) (hh : allB n (fun i => hgtB (v i)) = true) (wv : wf32 n v) (hW : W ≤ 40) (mW : 2 * m < W) (mH : 2 * m < H) :
    Calls Try.prog 39 #[fldV X Y W H (.slice (some ⟨b, 0, none⟩) n cap), .int .i64 m] w (ScPost w (X + m) (Y + m) ((W - 2 * m : Nat) : Int) ((H - 2 * m : Nat) : Int) ((H - 2 * m) * (W - 2 * m)) (smF smoW v W m) 0) := by
  have h1 : 1 ≤ n := by
    obtain ⟨b1, b2, b3, b4, b5, _⟩ := checkR_zero h0
    rw [hn]; exact Nat.mul_pos (by omega) (by omega)
  have hlt : b < w.heap.size := World.block_lt_of_cell? w _ (hc 0 h1)
  have RN := Lib.hid (fun W' (hb : Below w.heap.size w W') => repeated_ok X Y W H n b cap m 4 v 106 #[] smoW W' (rsmooth1_any W') enters_rSmooth1 (at_smooth W').bd h0 hn hcap hcp (flAt_congr hc (hb.block _ hlt)) (row_of_heights hh wv) (by omega) mW mH (by omega))
  have c1 : ¬ (m : Int) < 0 := by omega
  have c2 : ¬ 64 < (m : Int) := by omega
  clear h0 hn hc hh h1 hcap hcp wv hW mW mH
  generalize smF smoW v W m = f at *
  generalize X + (m : Int) = X' at *
  generalize Y + (m : Int) = Y' at *
  generalize (H - 2 * m) * (W - 2 * m) = n2 at *
  generalize ((W - 2 * m : Nat) : Int) = W' at *
  generalize ((H - 2 * m : Nat) : Int) = H' at *
  go_enter Try.func39, Try.ntmps39
  go_wp2_with fail
  have hB2 : Below w.heap.size w ((w.alloc (fldO X Y W H (.slice (some ⟨b, 0, none⟩) n cap))).alloc (fldO 0 0 0 0 (.slice none 0 0))) := (by repeat (first | exact Below.refl _ _ | refine Below.alloc ?_ (by first | omega | (simp; done) | (simp; omega)) _ | refine Below.setCell ?_ (by first | omega | (simp; done) | (simp; omega)) _ | refine Below.drew ?_))
  have HS2 := Lib.hid (show ((w.alloc (fldO X Y W H (.slice (some ⟨b, 0, none⟩) n cap))).alloc (fldO 0 0 0 0 (.slice none 0 0))).heap[w.heap.size + 1]? = some (fldO 0 0 0 0 (.slice none 0 0)) by ((simp only [heap_alloc_get, heap_size_alloc, if_true]) <;> ((repeat' split) <;> first | rfl | omega)))
  refine (RN.out _ hB2).mono ?_
  intro e w3 hp
  have zS2 := (blkC HS2.out).2.2
  rcases hp with ⟨hne, _⟩ | ⟨_, hmade⟩
  · exact absurd rfl hne
  rcases hmade with ⟨hall, b', cap', rfl, hb', hlt', hrow, hbel⟩ | ⟨hall, rfl, hbel⟩
  · obtain ⟨cS, fS, zS⟩ := blkC (blkStay HS2.out hbel)
    go_wp2
    refine bodyPost_ret (v := .tuple #[fldV X' Y' W' H' (.slice (some ⟨b', 0, none⟩) n2 cap'), .int .i64 0]) (by simp [results, Try.results39, go_sem, cS]) rfl ?_
    exact scp_store hB2 hall hb' hlt' hrow hbel _ _ _ _ _ zS2
  · obtain ⟨cS, fS, zS⟩ := blkC (blkStay HS2.out hbel)
    go_wp2
    refine bodyPost_ret (v := .tuple #[fldV 0 0 0 0 (.slice none 0 0), .int .i64 3]) (by simp [results, Try.results39, go_sem, cS]) rfl ?_
    exact .inr ⟨rfl, .inr ⟨hall, rfl, set5_below (hB2.trans (hbel.mono hB2.size)) _ _ _ _ _ _ (by omega)⟩⟩

theorem smooth_both (X Y : Int) (W H n b cap : Nat) (v : Nat → Nat) (m : Int) (h0 : checkR X Y W H = 0) (hn : n = W * H) (hcap : n ≤ cap) (hcp : cap ≤ 9223372036854775807) (hh : allB n (fun i => hgtB (v i)) = true) (wv : wf32 n v) (hW : W ≤ 40) :
    ∃ (X' Y' W' H' : Int) (n' : Nat) (f : Nat → Nat) (er : Int), 1 ≤ n' ∧ n' ≤ 65536 ∧
      (∀ w, FlAt w b 0 n v → Calls Try.prog 38 #[fldV X Y W H (.slice (some ⟨b, 0, none⟩) n cap), .int .i64 m] w (ScPost w X' Y' W' H' n' f er)) ∧
      (∀ w, FlAt w b 0 n v → Calls Try.prog 39 #[fldV X Y W H (.slice (some ⟨b, 0, none⟩) n cap), .int .i64 m] w (ScPost w X' Y' W' H' n' f er)) := by
  cases c : withinB m 0 64 with
  | false =>
    have e : stpE m = 3 := by unfold stpE; rw [c]; rfl
    exact ⟨0, 0, 0, 0, 1, fun _ => 0, 3, by omega, by omega,
      fun w hc => (smooth_bad X Y W H n b cap v m w h0 hn hc hh e).mono fun e w' h => .inl ⟨by decide, h.1, h.2⟩,
      fun w hc => (rsmooth_bad X Y W H n b cap m w e).mono fun e w' h => .inl ⟨by decide, h.1, h.2⟩⟩
  | true =>
    obtain ⟨c1, c2⟩ := withinB_iff.1 c
    obtain ⟨k, rfl⟩ : ∃ k : Nat, m = k := ⟨m.toNat, by omega⟩
    by_cases hl : 2 * k < W ∧ 2 * k < H
    · obtain ⟨l1, l2⟩ := hl
      obtain ⟨_, _, _, _, c5, _⟩ := checkR_zero (steps_check h0 k l1 l2)
      have hz : (((H - 2 * k) * (W - 2 * k) : Nat) : Int) ≤ 65536 := by rw [Nat.mul_comm]; simpa only [Int.natCast_mul] using c5
      exact ⟨X + k, Y + k, ((W - 2 * k : Nat) : Int), ((H - 2 * k : Nat) : Int), (H - 2 * k) * (W - 2 * k), smF smoW v W k, 0, Nat.mul_pos (by omega) (by omega), by omega,
        fun w hc => smooth_ok X Y W H n b cap k v w h0 hn hcap hcp hc hh wv hW l1 l2,
        fun w hc => rsmooth_ok X Y W H n b cap k v w h0 hn hcap hcp hc hh wv hW l1 l2⟩
    · exact ⟨0, 0, 0, 0, 1, fun _ => 0, 10, by omega, by omega,
        fun w hc => (smooth_no X Y W H n b cap k v w h0 hn hc hh (by omega) (by omega)).mono fun e w' h => .inl ⟨by decide, h.1, h.2⟩,
        fun w hc => (rsmooth_no X Y W H n b cap k w h0 (by omega) (by unfold leftB; simp; omega)).mono fun e w' h => .inl ⟨by decide, h.1, h.2⟩⟩
end Go.Proofs.Ytdbponidkodmfaa

/- Contracts of the regions' functions, continued: the reference's Grow; Common, Inside. -/
namespace Go.Proofs.Ytdbponidkodmfaa
open Go.RowKit

set_option maxHeartbeats 1000000 in
theorem landed_any (w : World) : Calls Try.prog 9 #[] w fun e w' => e = .returned (.bool true) ∧ Below w.heap.size w w' := by
  go_enter Try.func9, Try.ntmps9
  go_wp2
  go_ret
  exact ⟨rfl, (by repeat (first | exact Below.refl _ _ | refine Below.alloc ?_ (by first | omega | (simp; done) | (simp; omega)) _ | refine Below.setCell ?_ (by first | omega | (simp; done) | (simp; omega)) _ | refine Below.drew ?_))⟩

def insideB (x y w h x' y' w' h' : Int) : Bool := decide (x' ≤ x) && decide (y' ≤ y) && decide (x + w ≤ x' + w') && decide (y + h ≤ y' + h')
theorem insideB_iff {x y w h x' y' w' h' : Int} : insideB x y w h x' y' w' h' = true ↔ x' ≤ x ∧ y' ≤ y ∧ x + w ≤ x' + w' ∧ y + h ≤ y' + h' := by simp [insideB]; omega

set_option maxHeartbeats 1000000 in
theorem inside_any (x y ww hh x' y' ww' hh' : Int) (w : World) (a1 : -1073741824 ≤ x) (a2 : x ≤ 1073741824) (a3 : -1073741824 ≤ y) (a4 : y ≤ 1073741824) (a5 : 1 ≤ ww) (a6 : ww ≤ 1073741824) (a7 : 1 ≤ hh) (a8 : hh ≤ 1073741824)
    (b1 : -1073741824 ≤ x') (b2 : x' ≤ 1073741824) (b3 : -1073741824 ≤ y') (b4 : y' ≤ 1073741824) (b5 : 1 ≤ ww') (b6 : ww' ≤ 1073741824) (b7 : 1 ≤ hh') (b8 : hh' ≤ 1073741824) :
    Calls Try.prog 111 #[reg x y ww hh, reg x' y' ww' hh'] w fun e w' => e = .returned (.bool (insideB x y ww hh x' y' ww' hh')) ∧ Below w.heap.size w w' := by
  go_enter Try.func111, Try.ntmps111
  go_wp2
  all_goals go_ret
  all_goals refine ⟨ret_bool ?_, (by repeat (first | exact Below.refl _ _ | refine Below.alloc ?_ (by first | omega | (simp; done) | (simp; omega)) _ | refine Below.setCell ?_ (by first | omega | (simp; done) | (simp; omega)) _ | refine Below.drew ?_))⟩
  all_goals simp [insideB, *]
  all_goals omega

end Go.Proofs.Ytdbponidkodmfaa

/- SmoothMatches: Smooth answers as the reference does, for every field that fit makes and any number of steps. -/
namespace Go.Proofs.Ytdbponidkodmfaa
open Go.RowKit Fl
set_option linter.unusedVariables false

theorem al_belowS (w : World) (o : Obj) : Below w.heap.size w (w.alloc o) := (Below.refl _ _).alloc (Nat.le_refl _) o

set_option maxHeartbeats 4000000 in
theorem smoothMatch_any (X0 Y0 W0 H0 : Int) (sl : Value) (m : Int) (w : World)
    (hfit : ∀ W', Below w.heap.size w W' → Calls Try.prog 10 #[fldV X0 Y0 W0 H0 sl] W' (FitPost W')) :
    Calls Try.prog 7 #[fldV X0 Y0 W0 H0 sl, .int .i64 m] w fun e w' => e = .returned (.bool true) ∧ Below w.heap.size w w' := by
  have HF := Lib.hid hfit
  clear hfit
  go_enter Try.func7, Try.ntmps7
  go_wp2_with (first | (go_at_call 9; refine (landed_any _).mono ?_; rintro e w1 ⟨rfl, hb1⟩; have HA1 := Lib.hid (blkStay (b := w.heap.size) (o := fldO X0 Y0 W0 H0 sl) (heap_alloc_new w _) hb1); have hB1 : Below w.heap.size w w1 := Below.trans (by repeat (first | exact Below.refl _ _ | refine Below.alloc ?_ (by first | omega | (simp; done) | (simp; omega)) _ | refine Below.setCell ?_ (by first | omega | (simp; done) | (simp; omega)) _ | refine Below.drew ?_)) (Below.mono hb1 (by first | omega | (simp; done) | (simp; omega))); obtain ⟨cA, fA, zA⟩ := blkC HA1.out; clear hb1))
  refine (HF.out w1 hB1).mono ?_
  rintro e w2 ⟨X, Y, W', H', b, n, rfl, x1, x2, y1, y2, u1, u2, h1, h2, hn, hn1, hn2, hlo, hrow, hb2⟩
  obtain ⟨W, rfl⟩ : ∃ W : Nat, W' = W := ⟨W'.toNat, by omega⟩
  obtain ⟨H, rfl⟩ : ∃ H : Nat, H' = H := ⟨H'.toNat, by omega⟩
  obtain ⟨v, fv, wv, hv, bv⟩ := fit_fn hrow
  have h0 := fit_check x1 x2 y1 y2 u1 u2 h1 h2 hn hn2
  have hnn : n = W * H := by
    have : (n : Int) = ((W * H : Nat) : Int) := by rw [hn]; simp
    omega
  have HA2 := Lib.hid (blkStay HA1.out hb2)
  have hB2 : Below w.heap.size w w2 := hB1.trans (hb2.mono hB1.size)
  obtain ⟨cA, fA, zA⟩ := blkC HA2.out
  obtain ⟨X', Y', W', H', n', f, er, m1, m2, R1, R2⟩ := smooth_both X Y W H n b n v m h0 hnn (Nat.le_refl _) (by omega) hv wv (by omega)
  have S1 := Lib.hid R1
  have S2 := Lib.hid R2
  clear R1 R2
  clear x1 x2 y1 y2 u1 u2 h1 h2 hn h0 hnn hrow hv wv
  have hbp : b ≠ w.heap.size := by have := hB1.size; omega
  have HA3 := Lib.hid (set5_self (.int .i64 X) (.int .i64 Y) (.int .i64 W) (.int .i64 H) (.slice (some ⟨b, 0, none⟩) n n) HA2.out)
  have F3 := Lib.hid (flAt_congr fv (set5_heap w2 w.heap.size b (.int .i64 X) (.int .i64 Y) (.int .i64 W) (.int .i64 H) (.slice (some ⟨b, 0, none⟩) n n) hbp))
  have hB3 := set5_below hB2 w.heap.size (.int .i64 X) (.int .i64 Y) (.int .i64 W) (.int .i64 H) (.slice (some ⟨b, 0, none⟩) n n) (Nat.le_refl _)
  clear hb2
  go_wp2_with fail
  refine (S1.out _ F3.out).mono ?_
  intro e w4 hp
  obtain ⟨x1, y1, u1, h1, p1, l1, q1, k1, rfl, r1, hb4⟩ := made_res hp
  have hx := set5_size w2 w.heap.size (.int .i64 X) (.int .i64 Y) (.int .i64 W) (.int .i64 H) (.slice (some ⟨b, 0, none⟩) n n)
  have F4 := Lib.hid (flAt_congr F3.out (hb4.block b (by rw [hx]; exact bv)))
  have HA4 := Lib.hid (blkStay HA3.out hb4)
  have hB4 := hB3.trans (hb4.mono hB3.size)
  have bv4 : b < w4.heap.size := by have := hb4.size; rw [hx] at this; omega
  clear hp
  rw [hx] at r1
  clear hb4 HA3 F3 hB3 hx cA fA zA HA2 hB2 hlo fv bv
  obtain ⟨cA, fA, zA⟩ := blkC HA4.out
  -- the reference's Select
  have hb5 := al_belowS w4 (fldO x1 y1 u1 h1 (.slice p1 l1 q1))
  have F5 := Lib.hid (flAt_congr F4.out (heap_alloc_old w4 (fldO x1 y1 u1 h1 (.slice p1 l1 q1)) bv4))
  have HA5 := Lib.hid ((heap_alloc_old w4 (fldO x1 y1 u1 h1 (.slice p1 l1 q1)) zA).trans HA4.out)
  have HQ5 := Lib.hid (heap_alloc_new w4 (fldO x1 y1 u1 h1 (.slice p1 l1 q1)))
  have R5 := Lib.hid (r1.stay hb5)
  go_wp2_with fail
  refine (S2.out _ F5.out).mono ?_
  intro e w6 hp
  obtain ⟨x2, y2, u2, h2, p2, l2, q2, k2, rfl, r2, hb6⟩ := made_res hp
  have hb46 := hb5.trans (hb6.mono hb5.size)
  have F6 := Lib.hid (flAt_congr F5.out (hb6.block b (by have := hb5.size; omega)))
  have HA6 := Lib.hid (blkStay HA5.out hb6)
  have HQ6 := Lib.hid (blkStay HQ5.out hb6)
  have R6 := Lib.hid (R5.out.stay hb6)
  have hB6 := hB4.trans (hb46.mono hB4.size)
  have bv6 : b < w6.heap.size := by have := hb46.size; omega
  clear r1 R5 HQ5 HA5 F5 hb5 hb46 hp F4 HA4 hb6 cA fA
  obtain ⟨cA, fA, zA6⟩ := blkC HA6.out
  obtain ⟨cQ, fQ, zQ6⟩ := blkC HQ6.out
  -- same
  have hb7 := al_belowS w6 (fldO x2 y2 u2 h2 (.slice p2 l2 q2))
  have F7 := Lib.hid (flAt_congr F6.out (heap_alloc_old w6 (fldO x2 y2 u2 h2 (.slice p2 l2 q2)) bv6))
  have HA7 := Lib.hid ((heap_alloc_old w6 (fldO x2 y2 u2 h2 (.slice p2 l2 q2)) zA6).trans HA6.out)
  have HQ7 := Lib.hid ((heap_alloc_old w6 (fldO x2 y2 u2 h2 (.slice p2 l2 q2)) zQ6).trans HQ6.out)
  have HR7 := Lib.hid (heap_alloc_new w6 (fldO x2 y2 u2 h2 (.slice p2 l2 q2)))
  have R7 := Lib.hid (R6.out.stay hb7)
  have T7 := Lib.hid (r2.stay hb7)
  go_wp2_with fail
  refine (same_res m1 (by omega) R7.out T7.out).mono ?_
  rintro e w8 ⟨rfl, hb8⟩
  have hb68 := hb7.trans (hb8.mono hb7.size)
  have hB8 := hB6.trans (hb68.mono hB6.size)
  clear R6 r2 R7 T7 HR7 HQ7 HA7 F7 hb7 hb8 hb68 HQ6 HA6 F6 cA fA cQ fQ
  go_wp2
  go_ret
  exact ⟨rfl, hB8⟩
end Go.Proofs.Ytdbponidkodmfaa

/- A field that came in, opened: four integers, and a slice of singles that is empty or known cell by cell. -/
namespace Go.Proofs.Ytdbponidkodmfaa
open Go.ChangeShapes Go.WideShapes Go.ChangeAt Go.RowKit Go.Joins Fl

section
variable {H : Type} {enc : TypeId × Value → H} {w : World} {base : Nat} {spare : Nat → Bool} {held : Bool}

theorem trod_f32 {P : Program} {t : TypeId} {fuel : Nat} {v : Value} {y : DataW H × List MemPlace} (ht : P.underlying t = some (.float .f32)) (h : DataW.trod enc P w base spare held fuel t [v] = some y) : ∃ b, v = .float .f32 b ∧ b < 4294967296 := by
  cases fuel with
  | zero => simp [DataW.trod] at h
  | succ n =>
    unfold DataW.trod at h
    rw [ht] at h
    cases v <;> simp at h
    rename_i k b
    obtain ⟨⟨rfl, hw⟩, _⟩ := h
    exact ⟨b, rfl, by simpa [Lit.wf] using hw⟩

theorem array5 {α : Type} {cs : Array α} (h : cs.size = 5) : ∃ c0 c1 c2 c3 c4, cs = #[c0, c1, c2, c3, c4] := by
  obtain ⟨l⟩ := cs
  match l, h with
  | [c0, c1, c2, c3, c4], _ => exact ⟨c0, c1, c2, c3, c4, rfl⟩

theorem flAt_congr' {w w' : World} {b off n : Nat} {f : Nat → Nat} (h : FlAt w b off n f) (e : w'.heap[b]? = w.heap[b]?) : FlAt w' b off n f := fun i hi => by
  rw [← h i hi]; exact World.cell?_of_block (w := w) (a := ⟨b, off + i, none⟩) e

/-- What a slice of singles is: empty, or known cell by cell. -/
def SlF (w : World) (s : Value) : Prop :=
  (∃ a cap, s = .slice a 0 cap) ∨ ∃ b off len cap x, s = .slice (some ⟨b, off, none⟩) len cap ∧ 0 < len ∧ len ≤ 9223372036854775807 ∧ FlAt w b off len x ∧ wf32 len x

theorem open_singles {t e : TypeId} {fuel : Nat} {cs : List Value} {y : DataW H × List MemPlace} (ht : Try.prog.underlying t = some (.slice e)) (he : Try.prog.underlying e = some (.float .f32)) (hc : Try.prog.cellsOf e = 1)
    (h : DataW.trod enc Try.prog w base spare held fuel t cs = some y) : ∃ s, cs = [s] ∧ SlF w s := by
  rcases Go.Deep.open_slice1 ht hc h with ⟨rfl, _⟩ | ⟨a, len, cap, m, n, V, D, Pl, rfl, hb, hl, hm, hmm, _, hx⟩
  · exact ⟨_, rfl, .inl ⟨none, 0, rfl⟩⟩
  · refine ⟨_, rfl, ?_⟩
    rcases Nat.eq_zero_or_pos len with z | z
    · subst z; exact .inl ⟨_, _, rfl⟩
    · have hlm : len ≤ m := by rw [hmm]; split <;> omega
      have h0 := (hx 0 (by omega)).1
      obtain ⟨b, off, spot⟩ := a
      have hspot : spot = none := by simpa [Addr.add] using World.cell?_spot h0
      subst hspot
      have hv : ∀ i, i < len → ∃ x, V i = .float .f32 x ∧ x < 4294967296 := fun i hi => trod_f32 he (hx i (by omega)).2
      refine .inr ⟨b, off, len, cap, fun i => match V i with | .float _ x => x | _ => 0, rfl, z, ?_, fun i hi => ?_, fun i hi => ?_⟩
      · exact Nat.le_trans hl (Nat.le_trans hm (by decide))
      · have h1 := (hx i (by omega)).1
        obtain ⟨x, e1, _⟩ := hv i hi
        rw [← Go.WideShapes.add_plain, h1]
        simp only [e1]
      · obtain ⟨x, e1, e2⟩ := hv i hi
        simp only [e1]; exact e2

theorem cellsF : Try.prog.cellsOf 27 = 5 := by kernel_rfl
theorem cellsR : Try.prog.cellsOf 24 = 4 := by kernel_rfl
theorem cellsS : Try.prog.cellsOf 25 = 1 := by kernel_rfl
theorem cells1 : Try.prog.cellsOf 34 = 1 := by kernel_rfl
theorem cellsI : Try.prog.cellsOf 3 = 1 := by kernel_rfl

set_option maxRecDepth 100000 in
theorem open_field {r : Reach} {b0 : Nat} {v : Value} {d : DataW H} {p : List MemPlace} (hv : Value.okWide Try.prog w r b0 27 v) (h : DataW.Trod enc Try.prog w base spare held 27 v d p) :
    ∃ X Y W' H' : Int, ∃ s, v = fldV X Y W' H' s ∧ SlF w s := by
  obtain ⟨cs, rfl, hsz⟩ := okWide_struct Try.underlying27 hv
  obtain ⟨c0, c1, c2, c3, c4, rfl⟩ := array5 (hsz.trans cellsF)
  obtain ⟨fuel, hf⟩ := h
  obtain ⟨y0, y1, n, _, _, h0, h1⟩ := trod_struct2 Try.underlying27 hf
  rw [cellsR] at h0
  rw [cellsS] at h1
  obtain ⟨s, e4, hs⟩ := open_singles Try.underlying25 Try.underlying34 cells1 h1
  obtain ⟨z0, z1, z2, z3, n2, _, _, g0, g1, g2, g3⟩ := trod_struct4 Try.underlying24 h0
  rw [cellsI] at g0 g1 g2 g3
  obtain ⟨x0, e0, _, _⟩ := DataW.trod_int Try.underlying3 g0
  obtain ⟨x1, e1, _, _⟩ := DataW.trod_int Try.underlying3 g1
  obtain ⟨x2, e2, _, _⟩ := DataW.trod_int Try.underlying3 g2
  obtain ⟨x3, e3, _, _⟩ := DataW.trod_int Try.underlying3 g3
  simp [Value.cells] at e0 e1 e2 e3 e4
  subst e0 e1 e2 e3 e4
  exact ⟨x0, x1, x2, x3, _, rfl, hs⟩
end

theorem SlF.stay {w w' : World} {s : Value} (h : SlF w s) (hb : Below w.heap.size w w') : SlF w' s := by
  rcases h with h | ⟨b, off, len, cap, x, rfl, h1, h2, h3, h4⟩
  · exact .inl h
  · exact .inr ⟨b, off, len, cap, x, rfl, h1, h2, flAt_congr' h3 (hb.block _ (World.block_lt_of_cell? w _ (h3 0 h1))), h4⟩

/-- fit, of whatever slice. -/
theorem fit_any {X Y W H : Int} {s : Value} {w : World} (h : SlF w s) : Calls Try.prog 10 #[fldV X Y W H s] w (FitPost w) := by
  rcases h with ⟨a, cap, rfl⟩ | ⟨b, off, len, cap, x, rfl, h1, h2, h3, h4⟩
  · exact fit_none X Y W H a cap w
  · exact fit_some X Y W H b off len cap x w h1 h2 h3 h4

theorem laidOut : laidOutB Try.prog = true := by kernel_rfl
end Go.Proofs.Ytdbponidkodmfaa

/- SmoothMatches, for every field and every number of steps: what Smooth answers is what the reference answers, bit by bit. No condition. -/
namespace Go.Proofs.Ytdbponidkodmfaa.smoothMatches
open Go.ChangeShapes Go.WideShapes Go.ChangeAt Go.RowKit Go.Joins
set_option linter.unusedVariables false

theorem own : ownKnob Try.prog.godebug = none := by kernel_rfl

set_option maxRecDepth 100000 in
theorem lifted (os : Os) (started : os.Started) (H : Type) (enc : TypeId × Value → H) :
    ReturnsInHanded {} Try.checked os 7 .any (Rows.smoothMatchesSpec.pre6 enc Try.prog Try.f7 Rows.smoothMatchesRow.domain false) (Rows.smoothMatchesSpec.post enc Try.prog Try.f7 false true false false) := by
  refine returnsInHanded_of_change (C := Try.checked) own started (by kernel_rfl) Try.func7
    (ChangeSpec.witness6 (enc := enc) (C := Try.checked) false ⟨#[], #[fldV 0 0 0 0 (.slice none 0 0), .int .i64 0], []⟩ 8 (by kernel_rfl) (by kernel_rfl) (by kernel_rfl) (by kernel_rfl)) ?_
  intro W base args ds gs before hval0 hW hcnd _
  have hval : ∀ (j : Nat) t v, Try.f7.params[j]? = some t → args[j]? = some v → Value.okWide Try.prog W .any base t v := hval0
  have hW' := hW
  have hplt : ∀ x ∈ before, x.block < W.heap.size := fun x hx => by simpa using hW'.lt x hx
  obtain ⟨p, q, hA0, hV, rfl, hfz, hnd⟩ := hW
  have hA : DataW.TrodAll enc Try.prog W 0 (fun _ => true) true Try.f7.params.toList args.toList ds p := hA0
  rw [Try.params7] at hA hval
  obtain ⟨v0, vs0, d0, ds0, p0, q0, hargs, rfl, rfl, h0, r0⟩ := trodAll_cons hA
  obtain ⟨v1, vs1, d1, ds1, p1, q1, rfl, rfl, rfl, h1, r1⟩ := trodAll_cons r0
  obtain ⟨rfl, rfl, rfl⟩ := trodAll_nil r1
  obtain rfl : args = #[v0, v1] := by cases args; simp_all
  obtain ⟨rfl, rfl⟩ := trodVars_none hV
  obtain ⟨X, Y, W0, H0, s, rfl, hs⟩ := open_field (hval 0 27 v0 rfl rfl) h0
  obtain ⟨m, rfl, rfl, rfl, wm⟩ := open_int Try.underlying3 (hval 1 3 v1 rfl rfl) h1
  have hlt : ∀ x ∈ p0, x.block < W.heap.size := fun x hx => hplt x (by simp [hx])
  clear hA0 hval0 hplt
  simp only [List.append_nil] at hW'
  refine (smoothMatch_any X Y W0 H0 s m W (fun W' hb => fit_any (hs.stay hb))).mono fun e W' ⟨he, hb⟩ => ?_
  subst he
  exact ⟨_, rfl, _, _, _, [], _, [], hW', trodAll_cons_mk (shut_bool Try.underlying4 _) trodAll_mk0, trodAll_cons_mk (Below.trod laidOut (by kernel_rfl) (of_decide_eq_true (by kernel_rfl)) h0 hb hlt) (trodAll_cons_mk (shut_int Try.underlying3 wm) trodAll_mk0), rfl, hb.frame _, fun h => by cases h⟩

theorem over : Rows.smoothMatchesRow.holds Try.pinned (OpenSpec.ofChange Rows.smoothMatchesSpec) :=
  OpenClaim.holds_of_wide 7 Try.f7 rfl rfl rfl rfl rfl rfl rfl ⟨rfl, rfl, rfl, rfl, rfl⟩ rfl rfl rfl rfl rfl (by kernel_rfl) Try.func7 (by kernel_rfl)
    (of_decide_eq_true (by kernel_rfl)) (by unfold Func.isWrapper; rw [if_neg (of_decide_eq_false (by kernel_rfl))]; exact ⟨rfl, rfl⟩)
    (fun os started H enc _ => lifted os started H enc)

theorem proved : Rows.SmoothMatchesSaid :=
  over
#print axioms proved
end Go.Proofs.Ytdbponidkodmfaa.smoothMatches
