/- The closures of Shade on both sides. -/
import Derived.Test.YtjjhhnoeiglnhabSha5
namespace Go.Proofs.Ytjjhhnoeiglnhab
open Go.RowKit Fl
set_option linter.unusedVariables false

/-- An integer in a box. -/
abbrev inObj (z : Int) : Obj := .cells #[.int .i64 z] 3
/-- What Shade makes of the cell number j of the region without the rim; i is the cell's number in the field. -/
def shaW (M : Nat) (lx ly lz : Int) (v : Nat → Nat) (W i : Nat) : Nat := shdW (litW M lx ly lz (riseW (v (i + 1)) (v (i - 1))) (riseW (v (i + W)) (v (i - W))))
def rimI (W : Nat) (j : Nat) : Nat := (j / (W - 2) + 1) * W + (j % (W - 2) + 1)
def shaF (M : Nat) (lx ly lz : Int) (v : Nat → Nat) (W : Nat) (j : Nat) : Nat := shaW M lx ly lz v W (rimI W j)

structure ShaAt (M : Nat) (lx ly lz : Int) (v : Nat → Nat) (W i p q u m : Nat) (a : Int) (X Z : Nat) (c : Int) (nx ny nz e f s d t r : Nat) : Prop where
  nm : NrmAt (riseW (v (i + 1)) (v (i - 1))) (riseW (v (i + W)) (v (i - W))) p q u m a X Z c
  lt : LitAt M lx ly lz (riseW (v (i + 1)) (v (i - 1))) (riseW (v (i + W)) (v (i - W))) (rootW m) nx ny nz e f s d t r
  w : shaW M lx ly lz v W i = shdW r

theorem sha_parts {M : Nat} {lx ly lz : Int} {v : Nat → Nat} {X Y : Int} {W H n i : Nat} {x y : Int} (hh : allB n (fun i => hgtB (v i)) = true) (I : InCell X Y W H n i x y) (hM : LenOk M) (l1 : lx.natAbs ≤ 1000) (l2 : ly.natAbs ≤ 1000) (l3 : lz.natAbs ≤ 1000) :
    ∃ p q u m a X' Z c nx ny nz e f s d t r, ShaAt M lx ly lz v W i p q u m a X' Z c nx ny nz e f s d t r := by
  obtain ⟨_, r1, A⟩ := rise_parts (allB_iff.1 hh _ I.a3) (allB_iff.1 hh _ I.a4)
  obtain ⟨_, r2, B⟩ := rise_parts (allB_iff.1 hh _ I.a2) (allB_iff.1 hh _ I.a1)
  have bx : Bd 21 (riseW (v (i + 1)) (v (i - 1))) := by rw [A.w]; exact A.bd
  have by' : Bd 21 (riseW (v (i + W)) (v (i - W))) := by rw [B.w]; exact B.bd
  have lx' : riseW (v (i + 1)) (v (i - 1)) < 4294967296 := by rw [A.w]; exact A.lt
  have ly' : riseW (v (i + W)) (v (i - W)) < 4294967296 := by rw [B.w]; exact B.lt
  obtain ⟨p, q, u, m, a, X', Z, c, N⟩ := nrm_parts bx by'
  obtain ⟨nx, ny, nz, e, f, s, d, t, r, L⟩ := lit_parts bx by' lx' ly' N.w N.rt.val N.c1 hM l1 l2 l3
  exact ⟨p, q, u, m, a, X', Z, c, nx, ny, nz, e, f, s, d, t, r, N, L, by unfold shaW; rw [L.w]⟩

/-- What Shade's closures hold: the field, the direction, its length. -/
structure ShCaps (w : World) (X Y : Int) (W H n b cap : Nat) (v : Nat → Nat) (p pm : Nat) (lx ly lz : Int) (M : Nat) : Prop where
  fld : w.heap[p]? = some (fldO X Y W H (.slice (some ⟨b, 0, none⟩) n cap))
  k1 : w.heap[p + 1]? = some (inObj lx)
  k2 : w.heap[p + 1 + 1]? = some (inObj ly)
  k3 : w.heap[p + 1 + 1 + 1]? = some (inObj lz)
  km : w.heap[pm]? = some (flObj M)
  row : FlAt w b 0 n v
theorem ShCaps.stay {w w' : World} {X Y : Int} {W H n b cap : Nat} {v : Nat → Nat} {p pm : Nat} {lx ly lz : Int} {M : Nat} (h : ShCaps w X Y W H n b cap v p pm lx ly lz M) (hn : 1 ≤ n) (hb : Below w.heap.size w w') : ShCaps w' X Y W H n b cap v p pm lx ly lz M :=
  ⟨blkStay h.fld hb, blkStay h.k1 hb, blkStay h.k2 hb, blkStay h.k3 hb, blkStay h.km hb, flAt_congr h.row (hb.block _ (World.block_lt_of_cell? w _ (h.row 0 hn)))⟩

theorem rim_num {X Y x y : Int} {W j : Nat} (hW : 3 ≤ W) (h1 : X + 1 ≤ x) (h2 : x < X + 1 + ((W : Int) - 2)) (h3 : Y + 1 ≤ y) (hj : (j : Int) = (y - (Y + 1)) * ((W : Int) - 2) + (x - (X + 1))) : ((rimI W j : Nat) : Int) = (y - Y) * W + (x - X) := by
  obtain ⟨W2, e2⟩ : ∃ W2 : Nat, W2 = W - 2 := ⟨_, rfl⟩
  have e3 : ((W : Int) - 2) = (W2 : Int) := by omega
  rw [e3] at hj h2
  obtain ⟨ex, ey⟩ := place_of (X := X + 1) (Y := Y + 1) (x := x) (y := y) (W := W2) (i := j) (by omega) h1 h2 h3 hj
  unfold rimI
  rw [← e2]
  have : (((j / W2 + 1) * W + (j % W2 + 1) : Nat) : Int) = (((j / W2 : Nat) : Int) + 1) * W + (((j % W2 : Nat) : Int) + 1) := by simp
  rw [this, show ((j / W2 : Nat) : Int) + 1 = y - Y by omega, show ((j % W2 : Nat) : Int) + 1 = x - X by omega]

set_option maxHeartbeats 4000000 in
theorem shade1_any (X Y : Int) (W H n b cap : Nat) (v : Nat → Nat) (p pm : Nat) (lx ly lz : Int) (M : Nat) (w : World) (K : ShCaps w X Y W H n b cap v p pm lx ly lz M) (h0 : checkR X Y W H = 0) (hn : n = H * W) (hcap : n ≤ cap) (hcp : cap ≤ 9223372036854775807) (hh : allB n (fun i => hgtB (v i)) = true)
    (hW : 3 ≤ W) (hH : 3 ≤ H) (hM : LenOk M) (l1 : lx.natAbs ≤ 1000) (l2 : ly.natAbs ≤ 1000) (l3 : lz.natAbs ≤ 1000) :
    Clos2 100 #[.pointer (some ⟨p, 0, none⟩), .pointer (some ⟨p + 1, 0, none⟩), .pointer (some ⟨p + 1 + 1, 0, none⟩), .pointer (some ⟨p + 1 + 1 + 1, 0, none⟩), .pointer (some ⟨pm, 0, none⟩)] (X + 1) (Y + 1) ((W : Int) - 2) ((H : Int) - 2) (shaF M lx ly lz v W) w := by
  intro x y j w2 h1 h2 h3 h4 hj hb
  have n1 : 1 ≤ n := by rw [hn]; exact Nat.mul_pos (by omega) (by omega)
  have K2 := K.stay n1 hb
  have hi := rim_num hW h1 h2 h3 hj
  unfold shaF
  obtain ⟨i, hi'⟩ : ∃ i, rimI W j = i := ⟨_, rfl⟩
  rw [hi'] at hi ⊢
  have I := in_cell hn h1 (show x + 1 < X + W by omega) h3 (show y + 1 < Y + H by omega) hi
  obtain ⟨pp, q, u, m, a, X', Z, c, nx, ny, nz, e, f, s, d, t, r, S⟩ := sha_parts hh I hM l1 l2 l3
  rw [S.w]
  have zb : b < w2.heap.size := World.block_lt_of_cell? w2 _ (K2.row i I.a0)
  have CA := Lib.hid (fun W' (hb : Below w2.heap.size w2 W') => crossAt_any X Y W H n b cap i v x y W' h0 hn hcap hcp (flAt_congr K2.row (hb.block _ zb)) I.h1 I.h2 I.h3 I.h4 I.hi)
  have NO := Lib.hid (fun w => normal_any (v i) (v (i - W)) (v (i - 1)) (v (i + 1)) (v (i + W)) w (allB_iff.1 hh _ I.a1) (allB_iff.1 hh _ I.a4) (allB_iff.1 hh _ I.a3) (allB_iff.1 hh _ I.a2) S.nm S.lt.nx1 S.lt.ny1 S.lt.nz1)
  have a1 := fun (W : World) => run_float_arith (P := Try.prog) W .mul 37 .f32 nx _ e S.lt.a1
  have a2 := fun (W : World) => run_float_arith (P := Try.prog) W .mul 37 .f32 ny _ f S.lt.b1
  have a3 := fun (W : World) => run_float_arith (P := Try.prog) W .add 37 .f32 e f s S.lt.s1
  have a4 := fun (W : World) => run_float_arith (P := Try.prog) W .mul 37 .f32 nz _ d S.lt.d1
  have a5 := fun (W : World) => run_float_arith (P := Try.prog) W .add 37 .f32 s d t S.lt.t1
  have a6 := fun (W : World) => run_float_arith (P := Try.prog) W .quo 37 .f32 t M r S.lt.r1
  obtain ⟨ar, hr⟩ := S.lt.v
  have mx := fun (ts : Array TypeId) (t : TypeId) (W : World) => run_max_zero ts t r hr W
  have GF := Lib.hid K2.fld
  have G1 := Lib.hid K2.k1
  have G2 := Lib.hid K2.k2
  have G3 := Lib.hid K2.k3
  have GM := Lib.hid K2.km
  obtain ⟨cF, fF, zF⟩ := blkC GF.out
  clear S K K2 h0 hn hcap hcp hh hW hH hM l1 l2 l3 hb hi hi' I h1 h2 h3 h4 hj hr
  generalize v i = v0 at *
  generalize v (i - W) = v1 at *
  generalize v (i + W) = v2 at *
  generalize v (i + 1) = v3 at *
  generalize v (i - 1) = v4 at *
  go_enter Try.func100, Try.ntmps100
  go_wp2_with (first | (go_at_call 90; refine (CA.out _ (by repeat (first | exact Below.refl _ _ | refine Below.alloc ?_ (by first | omega | (simp; done) | (simp; omega)) _ | refine Below.setCell ?_ (by first | omega | (simp; done) | (simp; omega)) _ | refine Below.drew ?_))).mono ?_; rintro e' w3 ⟨rfl, hb3⟩; have B3 := Lib.hid hb3; clear cF fF zF) | (go_at_call 94; refine (NO.out _).mono ?_; rintro e' w4 ⟨rfl, hb4⟩; have B4 := Lib.hid (B3.out.trans (hb4.mono B3.out.size)); clear hb3 hb4; obtain ⟨d1, f1, z1⟩ := blkC (blkStay G1.out B4.out); obtain ⟨d2, f2, z2⟩ := blkC (blkStay G2.out B4.out); obtain ⟨d3, f3, z3⟩ := blkC (blkStay G3.out B4.out); obtain ⟨dM, fM, zM⟩ := blkC (blkStay GM.out B4.out)))
  go_ret
  exact ⟨rfl, B4.out⟩
end Go.Proofs.Ytjjhhnoeiglnhab
