/- Contracts: rise, square, normal, inner of the program. -/
import Derived.Test.YtjjhhnoeiglnhabSha2
namespace Go.Proofs.Ytjjhhnoeiglnhab
open Go.RowKit Fl
set_option linter.unusedVariables false

theorem dwBox (w : World) (o : Obj) (k : Nat) {w' : World} (h : w' = (w.alloc o).drewN k) : Below w.heap.size w w' := by
  rw [h]
  exact ((Below.refl _ _).alloc (Nat.le_refl _) _).trans ((below_drewN _ _).mono (by simp))

set_option maxHeartbeats 1000000 in
theorem rise_any (c n ww e s : Nat) (w : World) (hn : hgtB n = true) (hw : hgtB ww = true) (he : hgtB e = true) (hs : hgtB s = true) :
    Calls Try.prog 171 #[crossV c n ww e s] w fun e' w' => e' = .returned (.tuple #[.float .f32 (riseW e ww), .float .f32 (riseW s n)]) ∧ Below w.heap.size w w' := by
  obtain ⟨d, r, A⟩ := rise_parts he hw
  obtain ⟨d', r', B⟩ := rise_parts hs hn
  rw [A.w, B.w]
  have a1 := fun (W : World) => run_float_arith (P := Try.prog) W .sub 37 .f32 e ww d A.d1
  have a2 := fun (W : World) => run_float_arith (P := Try.prog) W .mul 37 .f32 d 1056964608 r A.r1
  have a3 := fun (W : World) => run_float_arith (P := Try.prog) W .sub 37 .f32 s n d' B.d1
  have a4 := fun (W : World) => run_float_arith (P := Try.prog) W .mul 37 .f32 d' 1056964608 r' B.r1
  clear A B hn hw he hs
  go_enter Try.func171, Try.ntmps171
  go_wp2
  go_quiet (fail)
  go_wp2
  go_ret2
  exact ⟨rfl, dwBox w _ _ rfl⟩

set_option maxHeartbeats 1000000 in
theorem square_cross (c n ww e s : Nat) (w : World) (hn : hgtB n = true) (hw : hgtB ww = true) (he : hgtB e = true) (hs : hgtB s = true) {p q u v : Nat} {a cc : Int} {X Z : Nat} (N : NrmAt (riseW e ww) (riseW s n) p q u v a X Z cc) :
    Calls Try.prog 164 #[crossV c n ww e s] w fun e' w' => e' = .returned (.float .f32 u) ∧ Below w.heap.size w w' := by
  have RI := Lib.hid (fun w => rise_any c n ww e s w hn hw he hs)
  have a1 := fun (W : World) => run_float_arith (P := Try.prog) W .mul 37 .f32 _ _ p N.p1
  have a2 := fun (W : World) => run_float_arith (P := Try.prog) W .mul 37 .f32 _ _ q N.q1
  have a3 := fun (W : World) => run_float_arith (P := Try.prog) W .add 37 .f32 p q u N.s1
  clear N
  generalize riseW e ww = dx at *
  generalize riseW s n = dy at *
  clear hn hw he hs
  go_enter Try.func164, Try.ntmps164
  go_wp2_with (first | (go_at_call 171; refine (RI.out _).mono ?_; rintro e2 w2 ⟨rfl, hb2⟩; have hB2 : Below w.heap.size w w2 := Below.trans (by repeat (first | exact Below.refl _ _ | refine Below.alloc ?_ (by first | omega | (simp; done) | (simp; omega)) _ | refine Below.setCell ?_ (by first | omega | (simp; done) | (simp; omega)) _ | refine Below.drew ?_)) (Below.mono hb2 (by first | omega | (simp; done) | (simp; omega))); clear hb2))
  go_ret
  exact ⟨rfl, hB2⟩

theorem run_neg_f32 (w : World) (b : Nat) : (Op.unary .neg (.float .f32 b)).run Try.prog w = .ok (.float .f32 (negW b)) w := rfl

set_option maxHeartbeats 1000000 in
theorem normal_any (c n ww e s : Nat) (w : World) (hn : hgtB n = true) (hw : hgtB ww = true) (he : hgtB e = true) (hs : hgtB s = true) {p q u v : Nat} {a cc : Int} {X Z : Nat} (N : NrmAt (riseW e ww) (riseW s n) p q u v a X Z cc) {nx ny nz : Nat}
    (e1 : floatBits .quo .f32 (negW (riseW e ww)) (rootW v) = some nx) (e2 : floatBits .quo .f32 (negW (riseW s n)) (rootW v) = some ny) (e3 : floatBits .quo .f32 1065353216 (rootW v) = some nz) :
    Calls Try.prog 94 #[crossV c n ww e s] w fun e' w' => e' = .returned (.tuple #[.float .f32 nx, .float .f32 ny, .float .f32 nz]) ∧ Below w.heap.size w w' := by
  have RI := Lib.hid (fun w => rise_any c n ww e s w hn hw he hs)
  have SQ := Lib.hid (fun w => square_cross c n ww e s w hn hw he hs N)
  have RT := Lib.hid (fun w => root_any N.rt w)
  have a1 := fun (W : World) => run_float_arith (P := Try.prog) W .add 37 .f32 u 1065353216 v N.u1
  have a2 := fun (W : World) => run_float_arith (P := Try.prog) W .quo 37 .f32 _ _ nx e1
  have a3 := fun (W : World) => run_float_arith (P := Try.prog) W .quo 37 .f32 _ _ ny e2
  have a4 := fun (W : World) => run_float_arith (P := Try.prog) W .quo 37 .f32 _ _ nz e3
  have ng := run_neg_f32
  clear N e1 e2 e3
  generalize riseW e ww = dx at *
  generalize riseW s n = dy at *
  generalize rootW v = m at *
  clear hn hw he hs
  go_enter Try.func94, Try.ntmps94
  go_wp2_with (first | (go_at_call 171; refine (RI.out _).mono ?_; rintro e2 w2 ⟨rfl, hb2⟩; have HC2 := Lib.hid (blkStay (b := w.heap.size) (o := .cells #[.float .f32 c, .float .f32 n, .float .f32 ww, .float .f32 e, .float .f32 s] 98) (by ((simp only [heap_alloc_get, if_true]) <;> ((repeat' split) <;> first | rfl | omega))) hb2); have hB2 : Below w.heap.size w w2 := Below.trans (by repeat (first | exact Below.refl _ _ | refine Below.alloc ?_ (by first | omega | (simp; done) | (simp; omega)) _ | refine Below.setCell ?_ (by first | omega | (simp; done) | (simp; omega)) _ | refine Below.drew ?_)) (Below.mono hb2 (by first | omega | (simp; done) | (simp; omega))); obtain ⟨cC, fC, zC⟩ := blkC HC2.out; clear hb2) | (go_at_call 164; refine (SQ.out _).mono ?_; rintro e3 w3 ⟨rfl, hb3⟩; have hB3 := hB2.trans (hb3.mono hB2.size); clear hb3) | (go_at_call 163; refine (RT.out _).mono ?_; rintro e' w' ⟨rfl, rfl⟩))
  refine bodyPost_ret (v := .tuple #[.float .f32 nx, .float .f32 ny, .float .f32 nz]) (by simp [results, Try.results94, go_sem]) rfl ?_
  exact ⟨rfl, hB3⟩

/-- A region's four cells stored into block b. -/
abbrev set4 (wr : World) (b : Nat) (u1 u2 u3 u4 : Value) : World := (((wr.setCell ⟨b, 0, none⟩ u1).setCell ⟨b, 1, none⟩ u2).setCell ⟨b, 2, none⟩ u3).setCell ⟨b, 3, none⟩ u4
theorem set4_size (wr : World) (b : Nat) (u1 u2 u3 u4 : Value) : (set4 wr b u1 u2 u3 u4).heap.size = wr.heap.size := by simp [set4]
theorem set4_self {wr : World} {b : Nat} {a1 a2 a3 a4 : Value} {t : TypeId} (u1 u2 u3 u4 : Value) (h : wr.heap[b]? = some (.cells #[a1, a2, a3, a4] t (0, 0))) :
    (set4 wr b u1 u2 u3 u4).heap[b]? = some (.cells #[u1, u2, u3, u4] t (0, 0)) := by
  have h1 := heap_setCell_same wr b 0 _ _ u1 h
  have h2 := heap_setCell_same _ b 1 _ _ u2 h1
  have h3 := heap_setCell_same _ b 2 _ _ u3 h2
  exact heap_setCell_same _ b 3 _ _ u4 h3

/-- The region without its rim, and the error where nothing is left. -/
def innB (W H : Int) : Bool := decide (3 ≤ W ∧ 3 ≤ H)

set_option maxHeartbeats 1000000 in
theorem inner_any (X Y : Int) (W H n b cap : Nat) (v : Nat → Nat) (w : World) (h0 : checkR X Y W H = 0) (hn : n = W * H) (hc : FlAt w b 0 n v) (hh : allB n (fun i => hgtB (v i)) = true) :
    Calls Try.prog 87 #[fldV X Y W H (.slice (some ⟨b, 0, none⟩) n cap)] w fun e w' => e = .returned (.tuple #[if innB W H then reg (X + 1) (Y + 1) (W - 2) (H - 2) else reg 0 0 0 0, .int .i64 (if innB W H then 0 else 10)]) ∧ Below w.heap.size w w' := by
  obtain ⟨b1, b2, b3, b4, b5, b6, b7, b8, b9⟩ := checkR_zero h0
  have h1 : 1 ≤ n := by rw [hn]; exact Nat.mul_pos (by omega) (by omega)
  have hlt : b < w.heap.size := World.block_lt_of_cell? w _ (hc 0 h1)
  have CK := Lib.hid (fun W' (hb : Below w.heap.size w W') => check_ok X Y W H n b cap v W' h0 hn (flAt_congr hc (hb.block _ hlt)) hh)
  have SH := Lib.hid (fun w => shrink_any X Y W H w (by omega) (by omega) (by omega) (by omega) (by omega) (by omega) (by omega) (by omega))
  unfold innB
  cases c : decide (3 ≤ (W : Int) ∧ 3 ≤ (H : Int)) with
  | true =>
    rw [c] at SH
    clear h0 hn hc hh c b1 b2 b3 b4 b5 b6 b7 b8 b9 h1 hlt
    go_enter Try.func87, Try.ntmps87
    go_wp2_with (first | (go_at_call 107; refine (CK.out _ (by repeat (first | exact Below.refl _ _ | refine Below.alloc ?_ (by first | omega | (simp; done) | (simp; omega)) _ | refine Below.setCell ?_ (by first | omega | (simp; done) | (simp; omega)) _ | refine Below.drew ?_))).mono ?_; rintro e w2 ⟨rfl, hb2⟩; have HF2 := Lib.hid (blkStay (b := w.heap.size) (o := fldO X Y W H (.slice (some ⟨b, 0, none⟩) n cap)) (by ((simp only [heap_alloc_get, heap_size_alloc, if_true]) <;> ((repeat' split) <;> first | rfl | omega))) hb2); have HS2 := Lib.hid (blkStay (b := w.heap.size + 1) (o := regObj 0 0 0 0) (by ((simp only [heap_alloc_get, heap_size_alloc, if_true]) <;> ((repeat' split) <;> first | rfl | omega))) hb2); have hB2 : Below w.heap.size w w2 := Below.trans (by repeat (first | exact Below.refl _ _ | refine Below.alloc ?_ (by first | omega | (simp; done) | (simp; omega)) _ | refine Below.setCell ?_ (by first | omega | (simp; done) | (simp; omega)) _ | refine Below.drew ?_)) (Below.mono hb2 (by first | omega | (simp; done) | (simp; omega))); obtain ⟨cF, fF, zF⟩ := blkC HF2.out; clear hb2) | (go_at_call 169; refine (SH.out _).mono ?_; rintro e w3 ⟨rfl, hb3⟩; have HS3 := Lib.hid (blkStay HS2.out hb3); have hB3 := hB2.trans (hb3.mono hB2.size); clear hb3 cF fF zF HF2; obtain ⟨cS, fS, zS⟩ := blkC HS3.out))
    have HRES := fun (u1 u2 u3 u4 : Value) (o : Obj) => (blkC ((heap_alloc_old (set4 w3 (w.heap.size + 1) u1 u2 u3 u4) o (by rw [set4_size]; exact zS)).trans (set4_self u1 u2 u3 u4 HS3.out))).1
    simp only [set4] at HRES
    refine bodyPost_ret (v := .tuple #[reg (X + 1) (Y + 1) (W - 2) (H - 2), .int .i64 0]) (by simp [results, Try.results87, go_sem, HRES]) rfl ?_
    exact ⟨rfl, by repeat (first | exact hB3 | refine Below.alloc ?_ (by first | omega | (simp; done) | (simp; omega)) _ | refine Below.setCell ?_ (by first | omega | (simp; done) | (simp; omega)) _)⟩
  | false =>
    rw [c] at SH
    clear h0 hn hc hh c b1 b2 b3 b4 b5 b6 b7 b8 b9 h1 hlt
    go_enter Try.func87, Try.ntmps87
    go_wp2_with (first | (go_at_call 107; refine (CK.out _ (by repeat (first | exact Below.refl _ _ | refine Below.alloc ?_ (by first | omega | (simp; done) | (simp; omega)) _ | refine Below.setCell ?_ (by first | omega | (simp; done) | (simp; omega)) _ | refine Below.drew ?_))).mono ?_; rintro e w2 ⟨rfl, hb2⟩; have HF2 := Lib.hid (blkStay (b := w.heap.size) (o := fldO X Y W H (.slice (some ⟨b, 0, none⟩) n cap)) (by ((simp only [heap_alloc_get, heap_size_alloc, if_true]) <;> ((repeat' split) <;> first | rfl | omega))) hb2); have HS2 := Lib.hid (blkStay (b := w.heap.size + 1) (o := regObj 0 0 0 0) (by ((simp only [heap_alloc_get, heap_size_alloc, if_true]) <;> ((repeat' split) <;> first | rfl | omega))) hb2); have hB2 : Below w.heap.size w w2 := Below.trans (by repeat (first | exact Below.refl _ _ | refine Below.alloc ?_ (by first | omega | (simp; done) | (simp; omega)) _ | refine Below.setCell ?_ (by first | omega | (simp; done) | (simp; omega)) _ | refine Below.drew ?_)) (Below.mono hb2 (by first | omega | (simp; done) | (simp; omega))); obtain ⟨cF, fF, zF⟩ := blkC HF2.out; clear hb2) | (go_at_call 169; refine (SH.out _).mono ?_; rintro e w3 ⟨rfl, hb3⟩; have HS3 := Lib.hid (blkStay HS2.out hb3); have hB3 := hB2.trans (hb3.mono hB2.size); clear hb3 cF fF zF HF2; obtain ⟨cS, fS, zS⟩ := blkC HS3.out))
    have HRES := fun (u1 u2 u3 u4 : Value) (o : Obj) => (blkC ((heap_alloc_old (set4 w3 (w.heap.size + 1) u1 u2 u3 u4) o (by rw [set4_size]; exact zS)).trans (set4_self u1 u2 u3 u4 HS3.out))).1
    simp only [set4] at HRES
    refine bodyPost_ret (v := .tuple #[reg 0 0 0 0, .int .i64 10]) (by simp [results, Try.results87, go_sem, HRES]) rfl ?_
    exact ⟨rfl, by repeat (first | exact hB3 | refine Below.alloc ?_ (by first | omega | (simp; done) | (simp; omega)) _ | refine Below.setCell ?_ (by first | omega | (simp; done) | (simp; omega)) _)⟩
end Go.Proofs.Ytjjhhnoeiglnhab
