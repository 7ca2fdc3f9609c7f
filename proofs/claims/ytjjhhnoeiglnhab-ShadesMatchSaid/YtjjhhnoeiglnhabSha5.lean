/- Contracts: inclines, normal, greater of the reference; the closures of Shade on both sides. -/
import Derived.Test.YtjjhhnoeiglnhabSha4
namespace Go.Proofs.Ytjjhhnoeiglnhab
open Go.RowKit Fl
set_option linter.unusedVariables false

theorem enters_Shade1 : Enters 100 := by intro args W; simp [callFunc, Try.func100, Try.f100]
theorem enters_rShade1 : Enters 103 := by intro args W; simp [callFunc, Try.func103, Try.f103]

/-- A cell that has all four neighbours: its place and its number. -/
structure InCell (X Y : Int) (W H n i : Nat) (x y : Int) : Prop where
  h1 : X + 1 ≤ x
  h2 : x + 1 < X + W
  h3 : Y + 1 ≤ y
  h4 : y + 1 < Y + H
  hi : (i : Int) = (y - Y) * W + (x - X)
  a0 : i < n
  a1 : i - W < n
  a2 : i + W < n
  a3 : i + 1 < n
  a4 : i - 1 < n

theorem in_cell {X Y : Int} {W H n i : Nat} {x y : Int} (hn : n = H * W) (h1 : X + 1 ≤ x) (h2 : x + 1 < X + W) (h3 : Y + 1 ≤ y) (h4 : y + 1 < Y + H) (hi : (i : Int) = (y - Y) * W + (x - X)) : InCell X Y W H n i x y := by
  have q0 : (W : Int) ≤ (y - Y) * W := by
    have := Int.mul_le_mul_of_nonneg_right (show (1 : Int) ≤ y - Y by omega) (show (0 : Int) ≤ W by omega); omega
  have q1 : (y - Y) * W ≤ (n : Int) - 2 * W := by
    have a : (y - Y) * W ≤ ((H : Int) - 2) * W := Int.mul_le_mul_of_nonneg_right (by omega) (by omega)
    have b : ((H : Int) - 2) * W = (n : Int) - 2 * W := by rw [hn, Int.sub_mul]; simp
    omega
  exact ⟨h1, h2, h3, h4, hi, by omega, by omega, by omega, by omega, by omega⟩

set_option maxHeartbeats 1000000 in
theorem inclines_any (X Y : Int) (W H n b cap i : Nat) (v : Nat → Nat) (x y : Int) (w : World) (h0 : checkR X Y W H = 0) (hn : n = H * W) (hc : FlAt w b 0 n v) (hh : allB n (fun i => hgtB (v i)) = true) (I : InCell X Y W H n i x y) :
    Calls Try.prog 78 #[fldV X Y W H (.slice (some ⟨b, 0, none⟩) n cap), .int .i64 x, .int .i64 y] w fun e w' => e = .returned (.tuple #[.float .f32 (riseW (v (i + 1)) (v (i - 1))), .float .f32 (riseW (v (i + W)) (v (i - W)))]) ∧ Below w.heap.size w w' := by
  have zb : b < w.heap.size := World.block_lt_of_cell? w _ (hc i I.a0)
  have AR := Lib.hid (fun W' (hb : Below w.heap.size w W') => around_any X Y W H n b cap i v x y W' h0 hn (flAt_congr hc (hb.block _ zb)) I.h1 I.h2 I.h3 I.h4 I.hi)
  obtain ⟨d, r, A⟩ := rise_parts (allB_iff.1 hh _ I.a3) (allB_iff.1 hh _ I.a4)
  obtain ⟨d', r', B⟩ := rise_parts (allB_iff.1 hh _ I.a2) (allB_iff.1 hh _ I.a1)
  rw [A.w, B.w]
  have S1 := Lib.hid (fun w => refSub_any 21 _ _ d A.d2 A.d1 w)
  have M1 := Lib.hid (fun w => refMul_any 21 d _ r A.r2 A.r1 w)
  have S2 := Lib.hid (fun w => refSub_any 21 _ _ d' B.d2 B.d1 w)
  have M2 := Lib.hid (fun w => refMul_any 21 d' _ r' B.r2 B.r1 w)
  clear A B I hc hh h0 hn zb
  generalize v i = v0 at *
  generalize v (i - W) = v1 at *
  generalize v (i + W) = v2 at *
  generalize v (i + 1) = v3 at *
  generalize v (i - 1) = v4 at *
  go_enter Try.func78, Try.ntmps78
  go_wp2_with (first | (go_at_call 85; refine (AR.out _ (by repeat (first | exact Below.refl _ _ | refine Below.alloc ?_ (by first | omega | (simp; done) | (simp; omega)) _ | refine Below.setCell ?_ (by first | omega | (simp; done) | (simp; omega)) _ | refine Below.drew ?_))).mono ?_; rintro e w2 ⟨rfl, hb2⟩; have hB2 : Below w.heap.size w w2 := Below.trans (by repeat (first | exact Below.refl _ _ | refine Below.alloc ?_ (by first | omega | (simp; done) | (simp; omega)) _ | refine Below.setCell ?_ (by first | omega | (simp; done) | (simp; omega)) _ | refine Below.drew ?_)) (Below.mono hb2 (by first | omega | (simp; done) | (simp; omega))); clear hb2) | (go_at_call 86; (with_reducible refine (S1.out _).mono ?_); rintro e w' ⟨rfl, rfl⟩) | (go_at_call 86; (with_reducible refine (S2.out _).mono ?_); rintro e w' ⟨rfl, rfl⟩) | (go_at_call 81; (with_reducible refine (M1.out _).mono ?_); rintro e w' ⟨rfl, rfl⟩) | (go_at_call 81; (with_reducible refine (M2.out _).mono ?_); rintro e w' ⟨rfl, rfl⟩))
  go_ret2
  exact ⟨rfl, hB2⟩

set_option maxHeartbeats 1000000 in
theorem rnormal_any (X Y : Int) (W H n b cap i : Nat) (v : Nat → Nat) (x y : Int) (w : World) (h0 : checkR X Y W H = 0) (hn : n = H * W) (hc : FlAt w b 0 n v) (hh : allB n (fun i => hgtB (v i)) = true) (I : InCell X Y W H n i x y)
    {p q u m : Nat} {a cc : Int} {X' Z : Nat} (N : NrmAt (riseW (v (i + 1)) (v (i - 1))) (riseW (v (i + W)) (v (i - W))) p q u m a X' Z cc) {nx ny nz : Nat}
    (e1 : floatBits .quo .f32 (negW (riseW (v (i + 1)) (v (i - 1)))) (rootW m) = some nx) (t1 : Same2 .quo 21 (negW (riseW (v (i + 1)) (v (i - 1)))) (rootW m))
    (e2 : floatBits .quo .f32 (negW (riseW (v (i + W)) (v (i - W)))) (rootW m) = some ny) (t2 : Same2 .quo 21 (negW (riseW (v (i + W)) (v (i - W)))) (rootW m))
    (e3 : floatBits .quo .f32 1065353216 (rootW m) = some nz) (t3 : Same2 .quo 0 1065353216 (rootW m)) :
    Calls Try.prog 95 #[fldV X Y W H (.slice (some ⟨b, 0, none⟩) n cap), .int .i64 x, .int .i64 y] w fun e w' => e = .returned (.tuple #[.float .f32 nx, .float .f32 ny, .float .f32 nz]) ∧ Below w.heap.size w w' := by
  have zb : b < w.heap.size := World.block_lt_of_cell? w _ (hc i I.a0)
  have IC := Lib.hid (fun W' (hb : Below w.heap.size w W') => inclines_any X Y W H n b cap i v x y W' h0 hn (flAt_congr hc (hb.block _ zb)) hh I)
  have M1 := Lib.hid (fun w => refMul_any 42 _ _ p N.p2 N.p1 w)
  have M2 := Lib.hid (fun w => refMul_any 42 _ _ q N.q2 N.q1 w)
  have A1 := Lib.hid (fun w => refAdd_any 43 p q u N.s2 N.s1 w)
  have A2 := Lib.hid (fun w => refAdd_any 44 u _ m N.u2 N.u1 w)
  have RT := Lib.hid (fun w => refRoot_any N.rt w)
  have D1 := Lib.hid (fun w => refDiv_any 21 _ _ nx t1 e1 w)
  have D2 := Lib.hid (fun w => refDiv_any 21 _ _ ny t2 e2 w)
  have D3 := Lib.hid (fun w => refDiv_any 0 _ _ nz t3 e3 w)
  have ng := run_neg_f32
  clear N e1 e2 e3 t1 t2 t3 I hc hh h0 hn zb
  generalize riseW (v (i + 1)) (v (i - 1)) = dx at *
  generalize riseW (v (i + W)) (v (i - W)) = dy at *
  generalize rootW m = mm at *
  go_enter Try.func95, Try.ntmps95
  go_wp2_with (first | (go_at_call 78; refine (IC.out _ (by repeat (first | exact Below.refl _ _ | refine Below.alloc ?_ (by first | omega | (simp; done) | (simp; omega)) _ | refine Below.setCell ?_ (by first | omega | (simp; done) | (simp; omega)) _ | refine Below.drew ?_))).mono ?_; rintro e w2 ⟨rfl, hb2⟩; have hB2 : Below w.heap.size w w2 := Below.trans (by repeat (first | exact Below.refl _ _ | refine Below.alloc ?_ (by first | omega | (simp; done) | (simp; omega)) _ | refine Below.setCell ?_ (by first | omega | (simp; done) | (simp; omega)) _ | refine Below.drew ?_)) (Below.mono hb2 (by first | omega | (simp; done) | (simp; omega))); clear hb2) | (go_at_call 81; (with_reducible refine (M1.out _).mono ?_); rintro e w' ⟨rfl, rfl⟩) | (go_at_call 81; (with_reducible refine (M2.out _).mono ?_); rintro e w' ⟨rfl, rfl⟩) | (go_at_call 80; (with_reducible refine (A1.out _).mono ?_); rintro e w' ⟨rfl, rfl⟩) | (go_at_call 80; (with_reducible refine (A2.out _).mono ?_); rintro e w' ⟨rfl, rfl⟩) | (go_at_call 79; refine (RT.out _).mono ?_; rintro e w' ⟨rfl, rfl⟩) | (go_at_call 105; (with_reducible refine (D1.out _).mono ?_); rintro e w' ⟨rfl, rfl⟩) | (go_at_call 105; (with_reducible refine (D2.out _).mono ?_); rintro e w' ⟨rfl, rfl⟩) | (go_at_call 105; (with_reducible refine (D3.out _).mono ?_); rintro e w' ⟨rfl, rfl⟩))
  refine bodyPost_ret (v := .tuple #[.float .f32 nx, .float .f32 ny, .float .f32 nz]) (by simp [results, Try.results95, go_sem]) rfl ?_
  exact ⟨rfl, hB2⟩

set_option maxHeartbeats 400000 in
theorem rgreater_zero (x : Nat) {a : Int} (hv : vS x = some a) (w : World) :
    Calls Try.prog 104 #[.float .f32 0, .float .f32 x] w fun e w' => e = .returned (.float .f32 (shdW x)) ∧ w = w' := by
  unfold shdW
  cases c : (FloatKind.f32.format.order 0 x == some .lt) with
  | true =>
    have g : (FloatKind.f32.format.order x 0 == some .gt) = true := by
      rw [f32f, lss_val vS_zero hv] at c; rw [f32f, gtr_val hv vS_zero]; simpa using c
    rw [if_pos rfl]
    go_enter Try.func104, Try.ntmps104
    go_wp2
    go_ret
    exact ⟨rfl, rfl⟩
  | false =>
    have g : (FloatKind.f32.format.order x 0 == some .gt) = false := by
      rw [f32f, lss_val vS_zero hv] at c; rw [f32f, gtr_val hv vS_zero]; simpa using c
    rw [if_neg (by simp)]
    go_enter Try.func104, Try.ntmps104
    go_wp2
    go_ret
    exact ⟨rfl, rfl⟩

/-- The builtin max of 0 and a single. -/
theorem run_max_zero (ts : Array TypeId) (t : TypeId) (x : Nat) {a : Int} (hv : vS x = some a) (w : World) :
    (Builtin.max_ ts t #[.float .f32 0, .float .f32 x]).run Try.prog w = .ok (.float .f32 (shdW x)) w := by
  have o := order_val vS_zero hv
  have o' : FloatKind.f32.format.order 0 x = some (compare 0 a) := o
  unfold shdW
  rw [o']
  show (([Value.float .f32 x]).foldlM Builtin.max2 (Value.float .f32 0)).run Try.prog w = _
  simp only [List.foldlM]
  have m : Builtin.max2 (.float .f32 0) (.float .f32 x) = pure (.float .f32 (if (some (compare 0 a) == some Ordering.lt) = true then x else 0)) := by
    unfold Builtin.max2
    dsimp only
    rw [o']
    rcases h : compare 0 a with _ | _ | _
    · rfl
    · rfl
    · rfl
  rw [m]
  rfl
end Go.Proofs.Ytjjhhnoeiglnhab
