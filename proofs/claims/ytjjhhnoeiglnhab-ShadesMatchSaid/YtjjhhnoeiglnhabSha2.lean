/- Contracts: shrink, crossAt, rise, square, normal of the program. -/
import Derived.Test.YtjjhhnoeiglnhabSha
import Derived.Test.YtjjhhnoeiglnhabPlace
import Derived.Test.YtjjhhnoeiglnhabRes
import Derived.RegionTactic
import Derived.ChangeAlike
import Derived.StillTailTactics
namespace Go.Proofs.Ytjjhhnoeiglnhab
open Go.RowKit Fl
set_option linter.unusedVariables false

set_option maxHeartbeats 1000000 in
theorem shrink_any (X Y W H : Int) (w : World) (x1 : -4194304 ≤ X) (x2 : X ≤ 4194304) (y1 : -4194304 ≤ Y) (y2 : Y ≤ 4194304) (w1 : 1 ≤ W) (w2 : W ≤ 512) (h1 : 1 ≤ H) (h2 : H ≤ 512) :
    Calls Try.prog 169 #[reg X Y W H, .int .i64 1] w fun e w' => e = .returned (.tuple #[reg (X + 1) (Y + 1) (W - 2) (H - 2), .bool (decide (3 ≤ W ∧ 3 ≤ H))]) ∧ Below w.heap.size w w' := by
  cases c1 : decide (2 < W) with
  | false =>
    have e : decide (3 ≤ W ∧ 3 ≤ H) = false := by simp at c1 ⊢; omega
    rw [e]
    clear e
    go_enter Try.func169, Try.ntmps169
    go_wp2
    go_region
    all_goals go_wp2
    all_goals refine bodyPost_ret (v := .tuple #[reg (X + 1) (Y + 1) (W - 2) (H - 2), .bool false]) (by simp [results, Try.results169, go_sem]) rfl ?_
    all_goals exact ⟨rfl, by repeat (first | exact Below.refl _ _ | refine Below.drew ?_ | refine Below.alloc ?_ (by simp; try omega) _ | refine Below.setCell ?_ (by simp; try omega) _)⟩
  | true =>
    cases c2 : decide (2 < H) with
    | false =>
      have e : decide (3 ≤ W ∧ 3 ≤ H) = false := by simp at c1 c2 ⊢; omega
      rw [e]
      clear e
      go_enter Try.func169, Try.ntmps169
      go_wp2
      go_region
      all_goals go_wp2
      all_goals refine bodyPost_ret (v := .tuple #[reg (X + 1) (Y + 1) (W - 2) (H - 2), .bool false]) (by simp [results, Try.results169, go_sem]) rfl ?_
      all_goals exact ⟨rfl, by repeat (first | exact Below.refl _ _ | refine Below.drew ?_ | refine Below.alloc ?_ (by simp; try omega) _ | refine Below.setCell ?_ (by simp; try omega) _)⟩
    | true =>
      have e : decide (3 ≤ W ∧ 3 ≤ H) = true := by simp at c1 c2 ⊢; omega
      rw [e]
      clear e
      go_enter Try.func169, Try.ntmps169
      go_wp2
      go_region
      all_goals go_wp2
      all_goals refine bodyPost_ret (v := .tuple #[reg (X + 1) (Y + 1) (W - 2) (H - 2), .bool true]) (by simp [results, Try.results169, go_sem]) rfl ?_
      all_goals exact ⟨rfl, by repeat (first | exact Below.refl _ _ | refine Below.drew ?_ | refine Below.alloc ?_ (by simp; try omega) _ | refine Below.setCell ?_ (by simp; try omega) _)⟩

theorem blkDrew {w : World} {b : Nat} {o : Obj} (h : w.heap[b]? = some o) : w.drew.heap[b]? = some o := h
theorem store_fl {w : World} {p o x : Nat} {cs : Array Value} {t : TypeId} {m : Mode} (h : w.heap[p]? = some (.cells cs t (0, 0))) (ho : o < cs.size) :
    (store ⟨p, o, none⟩ (.float .f32 x) m).run Try.prog w = .ok () (w.setCell ⟨p, o, none⟩ (.float .f32 x)) := by
  obtain ⟨c, f, z⟩ := blkC h
  have c0 := c o
  have f0 := f o
  rw [run_store_float]
  have : cs[o]? = some cs[o] := Array.getElem?_eq_getElem ho
  rw [this] at c0
  simp [stored, c0, f0]

theorem store_fld {w : World} {p o x : Nat} {cs : Array Value} {t : TypeId} {m : Mode} (h : w.heap[p]? = some (.cells cs t (0, 0))) (ho : o < cs.size) :
    (store ⟨p, o, none⟩ (.float .f32 x) m).run Try.prog w.drew = .ok () (w.setCell ⟨p, o, none⟩ (.float .f32 x)).drew := store_fl (blkDrew h) ho
theorem store5_fl {w : World} {p : Nat} {z0 z1 z2 z3 z4 : Value} {t : TypeId} (h : w.heap[p]? = some (.cells #[z0, z1, z2, z3, z4] t (0, 0))) (a b c d e : Nat) :
    (store ⟨p, 0, none⟩ (.float .f32 a) .plain).run Try.prog w.drew = .ok () (w.setCell ⟨p, 0, none⟩ (.float .f32 a)).drew ∧
    (store ⟨p, 1, none⟩ (.float .f32 b) .plain).run Try.prog (w.setCell ⟨p, 0, none⟩ (.float .f32 a)).drew = .ok () ((w.setCell ⟨p, 0, none⟩ (.float .f32 a)).setCell ⟨p, 1, none⟩ (.float .f32 b)).drew ∧
    (store ⟨p, 2, none⟩ (.float .f32 c) .plain).run Try.prog ((w.setCell ⟨p, 0, none⟩ (.float .f32 a)).setCell ⟨p, 1, none⟩ (.float .f32 b)).drew = .ok () (((w.setCell ⟨p, 0, none⟩ (.float .f32 a)).setCell ⟨p, 1, none⟩ (.float .f32 b)).setCell ⟨p, 2, none⟩ (.float .f32 c)).drew ∧
    (store ⟨p, 3, none⟩ (.float .f32 d) .plain).run Try.prog (((w.setCell ⟨p, 0, none⟩ (.float .f32 a)).setCell ⟨p, 1, none⟩ (.float .f32 b)).setCell ⟨p, 2, none⟩ (.float .f32 c)).drew = .ok () ((((w.setCell ⟨p, 0, none⟩ (.float .f32 a)).setCell ⟨p, 1, none⟩ (.float .f32 b)).setCell ⟨p, 2, none⟩ (.float .f32 c)).setCell ⟨p, 3, none⟩ (.float .f32 d)).drew ∧
    (store ⟨p, 4, none⟩ (.float .f32 e) .plain).run Try.prog ((((w.setCell ⟨p, 0, none⟩ (.float .f32 a)).setCell ⟨p, 1, none⟩ (.float .f32 b)).setCell ⟨p, 2, none⟩ (.float .f32 c)).setCell ⟨p, 3, none⟩ (.float .f32 d)).drew = .ok () (((((w.setCell ⟨p, 0, none⟩ (.float .f32 a)).setCell ⟨p, 1, none⟩ (.float .f32 b)).setCell ⟨p, 2, none⟩ (.float .f32 c)).setCell ⟨p, 3, none⟩ (.float .f32 d)).setCell ⟨p, 4, none⟩ (.float .f32 e)).drew := by
  have h1 := heap_setCell_same w p 0 _ _ (.float .f32 a) h
  have h2 := heap_setCell_same _ p 1 _ _ (.float .f32 b) h1
  have h3 := heap_setCell_same _ p 2 _ _ (.float .f32 c) h2
  have h4 := heap_setCell_same _ p 3 _ _ (.float .f32 d) h3
  exact ⟨store_fld h (by simp), store_fld h1 (by simp), store_fld h2 (by simp), store_fld h3 (by simp), store_fld h4 (by simp)⟩

/-- A cell with its neighbours, as a value. -/
abbrev crossO : Obj := .cells #[.float .f32 0, .float .f32 0, .float .f32 0, .float .f32 0, .float .f32 0] 98
abbrev crossV (c n w e s : Nat) : Value := .agg #[.float .f32 c, .float .f32 n, .float .f32 w, .float .f32 e, .float .f32 s]

set_option maxHeartbeats 4000000 in
set_option maxRecDepth 100000 in
theorem crossAt_any (X Y : Int) (W H n b cap i : Nat) (v : Nat → Nat) (x y : Int) (w : World) (h0 : checkR X Y W H = 0) (hn : n = H * W) (hcap : n ≤ cap) (hcp : cap ≤ 9223372036854775807) (hc : FlAt w b 0 n v)
    (h1 : X + 1 ≤ x) (h2 : x + 1 < X + W) (h3 : Y + 1 ≤ y) (h4 : y + 1 < Y + H) (hi : (i : Int) = (y - Y) * W + (x - X)) :
    Calls Try.prog 90 #[fldV X Y W H (.slice (some ⟨b, 0, none⟩) n cap), .int .i64 x, .int .i64 y] w fun e w' => e = .returned (crossV (v i) (v (i - W)) (v (i - 1)) (v (i + 1)) (v (i + W))) ∧ Below w.heap.size w w' := by
  obtain ⟨b1, b2, b3, b4, b5, b6, b7, b8, b9⟩ := checkR_zero h0
  have hn2 : n ≤ 65536 := by
    have : ((W : Int) * (H : Int)) = (n : Int) := by rw [hn, Nat.mul_comm]; simp
    omega
  have q0 : (W : Int) ≤ (y - Y) * W := by
    have := Int.mul_le_mul_of_nonneg_right (show (1 : Int) ≤ y - Y by omega) (show (0 : Int) ≤ W by omega); omega
  have q1 : (y - Y) * W ≤ (n : Int) - 2 * W := by
    have a : (y - Y) * W ≤ ((H : Int) - 2) * W := Int.mul_le_mul_of_nonneg_right (by omega) (by omega)
    have b : ((H : Int) - 2) * W = (n : Int) - 2 * W := by rw [hn, Int.sub_mul]; simp
    omega
  have IX := Lib.hid (fun w => index_any X Y W H i x y w (by omega) (by omega) (by omega) (by omega) (by omega) (by omega) (by omega) (by omega) (by omega) (by omega) (by omega) hi (by omega))
  obtain ⟨iN, eN⟩ : ∃ k, k = i - W := ⟨_, rfl⟩
  obtain ⟨iW, eW⟩ : ∃ k, k = i - 1 := ⟨_, rfl⟩
  obtain ⟨iE, eE⟩ : ∃ k, k = i + 1 := ⟨_, rfl⟩
  obtain ⟨iS, eS⟩ : ∃ k, k = i + W := ⟨_, rfl⟩
  rw [← eN, ← eW, ← eE, ← eS]
  have cell : ∀ k, k < n → w.cell? ⟨b, k, none⟩ = some (.float .f32 (v k)) := fun k hk => by have := hc k hk; rwa [Nat.zero_add] at this
  have k0 := cell i (by omega)
  have k1 := cell iN (by omega)
  have k2 := cell iW (by omega)
  have k3 := cell iE (by omega)
  have k4 := cell iS (by omega)
  have zb : b < w.heap.size := World.block_lt_of_cell? w _ k0
  have f1 : (i : Int) - (W : Int) = (iN : Int) := by omega
  have f2 : (i : Int) - 1 = (iW : Int) := by omega
  have f3 : (i : Int) + 1 = (iE : Int) := by omega
  have f4 : (i : Int) + (W : Int) = (iS : Int) := by omega
  have u1 : IntKind.i64.wrap (iN : Int) = iN := IntWalk.i64_in _ (by omega)
  have u2 : IntKind.i64.wrap (iW : Int) = iW := IntWalk.i64_in _ (by omega)
  have u3 : IntKind.i64.wrap (iE : Int) = iE := IntWalk.i64_in _ (by omega)
  have u4 : IntKind.i64.wrap (iS : Int) = iS := IntWalk.i64_in _ (by omega)
  have g0 : (i : Int) < (n : Int) := by omega
  have g1 : (iN : Int) < (n : Int) := by omega
  have g2 : (iW : Int) < (n : Int) := by omega
  have g3 : (iE : Int) < (n : Int) := by omega
  have g4 : (iS : Int) < (n : Int) := by omega
  have p0 : (0 : Int) ≤ (i : Int) := by omega
  have p1 : (0 : Int) ≤ (iN : Int) := by omega
  have p2 : (0 : Int) ≤ (iW : Int) := by omega
  have p3 : (0 : Int) ≤ (iE : Int) := by omega
  have p4 : (0 : Int) ≤ (iS : Int) := by omega
  clear hc h0 hi q0 q1 b1 b2 b3 b4 b5 b6 b7 b8 b9 h1 h2 h3 h4 hn hn2 eN eW eE eS cell
  go_enter Try.func90, Try.ntmps90
  go_wp2_with (first | (go_at_call 170; refine (IX.out _).mono ?_; rintro e w3 ⟨rfl, hw3⟩; have hB3 : Below w.heap.size w w3 := (by rw [← hw3]; exact (by repeat (first | exact Below.refl _ _ | refine Below.alloc ?_ (by first | omega | (simp; done) | (simp; omega)) _ | refine Below.setCell ?_ (by first | omega | (simp; done) | (simp; omega)) _ | refine Below.drew ?_))); have HF3 := Lib.hid (show w3.heap[w.heap.size]? = some (fldO X Y W H (.slice (some ⟨b, 0, none⟩) n cap)) by rw [← hw3]; ((simp only [heap_alloc_get, heap_size_alloc, if_true]) <;> ((repeat' split) <;> first | rfl | omega))); have HR3 := Lib.hid (show w3.heap[w.heap.size + 1]? = some crossO by rw [← hw3]; ((simp only [heap_alloc_get, heap_size_alloc, if_true]) <;> ((repeat' split) <;> first | rfl | omega))); clear hw3; obtain ⟨cF, fF, zF⟩ := blkC HF3.out; obtain ⟨cR, fR, zR⟩ := blkC HR3.out; have j0 := (Below.cell (p := ⟨b, i, none⟩) hB3 zb).trans k0; have j1 := (Below.cell (p := ⟨b, iN, none⟩) hB3 zb).trans k1; have j2 := (Below.cell (p := ⟨b, iW, none⟩) hB3 zb).trans k2; have j3 := (Below.cell (p := ⟨b, iE, none⟩) hB3 zb).trans k3; have j4 := (Below.cell (p := ⟨b, iS, none⟩) hB3 zb).trans k4; clear k0 k1 k2 k3 k4))
  obtain ⟨s0, s1, s2, s3, s4⟩ := store5_fl HR3.out (v i) (v iN) (v iW) (v iE) (v iS)
  clear IX hcap hcp
  have HRES := (blkC (blkDrew (set5_self (.float .f32 (v i)) (.float .f32 (v iN)) (.float .f32 (v iW)) (.float .f32 (v iE)) (.float .f32 (v iS)) HR3.out))).1
  simp only [set5] at HRES
  have HBEL := Lib.hid (set5_below hB3 (w.heap.size + 1) (.float .f32 (v i)) (.float .f32 (v iN)) (.float .f32 (v iW)) (.float .f32 (v iE)) (.float .f32 (v iS)) (by omega)).drew
  simp only [set5] at HBEL
  go_still_tail 36, (by kernel_rfl)
  change wpList _ _ _ _ _ w3.drew
  go_wp2
  refine bodyPost_ret (v := crossV (v i) (v iN) (v iW) (v iE) (v iS)) (by simp [results, Try.results90, go_sem, HRES]) rfl ?_
  exact ⟨rfl, HBEL.out⟩
end Go.Proofs.Ytjjhhnoeiglnhab
