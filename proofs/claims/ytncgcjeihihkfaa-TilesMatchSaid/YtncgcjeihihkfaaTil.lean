/- Lists of regions that are appended; square, checkSide; Tile. -/
import Derived.Test.YtncgcjeihihkfaaTilM
import Derived.Test.YtncgcjeihihkfaaRsm
import Derived.Test.YtncgcjeihihkfaaBru2
import Derived.Test.YtncgcjeihihkfaaMade
namespace Go.Proofs.Ytncgcjeihihkfaa
open Go.RowKit Fl
set_option linter.unusedVariables false

/-- The four numbers of a region. -/
structure Rgn where
  x : Int
  y : Int
  w : Int
  h : Int
abbrev Rgn.cells (r : Rgn) : Array Value := #[.int .i64 r.x, .int .i64 r.y, .int .i64 r.w, .int .i64 r.h]
/-- The cells of the first k regions. -/
def rgsL (T : Nat → Rgn) : Nat → List Value
  | 0 => []
  | k + 1 => rgsL T k ++ (T k).cells.toList
theorem rgsL_len (T : Nat → Rgn) (k : Nat) : (rgsL T k).length = k * 4 := by
  induction k with
  | zero => rfl
  | succ k ih => simp [rgsL, ih]; omega
theorem rgsL_get (T : Nat → Rgn) (k : Nat) {i j : Nat} (hi : i < k) (hj : j < 4) : (rgsL T k)[i * 4 + j]? = (T i).cells[j]? := by
  induction k with
  | zero => omega
  | succ k ih =>
    simp only [rgsL]
    by_cases e : i < k
    · rw [List.getElem?_append_left (by rw [rgsL_len]; omega)]
      exact ih e
    · obtain rfl : i = k := by omega
      rw [List.getElem?_append_right (by rw [rgsL_len]; omega), rgsL_len, show i * 4 + j - i * 4 = j by omega, Array.getElem?_toList]

/-- What holds of the world when k regions have been appended. -/
structure TlAt (w0 : World) (X Y W H : Int) (base : Nat) (T : Nat → Rgn) (k : Nat) (ov : Value) (wr : World) : Prop where
  own : wr.ownsRow base 23 4 ov k (rgsL T k)
  reg : wr.heap[w0.heap.size]? = some (regObj X Y W H)
  bel : Below w0.heap.size w0 wr
  size : base ≤ wr.heap.size
theorem TlAt.push {w0 wr w5 w6 : World} {X Y W H : Int} {base k g' cap' : Nat} {T : Nat → Rgn} {ov : Value} {o : Obj} (h : TlAt w0 X Y W H base T k ov wr) (h5 : Below wr.heap.size wr w5) (hb : w0.heap.size < base)
    (hgrow : (w5.alloc o).grownBy w6 ov.ownBlock) (hown : w6.ownsRow base 23 4 (.slice (some ⟨g', 0, none⟩) (k + 1) cap') (k + 1) (rgsL T k ++ (T k).cells.toList)) :
    TlAt w0 X Y W H base T (k + 1) (.slice (some ⟨g', 0, none⟩) (k + 1) cap') w6 := by
  have z5 : base ≤ w5.heap.size := Nat.le_trans h.size h5.size
  have own5 := ownsRow_below h.own h5
  have B5 : Below w0.heap.size w0 w5 := h.bel.trans (h5.mono h.bel.size)
  have e4 : ∀ j, j < base → w6.heap[j]? = w5.heap[j]? := fun j hj => (hgrow.block j (by show j < (w5.alloc o).heap.size; rw [heap_size_alloc]; omega) (ownsRow_far own5 hj)).trans (heap_alloc_old _ _ (by omega))
  have B4 : Below w0.heap.size w0 (w5.alloc o) := B5.alloc B5.size o
  have z6 := hgrow.size
  rw [heap_size_alloc] at z6
  exact ⟨hown, (e4 _ hb).trans (blkStay h.reg h5), ⟨hgrow.os.trans B4.os, hgrow.tape.trans B4.tape, hgrow.output.trans B4.output, Nat.le_trans B4.size hgrow.size, fun j hj => (e4 j (by omega)).trans (B5.block j hj)⟩, by omega⟩
/-- A block whose first n elements are these regions. -/
def TlRow (w : World) (g n : Nat) (T : Nat → Rgn) : Prop := (∀ i, i < n → ∀ j, j < 4 → w.cell? ⟨g, i * 4 + j, none⟩ = (T i).cells[j]?) ∧ g < w.heap.size
theorem TlRow.stay {w w' : World} {g n : Nat} {T : Nat → Rgn} (h : TlRow w g n T) (hb : Below w.heap.size w w') : TlRow w' g n T :=
  ⟨fun i hi j hj => by rw [World.cell?_of_block (w := w) (a := ⟨g, i * 4 + j, none⟩) (hb.block g h.2)]; exact h.1 i hi j hj, Nat.lt_of_lt_of_le h.2 hb.size⟩
theorem TlAt.cells {w0 wr : World} {X Y W H : Int} {base g cap k : Nat} {T : Nat → Rgn} (h : TlAt w0 X Y W H base T k (.slice (some ⟨g, 0, none⟩) k cap) wr) : TlRow wr g k T ∧ base ≤ g := by
  rcases h.own.2 with ⟨h0, _⟩ | ⟨g', cap', cur, hv, hg, hh, h1, h2, h3, h4⟩
  · cases h0
  · cases hv
    refine ⟨⟨fun i hi j hj => ?_, (blkC hh).2.2⟩, hg⟩
    rw [(blkC hh).1, ← rgsL_get T k hi hj, ← h4, List.getElem?_take, if_pos (by omega)]
    simp

/-- Whether a side may be; the tile of a column and a row. -/
def sidB (s : Int) : Bool := withinB s 1 256
theorem sid_iff {s : Int} : sidB s = true ↔ 1 ≤ s ∧ s ≤ 256 := withinB_iff
theorem within_sid (s : Int) (k : Bool) (h : sidB s = k) (w : World) : Calls Try.prog 104 #[.int .i64 s, .int .i64 1, .int .i64 256] w fun e w' => e = .returned (.bool k) ∧ w = w' := by
  subst h
  exact within_any s 1 256 w
set_option maxHeartbeats 400000 in
theorem checkSide_no (s : Int) (h : sidB s = false) (w : World) : Calls Try.prog 52 #[.int .i64 s] w fun e w' => e = .returned (.int .i64 3) ∧ w = w' := by
  have C := Lib.hid (within_sid s false h)
  clear h
  go_enter Try.func52, Try.ntmps52
  go_wp2_with (go_at_call 104; refine (C.out _).mono ?_; rintro e w' ⟨rfl, rfl⟩)
  go_ret
  exact ⟨rfl, rfl⟩
set_option maxHeartbeats 400000 in
theorem checkSide_ok (s : Int) (h : sidB s = true) (w : World) : Calls Try.prog 52 #[.int .i64 s] w fun e w' => e = .returned (.int .i64 0) ∧ w = w' := by
  have C := Lib.hid (within_sid s true h)
  clear h
  go_enter Try.func52, Try.ntmps52
  go_wp2_with (go_at_call 104; refine (C.out _).mono ?_; rintro e w' ⟨rfl, rfl⟩)
  go_ret
  exact ⟨rfl, rfl⟩
set_option maxHeartbeats 400000 in
theorem square_any (s c r p q : Int) (hp : c * s = p) (hq : r * s = q) (p1 : -16777216 ≤ p) (p2 : p ≤ 16777216) (q1 : -16777216 ≤ q) (q2 : q ≤ 16777216) (w : World) :
    Calls Try.prog 55 #[.int .i64 s, .int .i64 c, .int .i64 r] w fun e w' => e = .returned (reg p q s s) ∧ Below w.heap.size w w' := by
  have e1 : wrap64 (c * s) = p := by rw [hp]; exact IntWalk.wrap64_in _ ⟨by omega, by omega⟩
  have e2 : wrap64 (r * s) = q := by rw [hq]; exact IntWalk.wrap64_in _ ⟨by omega, by omega⟩
  clear hp hq
  go_enter Try.func55, Try.ntmps55
  go_wp2
  exact bodyPost_ret (v := reg p q s s) (by simp [results, Try.results55, go_sem]) rfl ⟨rfl, (by repeat (first | exact Below.refl _ _ | refine Below.alloc ?_ (by first | omega | (simp; done) | (simp; omega)) _ | refine Below.setCell ?_ (by first | omega | (simp; done) | (simp; omega)) _ | refine Below.drew ?_))⟩

theorem sq_bd {X s : Int} (h1 : 1 ≤ s) (h2 : s ≤ 256) (h3 : -4194304 ≤ X) (h4 : X ≤ 4194304) {i : Int} (a : X / s ≤ i) (b : i ≤ X / s + 512) : -4194304 ≤ X / s ∧ X / s ≤ 4194304 ∧ -16777216 ≤ i * s ∧ i * s ≤ 16777216 := by
  have c1 := Int.lt_ediv_add_one_mul_self X (show 0 < s by omega)
  have c2 := Int.ediv_mul_le X (show s ≠ 0 by omega)
  have d := Int.mul_le_mul_of_nonneg_right a (show 0 ≤ s by omega)
  have e := Int.mul_le_mul_of_nonneg_right b (show 0 ≤ s by omega)
  rw [Int.add_mul, Int.one_mul] at c1
  rw [Int.add_mul] at e
  have q1 : -4194304 ≤ X / s := by
    have := Int.ediv_le_ediv (show 0 < s by omega) h3
    have h : -4194304 ≤ (-4194304 : Int) / s := by
      rw [Int.le_ediv_iff_mul_le (by omega)]
      omega
    omega
  have q2 : X / s ≤ 4194304 := by
    have h : X / s ≤ 4194304 / s := Int.ediv_le_ediv (show 0 < s by omega) h4
    have : (4194304 : Int) / s ≤ 4194304 := Int.ediv_le_self _ (by omega)
    omega
  omega

/-- What Tile answers. -/
def tileE (s x y : Int) : Int := if sidB s = false then 3 else plcE x y
set_option maxHeartbeats 1000000 in
theorem tile_bad (s x y : Int) (h : tileE s x y ≠ 0) (w : World) :
    Calls Try.prog 10 #[.int .i64 s, .int .i64 x, .int .i64 y] w fun e w' => e = .returned (.tuple #[reg 0 0 0 0, .int .i64 (tileE s x y)]) ∧ Below w.heap.size w w' := by
  cases hs : sidB s with
  | false =>
    have e : tileE s x y = 3 := by unfold tileE; rw [if_pos hs]
    rw [e]
    have C := Lib.hid (checkSide_no s hs)
    clear h e hs
    go_enter Try.func10, Try.ntmps10
    go_wp2_with (go_at_call 52; refine (C.out _).mono ?_; rintro e w' ⟨rfl, rfl⟩)
    exact bodyPost_ret (v := .tuple #[reg 0 0 0 0, .int .i64 3]) (by simp [results, Try.results10, go_sem]) rfl ⟨rfl, (by repeat (first | exact Below.refl _ _ | refine Below.alloc ?_ (by first | omega | (simp; done) | (simp; omega)) _ | refine Below.setCell ?_ (by first | omega | (simp; done) | (simp; omega)) _ | refine Below.drew ?_))⟩
  | true =>
    have e' : tileE s x y = plcE x y := by unfold tileE; rw [hs, if_neg (by simp)]
    have e : plcE x y = 5 := by
      rw [e'] at h
      have := plcE_cases x y
      omega
    rw [e', e]
    have C := Lib.hid (checkSide_ok s hs)
    have D := Lib.hid (fun w => checkPlace_any x y w)
    rw [e] at D
    clear h e hs e'
    go_enter Try.func10, Try.ntmps10
    go_wp2_with (first | (go_at_call 52; refine (C.out _).mono ?_; rintro e w' ⟨rfl, rfl⟩) | (go_at_call 53; refine (D.out _).mono ?_; rintro e w' ⟨rfl, rfl⟩))
    exact bodyPost_ret (v := .tuple #[reg 0 0 0 0, .int .i64 5]) (by simp [results, Try.results10, go_sem]) rfl ⟨rfl, (by repeat (first | exact Below.refl _ _ | refine Below.alloc ?_ (by first | omega | (simp; done) | (simp; omega)) _ | refine Below.setCell ?_ (by first | omega | (simp; done) | (simp; omega)) _ | refine Below.drew ?_))⟩
theorem plcE_zero {x y : Int} (h : plcE x y = 0) : -4194304 ≤ x ∧ x ≤ 4194304 ∧ -4194304 ≤ y ∧ y ≤ 4194304 := by
  unfold plcE at h
  split at h
  · rename_i c
    have a := withinB_iff.1 c.1
    have b := withinB_iff.1 c.2
    omega
  · cases h
set_option maxHeartbeats 1000000 in
theorem tile_ok (s x y : Int) (h : tileE s x y = 0) (w : World) :
    Calls Try.prog 10 #[.int .i64 s, .int .i64 x, .int .i64 y] w fun e w' => e = .returned (.tuple #[reg (x / s * s) (y / s * s) s s, .int .i64 0]) ∧ Below w.heap.size w w' := by
  have hs : sidB s = true := by
    cases hs : sidB s with
    | true => rfl
    | false => unfold tileE at h; rw [if_pos hs] at h; cases h
  have e : plcE x y = 0 := by
    unfold tileE at h
    rw [hs, if_neg (by simp)] at h
    exact h
  obtain ⟨s1, s2⟩ := sid_iff.1 hs
  obtain ⟨x1, x2, y1, y2⟩ := plcE_zero e
  obtain ⟨_, _, a1, a2⟩ := sq_bd s1 s2 x1 x2 (Int.le_refl (x / s)) (by omega)
  obtain ⟨_, _, b1, b2⟩ := sq_bd s1 s2 y1 y2 (Int.le_refl (y / s)) (by omega)
  have C := Lib.hid (checkSide_ok s hs)
  have D := Lib.hid (fun w => checkPlace_any x y w)
  rw [e] at D
  have DX := Lib.hid (fun w => divide_any x s w s1 (by omega) (by omega) (by omega))
  have DY := Lib.hid (fun w => divide_any y s w s1 (by omega) (by omega) (by omega))
  have SQ := Lib.hid (fun w => square_any s (x / s) (y / s) _ _ rfl rfl a1 a2 b1 b2 w)
  clear h e hs s1 s2 x1 x2 y1 y2 a1 a2 b1 b2
  generalize x / s * s = p at *
  generalize y / s * s = q at *
  generalize x / s = c at *
  generalize y / s = r at *
  generalize shW (x % s) s = f1 at *
  generalize shW (y % s) s = f2 at *
  go_enter Try.func10, Try.ntmps10
  have HZ := Lib.hid (fun (w : World) => heap_alloc_new w (regObj 0 0 0 0))
  go_wp2_with (first | (go_at_call 52; refine (C.out _).mono ?_; rintro e w' ⟨rfl, rfl⟩) | (go_at_call 53; refine (D.out _).mono ?_; rintro e w' ⟨rfl, rfl⟩) | (go_at_call 54; (first | (with_reducible refine Calls.mono (DX.out _) ?_; rintro e w1 ⟨rfl, hb1⟩; have HR := Lib.hid (blkStay (b := w.heap.size) (o := regObj 0 0 0 0) (by (first | (rw [heap_alloc_get, if_pos rfl]; done) | ((simp only [heap_alloc_get, heap_size_alloc, if_true]) <;> ((repeat' split) <;> first | rfl | omega)))) hb1); have B1 := Lib.hid (Below.trans (show Below w.heap.size w (w.alloc (regObj 0 0 0 0)) from (by repeat (first | exact Below.refl _ _ | refine Below.alloc ?_ (by first | omega | (simp; done) | (simp; omega)) _ | refine Below.setCell ?_ (by first | omega | (simp; done) | (simp; omega)) _ | refine Below.drew ?_))) (hb1.mono (by simp))); clear hb1) | (with_reducible refine Calls.mono (DY.out _) ?_; rintro e w2 ⟨rfl, hb2⟩; have HR2 := Lib.hid (blkStay HR.out hb2); have B2 := Lib.hid (B1.out.trans (hb2.mono B1.out.size)); clear hb2))) | (go_at_call 55; refine (SQ.out _).mono ?_; rintro e w7 ⟨rfl, hb7⟩; have HR3 := Lib.hid (blkStay HR2.out hb7); have B3 := Lib.hid (B2.out.trans (hb7.mono B2.out.size)); clear hb7; obtain ⟨cR, fR, zR⟩ := blkC HR3.out))
  have zz := B3.out.size
  refine bodyPost_ret (v := .tuple #[reg p q s s, .int .i64 0]) (by simp [results, Try.results10, go_sem, cR]) rfl ⟨rfl, ?_⟩
  repeat (first | exact B3.out | refine Below.setCell ?_ (by first | omega | (simp; done) | (simp; omega)) _)
end Go.Proofs.Ytncgcjeihihkfaa
