/- TopLevels, for every field and every number of levels: what levels lose is at most twice the greatest magnitude, the first one loses nothing, and a level is the only one of its own pyramid of one. No condition. -/
import Derived.Test.YtjjafjdjdjonfaaTopJC
import Derived.Deep.AppendLies
import Derived.Deep.RegionLaw
import Derived.Deep.RegionHeld3
import Derived.ProofKit
import Derived.OpenShut
import Derived.Lib.SmallJoins
import Derived.Laws.Cover2
import Derived.Deep.Slices

/- A field as numbers; what Down makes of a right one. -/
namespace Go.Proofs.Ytjjafjdjdjonfaa
open Go.RowKit Fl
set_option linter.unusedVariables false

/-- A field as numbers: its region, the block of its values, and they. -/
structure Fd where
  x : Int
  y : Int
  w : Nat
  h : Nat
  b : Nat
  cap : Nat
  v : Nat → Nat
abbrev Fd.n (f : Fd) : Nat := f.w * f.h
abbrev Fd.sl (f : Fd) : Value := .slice (some ⟨f.b, 0, none⟩) (f.w * f.h) f.cap
abbrev Fd.val (f : Fd) : Value := fldV f.x f.y f.w f.h f.sl
abbrev Fd.cells (f : Fd) : Array Value := #[.int .i64 f.x, .int .i64 f.y, .int .i64 f.w, .int .i64 f.h, f.sl]
/-- A right field in a world. -/
structure FdOk (wr : World) (f : Fd) : Prop where
  reg : checkR f.x f.y f.w f.h = 0
  row : FlAt wr f.b 0 (f.w * f.h) f.v
  hgt : allB (f.w * f.h) (fun i => hgtB (f.v i)) = true
theorem FdOk.parts {wr : World} {f : Fd} (h : FdOk wr f) : 1 ≤ f.w ∧ f.w ≤ 512 ∧ 1 ≤ f.h ∧ f.h ≤ 512 ∧ 1 ≤ f.w * f.h ∧ f.w * f.h ≤ 65536 ∧ f.b < wr.heap.size := by
  obtain ⟨b1, b2, b3, b4, b5, _⟩ := checkR_zero h.reg
  have hn1 : 1 ≤ f.w * f.h := Nat.mul_pos (by omega) (by omega)
  have e : ((f.w * f.h : Nat) : Int) = (f.w : Int) * f.h := by simp
  exact ⟨by omega, by omega, by omega, by omega, hn1, by omega, World.block_lt_of_cell? wr _ (h.row 0 hn1)⟩
theorem FdOk.stay {w w' : World} {f : Fd} (h : FdOk w f) (hb : Below w.heap.size w w') : FdOk w' f := ⟨h.reg, flAt_congr h.row (hb.block _ h.parts.2.2.2.2.2.2), h.hgt⟩
theorem FdOk.sle {wr : World} {f : Fd} (h : FdOk wr f) : SlE wr (some ⟨f.b, 0, none⟩) (f.w * f.h) f.cap 0 := by
  have p := h.parts
  have := slE_row (cap := f.cap) (by omega) (by omega) h.row
  rwa [fldE_zero.2 h.hgt] at this
/-- What bounds the first n of v0 bounds the field. -/
def FdIn (n : Nat) (v0 : Nat → Nat) (f : Fd) : Prop := ∀ (g : Nat) (A : Int), vS g = some A → (∀ i, i < n → InV A (v0 i)) → ∀ j, j < f.w * f.h → InV A (f.v j)

theorem hgt_in {x : Nat} (h : hgtB x = true) : InV (1048576 * (one : Int)) x := by
  obtain ⟨a, ha, q⟩ := hgt_val h
  exact ⟨a, ha, by omega, by omega⟩
theorem top_val : vS 1233125376 = some (1048576 * (one : Int)) := by
  obtain ⟨J, hJ⟩ : ∃ J : Nat, J = 1094 := ⟨_, rfl⟩
  have r : Ieee.single.read 1233125376 = .number false 8388608 (-3) := by decide
  have e := vS_lit (t := 1) (k := 23) (j := J) r (by decide) (by omega)
  have o : (1048576 * (one : Int)) = ((2 ^ J : Nat) : Int) := by
    rw [one_pow (j := J - 20) (by omega), show J = (J - 20) + 20 by omega, Nat.pow_add]
    have : J - 20 + 20 - 20 = J - 20 := by omega
    rw [this]
    generalize 2 ^ (J - 20) = p
    omega
  rw [o]
  simpa using e
theorem in_hgt {x : Nat} (h : InV (1048576 * (one : Int)) x) : hgtB x = true := by
  obtain ⟨a, ha, q1, q2⟩ := h
  obtain ⟨J, hJ⟩ : ∃ J : Nat, J = 1094 := ⟨_, rfl⟩
  have o : (1048576 * (one : Int)) = ((2 ^ J : Nat) : Int) := by
    rw [one_pow (j := J - 20) (by omega), show J = (J - 20) + 20 by omega, Nat.pow_add]
    have : J - 20 + 20 - 20 = J - 20 := by omega
    rw [this]
    generalize 2 ^ (J - 20) = p
    omega
  rw [o] at q1 q2
  exact bd_hgt (bd_val' (j := J) ha (by omega) (by omega))

/-- The field of half the size. -/
def FdHalf (f f' : Fd) : Prop := f.x = 2 * f'.x ∧ f.y = 2 * f'.y ∧ f.w = 2 * f'.w ∧ f.h = 2 * f'.h
theorem dn_in_range {W H j : Nat} (hW : 1 ≤ W) (hj : j < H * W) : dnI W j + 2 * W + 1 < (2 * H) * (2 * W) := by
  have hm := Nat.mod_lt j (show 0 < W by omega)
  have hd : j / W < H := Nat.div_lt_of_lt_mul (by rw [Nat.mul_comm]; exact hj)
  have hda := Nat.div_add_mod j W
  obtain ⟨q, hq⟩ : ∃ q, j / W = q := ⟨_, rfl⟩
  obtain ⟨r, hr⟩ : ∃ r, j % W = r := ⟨_, rfl⟩
  rw [hq] at hd hda
  rw [hr] at hm hda
  have e : (j : Int) = ((q : Int) - 0) * W + ((r : Int) - 0) := by
    have h2 : ((W * q + r : Nat) : Int) = (W : Int) * (q : Int) + (r : Int) := by simp
    rw [hda] at h2
    rw [Int.sub_zero, Int.sub_zero, Int.mul_comm]
    exact h2
  exact (dn_parts (X := 0) (Y := 0) (H := H) hW (by omega) (by omega) (by omega) (by omega) e).2.1
theorem dn_all {f : Fd} {W H : Nat} (hw : f.w = 2 * W) (hh : f.h = 2 * H) (hW : 1 ≤ W) {g : Nat} {A : Int} (hg : vS g = some A) (hB : ∀ i, i < f.w * f.h → Bd 20 (f.v i)) (hI : ∀ i, i < f.w * f.h → InV A (f.v i)) (j : Nat) (hj : j < H * W) :
    ∃ s1 s2 s3, MeanAt (f.v (dnI W j)) (f.v (dnI W j + 1)) (f.v (dnI W j + 2 * W)) (f.v (dnI W j + 2 * W + 1)) s1 s2 s3 (dnF f.v W j) ∧ InV A (dnF f.v W j) := by
  have q := dn_in_range hW hj
  have e : f.w * f.h = (2 * H) * (2 * W) := by rw [hw, hh, Nat.mul_comm]
  rw [e] at hB hI
  obtain ⟨s1, s2, s3, m, M, hm, _⟩ := mean_in hg (hI (dnI W j) (by omega)) (hI (dnI W j + 1) (by omega)) (hI (dnI W j + 2 * W) (by omega)) (hI (dnI W j + 2 * W + 1) q) (hB _ (by omega)) (hB _ (by omega)) (hB _ (by omega)) (hB _ q)
  have em : dnF f.v W j = m := M.w
  rw [em]
  exact ⟨s1, s2, s3, M, hm⟩

/-- Down of a right field whose four numbers are even. -/
theorem down_even (f : Fd) (W H : Nat) (X Y : Int) (w : World) (hf : FdOk w f) (h : f.x = 2 * X ∧ f.y = 2 * Y ∧ f.w = 2 * W ∧ f.h = 2 * H) :
    Calls Try.prog 28 #[f.val] w fun e w' => ∃ f' : Fd, e = .returned (.tuple #[f'.val, .int .i64 0]) ∧ FdHalf f f' ∧ FdOk w' f' ∧ w.heap.size ≤ f'.b ∧ (∀ n v0, FdIn n v0 f → FdIn n v0 f') ∧ Below w.heap.size w w' := by
  obtain ⟨h1, h2, h3, h4⟩ := h
  have p := hf.parts
  obtain ⟨c1, c2, c3, c4, c5, c6, c7, c8, c9⟩ := checkR_zero hf.reg
  have hB : ∀ i, i < f.w * f.h → Bd 20 (f.v i) := fun i hi => hgt_bd (allB_iff.1 hf.hgt i hi)
  have hI : ∀ i, i < f.w * f.h → InV (1048576 * (one : Int)) (f.v i) := fun i hi => hgt_in (allB_iff.1 hf.hgt i hi)
  have D := down_ok X Y f.x f.y W H f.w f.h (f.w * f.h) f.b 0 f.cap f.v w h1 h2 h3 h4 hf.reg hf.row hf.sle (fun j hj => by
    obtain ⟨s1, s2, s3, M, _⟩ := dn_all h3 h4 (by omega) top_val hB hI j hj
    exact ⟨s1, s2, s3, M⟩) (Nat.mul_comm _ _)
  have hall : allB (H * W) (fun i => hgtB (dnF f.v W i)) = true := allB_iff.2 fun j hj => by
    obtain ⟨_, _, _, _, q⟩ := dn_all h3 h4 (by omega) top_val hB hI j hj
    exact in_hgt q
  refine Calls.mono D ?_
  intro e w' hm
  rcases hm with ⟨_, b', cap', rfl, hb', hlt, hrow, hb⟩ | ⟨hno, _, _⟩
  · rw [Nat.mul_comm H W] at hrow hall
    refine ⟨⟨X, Y, W, H, b', cap', dnF f.v W⟩, ?_, ⟨h1, h2, h3, h4⟩, ⟨?_, hrow, hall⟩, hb', ?_, hb⟩
    · rw [Nat.mul_comm H W]
    · have q : (W : Int) * H ≤ 65536 := by
        have q1 : ((f.w : Int) * f.h) = 4 * ((W : Int) * H) := by
          rw [h3, h4, Int.natCast_mul, Int.natCast_mul, Int.mul_assoc, ← Int.mul_assoc (W : Int), Int.mul_comm (W : Int) ((2 : Nat) : Int), Int.mul_assoc, ← Int.mul_assoc]
          rfl
        have q2 : 0 ≤ (W : Int) * H := Int.mul_nonneg (by omega) (by omega)
        omega
      show checkR X Y W H = 0
      unfold checkR
      rw [if_neg (by omega), if_neg (by omega), if_neg (by omega)]
    · intro n v0 hI0 g A hg hv j hj
      have hj' : j < H * W := by rw [Nat.mul_comm]; exact hj
      obtain ⟨_, _, _, _, q⟩ := dn_all h3 h4 (by omega) hg hB (hI0 g A hg hv) j hj'
      exact q
  · rw [hall] at hno
    cases hno

set_option maxHeartbeats 2000000 in
theorem down_odd_aux (X Y : Int) (W H n b cap : Nat) (w : World) (hE : SlE w (some ⟨b, 0, none⟩) n cap 0) (hc : fldChk X Y W H n 0 = 0)
    (par : (bits .and .i64 (bits .or .i64 (bits .or .i64 (bits .or .i64 X Y) W) H) 1 != 0) = true) :
    Calls Try.prog 28 #[fldV X Y W H (.slice (some ⟨b, 0, none⟩) n cap)] w fun e w' => e = .returned (.tuple #[fldV 0 0 0 0 (.slice none 0 0), .int .i64 2]) ∧ Below w.heap.size w w' := by
  have CK := Lib.hid (fun W' (hB : Below w.heap.size w W') => checkA_any X Y W H (some ⟨b, 0, none⟩) n cap 0 W' (hE.stay hB).1)
  rw [hc] at CK
  clear hE hc
  go_enter Try.func28, Try.ntmps28
  go_wp2_with (go_at_call 25; refine (CK.out _ (by repeat (first | exact Below.refl _ _ | refine Below.alloc ?_ (by first | omega | (simp; done) | (simp; omega)) _ | refine Below.setCell ?_ (by first | omega | (simp; done) | (simp; omega)) _ | refine Below.drew ?_))).mono ?_; rintro e w1 ⟨rfl, hb1⟩; have HF1 := Lib.hid (blkStay (b := w.heap.size) (o := fldO X Y W H (.slice (some ⟨b, 0, none⟩) n cap)) (by (first | (rw [heap_alloc_get, if_pos rfl]; done) | ((simp only [heap_alloc_get, heap_size_alloc, if_true]) <;> ((repeat' split) <;> first | rfl | omega)))) hb1); have HR1 := Lib.hid (blkStay (b := w.heap.size + 1) (o := fldO 0 0 0 0 (.slice none 0 0)) (by (first | (rw [heap_alloc_get, if_pos rfl]; done) | ((simp only [heap_alloc_get, heap_size_alloc, if_true]) <;> ((repeat' split) <;> first | rfl | omega)))) hb1); have B1 := Lib.hid (Below.trans (show Below w.heap.size w _ from (by repeat (first | exact Below.refl _ _ | refine Below.alloc ?_ (by first | omega | (simp; done) | (simp; omega)) _ | refine Below.setCell ?_ (by first | omega | (simp; done) | (simp; omega)) _ | refine Below.drew ?_))) (hb1.mono (by first | omega | (simp; done) | (simp; omega)))); clear hb1; obtain ⟨cF, fF, zF⟩ := blkC HF1.out; obtain ⟨cR, fR, zR⟩ := blkC HR1.out)
  refine bodyPost_ret (v := .tuple #[fldV 0 0 0 0 (.slice none 0 0), .int .i64 2]) (by simp [results, Try.results28, go_sem, cR]) rfl ?_
  exact ⟨rfl, by repeat (first | exact B1.out | refine Below.setCell ?_ (by first | omega | (simp; done) | (simp; omega)) _)⟩
/-- Down of a right field of which a number is odd. -/
theorem down_odd (f : Fd) (w : World) (hf : FdOk w f) (h : ¬ (f.x % 2 = 0 ∧ f.y % 2 = 0 ∧ (f.w : Int) % 2 = 0 ∧ (f.h : Int) % 2 = 0)) :
    Calls Try.prog 28 #[f.val] w fun e w' => e = .returned (.tuple #[fldV 0 0 0 0 (.slice none 0 0), .int .i64 2]) ∧ Below w.heap.size w w' := by
  refine down_odd_aux f.x f.y f.w f.h (f.w * f.h) f.b f.cap w hf.sle ?_ ?_
  · unfold fldChk
    rw [if_neg (by rw [hf.reg]; simp), if_neg (by simp)]
  · simp only [bne_iff_ne, ne_eq]
    intro q
    exact h ((odd4 _ _ _ _).1 q)
/-- Down of a right field. -/
theorem down_fd (f : Fd) (w : World) (hf : FdOk w f) :
    Calls Try.prog 28 #[f.val] w fun e w' => ((∃ f' : Fd, e = .returned (.tuple #[f'.val, .int .i64 0]) ∧ FdHalf f f' ∧ FdOk w' f' ∧ w.heap.size ≤ f'.b ∧ (∀ n v0, FdIn n v0 f → FdIn n v0 f')) ∨ e = .returned (.tuple #[fldV 0 0 0 0 (.slice none 0 0), .int .i64 2])) ∧ Below w.heap.size w w' := by
  by_cases h : f.x % 2 = 0 ∧ f.y % 2 = 0 ∧ (f.w : Int) % 2 = 0 ∧ (f.h : Int) % 2 = 0
  · obtain ⟨h1, h2, h3, h4⟩ := h
    refine Calls.mono (down_even f (f.w / 2) (f.h / 2) (f.x / 2) (f.y / 2) w hf ⟨by omega, by omega, by omega, by omega⟩) ?_
    rintro e w' ⟨f', he, k1, k2, k3, k4, k5⟩
    exact ⟨.inl ⟨f', he, k1, k2, k3, k4⟩, k5⟩
  · refine Calls.mono (down_odd f w hf h) ?_
    rintro e w' ⟨he, k5⟩
    exact ⟨.inr he, k5⟩
end Go.Proofs.Ytjjafjdjdjonfaa

/- Lists of fields that are appended; levels. -/
namespace Go.Proofs.Ytjjafjdjdjonfaa
open Go.RowKit Fl
set_option linter.unusedVariables false

/-- The cells of the first k fields. -/
def fdsL (T : Nat → Fd) : Nat → List Value
  | 0 => []
  | k + 1 => fdsL T k ++ (T k).cells.toList
theorem fdsL_len (T : Nat → Fd) (k : Nat) : (fdsL T k).length = k * 5 := by
  induction k with
  | zero => rfl
  | succ k ih => simp [fdsL, ih]; omega
theorem fdsL_congr {T T' : Nat → Fd} {k : Nat} (h : ∀ i, i < k → T i = T' i) : fdsL T k = fdsL T' k := by
  induction k with
  | zero => rfl
  | succ k ih => simp only [fdsL]; rw [ih (fun i hi => h i (by omega)), h k (by omega)]
theorem fdsL_get (T : Nat → Fd) (k : Nat) {i j : Nat} (hi : i < k) (hj : j < 5) : (fdsL T k)[i * 5 + j]? = (T i).cells[j]? := by
  induction k with
  | zero => omega
  | succ k ih =>
    simp only [fdsL]
    by_cases e : i < k
    · rw [List.getElem?_append_left (by rw [fdsL_len]; omega)]
      exact ih e
    · obtain rfl : i = k := by omega
      rw [List.getElem?_append_right (by rw [fdsL_len]; omega), fdsL_len, show i * 5 + j - i * 5 = j by omega, Array.getElem?_toList]
/-- A block whose first n elements are these fields. -/
def FdRow (w : World) (g n : Nat) (T : Nat → Fd) : Prop := (∀ i, i < n → ∀ j, j < 5 → w.cell? ⟨g, i * 5 + j, none⟩ = (T i).cells[j]?) ∧ g < w.heap.size
theorem FdRow.stay {w w' : World} {g n : Nat} {T : Nat → Fd} (h : FdRow w g n T) (hb : Below w.heap.size w w') : FdRow w' g n T :=
  ⟨fun i hi j hj => by rw [World.cell?_of_block (w := w) (a := ⟨g, i * 5 + j, none⟩) (hb.block g h.2)]; exact h.1 i hi j hj, Nat.lt_of_lt_of_le h.2 hb.size⟩
theorem fd_at {w : World} {b n : Nat} {T : Nat → Fd} (h : FdRow w b n T) {i : Nat} (hi : i < n) :
    w.cell? ⟨b, i * 5, none⟩ = some (.int .i64 (T i).x) ∧ w.cell? ⟨b, i * 5 + 1, none⟩ = some (.int .i64 (T i).y) ∧ w.cell? ⟨b, i * 5 + 2, none⟩ = some (.int .i64 (T i).w) ∧ w.cell? ⟨b, i * 5 + 3, none⟩ = some (.int .i64 (T i).h) ∧ w.cell? ⟨b, i * 5 + 4, none⟩ = some (T i).sl ∧ b < w.heap.size :=
  ⟨h.1 i hi 0 (by omega), h.1 i hi 1 (by omega), h.1 i hi 2 (by omega), h.1 i hi 3 (by omega), h.1 i hi 4 (by omega), h.2⟩

/-- A list of fields with one more. -/
def updF (T : Nat → Fd) (k : Nat) (f : Fd) (i : Nat) : Fd := if i = k then f else T i
theorem updF_same (T : Nat → Fd) (k : Nat) (f : Fd) : updF T k f k = f := if_pos rfl
theorem updF_ne (T : Nat → Fd) {k i : Nat} (f : Fd) (h : i ≠ k) : updF T k f i = T i := if_neg h
theorem fdsL_upd (T : Nat → Fd) (k : Nat) (f : Fd) : fdsL (updF T k f) (k + 1) = fdsL T k ++ f.cells.toList := by
  show fdsL (updF T k f) k ++ (updF T k f k).cells.toList = _
  rw [fdsL_congr (T' := T) (fun i hi => updF_ne T f (by omega)), updF_same]
/-- What holds when k levels have been made. -/
structure LvAt (w1 : World) (base : Nat) (T : Nat → Fd) (k : Nat) (ov : Value) (wr : World) : Prop where
  own : wr.ownsRow base 26 5 ov k (fdsL T k)
  bel : Below base w1 wr
  size : base ≤ wr.heap.size
  ok : ∀ i, i < k → FdOk wr (T i) ∧ some (T i).b ≠ ov.ownBlock
theorem LvAt.row {w1 wr : World} {base g cap k : Nat} {T : Nat → Fd} (h : LvAt w1 base T k (.slice (some ⟨g, 0, none⟩) k cap) wr) : FdRow wr g k T ∧ base ≤ g := by
  rcases h.own.2 with ⟨h0, _⟩ | ⟨g', cap', cur, hv, hg, hh, h1, h2, h3, h4⟩
  · cases h0
  · cases hv
    refine ⟨⟨fun i hi j hj => ?_, (blkC hh).2.2⟩, hg⟩
    rw [(blkC hh).1, ← fdsL_get T k hi hj, ← h4, List.getElem?_take, if_pos (by omega)]
    simp
theorem LvAt.push {w1 wr w5 w6 : World} {base k g' cap' : Nat} {T : Nat → Fd} {ov : Value} {o : Obj} {f : Fd} (h : LvAt w1 base T k ov wr) (hlt : ∀ g, ov.ownBlock = some g → g < wr.heap.size) (h5 : Below wr.heap.size wr w5) (hf : FdOk w5 f) (hfb : wr.heap.size ≤ f.b)
    (hgrow : (w5.alloc o).grownBy w6 ov.ownBlock) (hat : ov.ownBlock = some g' ∨ g' = w5.heap.size + 1) (hown : w6.ownsRow base 26 5 (.slice (some ⟨g', 0, none⟩) (k + 1) cap') (k + 1) (fdsL T k ++ f.cells.toList)) :
    LvAt w1 base (updF T k f) (k + 1) (.slice (some ⟨g', 0, none⟩) (k + 1) cap') w6 := by
  have z5 : base ≤ w5.heap.size := Nat.le_trans h.size h5.size
  have own5 := ownsRow_below h.own h5
  have B5 : Below base w1 w5 := h.bel.trans (h5.mono h.size)
  have e4 : ∀ j, j < base → w6.heap[j]? = w5.heap[j]? := fun j hj => (hgrow.block j (by show j < (w5.alloc o).heap.size; rw [heap_size_alloc]; omega) (ownsRow_far own5 hj)).trans (heap_alloc_old _ _ (by omega))
  have B4 : Below base w1 (w5.alloc o) := B5.alloc z5 o
  have z6 := hgrow.size
  rw [heap_size_alloc] at z6
  have keep : ∀ q : Fd, FdOk w5 q → some q.b ≠ ov.ownBlock → FdOk w6 q ∧ some q.b ≠ (Value.slice (some ⟨g', 0, none⟩) (k + 1) cap').ownBlock := fun q hq hne => by
    have qb := hq.parts.2.2.2.2.2.2
    have e : w6.heap[q.b]? = w5.heap[q.b]? := (hgrow.block q.b (by show q.b < (w5.alloc o).heap.size; rw [heap_size_alloc]; omega) hne).trans (heap_alloc_old _ _ qb)
    refine ⟨⟨hq.reg, flAt_congr hq.row e, hq.hgt⟩, fun c => ?_⟩
    have c' : q.b = g' := by simpa [Value.ownBlock] using c
    rcases hat with z | z
    · exact hne (by rw [z, c'])
    · omega
  refine ⟨?_, ⟨hgrow.os.trans B4.os, hgrow.tape.trans B4.tape, hgrow.output.trans B4.output, Nat.le_trans B4.size hgrow.size, fun j hj => (e4 j hj).trans (B5.block j hj)⟩, by omega, fun i hi => ?_⟩
  · rw [fdsL_upd]
    exact hown
  · by_cases e : i = k
    · subst e
      rw [updF_same]
      exact keep f hf (fun c => by have := hlt _ c.symm; omega)
    · rw [updF_ne T f e]
      obtain ⟨a, b⟩ := h.ok i (by omega)
      exact keep _ (a.stay h5) b

/-- The levels of a field: each one is half of the one before, and bounded as the first one is. -/
structure LvOf (f0 : Fd) (n : Nat) (v0 : Nat → Nat) (k : Nat) (T : Nat → Fd) : Prop where
  first : T 0 = f0
  half : ∀ i, i + 1 < k → FdHalf (T i) (T (i + 1))
  bd : ∀ i, i < k → FdIn n v0 (T i)
theorem LvOf.push {f0 f : Fd} {n : Nat} {v0 : Nat → Nat} {j : Nat} {T : Nat → Fd} (h : LvOf f0 n v0 (j + 1) T) (hh : FdHalf (T j) f) (hb : FdIn n v0 (T j) → FdIn n v0 f) : LvOf f0 n v0 (j + 1 + 1) (updF T (j + 1) f) := by
  refine ⟨by rw [updF_ne T f (by omega)]; exact h.first, fun i hi => ?_, fun i hi => ?_⟩
  · by_cases e : i = j
    · subst e
      rw [updF_same, updF_ne T f (by omega)]
      exact hh
    · rw [updF_ne T f (by omega), updF_ne T f (by omega)]
      exact h.half i (by omega)
  · by_cases e : i = j + 1
    · subst e
      rw [updF_same]
      exact hb (h.bd j (by omega))
    · rw [updF_ne T f e]
      exact h.bd i (by omega)
/-- How long a slice is. -/
def lenV (v : Value) : Nat := match v with | .slice _ l _ => l | _ => 0
/-- What levels answers. -/
def LvsPost (w : World) (f0 : Fd) (m : Nat) (e : Ending) (w' : World) : Prop :=
  ((∃ g len cap k, e = .returned (.tuple #[.slice g len cap, .int .i64 k]) ∧ k ≠ 0) ∨
    ∃ g cap T, e = .returned (.tuple #[.slice (some ⟨g, 0, none⟩) m cap, .int .i64 0]) ∧ FdRow w' g m T ∧ (∀ i, i < m → FdOk w' (T i)) ∧ ∀ n v0, FdIn n v0 f0 → LvOf f0 n v0 m T) ∧ Below w.heap.size w w'

set_option maxRecDepth 100000 in
set_option maxHeartbeats 4000000 in
theorem levels_fd (f : Fd) (m : Nat) (w : World) (hf : FdOk w f) (h1 : 1 ≤ m) (h2 : m ≤ 10) :
    Calls Try.prog 40 #[f.val, .int .i64 m] w (LvsPost w f m) := by
  have DN := Lib.hid (fun q W' (hq : FdOk W' q) => down_fd q W' hq)
  have HF := Lib.hid hf
  have hinfo : (Try.prog.info? 26).map (fun i => (i.zero, i.size, i.bytes)) = some (some (.agg #[.int .i64 0, .int .i64 0, .int .i64 0, .int .i64 0, .slice none 0 0]), 5, 56) := by kernel_rfl
  obtain ⟨ti, hi, hz0, hz1, hz2⟩ := info_parts hinfo
  have HI := Lib.hid hi
  have m1 : (1 : Int) ≤ (m : Int) := by omega
  have m2 : (m : Int) ≤ 10 := by omega
  have M1 := Lib.hid h1
  have M2 := Lib.hid h2
  clear hf hinfo hi h1 h2
  go_enter Try.func40, Try.ntmps40
  go_wp2
  have HS : Hid (∃ T : Nat → Fd, LvAt (w.alloc (.cells f.cells 26)) (w.heap.size + 1) T 1 (.slice (some ⟨w.heap.size + 1, 0, none⟩) 1 1) ((w.alloc (.cells f.cells 26)).alloc (.cells f.cells 26)) ∧ (∀ n v0, FdIn n v0 f → LvOf f n v0 1 T)) := by
    have hF := HF.out
    have zb := hF.parts.2.2.2.2.2.2
    refine Lib.hid ⟨fun _ => f, ⟨⟨by simp [fdsL], .inr ⟨_, 1, f.cells, rfl, Nat.le_refl _, ?_, by omega, by unfold maxLen; omega, by simp, by simp [fdsL]⟩⟩, ?_, by simp, fun i hi => ⟨?_, ?_⟩⟩, fun n v0 h => ⟨rfl, fun i hi => by omega, fun i hi => h⟩⟩
    · (first | (rw [heap_alloc_get, if_pos rfl]; done) | ((simp only [heap_alloc_get, heap_size_alloc, if_true]) <;> ((repeat' split) <;> first | rfl | omega)))
    · exact (by repeat (first | exact Below.refl _ _ | refine Below.alloc ?_ (by first | omega | (simp; done) | (simp; omega)) _ | refine Below.setCell ?_ (by first | omega | (simp; done) | (simp; omega)) _ | refine Below.drew ?_))
    · exact hF.stay (by repeat (first | exact Below.refl _ _ | refine Below.alloc ?_ (by first | omega | (simp; done) | (simp; omega)) _ | refine Below.setCell ?_ (by first | omega | (simp; done) | (simp; omega)) _ | refine Below.drew ?_))
    · simp [Value.ownBlock]; omega
  have B1 := Lib.hid (show Below w.heap.size w (w.alloc (.cells f.cells 26)) from (by repeat (first | exact Below.refl _ _ | refine Below.alloc ?_ (by first | omega | (simp; done) | (simp; omega)) _ | refine Below.setCell ?_ (by first | omega | (simp; done) | (simp; omega)) _ | refine Below.drew ?_)))
  generalize (w.alloc (.cells f.cells 26)).alloc (.cells f.cells 26) = w3 at *
  generalize w.alloc (.cells f.cells 26) = w1 at *
  go_loopw [6] (fun l wr => ∃ (k : Nat) (ov : Value) (T : Nat → Fd), 1 ≤ k ∧ k ≤ m ∧ ov = l ∧ LvAt w1 (w.heap.size + 1) T k ov wr ∧ (∀ n v0, FdIn n v0 f → LvOf f n v0 k T)) (fun l _ => m - lenV l)
  case atStart =>
    obtain ⟨T, hT, hT2⟩ := HS.out
    exact ⟨1, _, T, Nat.le_refl _, M1.out, rfl, hT, hT2⟩
  case round =>
    obtain ⟨k, ov, T, hk1, hk2, rfl, hm, hl⟩ := hrel
    have HM := Lib.hid hm
    have HL := Lib.hid hl
    obtain ⟨j, rfl⟩ : ∃ j, k = j + 1 := ⟨k - 1, by omega⟩
    obtain ⟨g, cap, rfl, _⟩ := hm.own.form (by omega)
    obtain ⟨hrow, hlo⟩ := hm.row
    obtain ⟨c0, c1, c2, c3, c4, zg⟩ := fd_at hrow (show j < j + 1 by omega)
    have HO := Lib.hid (hm.ok j (by omega)).1
    have HRW := Lib.hid hrow
    have BW := Lib.hid (B1.out.trans (hm.bel.mono (by omega)))
    have HK2 := Lib.hid hk2
    clear hm hl hrow hlo hk1
    by_cases hlt : j + 1 < m
    · have DNK := Lib.hid (show Calls Try.prog 28 #[fldV (T j).x (T j).y (T j).w (T j).h (T j).sl] wr fun e w' => ((∃ f' : Fd, e = .returned (.tuple #[f'.val, .int .i64 0]) ∧ FdHalf (T j) f' ∧ FdOk w' f' ∧ wr.heap.size ≤ f'.b ∧ (∀ n v0, FdIn n v0 (T j) → FdIn n v0 f')) ∨ e = .returned (.tuple #[fldV 0 0 0 0 (.slice none 0 0), .int .i64 2])) ∧ Below wr.heap.size wr w' from DN.out (T j) wr HO.out)
      have HLT := Lib.hid hlt
      have hlt' : (j : Int) + 1 < (m : Int) := by omega
      have hj : (j : Int) ≤ 10 := by omega
      obtain ⟨tx, htx⟩ : ∃ tx, (T j).x = tx := ⟨_, rfl⟩
      obtain ⟨ty, hty⟩ : ∃ ty, (T j).y = ty := ⟨_, rfl⟩
      obtain ⟨tw, htw⟩ : ∃ tw : Int, ((T j).w : Int) = tw := ⟨_, rfl⟩
      obtain ⟨th, hth⟩ : ∃ th : Int, ((T j).h : Int) = th := ⟨_, rfl⟩
      obtain ⟨ts, hts⟩ : ∃ ts, (T j).sl = ts := ⟨_, rfl⟩
      rw [htx, hty, htw, hth, hts] at DNK
      rw [htx] at c0
      rw [hty] at c1
      rw [htw] at c2
      rw [hth] at c3
      rw [hts] at c4
      clear htx hty htw hth hts
      go_wp2_with fail
      refine DNK.out.mono ?_
      rintro e w5 ⟨hcase, hb5⟩
      have HB5 := Lib.hid hb5
      clear c0 c1 c2 c3 c4 hb5
      rcases hcase with ⟨f', rfl, hh, hok, hfb, hin⟩ | rfl
      · have HH := Lib.hid hh
        have HK5 := Lib.hid hok
        have HFB := Lib.hid hfb
        have HIN := Lib.hid hin
        obtain ⟨fx, hfx⟩ : ∃ fx, f'.x = fx := ⟨_, rfl⟩
        obtain ⟨fy, hfy⟩ : ∃ fy, f'.y = fy := ⟨_, rfl⟩
        obtain ⟨fw, hfw⟩ : ∃ fw : Int, (f'.w : Int) = fw := ⟨_, rfl⟩
        obtain ⟨fh, hfh⟩ : ∃ fh : Int, (f'.h : Int) = fh := ⟨_, rfl⟩
        obtain ⟨fb, fn, fc, hfs⟩ : ∃ fb fn fc, f'.sl = .slice fb fn fc := ⟨_, _, _, rfl⟩
        have HCL := Lib.hid (show f'.cells.toList = [.int .i64 fx, .int .i64 fy, .int .i64 fw, .int .i64 fh, .slice fb fn fc] from by rw [← hfx, ← hfy, ← hfw, ← hfh, ← hfs])
        have HVL : f'.val = fldV fx fy fw fh (.slice fb fn fc) := by rw [← hfx, ← hfy, ← hfw, ← hfh, ← hfs]
        rw [HVL]
        clear hh hok hfb hin hfx hfy hfw hfh hfs HVL
        have HBX := Lib.hid (HB5.out.trans (Below.mono (show Below w5.heap.size w5 (w5.alloc (fldO fx fy fw fh (.slice fb fn fc))) from (by repeat (first | exact Below.refl _ _ | refine Below.alloc ?_ (by first | omega | (simp; done) | (simp; omega)) _ | refine Below.setCell ?_ (by first | omega | (simp; done) | (simp; omega)) _ | refine Below.drew ?_))) HB5.out.size))
        have HKX := Lib.hid (HK5.out.stay (show Below w5.heap.size w5 (w5.alloc (fldO fx fy fw fh (.slice fb fn fc))) from (by repeat (first | exact Below.refl _ _ | refine Below.alloc ?_ (by first | omega | (simp; done) | (simp; omega)) _ | refine Below.setCell ?_ (by first | omega | (simp; done) | (simp; omega)) _ | refine Below.drew ?_))))
        have OWX := Lib.hid (ownsRow_below HM.out.own HBX.out)
        have hi := HI.out
        go_wp2_with (at_builtin; go_loud (refine wpList_append_lies _ rfl _ _ _ rfl (w.heap.size + 1) 26 ti _ 5 56 Try.underlying47 hi hz0 hz1 hz2 rfl (by omega) (.slice (some ⟨g, 0, none⟩) (j + 1) cap) (j + 1) (fdsL T (j + 1)) (by rfl) (OWX.out.alloc _) ⟨w5.heap.size + 1, 0, none⟩ 1 1 [.int .i64 fx, .int .i64 fy, .int .i64 fw, .int .i64 fh, .slice fb fn fc] (by rfl) (by rfl) (World.news_of_block (cs := #[.int .i64 fx, .int .i64 fy, .int .i64 fw, .int .i64 fh, .slice fb fn fc]) (t := 26) (fr := (0, 0)) (by (first | (rw [heap_alloc_get, if_pos rfl]; done) | ((simp only [heap_alloc_get, heap_size_alloc, if_true]) <;> ((repeat' split) <;> first | rfl | omega))))) (by simp [Value.oneCell']) (by omega) (by have := HLT.out; have := M2.out; unfold maxLen; omega) (by have := HLT.out; have := M2.out; omega) (by have := HM.out.size; have := HB5.out.size; simp; omega) (w5.heap.size + 1 + 1) (by simp) ?_; intro g' cap' w8 hown8 hgrow hat hlt8))
        have PU := Lib.hid (LvAt.push (w5 := w5.alloc (fldO fx fy fw fh (.slice fb fn fc))) HM.out (fun q hq => by have : g = q := by simpa [Value.ownBlock] using hq
                                                                                                                   omega) HBX.out HKX.out HFB.out hgrow (by simpa using hat) ((congrArg (fun l => w8.ownsRow (w.heap.size + 1) 26 5 (.slice (some ⟨g', 0, none⟩) (j + 1 + 1) cap') (j + 1 + 1) (fdsL T (j + 1) ++ l)) HCL.out).mpr hown8))
        clear hown8 hgrow hat hlt8
        refine ⟨⟨j + 1 + 1, _, updF T (j + 1) f', by omega, HLT.out, rfl, PU.out, fun n v0 h => (HL.out n v0 h).push HH.out (HIN.out n v0)⟩, ?_⟩
        have := HLT.out
        show m - (j + 1 + 1) < m - (j + 1)
        omega
      · go_wp2
        go_ret2
        exact ⟨.inl ⟨_, _, _, _, rfl, by decide⟩, BW.out.trans ((HB5.out.trans (Below.mono (show Below w5.heap.size w5 _ from (by repeat (first | exact Below.refl _ _ | refine Below.alloc ?_ (by first | omega | (simp; done) | (simp; omega)) _ | refine Below.setCell ?_ (by first | omega | (simp; done) | (simp; omega)) _ | refine Below.drew ?_))) HB5.out.size)).mono BW.out.size)⟩
    · have hkm : m = j + 1 := by omega
      subst hkm
      have HROW := Lib.hid (show FdRow wr g (j + 1) T from HRW.out)
      go_wp2
      go_ret2
      exact ⟨.inr ⟨g, cap, T, rfl, HROW.out, fun i hi => (HM.out.ok i hi).1, HL.out⟩, BW.out⟩
end Go.Proofs.Ytjjafjdjdjonfaa

/- Contract: Pyramid. -/
namespace Go.Proofs.Ytjjafjdjdjonfaa
open Go.RowKit Fl
set_option linter.unusedVariables false

/-- What is known of levels that are there. -/
def LvInfo (f0 : Fd) (m : Nat) (g : Option Addr) (len : Nat) (w' : World) : Prop :=
  ∃ gb T, g = some ⟨gb, 0, none⟩ ∧ len = m ∧ FdRow w' gb m T ∧ (∀ i, i < m → FdOk w' (T i)) ∧ ∀ n v0, FdIn n v0 f0 → LvOf f0 n v0 m T
def LvsPost1 (w : World) (f0 : Fd) (m : Nat) (e : Ending) (w' : World) : Prop :=
  ∃ g len cap k, e = .returned (.tuple #[.slice g len cap, .int .i64 k]) ∧ (k = 0 → LvInfo f0 m g len w') ∧ Below w.heap.size w w'
theorem levels_fd1 (f : Fd) (m : Nat) (w : World) (hf : FdOk w f) (h1 : 1 ≤ m) (h2 : m ≤ 10) : Calls Try.prog 40 #[f.val, .int .i64 m] w (LvsPost1 w f m) :=
  (levels_fd f m w hf h1 h2).mono fun e w' ⟨h, hb⟩ => by
    rcases h with ⟨g, len, cap, k, rfl, hk⟩ | ⟨g, cap, T, rfl, q1, q2, q3⟩
    · exact ⟨_, _, _, _, rfl, fun z => absurd z hk, hb⟩
    · exact ⟨_, _, _, _, rfl, fun _ => ⟨g, T, rfl, rfl, q1, q2, q3⟩, hb⟩

/-- What Pyramid answers: a list and an error; what is known of it, if there is no error. -/
def PyInfo (X Y : Int) (W H n : Nat) (v : Nat → Nat) (m : Nat) (g : Option Addr) (len : Nat) (w' : World) : Prop :=
  ∃ f0 : Fd, f0.x = X ∧ f0.y = Y ∧ f0.w = W ∧ f0.h = H ∧ f0.v = v ∧ 1 ≤ m ∧ m ≤ 10 ∧ LvInfo f0 m g len w'
def PyPost (w : World) (X Y : Int) (W H n : Nat) (v : Nat → Nat) (m : Nat) (e : Ending) (w' : World) : Prop :=
  ∃ g len cap k, e = .returned (.tuple #[.slice g len cap, .int .i64 k]) ∧ (k = 0 → PyInfo X Y W H n v m g len w') ∧ Below w.heap.size w w'

set_option maxHeartbeats 2000000 in
theorem pyramid_chk (X Y W H : Int) (a : Option Addr) (n cap : Nat) (er m : Int) (w : World) (hE : SlE w a n cap er) (hz : fldChk X Y W H n er ≠ 0) :
    Calls Try.prog 19 #[fldV X Y W H (.slice a n cap), .int .i64 m] w fun e w' => e = .returned (.tuple #[.slice none 0 0, .int .i64 (fldChk X Y W H n er)]) ∧ Below w.heap.size w w' := by
  have CK := Lib.hid (fun W' (hB : Below w.heap.size w W') => checkA_any X Y W H a n cap er W' (hE.stay hB).1)
  have hne : (fldChk X Y W H n er != 0) = true := by simpa using hz
  clear hE hz
  generalize fldChk X Y W H n er = ce at *
  go_enter Try.func19, Try.ntmps19
  go_wp2_with (go_at_call 25; refine (CK.out _ (by repeat (first | exact Below.refl _ _ | refine Below.alloc ?_ (by first | omega | (simp; done) | (simp; omega)) _ | refine Below.setCell ?_ (by first | omega | (simp; done) | (simp; omega)) _ | refine Below.drew ?_))).mono ?_; rintro e w1 ⟨rfl, hb1⟩; have B1 := Lib.hid (Below.trans (show Below w.heap.size w _ from (by repeat (first | exact Below.refl _ _ | refine Below.alloc ?_ (by first | omega | (simp; done) | (simp; omega)) _ | refine Below.setCell ?_ (by first | omega | (simp; done) | (simp; omega)) _ | refine Below.drew ?_))) (hb1.mono (by first | omega | (simp; done) | (simp; omega)))); clear hb1)
  go_ret2
  exact ⟨rfl, B1.out⟩
set_option maxHeartbeats 2000000 in
theorem pyramid_range (X Y W H : Int) (a : Option Addr) (n cap : Nat) (er m : Int) (w : World) (hE : SlE w a n cap er) (hz : fldChk X Y W H n er = 0) (hm : withinB m 1 10 = false) :
    Calls Try.prog 19 #[fldV X Y W H (.slice a n cap), .int .i64 m] w fun e w' => e = .returned (.tuple #[.slice none 0 0, .int .i64 3]) ∧ Below w.heap.size w w' := by
  have CK := Lib.hid (fun W' (hB : Below w.heap.size w W') => checkA_any X Y W H a n cap er W' (hE.stay hB).1)
  rw [hz] at CK
  have WI := Lib.hid (fun w => within_any m 1 10 w)
  rw [hm] at WI
  clear hE hz hm
  go_enter Try.func19, Try.ntmps19
  go_wp2_with (first | (go_at_call 25; refine (CK.out _ (by repeat (first | exact Below.refl _ _ | refine Below.alloc ?_ (by first | omega | (simp; done) | (simp; omega)) _ | refine Below.setCell ?_ (by first | omega | (simp; done) | (simp; omega)) _ | refine Below.drew ?_))).mono ?_; rintro e w1 ⟨rfl, hb1⟩; have B1 := Lib.hid (Below.trans (show Below w.heap.size w _ from (by repeat (first | exact Below.refl _ _ | refine Below.alloc ?_ (by first | omega | (simp; done) | (simp; omega)) _ | refine Below.setCell ?_ (by first | omega | (simp; done) | (simp; omega)) _ | refine Below.drew ?_))) (hb1.mono (by first | omega | (simp; done) | (simp; omega)))); clear hb1) | (go_at_call 39; refine (WI.out _).mono ?_; rintro e w' ⟨rfl, rfl⟩))
  go_ret2
  exact ⟨rfl, B1.out⟩
set_option maxHeartbeats 4000000 in
theorem pyramid_ok (X Y : Int) (W H n b off cap : Nat) (v : Nat → Nat) (m : Nat) (w : World) (hE : SlE w (some ⟨b, off, none⟩) n cap 0) (h0 : checkR X Y W H = 0) (hn : n = W * H) (hr : FlAt w b off n v) (hh : allB n (fun i => hgtB (v i)) = true) (h1 : 1 ≤ m) (h2 : m ≤ 10) :
    Calls Try.prog 19 #[fldV X Y W H (.slice (some ⟨b, off, none⟩) n cap), .int .i64 m] w (PyPost w X Y W H n v m) := by
  have CK := Lib.hid (fun W' (hB : Below w.heap.size w W') => checkA_any X Y W H (some ⟨b, off, none⟩) n cap 0 W' (hE.stay hB).1)
  rw [show fldChk X Y W H n 0 = 0 from by unfold fldChk; rw [if_neg (by rw [h0]; simp), if_neg (by rw [hn]; simp)]] at CK
  have WI := Lib.hid (fun w => within_any m 1 10 w)
  rw [show withinB (m : Int) 1 10 = true from withinB_iff.2 ⟨by omega, by omega⟩] at WI
  obtain ⟨b1, b2, b3, b4, b5, b6, b7, b8, b9⟩ := checkR_zero h0
  have hn1 : 1 ≤ n := by rw [hn]; exact Nat.mul_pos (by omega) (by omega)
  have hn2 : n ≤ 65536 := by
    have : ((W : Int) * (H : Int)) = (n : Int) := by rw [hn]; simp
    omega
  have zb : b < w.heap.size := World.block_lt_of_cell? w _ (hr 0 hn1)
  have CL := Lib.hid (fun W' (hB : Below w.heap.size w W') => cloneV_any b off n cap v W' hn1 hn2 (flAt_congr hr (hB.block b zb)))
  have LV := Lib.hid (fun sb sc W' (ho : FlAt W' sb 0 n v) => show Calls Try.prog 40 #[fldV X Y W H (.slice (some ⟨sb, 0, none⟩) n sc), .int .i64 m] W' (LvsPost1 W' ⟨X, Y, W, H, sb, sc, v⟩ m) from by
    have q := ho
    rw [hn] at q hh ⊢
    exact levels_fd1 ⟨X, Y, W, H, sb, sc, v⟩ m W' ⟨h0, q, hh⟩ h1 h2)
  have H1 := Lib.hid h1
  have H2 := Lib.hid h2
  have HN1 := Lib.hid (show 0 < n from hn1)
  clear hE h0 hn hr hh b1 b2 b3 b4 b5 b6 b7 b8 b9 hn1 hn2 zb h1 h2
  go_enter Try.func19, Try.ntmps19
  go_wp2_with (first | (go_at_call 25; refine (CK.out _ (by repeat (first | exact Below.refl _ _ | refine Below.alloc ?_ (by first | omega | (simp; done) | (simp; omega)) _ | refine Below.setCell ?_ (by first | omega | (simp; done) | (simp; omega)) _ | refine Below.drew ?_))).mono ?_; rintro e w1 ⟨rfl, hb1⟩; have HF1 := Lib.hid (blkStay (b := w.heap.size) (o := fldO X Y W H (.slice (some ⟨b, off, none⟩) n cap)) (by (first | (rw [heap_alloc_get, if_pos rfl]; done) | ((simp only [heap_alloc_get, heap_size_alloc, if_true]) <;> ((repeat' split) <;> first | rfl | omega)))) hb1); have B1 := Lib.hid (Below.trans (show Below w.heap.size w _ from (by repeat (first | exact Below.refl _ _ | refine Below.alloc ?_ (by first | omega | (simp; done) | (simp; omega)) _ | refine Below.setCell ?_ (by first | omega | (simp; done) | (simp; omega)) _ | refine Below.drew ?_))) (hb1.mono (by first | omega | (simp; done) | (simp; omega)))); clear hb1; obtain ⟨cF, fF, zF⟩ := blkC HF1.out) | (go_at_call 39; refine (WI.out _).mono ?_; rintro e w' ⟨rfl, rfl⟩))
  have CL1 := Lib.hid (fun W' (hB : Below w1.heap.size w1 W') => CL.out W' (B1.out.trans (hB.mono B1.out.size)))
  go_region_held3 (fun w' => (∀ o, w'.cell? ⟨w.heap.size, o, none⟩ = #[.int .i64 X, .int .i64 Y, .int .i64 W, .int .i64 H, .slice (some ⟨b, off, none⟩) n cap][o]?) ∧ Below w1.heap.size w1 w') (first | exact ⟨(blkC (blkStay HF1.out hb9)).1, hb9⟩ | exact ⟨(blkC (blkStay HF1.out (by repeat (first | exact Below.refl _ _ | refine Below.alloc ?_ (by first | omega | (simp; done) | (simp; omega)) _ | refine Below.setCell ?_ (by first | omega | (simp; done) | (simp; omega)) _ | refine Below.drew ?_)))).1, (by repeat (first | exact Below.refl _ _ | refine Below.alloc ?_ (by first | omega | (simp; done) | (simp; omega)) _ | refine Below.setCell ?_ (by first | omega | (simp; done) | (simp; omega)) _ | refine Below.drew ?_))⟩) (first
    | (go_at_call 41; (with_reducible refine Calls.mono (CL1.out _ ?_) ?_); exact (by repeat (first | exact Below.refl _ _ | refine Below.alloc ?_ (by first | omega | (simp; done) | (simp; omega)) _ | refine Below.setCell ?_ (by first | omega | (simp; done) | (simp; omega)) _ | refine Below.drew ?_)); rintro e w2 ⟨sb, sc, rfl, hg8, how8, hb8⟩; have HOW := Lib.hid ((ownsRow_flAt how8 HN1.out).1); have hb9 : Below w1.heap.size w1 w2 := Below.trans (by repeat (first | exact Below.refl _ _ | refine Below.alloc ?_ (by first | omega | (simp; done) | (simp; omega)) _ | refine Below.setCell ?_ (by first | omega | (simp; done) | (simp; omega)) _ | refine Below.drew ?_)) (Below.mono hb8 (by first | exact Nat.le_refl _ | (simp; done) | (simp; omega))); clear hb8 hg8 how8)
    | (go_at_call 40; (with_reducible refine Calls.mono (LV.out _ _ _ ?_) ?_); exact HOW.out; rintro e w3 ⟨lg, ll, lc, lk, rfl, hinf, hb8⟩; have HINF := Lib.hid hinf; have hb7 := hb9.trans (hb8.mono hb9.size); clear hb9 hb8 hinf; have hb9 := hb7; clear hb7))
  have hHeld := ‹_ ∧ Below w1.heap.size w1 _›
  have B3 := Lib.hid (B1.out.trans (hHeld.2.mono B1.out.size))
  clear hHeld
  by_cases hk : lk = 0
  · subst hk
    go_wp2
    go_ret2
    exact ⟨_, _, _, _, rfl, fun _ => ⟨⟨X, Y, W, H, sb, sc, v⟩, rfl, rfl, rfl, rfl, rfl, H1.out, H2.out, HINF.out trivial⟩, B3.out⟩
  · have hk2 : (lk != 0) = true := by simpa using hk
    have HK := Lib.hid hk
    clear hk
    go_wp2
    go_ret2
    exact ⟨_, _, _, _, rfl, fun z => absurd z HK.out, B3.out⟩

/-- Pyramid, of whatever field and number. -/
theorem pyramid_any (X Y W H : Int) (a : Option Addr) (n cap : Nat) (er m : Int) (w : World) (hE : SlE w a n cap er) (hF : er = 0 → n ≠ 0 → ∃ b off v, a = some ⟨b, off, none⟩ ∧ FlAt w b off n v ∧ allB n (fun i => hgtB (v i)) = true) :
    Calls Try.prog 19 #[fldV X Y W H (.slice a n cap), .int .i64 m] w fun e w' => ∃ g len cap' k, e = .returned (.tuple #[.slice g len cap', .int .i64 k]) ∧ (k = 0 → ∃ (W' H' m' b off : Nat) (v : Nat → Nat), W = W' ∧ H = H' ∧ m = m' ∧ n = W' * H' ∧ checkR X Y W H = 0 ∧ er = 0 ∧ a = some ⟨b, off, none⟩ ∧ FlAt w b off n v ∧ allB n (fun i => hgtB (v i)) = true ∧ PyInfo X Y W' H' n v m' g len w') ∧ Below w.heap.size w w' := by
  by_cases hz : fldChk X Y W H n er = 0
  · cases hm : withinB m 1 10 with
    | false =>
      refine (pyramid_range X Y W H a n cap er m w hE hz hm).mono ?_
      rintro e w' ⟨rfl, hb⟩
      exact ⟨_, _, _, _, rfl, fun z => absurd z (by decide), hb⟩
    | true =>
      obtain ⟨m1, m2⟩ := withinB_iff.1 hm
      obtain ⟨m', rfl⟩ : ∃ m' : Nat, m = m' := ⟨m.toNat, by omega⟩
      have h0 : checkR X Y W H = 0 := by
        unfold fldChk at hz
        by_cases q : checkR X Y W H = 0
        · exact q
        · rw [if_pos q] at hz; exact absurd hz q
      have hnn : (n : Int) = W * H := by
        unfold fldChk at hz
        rw [if_neg (by simpa using h0)] at hz
        by_cases q : (n : Int) = W * H
        · exact q
        · rw [if_pos q] at hz; cases hz
      have her : er = 0 := by
        unfold fldChk at hz
        rwa [if_neg (by simpa using h0), if_neg (by simpa using hnn)] at hz
      obtain ⟨b1, b2, b3, b4, b5, b6, b7, b8, b9⟩ := checkR_zero h0
      obtain ⟨W', rfl⟩ : ∃ W' : Nat, W = W' := ⟨W.toNat, by omega⟩
      obtain ⟨H', rfl⟩ : ∃ H' : Nat, H = H' := ⟨H.toNat, by omega⟩
      have hn : n = W' * H' := by
        have : ((W' * H' : Nat) : Int) = W' * H' := by simp
        omega
      have hn1 : n ≠ 0 := by
        have := (mul_side b1 b2 b3 b4).1
        omega
      obtain ⟨b, off, v, rfl, hr, hh⟩ := hF her hn1
      subst her
      refine (pyramid_ok X Y W' H' n b off cap v m' w hE h0 hn hr hh (by omega) (by omega)).mono ?_
      rintro e w' ⟨g, len, cap', k, rfl, hi, hb⟩
      exact ⟨g, len, cap', k, rfl, fun z => ⟨W', H', m', b, off, v, rfl, rfl, rfl, hn, h0, rfl, rfl, hr, hh, hi z⟩, hb⟩
  · refine (pyramid_chk X Y W H a n cap er m w hE hz).mono ?_
    rintro e w' ⟨rfl, hb⟩
    exact ⟨_, _, _, _, rfl, fun z => absurd z hz, hb⟩
end Go.Proofs.Ytjjafjdjdjonfaa

/- Contracts: Profile; Values. -/
namespace Go.Proofs.Ytjjafjdjdjonfaa
open Go.RowKit Fl
set_option linter.unusedVariables false

theorem insE_cases (X Y W H ax ay cx cy : Int) : insE X Y W H ax ay cx cy = 0 ∨ insE X Y W H ax ay cx cy = 5 := by unfold insE; (repeat' split) <;> simp
/-- What Profile answers. -/
def profE (X Y W H : Int) (n : Nat) (er ax ay cx cy : Int) : Int := if fldChk X Y W H n er ≠ 0 then fldChk X Y W H n er else insE X Y W H ax ay cx cy

set_option maxHeartbeats 2000000 in
theorem profile_no (X Y W H : Int) (a : Option Addr) (n cap : Nat) (er ax ay cx cy : Int) (w : World) (hE : SlE w a n cap er) (hz : profE X Y W H n er ax ay cx cy ≠ 0) :
    Calls Try.prog 6 #[fldV X Y W H (.slice a n cap), ptV ax ay, ptV cx cy] w fun e w' => e = .returned (.tuple #[.slice none 0 0, .int .i64 (profE X Y W H n er ax ay cx cy)]) ∧ Below w.heap.size w w' := by
  have CK := Lib.hid (fun W' (hB : Below w.heap.size w W') => checkA_any X Y W H a n cap er W' (hE.stay hB).1)
  by_cases h1 : fldChk X Y W H n er = 0
  · have e1 : profE X Y W H n er ax ay cx cy = insE X Y W H ax ay cx cy := by unfold profE; rw [if_neg (by simpa using h1)]
    rw [e1] at hz ⊢
    have h0 : checkR X Y W H = 0 := by
      unfold fldChk at h1
      by_cases q : checkR X Y W H = 0
      · exact q
      · rw [if_pos q] at h1; exact absurd h1 q
    obtain ⟨b1, b2, b3, b4, _, b6, b7, b8, b9⟩ := checkR_zero h0
    have CI := Lib.hid (fun p w hp => checkInside_two X Y W H ax ay cx cy p w hp (by omega) (by omega) (by omega) (by omega) (by omega) (by omega) (by omega) (by omega))
    have e2 : insE X Y W H ax ay cx cy = 5 := by have := insE_cases X Y W H ax ay cx cy; omega
    rw [e2] at CI ⊢
    rw [h1] at CK
    clear hE hz h1 e1 e2 h0 b1 b2 b3 b4 b6 b7 b8 b9
    go_enter Try.func6, Try.ntmps6
    go_wp2_with (first
      | (go_at_call 25; refine (CK.out _ (by repeat (first | exact Below.refl _ _ | refine Below.alloc ?_ (by first | omega | (simp; done) | (simp; omega)) _ | refine Below.setCell ?_ (by first | omega | (simp; done) | (simp; omega)) _ | refine Below.drew ?_))).mono ?_; rintro e w1 ⟨rfl, hb1⟩; have HF1 := Lib.hid (blkStay (b := w.heap.size) (o := fldO X Y W H (.slice a n cap)) (by (first | (rw [heap_alloc_get, if_pos rfl]; done) | ((simp only [heap_alloc_get, heap_size_alloc, if_true]) <;> ((repeat' split) <;> first | rfl | omega)))) hb1); have HA1 := Lib.hid (blkStay (b := w.heap.size + 1) (o := ptObj ax ay) (by (first | (rw [heap_alloc_get, if_pos rfl]; done) | ((simp only [heap_alloc_get, heap_size_alloc, if_true]) <;> ((repeat' split) <;> first | rfl | omega)))) hb1); have HC1 := Lib.hid (blkStay (b := w.heap.size + 1 + 1) (o := ptObj cx cy) (by (first | (rw [heap_alloc_get, if_pos rfl]; done) | ((simp only [heap_alloc_get, heap_size_alloc, if_true]) <;> ((repeat' split) <;> first | rfl | omega)))) hb1); have B1 := Lib.hid (Below.trans (show Below w.heap.size w (((w.alloc (fldO X Y W H (.slice a n cap))).alloc (ptObj ax ay)).alloc (ptObj cx cy)) from (by repeat (first | exact Below.refl _ _ | refine Below.alloc ?_ (by first | omega | (simp; done) | (simp; omega)) _ | refine Below.setCell ?_ (by first | omega | (simp; done) | (simp; omega)) _ | refine Below.drew ?_))) (hb1.mono (by simp; omega))); clear hb1; obtain ⟨cF, fF, zF⟩ := blkC HF1.out; obtain ⟨cA, fA, zA⟩ := blkC HA1.out; obtain ⟨cC, fC, zC⟩ := blkC HC1.out)
      | (go_at_call 26; refine (CI.out _ _ (heap_alloc_new _ _)).mono ?_; rintro e w2 ⟨rfl, hb2⟩; have B2 := Lib.hid (B1.out.trans (Below.mono (Below.trans (show Below w1.heap.size w1 _ from (by repeat (first | exact Below.refl _ _ | refine Below.alloc ?_ (by first | omega | (simp; done) | (simp; omega)) _ | refine Below.setCell ?_ (by first | omega | (simp; done) | (simp; omega)) _ | refine Below.drew ?_))) (hb2.mono (by simp))) B1.out.size)); clear hb2))
    go_ret2
    exact ⟨rfl, B2.out⟩
  · have e1 : profE X Y W H n er ax ay cx cy = fldChk X Y W H n er := by unfold profE; rw [if_pos h1]
    rw [e1]
    have hne : (fldChk X Y W H n er != 0) = true := by simpa using h1
    clear hE hz h1 e1
    generalize fldChk X Y W H n er = ce at *
    go_enter Try.func6, Try.ntmps6
    go_wp2_with (go_at_call 25; refine (CK.out _ (by repeat (first | exact Below.refl _ _ | refine Below.alloc ?_ (by first | omega | (simp; done) | (simp; omega)) _ | refine Below.setCell ?_ (by first | omega | (simp; done) | (simp; omega)) _ | refine Below.drew ?_))).mono ?_; rintro e w1 ⟨rfl, hb1⟩; have B1 := Lib.hid (Below.trans (show Below w.heap.size w (((w.alloc (fldO X Y W H (.slice a n cap))).alloc (ptObj ax ay)).alloc (ptObj cx cy)) from (by repeat (first | exact Below.refl _ _ | refine Below.alloc ?_ (by first | omega | (simp; done) | (simp; omega)) _ | refine Below.setCell ?_ (by first | omega | (simp; done) | (simp; omega)) _ | refine Below.drew ?_))) (hb1.mono (by simp; omega))); clear hb1)
    go_ret2
    exact ⟨rfl, B1.out⟩
/-- The value at a place. -/
def atP (X Y : Int) (W : Nat) (v : Nat → Nat) (p : Pnt) : Nat := v ((p.y - Y) * W + (p.x - X)).toNat
/-- Whether a place is in a region. -/
def InR (X Y W H : Int) (p : Pnt) : Prop := X ≤ p.x ∧ p.x < X + W ∧ Y ≤ p.y ∧ p.y < Y + H
theorem inR_num {X Y : Int} {W H n : Nat} {p : Pnt} (hW : 1 ≤ W) (h : InR X Y W H p) (hn : n = H * W) : ((((p.y - Y) * W + (p.x - X)).toNat : Nat) : Int) = (p.y - Y) * W + (p.x - X) ∧ ((p.y - Y) * W + (p.x - X)).toNat < n := by
  obtain ⟨h1, h2, h3, h4⟩ := h
  have q : 0 ≤ (p.y - Y) * W := Int.mul_nonneg (by omega) (by omega)
  have e : ((((p.y - Y) * W + (p.x - X)).toNat : Nat) : Int) = (p.y - Y) * W + (p.x - X) := Int.toNat_of_nonneg (by omega)
  exact ⟨e, num_lt hW h1 h2 h4 e hn⟩
theorem valueAtP_any (X Y : Int) (W H n b off cap : Nat) (v : Nat → Nat) (x y : Int) (w : World) (hr : FlAt w b off n v) (h0 : checkR X Y W H = 0) (hnn : n = W * H) (hp : InR X Y W H ⟨x, y⟩) :
    Calls Try.prog 27 #[fldV X Y W H (.slice (some ⟨b, off, none⟩) n cap), ptV x y] w fun e w' => e = .returned (.float .f32 (atP X Y W v ⟨x, y⟩)) ∧ Below w.heap.size w w' := by
  obtain ⟨b1, b2, b3, b4, b5, b6, b7, b8, b9⟩ := checkR_zero h0
  have hn2 : n ≤ 65536 := by
    have : ((W : Int) * (H : Int)) = (n : Int) := by rw [hnn]; simp
    omega
  have hn' : n = H * W := by rw [hnn, Nat.mul_comm]
  obtain ⟨e, _⟩ := inR_num (X := X) (Y := Y) (p := ⟨x, y⟩) (by omega) hp hn'
  exact valueAt_any X Y W H n b off cap v x y _ w hr hn2 (by omega) (by omega) (by omega) (by omega) (by omega) (by omega) (by omega) hn' hp.1 hp.2.1 hp.2.2.1 hp.2.2.2 e

/-- Profile's singles are there. -/
def ProfPost (w : World) (n : Nat) (f : Nat → Nat) (e : Ending) (w' : World) : Prop :=
  ∃ g cap, e = .returned (.tuple #[.slice (some ⟨g, 0, none⟩) n cap, .int .i64 0]) ∧ w.heap.size ≤ g ∧ FlAt w' g 0 n f ∧ Below w.heap.size w w'

set_option maxRecDepth 100000 in
set_option maxHeartbeats 4000000 in
theorem profile_ok (X Y : Int) (W H n b off cap : Nat) (v : Nat → Nat) (ax ay cx cy : Int) (m : Nat) (w : World) (hr : FlAt w b off n v) (hE : SlE w (some ⟨b, off, none⟩) n cap 0) (h0 : checkR X Y W H = 0) (hnn : n = W * H)
    (ha : InR X Y W H ⟨ax, ay⟩) (hc : InR X Y W H ⟨cx, cy⟩) (hi : insE X Y W H ax ay cx cy = 0) (hf : farI ⟨ax, ay⟩ ⟨cx, cy⟩ = m) (M : Nat) (hM : m + 1 = M) :
    Calls Try.prog 6 #[fldV X Y W H (.slice (some ⟨b, off, none⟩) n cap), ptV ax ay, ptV cx cy] w (ProfPost w M (fun i => atP X Y W v (lnP ⟨ax, ay⟩ ⟨cx, cy⟩ i))) := by
  obtain ⟨b1, b2, b3, b4, b5, b6, b7, b8, b9⟩ := checkR_zero h0
  have en : ((W : Int) * (H : Int)) = (n : Int) := by rw [hnn]; simp
  have hn1 : 1 ≤ n := by rw [hnn]; exact Nat.mul_pos (by omega) (by omega)
  have zb : b < w.heap.size := World.block_lt_of_cell? w _ (hr 0 hn1)
  obtain ⟨a1, a2, a3, a4⟩ := ha
  obtain ⟨c1, c2, c3, c4⟩ := hc
  simp only at a1 a2 a3 a4 c1 c2 c3 c4
  have hm : m ≤ 511 := by
    have h : farI ⟨ax, ay⟩ ⟨cx, cy⟩ = cx - ax ∨ farI ⟨ax, ay⟩ ⟨cx, cy⟩ = ax - cx ∨ farI ⟨ax, ay⟩ ⟨cx, cy⟩ = cy - ay ∨ farI ⟨ax, ay⟩ ⟨cx, cy⟩ = ay - cy := by
      unfold farI
      obtain ⟨_, _, u⟩ := maxI_le (cx - ax) (ax - cx)
      obtain ⟨_, _, u2⟩ := maxI_le (maxI (cx - ax) (ax - cx)) (cy - ay)
      obtain ⟨_, _, u3⟩ := maxI_le (maxI (maxI (cx - ax) (ax - cx)) (cy - ay)) (ay - cy)
      simp only
      omega
    omega
  have LN := Lib.hid (fun i (hi : i < m + 1) => show InR X Y W H (lnP ⟨ax, ay⟩ ⟨cx, cy⟩ i) from lnP_in (by rw [hf]; omega) ⟨a1, a2, a3, a4⟩ ⟨c1, c2, c3, c4⟩)
  have CK := Lib.hid (fun W' (hB : Below w.heap.size w W') => checkA_any X Y W H (some ⟨b, off, none⟩) n cap 0 W' (hE.stay hB).1)
  rw [show fldChk X Y W H n 0 = 0 from by unfold fldChk; rw [if_neg (by rw [h0]; simp), if_neg (by rw [en]; simp)]] at CK
  have CI := Lib.hid (fun p w hp => checkInside_two X Y W H ax ay cx cy p w hp (by omega) (by omega) (by omega) (by omega) (by omega) (by omega) (by omega) (by omega))
  rw [hi] at CI
  have LI := Lib.hid (fun w => line_any ax ay cx cy m w (by omega) (by omega) (by omega) (by omega) (by omega) (by omega) (by omega) (by omega) hf (by omega))
  have VA := Lib.hid (fun x y W' (hp : InR X Y W H ⟨x, y⟩) (hB : Below w.heap.size w W') => valueAtP_any X Y W H n b off cap v x y W' (flAt_congr hr (hB.block b zb)) h0 hnn hp)
  have MK := make_f32 (m + 1) (by omega)
  rw [hM] at LN LI MK
  have HM := Lib.hid (show M ≤ 512 by omega)
  clear hM
  have hsf := fun (w : World) (a : Addr) (m : Mode) (k : FloatKind) (b : Nat) => run_store_float (P := Try.prog) (w := w) (a := a) (m := m) k b
  clear hE h0 b1 b2 b3 b4 b5 b6 b7 b8 b9 en hn1 a1 a2 a3 a4 c1 c2 c3 c4 hi hf hnn hr hm
  generalize lnP ⟨ax, ay⟩ ⟨cx, cy⟩ = T at *
  go_enter Try.func6, Try.ntmps6
  go_wp2_with (first
    | (go_at_call 25; refine (CK.out _ (by repeat (first | exact Below.refl _ _ | refine Below.alloc ?_ (by first | omega | (simp; done) | (simp; omega)) _ | refine Below.setCell ?_ (by first | omega | (simp; done) | (simp; omega)) _ | refine Below.drew ?_))).mono ?_; rintro e w1 ⟨rfl, hb1⟩; have HF1 := Lib.hid (blkStay (b := w.heap.size) (o := fldO X Y W H (.slice (some ⟨b, off, none⟩) n cap)) (by (first | (rw [heap_alloc_get, if_pos rfl]; done) | ((simp only [heap_alloc_get, heap_size_alloc, if_true]) <;> ((repeat' split) <;> first | rfl | omega)))) hb1); have HA1 := Lib.hid (blkStay (b := w.heap.size + 1) (o := ptObj ax ay) (by (first | (rw [heap_alloc_get, if_pos rfl]; done) | ((simp only [heap_alloc_get, heap_size_alloc, if_true]) <;> ((repeat' split) <;> first | rfl | omega)))) hb1); have HC1 := Lib.hid (blkStay (b := w.heap.size + 1 + 1) (o := ptObj cx cy) (by (first | (rw [heap_alloc_get, if_pos rfl]; done) | ((simp only [heap_alloc_get, heap_size_alloc, if_true]) <;> ((repeat' split) <;> first | rfl | omega)))) hb1); have B1 := Lib.hid (Below.trans (show Below w.heap.size w (((w.alloc (fldO X Y W H (.slice (some ⟨b, off, none⟩) n cap))).alloc (ptObj ax ay)).alloc (ptObj cx cy)) from (by repeat (first | exact Below.refl _ _ | refine Below.alloc ?_ (by first | omega | (simp; done) | (simp; omega)) _ | refine Below.setCell ?_ (by first | omega | (simp; done) | (simp; omega)) _ | refine Below.drew ?_))) (hb1.mono (by simp; omega))); clear hb1; obtain ⟨cF, fF, zF⟩ := blkC HF1.out; obtain ⟨cA, fA, zA⟩ := blkC HA1.out; obtain ⟨cC, fC, zC⟩ := blkC HC1.out)
    | (go_at_call 26; refine (CI.out _ _ (heap_alloc_new _ _)).mono ?_; rintro e w2 ⟨rfl, hb2⟩; have hb2' := Below.trans (show Below w1.heap.size w1 _ from (by repeat (first | exact Below.refl _ _ | refine Below.alloc ?_ (by first | omega | (simp; done) | (simp; omega)) _ | refine Below.setCell ?_ (by first | omega | (simp; done) | (simp; omega)) _ | refine Below.drew ?_))) (hb2.mono (by simp)); have HF2 := Lib.hid (blkStay HF1.out hb2'); have HA2 := Lib.hid (blkStay HA1.out hb2'); have HC2 := Lib.hid (blkStay HC1.out hb2'); have B2 := Lib.hid (B1.out.trans (Below.mono hb2' B1.out.size)); clear hb2 hb2' cF fF zF cA fA zA cC fC zC; obtain ⟨cF, fF, zF⟩ := blkC HF2.out; obtain ⟨cA, fA, zA⟩ := blkC HA2.out; obtain ⟨cC, fC, zC⟩ := blkC HC2.out)
    | (go_at_call 24; refine (LI.out _).mono ?_; rintro e w3 ⟨g, gc, rfl, hg, hrow, hb3⟩; have HF3 := Lib.hid (blkStay HF2.out hb3); have B3 := Lib.hid (B2.out.trans (hb3.mono B2.out.size)); have HG := Lib.hid hg; have HR := Lib.hid hrow; clear hb3 hg hrow cF fF zF cA fA zA cC fC zC; obtain ⟨cF, fF, zF⟩ := blkC HF3.out))
  have HS := Lib.hid (show RowPart (w3.alloc (.cells (madeCells #[Value.float .f32 0] M) 50)) w3.heap.size M 0 (fun i => atP X Y W v (T i)) from ⟨madeCells #[Value.float .f32 0] M, heap_alloc_new _ _, by rw [size_madeCells]; exact Nat.le_refl _, fun j hj => by omega⟩)
  have BW := Lib.hid (show Below w3.heap.size w3 (w3.alloc (.cells (madeCells #[Value.float .f32 0] M) 50)) from (by repeat (first | exact Below.refl _ _ | refine Below.alloc ?_ (by first | omega | (simp; done) | (simp; omega)) _ | refine Below.setCell ?_ (by first | omega | (simp; done) | (simp; omega)) _ | refine Below.drew ?_)))
  clear cF fF zF MK
  generalize w3.alloc (.cells (madeCells #[Value.float .f32 0] M) 50) = w4 at *
  have ZF := Lib.hid ((blkC HF3.out).2.2)
  go_loopw [36] (fun s36 wr => ∃ k : Nat, k ≤ M ∧ s36 = .int .i64 k ∧ RowPart wr w3.heap.size M k (fun i => atP X Y W v (T i)) ∧ Below w3.heap.size w3 wr) (fun s36 _ => M - (intOf s36).toNat)
  case atStart => exact ⟨0, Nat.zero_le _, rfl, HS.out, BW.out⟩
  case round =>
    obtain ⟨k, hk, rfl, hrow, hb⟩ := hrel
    have HRw := Lib.hid hrow
    have HB := Lib.hid hb
    have HF := Lib.hid (blkStay HF3.out hb)
    have HPr := Lib.hid (HR.out.stay hb)
    clear hrow hb
    by_cases hlt : k < M
    · obtain ⟨p0, p1, zP⟩ := pt_at HPr.out hlt
      obtain ⟨cF, fF, zF⟩ := blkC HF.out
      have PK := Lib.hid (LN.out k hlt)
      have AK := Lib.hid (show atP X Y W v (T k) = atP X Y W v ⟨(T k).x, (T k).y⟩ from rfl)
      have VAK := Lib.hid (fun W' (hB : Below w.heap.size w W') => VA.out (T k).x (T k).y W' PK.out hB)
      have BWr := Lib.hid (B3.out.trans (HB.out.mono B3.out.size))
      have HLT := Lib.hid hlt
      generalize (T k).x = tx at *
      generalize (T k).y = ty at *
      go_wp2_with fail
      refine (VAK.out _ (BWr.out.trans (Below.mono (show Below wr.heap.size wr _ from (by repeat (first | exact Below.refl _ _ | refine Below.alloc ?_ (by first | omega | (simp; done) | (simp; omega)) _ | refine Below.setCell ?_ (by first | omega | (simp; done) | (simp; omega)) _ | refine Below.drew ?_))) BWr.out.size))).mono ?_
      rintro e w5 ⟨rfl, hb5⟩
      have HB5 := Lib.hid (Below.trans (show Below wr.heap.size wr (wr.alloc (ptObj tx ty)) from (by repeat (first | exact Below.refl _ _ | refine Below.alloc ?_ (by first | omega | (simp; done) | (simp; omega)) _ | refine Below.setCell ?_ (by first | omega | (simp; done) | (simp; omega)) _ | refine Below.drew ?_))) (hb5.mono (by simp)))
      have R5 := Lib.hid (HRw.out.congr (HB5.out.block _ HRw.out.lt))
      have z5 := R5.out.lt
      have f5 := R5.out.free k
      obtain ⟨x0, hx0⟩ := R5.out.cell hlt
      rw [← AK.out]
      have hM2 : (M : Int) ≤ 512 := by have := HM.out; omega
      clear hb5 cF fF zF p0 p1 zP
      go_wp2
      go_roundw
      case rel => exact ⟨k + 1, HLT.out, by go_num, R5.out.put hlt, (HB.out.trans (HB5.out.mono HB.out.size)).setCell (p := ⟨w3.heap.size, k, none⟩) (Nat.le_refl _) _⟩
      case measure => have := HLT.out; simp [intOf]; omega
    · have hkn : k = M := by omega
      subst hkn
      have HFL := Lib.hid HRw.out.flAt
      have BWr := Lib.hid (B3.out.trans (HB.out.mono B3.out.size))
      go_wp2
      go_ret2
      exact ⟨w3.heap.size, k, rfl, B3.out.size, HFL.out, BWr.out⟩
end Go.Proofs.Ytjjafjdjdjonfaa

/- What a level loses of a cell; a block of singles that is written; lossesOf. -/
namespace Go.Proofs.Ytjjafjdjdjonfaa
open Go.RowKit Fl
set_option linter.unusedVariables false

/-- The difference of two heights: a word, with what bounds it. -/
theorem lost_parts {x y : Nat} (hx : hgtB x = true) (hy : hgtB y = true) : ∃ d a, floatBits .sub .f32 x y = some d ∧ d < 4294967296 ∧ vS d = some a ∧ (x = y → a = 0) ∧ ∀ (g : Nat) (A : Int), vS g = some A → InV A x → InV A y → (a.natAbs : Int) ≤ 2 * A := by
  obtain ⟨d, e, _, a, ha, _⟩ := sub_in (hgt_in hx) (hgt_in hy) (hgt_bd hx) (hgt_bd hy) (by omega) (rdS_dbl top_val)
  refine ⟨d, a, e, sub_lt e, ha, fun h => ?_, fun g A hg h1 h2 => ?_⟩
  · subst h
    obtain ⟨z, hz, _⟩ := hgt_val hx
    have := vS_sub (B := 1) e hz hz (by rw [Int.sub_self]; decide) (by omega)
    rw [Int.sub_self, rdS_zero, ha] at this
    exact Option.some.inj this
  · obtain ⟨d', e', _, a', ha', q1, q2⟩ := sub_in h1 h2 (hgt_bd hx) (hgt_bd hy) (by omega) (rdS_dbl hg)
    rw [e] at e'
    cases e'
    rw [ha] at ha'
    cases ha'
    omega
/-- A loss of the level k, as a word. -/
def LostOk (n : Nat) (v0 : Nat → Nat) (k x : Nat) : Prop := ∃ z : Int, vS x = some z ∧ 0 ≤ z ∧ (k = 0 → z = 0) ∧ ∀ (g : Nat) (A : Int), vS g = some A → (∀ i, i < n → InV A (v0 i)) → z ≤ 2 * A
theorem lost_zero {n : Nat} {v0 : Nat → Nat} (k : Nat) (hn : 1 ≤ n) : LostOk n v0 k 0 :=
  ⟨0, vS_zero, Int.le_refl _, fun _ => rfl, fun g A hg h => by obtain ⟨a, _, q1, q2⟩ := h 0 hn; omega⟩

theorem half_chain {f0 : Fd} {n : Nat} {v0 : Nat → Nat} {m : Nat} {T : Nat → Fd} (h : LvOf f0 n v0 m T) : ∀ l, l < m → f0.x = 2 ^ l * (T l).x ∧ f0.y = 2 ^ l * (T l).y ∧ f0.w = 2 ^ l * (T l).w ∧ f0.h = 2 ^ l * (T l).h := by
  intro l
  induction l with
  | zero => intro _; rw [h.first]; simp
  | succ l ih =>
    intro hl
    obtain ⟨a, b, c, d⟩ := ih (by omega)
    obtain ⟨a', b', c', d'⟩ := h.half l hl
    rw [a, b, c, d, a', b', c', d']
    refine ⟨?_, ?_, ?_, ?_⟩
    · rw [Int.pow_succ, Int.mul_assoc]
    · rw [Int.pow_succ, Int.mul_assoc]
    · rw [Nat.pow_succ, Nat.mul_assoc]
    · rw [Nat.pow_succ, Nat.mul_assoc]
theorem over_one {p X x : Int} {W w : Nat} {l : Nat} (hX : X = 2 ^ l * x) (hW : W = 2 ^ l * w) (h1 : X ≤ p) (h2 : p < X + W) : x ≤ p / 2 ^ l ∧ p / 2 ^ l < x + w := by
  have hp : (0 : Int) < 2 ^ l := Int.pow_pos (by decide)
  constructor
  · rw [Int.le_ediv_iff_mul_le hp, Int.mul_comm, ← hX]; exact h1
  · rw [Int.ediv_lt_iff_lt_mul hp, Int.add_mul, Int.mul_comm x, ← hX, Int.mul_comm (w : Int)]
    have : ((W : Nat) : Int) = 2 ^ l * (w : Int) := by rw [hW]; simp
    omega

theorem lost_max {n : Nat} {v0 : Nat → Nat} {k x r : Nat} {z a : Int} (hz : LostOk n v0 k x) (hx : vS x = some z) (ha : vS r = some (if z < a then a else z)) (h0 : 0 ≤ a) (h1 : k = 0 → a = 0) (h2 : ∀ (g : Nat) (A : Int), vS g = some A → (∀ i, i < n → InV A (v0 i)) → a ≤ 2 * A) : LostOk n v0 k r := by
  obtain ⟨z', hz', q1, q2, q3⟩ := hz
  rw [hx] at hz'
  cases hz'
  refine ⟨_, ha, by split <;> omega, fun h => by rw [q2 h, h1 h]; simp, fun g A hg h => ?_⟩
  have := q3 g A hg h
  have := h2 g A hg h
  split <;> omega
theorem atP_own {X Y : Int} {W : Nat} {v : Nat → Nat} {i : Nat} (hW : 1 ≤ W) : atP X Y W v ⟨X + ((i % W : Nat) : Int), Y + ((i / W : Nat) : Int)⟩ = v i := by
  unfold atP
  simp only
  congr 1
  have h := Nat.div_add_mod i W
  obtain ⟨a, ha⟩ : ∃ a, i % W = a := ⟨_, rfl⟩
  obtain ⟨b, hb⟩ : ∃ b, i / W = b := ⟨_, rfl⟩
  rw [ha, hb] at h ⊢
  rw [show Y + (b : Int) - Y = b by omega, show X + (a : Int) - X = a by omega]
  have : ((b : Int) * W + a) = ((W * b + a : Nat) : Int) := by simp [Int.mul_comm]
  rw [this, h]
  simp
/-- A block of singles. -/
def FlsAt (w : World) (b n : Nat) (c : Nat → Nat) : Prop := ∃ cs : Array Value, w.heap[b]? = some (.cells cs 50 (0, 0)) ∧ cs.size = n ∧ ∀ i, i < n → cs[i]? = some (.float .f32 (c i))
theorem FlsAt.congr {w w' : World} {b n : Nat} {c : Nat → Nat} (h : FlsAt w b n c) (e : w'.heap[b]? = w.heap[b]?) : FlsAt w' b n c := by
  obtain ⟨cs, h1, h2⟩ := h
  exact ⟨cs, e.trans h1, h2⟩
theorem FlsAt.cell {w : World} {b n : Nat} {c : Nat → Nat} (h : FlsAt w b n c) {i : Nat} (hi : i < n) : w.cell? ⟨b, i, none⟩ = some (.float .f32 (c i)) ∧ w.frozen? ⟨b, i, none⟩ = false ∧ b < w.heap.size := by
  obtain ⟨cs, h1, h2, h3⟩ := h
  obtain ⟨c, f, z⟩ := blkC h1
  exact ⟨(c i).trans (h3 i hi), f i, z⟩
theorem FlsAt.put {w : World} {b n : Nat} {c : Nat → Nat} (h : FlsAt w b n c) {k : Nat} (x : Nat) (hk : k < n) : FlsAt (w.setCell ⟨b, k, none⟩ (.float .f32 x)) b n (updW c k x) := by
  obtain ⟨cs, h1, h2, h3⟩ := h
  refine ⟨_, heap_setCell_same w b k _ _ _ h1, by simpa using h2, fun i hi => ?_⟩
  rw [Array.getElem?_setIfInBounds]
  by_cases e : k = i
  · subst e; rw [if_pos rfl, if_pos (by omega), updW_same]
  · rw [if_neg e, updW_other c (by omega)]; exact h3 i hi
theorem FlsAt.lt {w : World} {b n : Nat} {c : Nat → Nat} (h : FlsAt w b n c) : b < w.heap.size := by
  obtain ⟨cs, h1, _⟩ := h
  exact (blkC h1).2.2
theorem FlsAt.row {w : World} {b n : Nat} {c : Nat → Nat} (h : FlsAt w b n c) : FlAt w b 0 n c := fun i hi => by rw [Nat.zero_add]; exact (h.cell hi).1
theorem made_fls {w : World} {n p : Nat} (h : w.heap[p]? = some (.cells (madeCells #[Value.float .f32 0] n) 50)) : FlsAt w p n (fun _ => 0) :=
  ⟨_, h, by simp [madeCells], fun i hi => by simp [madeCells, hi, Nat.mod_one]⟩

/-- Behind the beginning of lossesOf: the first field's box, and the losses' block. -/
def LosAt (w : World) (f0 : Fd) (m : Nat) (s3 s4 : Value) (wx : World) : Prop :=
  ∃ p q, s3 = .pointer (some ⟨p, 0, none⟩) ∧ s4 = .slice (some ⟨q, 0, none⟩) m m ∧ wx.heap[p]? = some (.cells f0.cells 26) ∧ FlsAt wx q m (fun _ => 0) ∧ Below w.heap.size w wx ∧ w.heap.size ≤ p ∧ w.heap.size ≤ q ∧ p ≠ q
/-- The losses are there. -/
def LossPost (w : World) (n : Nat) (v0 : Nat → Nat) (m : Nat) (e : Ending) (w' : World) : Prop :=
  ∃ g ls, e = .returned (.slice (some ⟨g, 0, none⟩) m m) ∧ w.heap.size ≤ g ∧ FlAt w' g 0 m ls ∧ (∀ j, j < m → LostOk n v0 j (ls j)) ∧ Below w.heap.size w w'

set_option maxRecDepth 100000 in
set_option maxHeartbeats 4000000 in
theorem lossesOf_any (f0 : Fd) (n : Nat) (v0 : Nat → Nat) (m g cap : Nat) (T : Nat → Fd) (w : World) (hn : n = f0.w * f0.h) (hv : ∀ i, i < n → f0.v i = v0 i) (h1 : 1 ≤ m) (h2 : m ≤ 10) (hrow : FdRow w g m T) (hok : ∀ i, i < m → FdOk w (T i)) (hl : LvOf f0 n v0 m T) :
    Calls Try.prog 37 #[.slice (some ⟨g, 0, none⟩) m cap] w (LossPost w n v0 m) := by
  have hf0 : FdOk w f0 := by have := hok 0 (by omega); rwa [hl.first] at this
  obtain ⟨p1, p2, p3, p4, p5, p6, p7⟩ := hf0.parts
  have HROW := Lib.hid hrow
  have HOK := Lib.hid hok
  have HL := Lib.hid hl
  have HF0 := Lib.hid hf0
  obtain ⟨c0, c1, c2, c3, c4, zg⟩ := fd_at hrow (show 0 < m by omega)
  rw [Nat.zero_mul] at c0 c1 c2 c3 c4
  rw [hl.first] at c0 c1 c2 c3 c4
  have MK := make_f32 m (by omega)
  have m1 : (1 : Int) ≤ (m : Int) := by omega
  have m2 : (m : Int) ≤ 10 := by omega
  obtain ⟨fx, hfx⟩ : ∃ fx, f0.x = fx := ⟨_, rfl⟩
  obtain ⟨fy, hfy⟩ : ∃ fy, f0.y = fy := ⟨_, rfl⟩
  obtain ⟨fw, hfw⟩ : ∃ fw, f0.w = fw := ⟨_, rfl⟩
  obtain ⟨fh, hfh⟩ : ∃ fh, f0.h = fh := ⟨_, rfl⟩
  obtain ⟨fb, hfb⟩ : ∃ fb, f0.b = fb := ⟨_, rfl⟩
  obtain ⟨fc, hfc⟩ : ∃ fc, f0.cap = fc := ⟨_, rfl⟩
  have HCL := Lib.hid (show f0.cells = #[.int .i64 fx, .int .i64 fy, .int .i64 fw, .int .i64 fh, .slice (some ⟨fb, 0, none⟩) n fc] from by rw [← hfx, ← hfy, ← hfw, ← hfh, ← hfb, ← hfc, hn])
  rw [hfx] at c0
  rw [hfy] at c1
  rw [hfw] at c2
  rw [hfh] at c3
  have c4' : w.cell? ⟨g, 0 + 4, none⟩ = some (.slice (some ⟨fb, 0, none⟩) n fc) := by rw [c4, ← hfb, ← hfc, hn]
  clear c4
  have HN := Lib.hid hn
  have HV := Lib.hid hv
  have H1 := Lib.hid h1
  have H2 := Lib.hid h2
  have hfx2 := Lib.hid hfx
  have hfy2 := Lib.hid hfy
  have hfw2 := Lib.hid hfw
  have hfh2 := Lib.hid hfh
  have hfb2 := Lib.hid hfb
  clear hn hv h1 h2 hrow hok hl hf0 hfx hfy hfw hfh hfb hfc
  go_enter Try.func37, Try.ntmps37
  go_upto_region 1 with fail
  go_cut [3, 4] from 10 to 15 (fun s3 s4 wx => LosAt w f0 m s3 s4 wx)
  case first =>
    go_region
    all_goals
      go_wp2_with fail
      go_meet
      case rel =>
        refine ⟨_, _, rfl, rfl, ptDrew ?_, made_fls (ptDrew ?_), (by repeat (first | exact Below.refl _ _ | refine Below.alloc ?_ (by first | omega | (simp; done) | (simp; omega)) _ | refine Below.setCell ?_ (by first | omega | (simp; done) | (simp; omega)) _ | refine Below.drew ?_)), by omega, by omega, by omega⟩
        · rw [HCL.out]; (first | (rw [heap_alloc_get, if_pos rfl]; done) | ((simp only [heap_alloc_get, heap_size_alloc, if_true]) <;> ((repeat' split) <;> first | rfl | omega)))
        · (first | (rw [heap_alloc_get, if_pos rfl]; done) | ((simp only [heap_alloc_get, heap_size_alloc, if_true]) <;> ((repeat' split) <;> first | rfl | omega)))
  case rest =>
    obtain ⟨p, q, rfl, rfl, hp0, hq0, hb0, hpl, hql, hpq⟩ := hcut
    rw [HCL.out] at hp0
    have HP0 := Lib.hid hp0
    have HQ0 := Lib.hid hq0
    have HB0 := Lib.hid hb0
    clear hp0 hq0 hb0 c0 c1 c2 c3 c4' MK
    go_wp2_with fail
    go_loopw [18] (fun s18 wr => ∃ (k : Nat) (ls : Nat → Nat), k ≤ m ∧ s18 = .int .i64 k ∧ FlsAt wr q m ls ∧ (∀ j, j < m → LostOk n v0 j (ls j)) ∧ wr.heap[p]? = some (fldO fx fy fw fh (.slice (some ⟨fb, 0, none⟩) n fc)) ∧ Below w.heap.size w wr) (fun s18 _ => m - (intOf s18).toNat)
    case atStart => exact ⟨0, _, Nat.zero_le _, rfl, HQ0.out, fun j hj => lost_zero j (by rw [HN.out]; omega), HP0.out, HB0.out⟩
    case round =>
      obtain ⟨k, ls, hk, rfl, hq, hlost, hp, hb⟩ := hrel
      have HQ := Lib.hid hq
      have HLO := Lib.hid hlost
      have HP := Lib.hid hp
      have HB := Lib.hid hb
      clear hq hlost hp
      by_cases hlt : k < m
      · obtain ⟨c0, c1, c2, c3, c4, zg'⟩ := fd_at (HROW.out.stay hb) hlt
        have HLT := Lib.hid hlt
        have HFK := Lib.hid (HOK.out k hlt)
        obtain ⟨tx, htx⟩ : ∃ tx, (T k).x = tx := ⟨_, rfl⟩
        obtain ⟨ty, hty⟩ : ∃ ty, (T k).y = ty := ⟨_, rfl⟩
        obtain ⟨tw, htw⟩ : ∃ tw, (T k).w = tw := ⟨_, rfl⟩
        obtain ⟨th, hth⟩ : ∃ th, (T k).h = th := ⟨_, rfl⟩
        obtain ⟨tb, htb⟩ : ∃ tb, (T k).b = tb := ⟨_, rfl⟩
        obtain ⟨tn, htn⟩ : ∃ tn, (T k).w * (T k).h = tn := ⟨_, rfl⟩
        obtain ⟨tc, htc⟩ : ∃ tc, (T k).cap = tc := ⟨_, rfl⟩
        obtain ⟨h1, h2, h3, h4⟩ := half_chain HL.out k hlt
        have HBD := Lib.hid (HL.out.bd k hlt)
        have T0 := Lib.hid (fun h : k = 0 => show T k = f0 from by rw [h]; exact HL.out.first)
        have zT := (HOK.out k hlt).parts.2.2.2.2.2.2
        have VA := Lib.hid (fun x y W' (hp : InR tx ty tw th ⟨x, y⟩) (hB : Below w.heap.size w W') => show Calls Try.prog 27 #[fldV tx ty tw th (.slice (some ⟨tb, 0, none⟩) tn tc), ptV x y] W' fun e w' => e = .returned (.float .f32 (atP tx ty tw (T k).v ⟨x, y⟩)) ∧ Below W'.heap.size W' w' from by
          have hk' := (HOK.out k hlt).stay hB
          rw [← htx, ← hty, ← htw, ← hth, ← htb, ← htn, ← htc]
          exact valueAtP_any (T k).x (T k).y (T k).w (T k).h _ (T k).b 0 (T k).cap (T k).v x y W' hk'.row hk'.reg rfl (by rw [htx, hty, htw, hth]; exact hp))
        have OV := Lib.hid (fun px py (q1 : fx ≤ px ∧ px < fx + fw) (q2 : fy ≤ py ∧ py < fy + fh) => show InR tx ty tw th ⟨px / 2 ^ k, py / 2 ^ k⟩ from by
          obtain ⟨o1, o2⟩ := over_one (l := k) h1 h3 (p := px) (by rw [hfx2.out]; exact q1.1) (by rw [hfx2.out, hfw2.out]; exact q1.2)
          obtain ⟨o3, o4⟩ := over_one (l := k) h2 h4 (p := py) (by rw [hfy2.out]; exact q2.1) (by rw [hfy2.out, hfh2.out]; exact q2.2)
          rw [htx, htw] at o2
          rw [htx] at o1
          rw [hty, hth] at o4
          rw [hty] at o3
          exact ⟨o1, o2, o3, o4⟩)
        have HGT := Lib.hid (fun x y (hp : InR tx ty tw th ⟨x, y⟩) => show hgtB (atP tx ty tw (T k).v ⟨x, y⟩) = true ∧ ∀ (g : Nat) (A : Int), vS g = some A → (∀ i, i < n → InV A (v0 i)) → InV A (atP tx ty tw (T k).v ⟨x, y⟩) from by
          have q := (inR_num (X := tx) (Y := ty) (W := tw) (H := th) (n := tn) (p := ⟨x, y⟩) (by have := (HOK.out k hlt).parts.1; omega) hp (by rw [← htn, htw, hth, Nat.mul_comm])).2
          rw [← htn] at q
          exact ⟨allB_iff.1 (HOK.out k hlt).hgt _ q, fun g A hg hA => HBD.out g A hg hA _ q⟩)
        rw [htx] at c0
        rw [hty] at c1
        rw [htw] at c2
        rw [hth] at c3
        rw [show (T k).sl = .slice (some ⟨tb, 0, none⟩) tn tc from by rw [← htb, ← htn, ← htc]] at c4
        have HTE := Lib.hid (And.intro htx (And.intro hty htw))
        obtain ⟨cP, fP, zP⟩ := blkC HP.out
        have HKM := Lib.hid hk
        clear h1 h2 h3 h4 htx hty htw hth htb htn htc hk
        generalize hTv : (T k).v = tv at *
        go_wp2_with fail
        have HX := Lib.hid (show (wr.alloc (fldO tx ty tw th (.slice (some ⟨tb, 0, none⟩) tn tc))).heap[wr.heap.size]? = some (fldO tx ty tw th (.slice (some ⟨tb, 0, none⟩) tn tc)) from heap_alloc_new _ _)
        have BX := Lib.hid (show Below wr.heap.size wr (wr.alloc (fldO tx ty tw th (.slice (some ⟨tb, 0, none⟩) tn tc))) from (by repeat (first | exact Below.refl _ _ | refine Below.alloc ?_ (by first | omega | (simp; done) | (simp; omega)) _ | refine Below.setCell ?_ (by first | omega | (simp; done) | (simp; omega)) _ | refine Below.drew ?_)))
        obtain ⟨xb, hxb⟩ : ∃ xb, xb = wr.heap.size := ⟨_, rfl⟩
        have HXB := Lib.hid hxb
        have HQX := Lib.hid (HQ.out.congr (BX.out.block q HQ.out.lt))
        have HPX := Lib.hid (blkStay HP.out BX.out)
        have BWX := Lib.hid (HB.out.trans (BX.out.mono HB.out.size))
        have HQL := Lib.hid HQ.out.lt
        have hqx : q < xb := by rw [hxb]; exact HQ.out.lt
        rw [← hxb] at HX ⊢
        clear hxb cP fP zP c0 c1 c2 c3 c4
        generalize wr.alloc (fldO tx ty tw th (.slice (some ⟨tb, 0, none⟩) tn tc)) = wx at *
        go_loopw [26] (fun s26 wi => ∃ (i : Nat) (ls : Nat → Nat), i ≤ n ∧ s26 = .int .i64 i ∧ FlsAt wi q m ls ∧ (∀ j, j < m → LostOk n v0 j (ls j)) ∧ wi.heap[p]? = some (fldO fx fy fw fh (.slice (some ⟨fb, 0, none⟩) n fc)) ∧ wi.heap[xb]? = some (fldO tx ty tw th (.slice (some ⟨tb, 0, none⟩) tn tc)) ∧ Below w.heap.size w wi) (fun s26 _ => n - (intOf s26).toNat)
        case atStart => exact ⟨0, ls, Nat.zero_le _, rfl, HQX.out, HLO.out, HPX.out, HX.out, BWX.out⟩
        case round =>
          clear HQ HLO HP HX BX HQX HPX BWX HQL
          obtain ⟨i, ls, hi, rfl, hq, hlost, hp, hx, hb⟩ := hrel
          have HQ := Lib.hid hq
          have HLO := Lib.hid hlost
          have HP := Lib.hid hp
          have HX := Lib.hid hx
          have HBI := Lib.hid hb
          clear hq hlost hp hx
          by_cases hli : i < n
          · have HLI := Lib.hid hli
            have hcv := (flAt_congr HF0.out.row (hb.block _ p7)) i (by rw [← HN.out]; exact hli)
            rw [hfb2.out, Nat.zero_add] at hcv
            clear hb
            obtain ⟨b1, b2, b3, b4, b5, b6, b7, b8, b9⟩ := checkR_zero HF0.out.reg
            have hn2 : n ≤ 65536 := by rw [HN.out]; exact HF0.out.parts.2.2.2.2.2.1
            have hi6 : i < 65536 := by omega
            rw [hfx2.out] at b6 b7
            rw [hfy2.out] at b8 b9
            rw [hfw2.out] at b1 b2 b7
            rw [hfh2.out] at b3 b4 b9
            have hnh : n = fw * fh := by rw [HN.out, hfw2.out, hfh2.out]
            have PL := Lib.hid (fun w => place_any fx fy fw fh i w (by omega) (by omega) (by omega) (by omega) (by omega) (by omega) hi6)
            have hdm := Nat.div_add_mod i fw
            have hml := Nat.mod_lt i (show 0 < fw by omega)
            have hdl : i / fw < fh := Nat.div_lt_of_lt_mul (by rw [← hnh]; exact hli)
            have HOWN : ∀ v : Nat → Nat, atP fx fy fw v ⟨fx + ((i % fw : Nat) : Int), fy + ((i / fw : Nat) : Int)⟩ = v i := fun v => atP_own (by omega)
            obtain ⟨ai, hai⟩ : ∃ ai, i % fw = ai := ⟨_, rfl⟩
            obtain ⟨bi, hbi⟩ : ∃ bi, i / fw = bi := ⟨_, rfl⟩
            rw [hai] at hml hdm PL HOWN
            rw [hbi] at hdl hdm PL HOWN
            obtain ⟨px, hpx⟩ : ∃ px : Int, fx + (ai : Int) = px := ⟨_, rfl⟩
            obtain ⟨py, hpy⟩ : ∃ py : Int, fy + (bi : Int) = py := ⟨_, rfl⟩
            rw [hpx, hpy] at PL
            have HIR := OV.out px py ⟨by omega, by omega⟩ ⟨by omega, by omega⟩
            have CO := Lib.hid (fun w => cellOver_any px py k w (by have := H2.out; have := HLT.out; omega))
            obtain ⟨hg1, hg2⟩ := HGT.out _ _ HIR
            have VAI := Lib.hid (fun W' hB => VA.out (px / 2 ^ k) (py / 2 ^ k) W' HIR hB)
            obtain ⟨u, hu⟩ : ∃ u, atP tx ty tw tv ⟨px / 2 ^ k, py / 2 ^ k⟩ = u := ⟨_, rfl⟩
            rw [hu] at hg1 hg2 VAI
            obtain ⟨vi, hvi⟩ : ∃ vi, f0.v i = vi := ⟨_, rfl⟩
            rw [hvi] at hcv
            have hgv : hgtB vi = true := by rw [← hvi]; exact allB_iff.1 HF0.out.hgt i (by rw [← HN.out]; exact hli)
            obtain ⟨d, a, e1, dlt, vd, hz0, hbd⟩ := lost_parts hgv hg1
            have HZ : k = 0 → (a.natAbs : Int) = 0 := fun z => by
              have et := T0.out z
              obtain ⟨htx, hty, htw⟩ := HTE.out
              have : vi = u := by
                rw [← hu, ← hTv, ← hvi, ← htx, ← hty, ← htw, et, z, Int.pow_zero, Int.ediv_one, Int.ediv_one, ← hpx, ← hpy, hfx2.out, hfy2.out, hfw2.out]
                exact (HOWN _).symm
              rw [hz0 this]
              rfl
            have HBD2 : ∀ (g : Nat) (A : Int), vS g = some A → (∀ i, i < n → InV A (v0 i)) → (a.natAbs : Int) ≤ 2 * A := fun g A hg hA => hbd g A hg (by have := hA i hli; rwa [← HV.out i hli, hvi] at this) (hg2 g A hg hA)
            have MG := Lib.hid (fun w => magn_any d dlt vd w)
            have x1 := fun (ww : World) => run_float_arith (P := Try.prog) ww .sub 50 .f32 vi u d e1
            have HLZ := Lib.hid (HLO.out k HLT.out)
            have HZH := Lib.hid HZ
            have HBH := Lib.hid HBD2
            have hii : (i : Int) < (n : Int) := by omega
            have hnn2 : (n : Int) ≤ 65536 := by omega
            obtain ⟨cQ, fQ, zQ⟩ := HQ.out.cell HLT.out
            obtain ⟨cP, fP, zP⟩ := blkC HP.out
            clear hTv HOWN hai hbi hdm hml hdl hpx hpy hnh hi6 HIR hg1 hg2 hu hvi hgv e1 dlt vd hz0 hbd HZ HBD2 b1 b2 b3 b4 b5 b6 b7 b8 b9 hn2
            generalize px / 2 ^ k = ox at *
            generalize py / 2 ^ k = oy at *
            clear cQ fQ zQ
            go_upto_region 8 with fail
            clear hcv
            go_region_held3 (fun w' => (∀ o, w'.cell? ⟨p, o, none⟩ = #[.int .i64 fx, .int .i64 fy, .int .i64 fw, .int .i64 fh, .slice (some ⟨fb, 0, none⟩) n fc][o]?) ∧ (∀ o, w'.cell? ⟨xb, o, none⟩ = #[.int .i64 tx, .int .i64 ty, .int .i64 tw, .int .i64 th, .slice (some ⟨tb, 0, none⟩) tn tc][o]?) ∧ Below wr.heap.size wr w') (exact (fun K => ⟨(blkC (blkStay HP.out K)).1, (blkC (blkStay HX.out K)).1, K⟩) (by repeat (first | exact hb9 | exact Below.refl _ _ | refine Below.drew ?_ | refine Below.alloc ?_ (by first | exact Nat.le_refl _ | exact hb9.size | (simp; done) | (have := hb9.size; simp; omega) | (simp; omega)) _))) (first
              | (go_at_call 55; (with_reducible refine Calls.mono (PL.out _) ?_); rintro e w7 ⟨rfl, hb8⟩; have hb7 : Below wr.heap.size wr w7 := Below.trans (by repeat (first | exact hb9 | exact Below.refl _ _ | refine Below.drew ?_ | refine Below.alloc ?_ (by first | exact Nat.le_refl _ | exact hb9.size | (simp; done) | (have := hb9.size; simp; omega) | (simp; omega)) _)) (Below.mono hb8 (by first | exact Nat.le_refl _ | exact hb9.size | (simp; done) | (have := hb9.size; simp; omega) | (simp; omega))); clear hb8; (try clear hb9); have hb9 := hb7; clear hb7)
              | (go_at_call 54; (with_reducible refine Calls.mono (CO.out _) ?_); rintro e w7 ⟨rfl, hb8⟩; have hb7 : Below wr.heap.size wr w7 := Below.trans (by repeat (first | exact hb9 | exact Below.refl _ _ | refine Below.drew ?_ | refine Below.alloc ?_ (by first | exact Nat.le_refl _ | exact hb9.size | (simp; done) | (have := hb9.size; simp; omega) | (simp; omega)) _)) (Below.mono hb8 (by first | exact Nat.le_refl _ | exact hb9.size | (simp; done) | (have := hb9.size; simp; omega) | (simp; omega))); clear hb8; (try clear hb9); have hb9 := hb7; clear hb7)
              | (go_at_call 27; (with_reducible refine Calls.mono (VAI.out _ (HBI.out.trans (Below.mono (by repeat (first | exact hb9 | exact Below.refl _ _ | refine Below.drew ?_ | refine Below.alloc ?_ (by first | exact Nat.le_refl _ | exact hb9.size | (simp; done) | (have := hb9.size; simp; omega) | (simp; omega)) _)) HBI.out.size))) ?_); rintro e w7 ⟨rfl, hb8⟩; have hb7 : Below wr.heap.size wr w7 := Below.trans (by repeat (first | exact hb9 | exact Below.refl _ _ | refine Below.drew ?_ | refine Below.alloc ?_ (by first | exact Nat.le_refl _ | exact hb9.size | (simp; done) | (have := hb9.size; simp; omega) | (simp; omega)) _)) (Below.mono hb8 (by first | exact Nat.le_refl _ | exact hb9.size | (simp; done) | (have := hb9.size; simp; omega) | (simp; omega))); clear hb8; (try clear hb9); have hb9 := hb7; clear hb7)
              | (go_at_call 53; (with_reducible refine Calls.mono (MG.out _) ?_); rintro e w7 ⟨⟨r, rfl, hvr⟩, rfl⟩; have HVR := Lib.hid hvr; clear hvr))
            have HQ7 := Lib.hid (HQ.out.congr (hb9.block q HQ.out.lt))
            have HP7 := Lib.hid (blkStay HP.out hb9)
            have HX7 := Lib.hid (blkStay HX.out hb9)
            have B7 := Lib.hid (HBI.out.trans (hb9.mono HBI.out.size))
            clear CO PL VAI MG x1 cP fP zP HQ HP HX HBI
            obtain ⟨z, hz, z0, z1, z2⟩ := HLZ.out
            obtain ⟨qq, mx, vq, _⟩ := run_max_two #[50, 50] 50 hz HVR.out
            have VQ := Lib.hid vq
            have HZZ := Lib.hid hz
            have hsf := fun (w : World) (a : Addr) (m : Mode) (k : FloatKind) (b : Nat) => run_store_float (P := Try.prog) (w := w) (a := a) (m := m) k b
            obtain ⟨cQ, fQ, zQ⟩ := HQ7.out.cell HLT.out
            clear z0 z1 z2 vq hz
            go_wp2_with fail
            go_roundw
            case rel =>
              refine ⟨i + 1, updW ls k qq, by omega, by go_num, HQ7.out.put qq HLT.out, fun j hj => ?_, ?_, ?_, Below.setCell B7.out (by omega) _⟩
              · by_cases e : j = k
                · subst e
                  rw [updW_same]
                  exact lost_max HLZ.out HZZ.out VQ.out (by omega) HZH.out HBH.out
                · rw [updW_other ls (by omega)]
                  exact HLO.out j hj
              · exact (heap_setCell_other _ _ p _ hpq).trans HP7.out
              · exact (heap_setCell_other _ _ xb _ (Nat.ne_of_gt hqx)).trans HX7.out
            case measure => simp [intOf]; omega
          · have hin : i = n := by omega
            subst hin
            go_wp2
            go_roundw
            case rel => exact ⟨k + 1, ls, HLT.out, by go_num, HQ.out, HLO.out, HP.out, HBI.out⟩
            case measure => have := HLT.out; simp [intOf]; omega
      · have hkm : k = m := by omega
        subst hkm
        go_wp2
        go_ret
        exact ⟨q, ls, rfl, hql, HQ.out.row, HLO.out, HB.out⟩
end Go.Proofs.Ytjjafjdjdjonfaa

/- Contract: Losses. -/
namespace Go.Proofs.Ytjjafjdjdjonfaa
open Go.RowKit Fl
set_option linter.unusedVariables false

/-- lossesOf, of the levels that Pyramid makes. -/
theorem lossesOf_py (X Y : Int) (W H n : Nat) (v : Nat → Nat) (m : Nat) (g : Option Addr) (len cap : Nat) (w : World) (hn : n = W * H) (h : PyInfo X Y W H n v m g len w) :
    Calls Try.prog 37 #[.slice g len cap] w (LossPost w n v m) := by
  obtain ⟨f0, rfl, rfl, rfl, rfl, rfl, h1, h2, gb, T, rfl, rfl, hrow, hok, hl⟩ := h
  have hin : FdIn n f0.v f0 := fun g A _ hA j hj => hA j (by rw [hn]; exact hj)
  exact lossesOf_any f0 n f0.v len gb cap T w hn (fun i _ => rfl) h1 h2 hrow hok (hl n f0.v hin)

/-- What is known of losses, if there is no error. -/
def LsInfo (n : Nat) (v : Nat → Nat) (m : Nat) (g : Option Addr) (len : Nat) (w' : World) : Prop :=
  ∃ gb ls, g = some ⟨gb, 0, none⟩ ∧ len = m ∧ FlAt w' gb 0 m ls ∧ ∀ j, j < m → LostOk n v j (ls j)

/-- Pyramid, of a field that was there in an elder world. -/
theorem pyramid_at (X Y W H : Int) (a : Option Addr) (n cap : Nat) (er m : Int) (w : World) (hE : SlE w a n cap er) (hF : er = 0 → n ≠ 0 → ∃ b off v, a = some ⟨b, off, none⟩ ∧ FlAt w b off n v ∧ allB n (fun i => hgtB (v i)) = true) (w1 : World) (hB : Below w.heap.size w w1) :
    Calls Try.prog 19 #[fldV X Y W H (.slice a n cap), .int .i64 m] w1 fun e w' => ∃ g len cap' k, e = .returned (.tuple #[.slice g len cap', .int .i64 k]) ∧ (k = 0 → ∃ (W' H' m' b off : Nat) (v : Nat → Nat), W = W' ∧ H = H' ∧ m = m' ∧ n = W' * H' ∧ checkR X Y W H = 0 ∧ er = 0 ∧ a = some ⟨b, off, none⟩ ∧ FlAt w b off n v ∧ allB n (fun i => hgtB (v i)) = true ∧ PyInfo X Y W' H' n v m' g len w') ∧ Below w1.heap.size w1 w' := by
  refine (pyramid_any X Y W H a n cap er m w1 (hE.stay hB) (fun h1 h2 => by
    obtain ⟨b, off, v, rfl, hr, hh⟩ := hF h1 h2
    exact ⟨b, off, v, rfl, flAt_congr hr (hB.block b (World.block_lt_of_cell? w _ (hr 0 (by omega)))), hh⟩)).mono ?_
  rintro e w' ⟨g, len, cap', k, rfl, hi, hb⟩
  refine ⟨g, len, cap', k, rfl, fun z => ?_, hb⟩
  obtain ⟨W', H', m', b, off, v, hW, hH, hm, hn, h0, he, ha, hr, hh, hp⟩ := hi z
  subst hW hH
  obtain ⟨b1, b2, b3, b4, b5, b6, b7, b8, b9⟩ := checkR_zero h0
  have hn1 : 1 ≤ n := by rw [hn]; exact Nat.mul_pos (by omega) (by omega)
  obtain ⟨b0, off0, v0, e0, hr0, _⟩ := hF he (by omega)
  rw [ha] at e0
  obtain ⟨rfl, rfl⟩ : b = b0 ∧ off = off0 := by simpa using e0
  have hz := World.block_lt_of_cell? w _ (hr0 0 hn1)
  exact ⟨W', H', m', b, off, v, rfl, rfl, hm, hn, h0, he, ha, flAt_congr hr (hB.block b hz).symm, hh, hp⟩

theorem lossesOf_at (k : Int) (h : k = 0) {X Y W H : Int} {a : Option Addr} {n len cap : Nat} {er m : Int} {g : Option Addr} {w w1 : World} (hi : k = 0 → ∃ (W' H' m' b off : Nat) (v : Nat → Nat), W = W' ∧ H = H' ∧ m = m' ∧ n = W' * H' ∧ checkR X Y W H = 0 ∧ er = 0 ∧ a = some ⟨b, off, none⟩ ∧ FlAt w b off n v ∧ allB n (fun i => hgtB (v i)) = true ∧ PyInfo X Y W' H' n v m' g len w1) :
    ∃ (W' H' m' b off : Nat) (v : Nat → Nat), W = W' ∧ H = H' ∧ m = m' ∧ n = W' * H' ∧ checkR X Y W H = 0 ∧ er = 0 ∧ a = some ⟨b, off, none⟩ ∧ FlAt w b off n v ∧ allB n (fun i => hgtB (v i)) = true ∧ 1 ≤ m' ∧ m' ≤ 10 ∧ Calls Try.prog 37 #[.slice g len cap] w1 (LossPost w1 n v m') := by
  obtain ⟨W', H', m', b, off, v, hW, hH, hm, hn, h0, he, ha, hr, hh, hp⟩ := hi h
  have hp' := hp
  obtain ⟨f0, _, _, _, _, _, q1, q2, _⟩ := hp'
  exact ⟨W', H', m', b, off, v, hW, hH, hm, hn, h0, he, ha, hr, hh, q1, q2, lossesOf_py X Y W' H' n v m' g len cap w1 hn hp⟩

set_option maxHeartbeats 4000000 in
theorem losses_any (X Y W H : Int) (a : Option Addr) (n cap : Nat) (er m : Int) (w : World) (hE : SlE w a n cap er) (hF : er = 0 → n ≠ 0 → ∃ b off v, a = some ⟨b, off, none⟩ ∧ FlAt w b off n v ∧ allB n (fun i => hgtB (v i)) = true) (w0 : World) (hB0 : Below w.heap.size w w0) :
    Calls Try.prog 18 #[fldV X Y W H (.slice a n cap), .int .i64 m] w0 fun e w' => ∃ g len cap' k, e = .returned (.tuple #[.slice g len cap', .int .i64 k]) ∧ (k = 0 → ∃ (W' H' m' b off : Nat) (v : Nat → Nat), W = W' ∧ H = H' ∧ m = m' ∧ n = W' * H' ∧ checkR X Y W H = 0 ∧ er = 0 ∧ a = some ⟨b, off, none⟩ ∧ FlAt w b off n v ∧ allB n (fun i => hgtB (v i)) = true ∧ 1 ≤ m' ∧ m' ≤ 10 ∧ LsInfo n v m' g len w') ∧ Below w0.heap.size w0 w' := by
  have PY := Lib.hid (fun W' (hB : Below w0.heap.size w0 W') => pyramid_at X Y W H a n cap er m w hE hF W' (hB0.trans (hB.mono hB0.size)))
  clear hE hF hB0
  go_enter Try.func18, Try.ntmps18
  go_upto_region 2 with (go_at_call 19; (with_reducible refine Calls.mono (PY.out _ ?hb) ?_); (case hb => exact (by repeat (first | exact Below.refl _ _ | refine Below.alloc ?_ (by first | omega | (simp; done) | (simp; omega)) _ | refine Below.setCell ?_ (by first | omega | (simp; done) | (simp; omega)) _ | refine Below.drew ?_))); rintro e w1 ⟨g, len, cap', k, rfl, hinf, hb1⟩; have HINF := Lib.hid hinf; have hB1 : Below w0.heap.size w0 w1 := Below.trans (show Below w0.heap.size w0 _ from (by repeat (first | exact Below.refl _ _ | refine Below.alloc ?_ (by first | omega | (simp; done) | (simp; omega)) _ | refine Below.setCell ?_ (by first | omega | (simp; done) | (simp; omega)) _ | refine Below.drew ?_))) (hb1.mono (by first | omega | (simp; done) | (simp; omega))); clear hb1 hinf)
  have HB1 := Lib.hid hB1
  clear PY
  by_cases hk : k = 0
  · obtain ⟨W', H', m', b, off, v, hW, hH, hm, hn, h0, he, ha, hr, hh, q1, q2, LO⟩ := lossesOf_at (cap := cap') k hk HINF.out
    have ALL := Lib.hid (And.intro hW (And.intro hH (And.intro hm (And.intro hn (And.intro h0 (And.intro he (And.intro ha (And.intro hr (And.intro hh (And.intro q1 q2))))))))))
    have LO' := Lib.hid LO
    have q2' := Lib.hid q2
    clear hW hH hm hn h0 he ha hr hh q1 q2 HINF LO
    subst hk
    go_upto_region 5 with (go_at_call 37; (with_reducible refine Calls.mono LO'.out ?_); rintro e w2 ⟨gb, ls, rfl, hg2, hrow, hlost, hb2⟩; have HROW := Lib.hid hrow; have HLOST := Lib.hid hlost; have B2 := Lib.hid (HB1.out.trans (hb2.mono HB1.out.size)); clear hrow hlost hb2)
    have CH := Lib.hid (CheckHeights_row gb 0 m' m' ls (by have := q2'.out; omega) w2 HROW.out)
    by_cases hf : fldE m' ls = 0
    · rw [hf] at CH
      clear hf
      go_wp2_with (go_at_call 38; refine CH.out.mono ?_; rintro e w' ⟨rfl, rfl⟩)
      go_ret2
      obtain ⟨hW, hH, hm, hn, h0, he, ha, hr, hh, q1, q2⟩ := ALL.out
      exact ⟨_, _, _, _, rfl, fun _ => ⟨W', H', m', b, off, v, hW, hH, hm, hn, h0, he, ha, hr, hh, q1, q2, gb, ls, rfl, rfl, HROW.out, HLOST.out⟩, B2.out⟩
    · have hf2 : (fldE m' ls != 0) = true := by simpa using hf
      have HF := Lib.hid hf
      clear hf
      generalize fldE m' ls = er2 at *
      go_wp2_with (go_at_call 38; refine CH.out.mono ?_; rintro e w' ⟨rfl, rfl⟩)
      go_ret2
      exact ⟨_, _, _, _, rfl, fun z => absurd z HF.out, B2.out⟩
  · have hk2 : (k != 0) = true := by simpa using hk
    have HK := Lib.hid hk
    clear hk HINF
    go_wp2
    go_ret2
    exact ⟨_, _, _, _, rfl, fun z => absurd z HK.out, HB1.out⟩
end Go.Proofs.Ytjjafjdjdjonfaa

/- Contracts: Pyramid of one level; landed. -/
namespace Go.Proofs.Ytjjafjdjdjonfaa
open Go.RowKit Fl
set_option linter.unusedVariables false

theorem tLanded_any (w : World) : Calls Try.prog 17 #[] w fun e w' => e = .returned (.bool true) ∧ Below w.heap.size w w' := by
  have CR := Lib.hid (fun w => checkRegion_any 0 0 0 0 w)
  go_enter Try.func17, Try.ntmps17
  go_wp2_with (go_at_call 36; refine (CR.out _).mono ?_; rintro e w' ⟨rfl, rfl⟩)
  go_ret
  exact ⟨rfl, (by repeat (first | exact Below.refl _ _ | refine Below.alloc ?_ (by first | omega | (simp; done) | (simp; omega)) _ | refine Below.setCell ?_ (by first | omega | (simp; done) | (simp; omega)) _ | refine Below.drew ?_))⟩

/-- What one level comes to. -/
def OneLv (w : World) (X Y : Int) (W H : Nat) (b c : Nat) (v : Nat → Nat) (e : Ending) (w' : World) : Prop :=
  ∃ g cap, e = .returned (.tuple #[.slice (some ⟨g, 0, none⟩) 1 cap, .int .i64 0]) ∧ FdRow w' g 1 (fun _ => ⟨X, Y, W, H, b, c, v⟩) ∧ Below w.heap.size w w'

set_option maxRecDepth 100000 in
set_option maxHeartbeats 4000000 in
theorem levels_one (f : Fd) (w : World) (hf : FdOk w f) :
    Calls Try.prog 40 #[f.val, .int .i64 1] w (OneLv w f.x f.y f.w f.h f.b f.cap f.v) := by
  go_enter Try.func40, Try.ntmps40
  go_wp2
  have HS : Hid (FdRow ((w.alloc (.cells f.cells 26)).alloc (.cells f.cells 26)) (w.heap.size + 1) 1 (fun _ => f)) := by
    refine Lib.hid ⟨fun i hi j hj => ?_, by simp⟩
    obtain rfl : i = 0 := by omega
    rw [Nat.zero_mul, Nat.zero_add]
    exact (blkC (cs := f.cells) (t := 26) (by (first | (rw [heap_alloc_get, if_pos rfl]; done) | ((simp only [heap_alloc_get, heap_size_alloc, if_true]) <;> ((repeat' split) <;> first | rfl | omega))))).1 j
  have B1 := Lib.hid (show Below w.heap.size w ((w.alloc (.cells f.cells 26)).alloc (.cells f.cells 26)) from (by repeat (first | exact Below.refl _ _ | refine Below.alloc ?_ (by first | omega | (simp; done) | (simp; omega)) _ | refine Below.setCell ?_ (by first | omega | (simp; done) | (simp; omega)) _ | refine Below.drew ?_)))
  generalize (w.alloc (.cells f.cells 26)).alloc (.cells f.cells 26) = w3 at *
  go_loopw [6] (fun l wr => l = .slice (some ⟨w.heap.size + 1, 0, none⟩) 1 1 ∧ wr = w3) (fun l _ => 0)
  case atStart => exact ⟨rfl, rfl⟩
  case round =>
    obtain ⟨rfl, rfl⟩ := hrel
    go_wp2
    go_ret2
    exact ⟨_, _, rfl, HS.out, B1.out⟩

set_option maxHeartbeats 4000000 in
theorem pyramid_one (X Y : Int) (W H n b off cap : Nat) (v : Nat → Nat) (w : World) (hE : SlE w (some ⟨b, off, none⟩) n cap 0) (h0 : checkR X Y W H = 0) (hn : n = W * H) (hr : FlAt w b off n v) (hh : allB n (fun i => hgtB (v i)) = true) :
    Calls Try.prog 19 #[fldV X Y W H (.slice (some ⟨b, off, none⟩) n cap), .int .i64 1] w fun e w' => ∃ g cap sb sc, e = .returned (.tuple #[.slice (some ⟨g, 0, none⟩) 1 cap, .int .i64 0]) ∧ FdRow w' g 1 (fun _ => ⟨X, Y, W, H, sb, sc, v⟩) ∧ FlAt w' sb 0 n v ∧ Below w.heap.size w w' := by
  have CK := Lib.hid (fun W' (hB : Below w.heap.size w W') => checkA_any X Y W H (some ⟨b, off, none⟩) n cap 0 W' (hE.stay hB).1)
  rw [show fldChk X Y W H n 0 = 0 from by unfold fldChk; rw [if_neg (by rw [h0]; simp), if_neg (by rw [hn]; simp)]] at CK
  have WI := Lib.hid (fun w => within_any 1 1 10 w)
  rw [show withinB 1 1 10 = true from withinB_iff.2 ⟨by omega, by omega⟩] at WI
  obtain ⟨b1, b2, b3, b4, b5, b6, b7, b8, b9⟩ := checkR_zero h0
  have hn1 : 1 ≤ n := by rw [hn]; exact Nat.mul_pos (by omega) (by omega)
  have hn2 : n ≤ 65536 := by
    have : ((W : Int) * (H : Int)) = (n : Int) := by rw [hn]; simp
    omega
  have zb : b < w.heap.size := World.block_lt_of_cell? w _ (hr 0 hn1)
  have CL := Lib.hid (fun W' (hB : Below w.heap.size w W') => cloneV_any b off n cap v W' hn1 hn2 (flAt_congr hr (hB.block b zb)))
  have LV := Lib.hid (fun sb sc W' (ho : FlAt W' sb 0 n v) => show Calls Try.prog 40 #[fldV X Y W H (.slice (some ⟨sb, 0, none⟩) n sc), .int .i64 1] W' (OneLv W' X Y W H sb sc v) from by
    have q := ho
    rw [hn] at q hh ⊢
    exact levels_one ⟨X, Y, W, H, sb, sc, v⟩ W' ⟨h0, q, hh⟩)
  have HN1 := Lib.hid (show 0 < n from hn1)
  clear hE h0 hn hr hh b1 b2 b3 b4 b5 b6 b7 b8 b9 hn1 hn2 zb
  go_enter Try.func19, Try.ntmps19
  go_wp2_with (first | (go_at_call 25; refine (CK.out _ (by repeat (first | exact Below.refl _ _ | refine Below.alloc ?_ (by first | omega | (simp; done) | (simp; omega)) _ | refine Below.setCell ?_ (by first | omega | (simp; done) | (simp; omega)) _ | refine Below.drew ?_))).mono ?_; rintro e w1 ⟨rfl, hb1⟩; have HF1 := Lib.hid (blkStay (b := w.heap.size) (o := fldO X Y W H (.slice (some ⟨b, off, none⟩) n cap)) (by (first | (rw [heap_alloc_get, if_pos rfl]; done) | ((simp only [heap_alloc_get, heap_size_alloc, if_true]) <;> ((repeat' split) <;> first | rfl | omega)))) hb1); have B1 := Lib.hid (Below.trans (show Below w.heap.size w _ from (by repeat (first | exact Below.refl _ _ | refine Below.alloc ?_ (by first | omega | (simp; done) | (simp; omega)) _ | refine Below.setCell ?_ (by first | omega | (simp; done) | (simp; omega)) _ | refine Below.drew ?_))) (hb1.mono (by first | omega | (simp; done) | (simp; omega)))); clear hb1; obtain ⟨cF, fF, zF⟩ := blkC HF1.out) | (go_at_call 39; refine (WI.out _).mono ?_; rintro e w' ⟨rfl, rfl⟩))
  have CL1 := Lib.hid (fun W' (hB : Below w1.heap.size w1 W') => CL.out W' (B1.out.trans (hB.mono B1.out.size)))
  go_region_held3 (fun w' => (∀ o, w'.cell? ⟨w.heap.size, o, none⟩ = #[.int .i64 X, .int .i64 Y, .int .i64 W, .int .i64 H, .slice (some ⟨b, off, none⟩) n cap][o]?) ∧ Below w1.heap.size w1 w') (first | exact ⟨(blkC (blkStay HF1.out hb9)).1, hb9⟩ | exact ⟨(blkC (blkStay HF1.out (by repeat (first | exact Below.refl _ _ | refine Below.alloc ?_ (by first | omega | (simp; done) | (simp; omega)) _ | refine Below.setCell ?_ (by first | omega | (simp; done) | (simp; omega)) _ | refine Below.drew ?_)))).1, (by repeat (first | exact Below.refl _ _ | refine Below.alloc ?_ (by first | omega | (simp; done) | (simp; omega)) _ | refine Below.setCell ?_ (by first | omega | (simp; done) | (simp; omega)) _ | refine Below.drew ?_))⟩) (first
    | (go_at_call 41; (with_reducible refine Calls.mono (CL1.out _ ?_) ?_); exact (by repeat (first | exact Below.refl _ _ | refine Below.alloc ?_ (by first | omega | (simp; done) | (simp; omega)) _ | refine Below.setCell ?_ (by first | omega | (simp; done) | (simp; omega)) _ | refine Below.drew ?_)); rintro e w2 ⟨sb, sc, rfl, hg8, how8, hb8⟩; have HOW := Lib.hid ((ownsRow_flAt how8 HN1.out).1); have hb9 : Below w1.heap.size w1 w2 := Below.trans (by repeat (first | exact Below.refl _ _ | refine Below.alloc ?_ (by first | omega | (simp; done) | (simp; omega)) _ | refine Below.setCell ?_ (by first | omega | (simp; done) | (simp; omega)) _ | refine Below.drew ?_)) (Below.mono hb8 (by first | exact Nat.le_refl _ | (simp; done) | (simp; omega))); clear hb8 hg8 how8)
    | (go_at_call 40; (with_reducible refine Calls.mono (LV.out _ _ _ ?_) ?_); exact HOW.out; rintro e w3 ⟨lg, lc, rfl, hinf, hb8⟩; have HINF := Lib.hid hinf; have HOW3 := Lib.hid (flAt_congr HOW.out (hb8.block sb (World.block_lt_of_cell? _ _ (HOW.out 0 HN1.out)))); have hb7 := hb9.trans (hb8.mono hb9.size); clear hb9 hb8 hinf; have hb9 := hb7; clear hb7))
  have hHeld := ‹_ ∧ Below w1.heap.size w1 _›
  have B3 := Lib.hid (B1.out.trans (hHeld.2.mono B1.out.size))
  clear hHeld
  go_wp2
  go_ret2
  exact ⟨_, _, _, _, rfl, HINF.out, HOW3.out, B3.out⟩
end Go.Proofs.Ytjjafjdjdjonfaa

/- float32(math.Abs(float64(v))), of a single that has a value: its magnitude. -/
namespace Go.Proofs.Ytjjafjdjdjonfaa
open Go.RowKit Fl
open Ieee

theorem abs_word {x B : Nat} {a : Int} (hx : vS x = some a) (hB : a.natAbs < 2 ^ B) (hB' : B < 1202) : ∃ X r, floatToFloatBits .f32 x .f64 = some X ∧ X < b64 ∧ floatToFloatBits .f64 (X % b63) .f32 = some r ∧ vS r = some ((a.natAbs : Nat) : Int) := by
  have hself := rdS_self hx
  obtain ⟨s, m, p, hr, rfl⟩ := vS_some hx
  obtain ⟨X, M, I, c1, c2, c3, c4, _⟩ := toD hr
  have ha := read_abs double X
  rw [c2, swD] at ha
  simp only at ha
  obtain ⟨V, hV⟩ : ∃ V, m * 2 ^ (p + 1074).toNat = V := ⟨_, rfl⟩
  have hn : (vOf s m p).natAbs = V := by
    unfold vOf
    rw [signed_eq, hV]
    cases s <;> simp
  have hrd : rd single 925 V = V := by
    have e := rdS_sign (c := vOf s m p) (sg := decide (vOf s m p < 0)) (.inr rfl)
    rw [hself, hn] at e
    generalize vOf s m p = a at *
    by_cases h : a < 0
    · rw [decide_eq_true h, if_pos rfl] at e; omega
    · rw [decide_eq_false h, if_neg (by decide)] at e; omega
  rw [hn] at hB ⊢
  have hw := nearest_val single false (-1074) 925 leastS M (p := I) (by omega)
  rw [show (I - (-1074)).toNat = (I + 1074).toNat by omega, c4, hV] at hw
  have hv := vS_word (sg := false) hB hB'
  simp only [Bool.false_eq_true, if_false, Int.one_mul] at hv
  rw [hrd] at hv
  refine ⟨X, wordAt single 925 false V, c1, conv32_lt c1, ?_, hv⟩
  obtain ⟨M', I', q1, _, _⟩ := read_val single false (-1074) 925 leastS V (rungS_lt hB hB')
  unfold floatToFloatBits
  rw [if_neg (by decide)]
  have d : FloatKind.f64.decode (X % b63) = .number false M I := ha
  simp only [d]
  have w : FloatKind.f32.encode (.number false M I) = wordAt single 925 false V := hw
  rw [w]
  have d2 : FloatKind.f32.decode (wordAt single 925 false V) = .number false M' I' := q1
  rw [d2]; rfl
end Go.Proofs.Ytjjafjdjdjonfaa

/- slices.Equal of two rows of singles that have the same values. -/
namespace Go.Proofs.Ytjjafjdjdjonfaa
open Go.RowKit Fl
set_option linter.unusedVariables false

set_option maxHeartbeats 1000000 in
theorem equalF_any (b b' off off' cap cap' n : Nat) (c d : Nat → Nat) (hl : n ≤ 65536) (w : World) (hc : FlAt w b off n c) (hc' : FlAt w b' off' n d) (he : ∀ i, i < n → ∃ x, vS (c i) = some x ∧ vS (d i) = some x) :
    Calls Try.prog 21 #[.slice (some ⟨b, off, none⟩) n cap, .slice (some ⟨b', off', none⟩) n cap'] w fun e w' => e = .returned (.bool true) ∧ Below w.heap.size w w' := by
  have HC := Lib.hid hc
  have HC' := Lib.hid hc'
  have HE := Lib.hid he
  clear hc hc' he
  go_enter Try.func21, Try.ntmps21
  go_wp2
  go_loopw [13] (fun i wr => ∃ k : Nat, k ≤ n ∧ i = .int .i64 k ∧ (∀ p : Addr, p.block < w.heap.size → wr.cell? p = w.cell? p) ∧ Below w.heap.size w wr) (fun i _ => n - (intOf i).toNat)
  case atStart => exact ⟨0, Nat.zero_le _, rfl, fun _ _ => rfl, Below.refl _ _⟩
  case round =>
    obtain ⟨k, hk, rfl, hs, hb⟩ := hrel
    have HB := Lib.hid hb
    have HS := Lib.hid hs
    by_cases hlt : k < n
    · have z1 := World.block_lt_of_cell? w _ (HC.out k hlt)
      have z2 := World.block_lt_of_cell? w _ (HC'.out k hlt)
      have d1 := (hs ⟨b, off + k, none⟩ z1).trans (HC.out k hlt)
      have d2 := (hs ⟨b', off' + k, none⟩ z2).trans (HC'.out k hlt)
      obtain ⟨x, x1, x2⟩ := HE.out k hlt
      have t1 := eql_val x1 x2
      rw [← f32f, decide_eq_true rfl] at t1
      have t2 : (FloatKind.f32.format.order (c k) (d k) != some .eq) = false := by rw [bne, t1]; rfl
      have k1 : (k : Int) < (n : Int) := by omega
      have k2 : (0 : Int) ≤ (k : Int) := by omega
      clear hs hb x1 x2
      go_wp2
      go_region
      all_goals go_wp2
      all_goals go_roundw
      case rel => exact ⟨k + 1, by omega, by go_num, fun p hp => HS.out p hp, HB.out.drew⟩
      case measure => simp [intOf]; omega
    · clear hs hb
      go_wp2
      go_ret
      exact ⟨rfl, HB.out⟩

end Go.Proofs.Ytjjafjdjdjonfaa

/- TopLevels, walked. -/
namespace Go.Proofs.Ytjjafjdjdjonfaa
open Go.RowKit Fl
set_option linter.unusedVariables false

theorem dbl_word {g : Nat} {A : Int} (h : vS g = some A) (h0 : 0 ≤ A) (h1 : A ≤ 1048576 * (one : Int)) : ∃ q, floatBits .mul .f32 1073741824 g = some q ∧ vS q = some (2 * A) := by
  have hb := hgt_bd (in_hgt ⟨A, h, by omega, h1⟩)
  obtain ⟨J, hJ⟩ : ∃ J : Nat, J = 1075 := ⟨_, rfl⟩
  have e1 : one = 2 ^ (J - 1) := one_pow (by omega)
  have b2 : Bd 1 1073741824 := bd_val' vS_two (j := J) (by omega) (by
    rw [e1, show J = (J - 1) + 1 by omega, Nat.pow_succ]
    have : J - 1 + 1 - 1 = J - 1 := by omega
    rw [this]
    generalize 2 ^ (J - 1) = P
    omega)
  obtain ⟨q, e, _⟩ := same_ex (mul_same (by omega) b2 hb)
  refine ⟨q, e, ?_⟩
  obtain ⟨B, hB⟩ : ∃ B : Nat, B = 1100 := ⟨_, rfl⟩
  have e2 : 2 ^ B = 2 ^ (J - 1) * 67108864 := by rw [show B = J - 1 + 26 by omega, Nat.pow_add]
  have hpos : 0 < 2 ^ (J - 1) := Nat.two_pow_pos _
  have hm : (2 * (one : Int)) * A = (2 * A) * (one : Int) := by rw [Int.mul_assoc, Int.mul_comm (one : Int) A, ← Int.mul_assoc]
  have v := vS_mul (B := B) e vS_two h hm (by rw [e2]; rw [e1] at h1; generalize 2 ^ (J - 1) = P at *; omega) (by omega)
  rwa [rdS_dbl h] at v

/-- A greatest magnitude of the first k of a row. -/
def GrAt (v : Nat → Nat) (k g : Nat) : Prop := ∃ A : Int, vS g = some A ∧ 0 ≤ A ∧ A ≤ 1048576 * (one : Int) ∧ ∀ i, i < k → InV A (v i)
theorem GrAt.zero (v : Nat → Nat) : GrAt v 0 0 := ⟨0, vS_zero, Int.le_refl _, by omega, fun i hi => by omega⟩
/-- The round of the greatest. -/
theorem GrAt.step {v : Nat → Nat} {k g : Nat} (h : GrAt v k g) (hv : hgtB (v k) = true) :
    ∃ X r q, floatToFloatBits .f32 (v k) .f64 = some X ∧ X < b64 ∧ floatToFloatBits .f64 (X % b63) .f32 = some r ∧ (∀ w : World, (Builtin.max_ #[50, 50] 50 #[.float .f32 g, .float .f32 r]).run Try.prog w = .ok (.float .f32 q) w) ∧ GrAt v (k + 1) q := by
  obtain ⟨A, hA, h0, h1, hi⟩ := h
  obtain ⟨a, ha, hb⟩ := hgt_val hv
  obtain ⟨J, hJ⟩ : ∃ J : Nat, J = 1074 := ⟨_, rfl⟩
  have e1 : one = 2 ^ J := one_pow hJ
  obtain ⟨B, hB⟩ : ∃ B : Nat, B = 1100 := ⟨_, rfl⟩
  have e2 : 2 ^ B = 2 ^ J * 67108864 := by rw [show B = J + 26 by omega, Nat.pow_add]
  have hpos : 0 < 2 ^ J := Nat.two_pow_pos _
  obtain ⟨X, r, c1, c2, c3, c4⟩ := abs_word (B := B) ha (by rw [e2]; rw [e1] at hb; generalize 2 ^ J = P at *; omega) (by omega)
  obtain ⟨q, m1, m2, _⟩ := run_max_two #[50, 50] 50 hA c4
  refine ⟨X, r, q, c1, c2, c3, m1, _, m2, by split <;> omega, by split <;> omega, fun i hi' => ?_⟩
  by_cases e : i = k
  · subst e
    exact ⟨a, ha, by split <;> omega, by split <;> omega⟩
  · obtain ⟨b, hb1, hb2, hb3⟩ := hi i (by omega)
    exact ⟨b, hb1, by split <;> omega, by split <;> omega⟩
/-- No loss is greater than twice the greatest. -/
theorem lost_not {n : Nat} {v : Nat → Nat} {k x g : Nat} (h : LostOk n v k x) (hg : GrAt v n g) : ∃ q, floatBits .mul .f32 1073741824 g = some q ∧ (FloatKind.f32.format.order x q == some .gt) = false := by
  obtain ⟨A, hA, h0, h1, hi⟩ := hg
  obtain ⟨z, hz, q1, q2, q3⟩ := h
  obtain ⟨q, e, hq⟩ := dbl_word hA h0 h1
  have := q3 g A hA hi
  exact ⟨q, e, by rw [f32f, gtr_val hz hq]; exact decide_eq_false (by omega)⟩
theorem lost_nil {n : Nat} {v : Nat → Nat} {x : Nat} (h : LostOk n v 0 x) : (FloatKind.f32.format.order x 0 == some .eq) = true := by
  obtain ⟨z, hz, _, q2, _⟩ := h
  rw [f32f, eql_val hz vS_zero]
  exact decide_eq_true (q2 rfl)
end Go.Proofs.Ytjjafjdjdjonfaa

/- TopLevels, walked. -/
namespace Go.Proofs.Ytjjafjdjdjonfaa
open Go.RowKit Fl
set_option linter.unusedVariables false

/-- The world has not changed (behind a name: no tactic strikes it off). -/
def SameW (a b : World) : Prop := a = b
/-- What is there when there is no error. -/
def TopAt (n : Nat) (m : Int) (a g g3 : Option Addr) (len len3 : Nat) (w3 : World) : Prop :=
  ∃ (mm b off gb gb3 : Nat) (v ls : Nat → Nat) (T : Nat → Fd), m = (mm : Int) + 1 ∧ mm ≤ 9 ∧ a = some ⟨b, off, none⟩ ∧ g = some ⟨gb, 0, none⟩ ∧ len = mm + 1 ∧ g3 = some ⟨gb3, 0, none⟩ ∧ len3 = mm + 1 ∧ FlAt w3 b off n v ∧ allB n (fun i => hgtB (v i)) = true ∧ n ≤ 65536 ∧ FlAt w3 gb 0 (mm + 1) ls ∧ (∀ j, j < mm + 1 → LostOk n v j (ls j)) ∧ FdRow w3 gb3 (mm + 1) T ∧ FdOk w3 (T mm)
theorem top_facts {X Y W H : Int} {a : Option Addr} {n : Nat} {er m : Int} {g g3 : Option Addr} {len len3 : Nat} {w w2 w3 : World} {k k3 : Int} (hk : k = 0) (hk3 : k3 = 0)
    (hi : k = 0 → ∃ (W' H' m' b off : Nat) (v : Nat → Nat), W = W' ∧ H = H' ∧ m = m' ∧ n = W' * H' ∧ checkR X Y W H = 0 ∧ er = 0 ∧ a = some ⟨b, off, none⟩ ∧ FlAt w b off n v ∧ allB n (fun i => hgtB (v i)) = true ∧ 1 ≤ m' ∧ m' ≤ 10 ∧ LsInfo n v m' g len w2)
    (hi3 : k3 = 0 → ∃ (W' H' m' b off : Nat) (v : Nat → Nat), W = W' ∧ H = H' ∧ m = m' ∧ n = W' * H' ∧ checkR X Y W H = 0 ∧ er = 0 ∧ a = some ⟨b, off, none⟩ ∧ FlAt w b off n v ∧ allB n (fun i => hgtB (v i)) = true ∧ PyInfo X Y W' H' n v m' g3 len3 w3)
    (hb : Below w2.heap.size w2 w3) (hB : Below w.heap.size w w3) : TopAt n m a g g3 len len3 w3 := by
  obtain ⟨W', H', m', b, off, v, hW, hH, hm, hn, h0, he, ha, hr, hh, q1, q2, gb, ls, hg, hlen, hls, hlost⟩ := hi hk
  obtain ⟨W2, H2, m2, b2, off2, v2, _, _, hm2, _, _, _, _, _, _, f0, _, _, _, _, _, _, _, gb3, T, hg3, hlen3, hrow, hok, _⟩ := hi3 hk3
  subst hW hH
  obtain ⟨b1, b2, b3, b4, b5, b6, b7, b8, b9⟩ := checkR_zero h0
  have hn1 : 1 ≤ n := by rw [hn]; exact Nat.mul_pos (by omega) (by omega)
  have e : ((n : Nat) : Int) = (W' : Int) * H' := by rw [hn]; simp
  obtain rfl : m2 = m' := by omega
  obtain ⟨mm, rfl⟩ : ∃ mm, m2 = mm + 1 := ⟨m2 - 1, by omega⟩
  exact ⟨mm, b, off, gb, gb3, v, ls, T, by rw [hm]; simp, by omega, ha, hg, hlen, hg3, hlen3, flAt_congr hr (hB.block b (World.block_lt_of_cell? w _ (hr 0 hn1))), hh, by omega, flAt_congr hls (hb.block gb (World.block_lt_of_cell? w2 _ (hls 0 (by omega)))), hlost, hrow, hok mm (by omega)⟩

set_option maxRecDepth 100000 in
set_option maxHeartbeats 8000000 in
theorem topLevels_sl (X Y W H : Int) (a : Option Addr) (n cap : Nat) (er m : Int) (w : World) (hE : SlE w a n cap er) (hF : er = 0 → n ≠ 0 → ∃ b off v, a = some ⟨b, off, none⟩ ∧ FlAt w b off n v ∧ allB n (fun i => hgtB (v i)) = true) :
    Calls Try.prog 4 #[fldV X Y W H (.slice a n cap), .int .i64 m] w fun e w' => e = .returned (.bool true) ∧ Below w.heap.size w w' := by
  have LO := Lib.hid (fun W' (hB : Below w.heap.size w W') => losses_any X Y W H a n cap er m w hE hF W' hB)
  have PY := Lib.hid (fun W' (hB : Below w.heap.size w W') => pyramid_at X Y W H a n cap er m w hE hF W' hB)
  clear hE hF
  go_enter Try.func4, Try.ntmps4
  go_upto_region 5 with (first
    | (go_at_call 17; refine (tLanded_any _).mono ?_; rintro e w1 ⟨rfl, hb1⟩; have HF1 := Lib.hid (blkStay (b := w.heap.size) (o := fldO X Y W H (.slice a n cap)) (by (first | (rw [heap_alloc_get, if_pos rfl]; done) | ((simp only [heap_alloc_get, heap_size_alloc, if_true]) <;> ((repeat' split) <;> first | rfl | omega)))) hb1); have B1 := Lib.hid (Below.trans (show Below w.heap.size w _ from (by repeat (first | exact Below.refl _ _ | refine Below.alloc ?_ (by first | omega | (simp; done) | (simp; omega)) _ | refine Below.setCell ?_ (by first | omega | (simp; done) | (simp; omega)) _ | refine Below.drew ?_))) (hb1.mono (by first | omega | (simp; done) | (simp; omega)))); clear hb1; obtain ⟨cF, fF, zF⟩ := blkC HF1.out)
    | (go_at_call 18; (with_reducible refine Calls.mono (LO.out _ B1.out) ?_); rintro e w2 ⟨g, len, cap2, k, rfl, hinf, hb2⟩; have HINF := Lib.hid hinf; have HF2 := Lib.hid (blkStay HF1.out hb2); have B2 := Lib.hid (B1.out.trans (hb2.mono B1.out.size)); clear hb2 hinf cF fF zF; obtain ⟨cF, fF, zF⟩ := blkC HF2.out)
    | (go_at_call 19; (with_reducible refine Calls.mono (PY.out _ B2.out) ?_); rintro e w3 ⟨g3, len3, cap3, k3, rfl, hinf, hb3⟩; have HINF3 := Lib.hid hinf; have HB3 := Lib.hid hb3; have HF3 := Lib.hid (blkStay HF2.out hb3); have B3 := Lib.hid (B2.out.trans (hb3.mono B2.out.size)); clear hb3 hinf cF fF zF; obtain ⟨cF, fF, zF⟩ := blkC HF3.out))
  clear LO PY
  by_cases hk : k = 0
  · by_cases hk3 : k3 = 0
    · have HT := Lib.hid (top_facts hk hk3 HINF.out HINF3.out HB3.out B3.out)
      have HF3' := Lib.hid HF3.out
      have B3' := Lib.hid B3.out
      clear HINF HINF3 HB3 HF1 HF2 HF3 B1 B2 B3 cF fF zF
      subst hk hk3
      obtain ⟨mm, b, off, gb, gb3, v, ls, T, rfl, hm9, rfl, rfl, rfl, rfl, rfl, hr, hh, hn, hls, hlost, hrow, hok⟩ := HT.out
      have HR := Lib.hid hr
      have HH := Lib.hid hh
      have HLS := Lib.hid hls
      have HLO := Lib.hid hlost
      have HROW := Lib.hid hrow
      have HOK := Lib.hid hok
      obtain ⟨cF, fF, zF⟩ := blkC HF3'.out
      have hnn : (n : Int) ≤ 65536 := by omega
      clear hr hh hls hlost hrow hok HT
      go_wp2_with fail
      go_loopw [9, 38] (fun s9 s38 wr => ∃ k gr : Nat, k ≤ n ∧ s38 = .int .i64 k ∧ s9 = .float .f32 gr ∧ GrAt v k gr ∧ SameW wr w3) (fun _ s38 _ => n - (intOf s38).toNat)
      case atStart => exact ⟨0, 0, Nat.zero_le _, rfl, rfl, GrAt.zero v, rfl⟩
      case round =>
        obtain ⟨k, gr, hk, rfl, rfl, hgr, hsw⟩ := hrel
        unfold SameW at hsw
        subst hsw
        have HG := Lib.hid hgr
        clear hgr
        by_cases hlt : k < n
        · have hcell := HR.out k hlt
          obtain ⟨Xd, r, q, x1, x2, x3, mx, hq⟩ := HG.out.step (allB_iff.1 HH.out k hlt)
          have HQ := Lib.hid hq
          have c1 := fun (W : World) => run_convert_float_float (P := Try.prog) W 50 51 .f32 .f64 (v k) Xd (by kernel_rfl) Try.underlying51 x1
          have c2 := fun (W : World) => run_convert_float_float (P := Try.prog) W 51 50 .f64 .f32 (Xd % b63) r (by kernel_rfl) Try.underlying50 x3
          have MA := Lib.hid (fun w => mathAbs_any Xd w x2)
          clear x1 x2 x3 hq
          go_wp2_with (go_at_call 20; refine (MA.out _).mono ?_; rintro e w' ⟨rfl, rfl⟩)
          go_roundw
          case rel =>
            exact ⟨k + 1, q, by omega, by go_num, rfl, HQ.out, rfl⟩
          case measure => simp [intOf]; omega
        · obtain rfl : k = n := by omega
          have hmm : (mm : Int) ≤ 9 := by omega
          clear cF fF zF hnn hlt hk
          go_wp2_with fail
          go_loopw [51] (fun s51 wr' => ∃ j : Nat, j ≤ mm + 1 ∧ s51 = .int .i64 j ∧ SameW wr' wr) (fun s51 _ => mm + 1 - (intOf s51).toNat)
          case atStart => exact ⟨0, Nat.zero_le _, rfl, rfl⟩
          case round =>
            obtain ⟨j, hj, rfl, hsw⟩ := hrel
            unfold SameW at hsw
            subst hsw
            by_cases hlt : j < mm + 1
            · have hcell := HLS.out j hlt
              rw [Nat.zero_add] at hcell
              obtain ⟨q, e1, e2⟩ := lost_not (HLO.out j hlt) HG.out
              have x1 := fun (ww : World) => run_float_arith (P := Try.prog) ww .mul 50 .f32 1073741824 gr q e1
              have hlt' : (j : Int) < (mm : Int) + 1 := by omega
              clear e1
              go_wp2_with fail
              go_roundw
              case rel => exact ⟨j + 1, by omega, by go_num, rfl⟩
              case measure => simp [intOf]; omega
            · obtain rfl : j = mm + 1 := by omega
              clear hj hlt HR HH HF3'
              obtain ⟨c0, c1, c2, c3, c4, zg⟩ := fd_at HROW.out (show mm < mm + 1 by omega)
              have zl := World.block_lt_of_cell? wr _ (HLS.out 0 (by omega))
              have PO := Lib.hid (pyramid_one (T mm).x (T mm).y (T mm).w (T mm).h _ (T mm).b 0 (T mm).cap (T mm).v wr HOK.out.sle HOK.out.reg rfl HOK.out.row HOK.out.hgt)
              have EQ := Lib.hid (fun b c W' (hb : Below wr.heap.size wr W') (hr : FlAt W' b 0 ((T mm).w * (T mm).h) (T mm).v) => equalF_any b (T mm).b 0 0 c (T mm).cap ((T mm).w * (T mm).h) (T mm).v (T mm).v HOK.out.parts.2.2.2.2.2.1 W' hr (HOK.out.stay hb).row (fun i hi => by
                obtain ⟨x, hx, _⟩ := hgt_val (allB_iff.1 HOK.out.hgt i hi)
                exact ⟨x, hx, hx⟩))
              have c4' : wr.cell? ⟨gb3, mm * 5 + 4, none⟩ = some (.slice (some ⟨(T mm).b, 0, none⟩) ((T mm).w * (T mm).h) (T mm).cap) := c4
              have hl0 := lost_nil (HLO.out 0 (by omega))
              have ROW := Lib.hid HROW.out
              clear c4
              obtain ⟨tx, htx⟩ : ∃ tx, (T mm).x = tx := ⟨_, rfl⟩
              obtain ⟨ty, hty⟩ : ∃ ty, (T mm).y = ty := ⟨_, rfl⟩
              obtain ⟨tn, htn⟩ : ∃ tn, (T mm).w * (T mm).h = tn := ⟨_, rfl⟩
              obtain ⟨tw, htw⟩ : ∃ tw, (T mm).w = tw := ⟨_, rfl⟩
              obtain ⟨th, hth⟩ : ∃ th, (T mm).h = th := ⟨_, rfl⟩
              obtain ⟨tb, htb⟩ : ∃ tb, (T mm).b = tb := ⟨_, rfl⟩
              obtain ⟨tc, htc⟩ : ∃ tc, (T mm).cap = tc := ⟨_, rfl⟩
              obtain ⟨tv, htv⟩ : ∃ tv, (T mm).v = tv := ⟨_, rfl⟩
              rw [htn] at PO EQ c4'
              rw [htx, hty, htw, hth, htb, htc, htv] at PO
              rw [htb, htc, htv] at EQ
              rw [htb, htc] at c4'
              rw [htx] at c0
              rw [hty] at c1
              rw [htw] at c2
              rw [hth] at c3
              have HTE := Lib.hid (show tw * th = tn from by rw [← htw, ← hth, htn])
              have HTN := Lib.hid (show 0 < tn from by rw [← htn]; exact HOK.out.parts.2.2.2.2.1)
              clear htx hty htn htw hth htb htc htv HOK HROW HLO HG
              go_upto_region 20 with (go_at_call 19; (with_reducible refine Calls.mono PO.out ?_); rintro e w5 ⟨g5, cap5, sb, sc, rfl, hrow5, hr5, hb5⟩; have HROW5 := Lib.hid hrow5; have HR5 := Lib.hid hr5; have HB5 := Lib.hid hb5; clear hrow5 hr5 hb5)
              have d0 := (flAt_congr HLS.out (HB5.out.block gb zl)) 0 (by omega)
              rw [Nat.zero_add] at d0
              obtain ⟨_, _, _, _, d4, zg5⟩ := fd_at HROW5.out (show 0 < 1 by omega)
              have d4' : w5.cell? ⟨g5, 4, none⟩ = some (.slice (some ⟨sb, 0, none⟩) tn sc) := by
                have e : tw * th = tn := HTE.out
                rw [← e]
                simpa using d4
              have d5 : w5.cell? ⟨gb3, mm * 5 + 4, none⟩ = some (.slice (some ⟨tb, 0, none⟩) tn tc) := by
                rw [World.cell?_of_block (w := wr) (a := ⟨gb3, mm * 5 + 4, none⟩) (HB5.out.block gb3 ROW.out.2)]
                exact c4'
              clear c0 c1 c2 c3 c4' PO d4 zg
              have EQ5 := Lib.hid (fun W' (hB : Below w5.heap.size w5 W') => EQ.out sb sc W' (HB5.out.trans (hB.mono HB5.out.size)) (flAt_congr HR5.out (hB.block sb (World.block_lt_of_cell? w5 _ (HR5.out 0 HTN.out)))))
              have S5 : ∀ W', Below w5.heap.size w5 W' → (W'.cell? ⟨gb, 0, none⟩ = some (.float .f32 (ls 0)) ∧ W'.cell? ⟨g5, 4, none⟩ = some (.slice (some ⟨sb, 0, none⟩) tn sc) ∧ W'.cell? ⟨gb3, mm * 5 + 4, none⟩ = some (.slice (some ⟨tb, 0, none⟩) tn tc)) ∧ Below w5.heap.size w5 W' := fun W' hB => ⟨⟨(World.cell?_of_block (w := w5) (a := ⟨gb, 0, none⟩) (hB.block gb (Nat.lt_of_lt_of_le zl HB5.out.size))).trans d0, (World.cell?_of_block (w := w5) (a := ⟨g5, 4, none⟩) (hB.block g5 zg5)).trans d4', (World.cell?_of_block (w := w5) (a := ⟨gb3, mm * 5 + 4, none⟩) (hB.block gb3 (Nat.lt_of_lt_of_le ROW.out.2 HB5.out.size))).trans d5⟩, hB⟩
              have S5' := Lib.hid S5
              have hw1 : IntKind.i64.wrap ((mm : Int) + 1 - 1) = (mm : Int) := by rw [Int.add_sub_cancel]; exact IntWalk.i64_in _ (by omega)
              have hw2 : IntKind.i64.wrap (mm : Int) = (mm : Int) := IntWalk.i64_in _ (by omega)
              have k1 : (0 : Int) ≤ (mm : Int) := by omega
              have k2 : (mm : Int) < (mm : Int) + 1 := by omega
              have k3 : (mm : Int) < ((mm + 1 : Nat) : Int) := by omega
              clear S5 d0 d4' d5
              go_region_held3 (fun w' => (w'.cell? ⟨gb, 0, none⟩ = some (.float .f32 (ls 0)) ∧ w'.cell? ⟨g5, 4, none⟩ = some (.slice (some ⟨sb, 0, none⟩) tn sc) ∧ w'.cell? ⟨gb3, mm * 5 + 4, none⟩ = some (.slice (some ⟨tb, 0, none⟩) tn tc)) ∧ Below w5.heap.size w5 w') (first | exact S5'.out _ hb9 | exact S5'.out _ (Below.refl _ _) | exact S5'.out _ (by repeat (first | exact Below.refl _ _ | refine Below.alloc ?_ (by first | omega | (simp; done) | (simp; omega)) _ | refine Below.setCell ?_ (by first | omega | (simp; done) | (simp; omega)) _ | refine Below.drew ?_))) (first | (go_at_call 21; (with_reducible refine Calls.mono (EQ5.out _ ?_) ?_); exact (by repeat (first | exact Below.refl _ _ | refine Below.alloc ?_ (by first | omega | (simp; done) | (simp; omega)) _ | refine Below.setCell ?_ (by first | omega | (simp; done) | (simp; omega)) _ | refine Below.drew ?_)); rintro e w6 ⟨rfl, hb8⟩; have hb9 : Below w5.heap.size w5 w6 := Below.trans (by repeat (first | exact Below.refl _ _ | refine Below.alloc ?_ (by first | omega | (simp; done) | (simp; omega)) _ | refine Below.setCell ?_ (by first | omega | (simp; done) | (simp; omega)) _ | refine Below.drew ?_)) (Below.mono hb8 (by first | exact Nat.le_refl _ | (simp; done) | (simp; omega))); clear hb8))
              have hHeld := ‹_ ∧ Below w5.heap.size w5 _›
              have B6 := Lib.hid (B3'.out.trans ((HB5.out.trans (hHeld.2.mono HB5.out.size)).mono B3'.out.size))
              clear hHeld
              go_wp2
              go_ret
              exact ⟨rfl, B6.out⟩
    · have hk2 : (k3 != 0) = true := by simpa using hk3
      subst hk
      clear hk3 HINF HINF3
      go_wp2
      go_ret
      exact ⟨rfl, B3.out⟩
  · have hk2 : (k != 0) = true := by simpa using hk
    clear hk HINF HINF3
    go_wp2
    go_ret
    exact ⟨rfl, B3.out⟩
end Go.Proofs.Ytjjafjdjdjonfaa

/- A field that came in, opened: four integers, and a slice of singles that is empty or known cell by cell. -/
namespace Go.Proofs.Ytjjafjdjdjonfaa
open Go.ChangeShapes Go.WideShapes Go.ChangeAt Go.RowKit Go.Joins Fl

section
variable {H : Type} {enc : TypeId × Value → H} {w : World} {base : Nat} {spare : Nat → Bool} {held : Bool}

theorem trod_f32 {P : Program} {t : TypeId} {fuel : Nat} {v : Value} {y : DataW H × List MemPlace} (ht : P.underlying t = some (.float .f32)) (h : DataW.trod enc P w base spare held fuel t [v] = some y) : ∃ b, v = .float .f32 b ∧ b < 4294967296 := by
  cases fuel with
  | zero => simp [DataW.trod] at h
  | succ n =>
    unfold DataW.trod at h
    rw [ht] at h
    cases v <;> simp at h
    rename_i k b
    obtain ⟨⟨rfl, hw⟩, _⟩ := h
    exact ⟨b, rfl, by simpa [Lit.wf] using hw⟩

theorem array5 {α : Type} {cs : Array α} (h : cs.size = 5) : ∃ c0 c1 c2 c3 c4, cs = #[c0, c1, c2, c3, c4] := by
  obtain ⟨l⟩ := cs
  match l, h with
  | [c0, c1, c2, c3, c4], _ => exact ⟨c0, c1, c2, c3, c4, rfl⟩

theorem flAt_congr' {w w' : World} {b off n : Nat} {f : Nat → Nat} (h : FlAt w b off n f) (e : w'.heap[b]? = w.heap[b]?) : FlAt w' b off n f := fun i hi => by
  rw [← h i hi]; exact World.cell?_of_block (w := w) (a := ⟨b, off + i, none⟩) e

/-- What a slice of singles is: empty, or known cell by cell. -/
def SlF (w : World) (s : Value) : Prop :=
  (∃ a cap, s = .slice a 0 cap) ∨ ∃ b off len cap x, s = .slice (some ⟨b, off, none⟩) len cap ∧ 0 < len ∧ len ≤ 9223372036854775807 ∧ FlAt w b off len x ∧ wf32 len x

theorem open_singles {t e : TypeId} {fuel : Nat} {cs : List Value} {y : DataW H × List MemPlace} (ht : Try.prog.underlying t = some (.slice e)) (he : Try.prog.underlying e = some (.float .f32)) (hc : Try.prog.cellsOf e = 1)
    (h : DataW.trod enc Try.prog w base spare held fuel t cs = some y) : ∃ s, cs = [s] ∧ SlF w s := by
  rcases Go.Deep.open_slice1 ht hc h with ⟨rfl, _⟩ | ⟨a, len, cap, m, n, V, D, Pl, rfl, hb, hl, hm, hmm, _, hx⟩
  · exact ⟨_, rfl, .inl ⟨none, 0, rfl⟩⟩
  · refine ⟨_, rfl, ?_⟩
    rcases Nat.eq_zero_or_pos len with z | z
    · subst z; exact .inl ⟨_, _, rfl⟩
    · have hlm : len ≤ m := by rw [hmm]; split <;> omega
      have h0 := (hx 0 (by omega)).1
      obtain ⟨b, off, spot⟩ := a
      have hspot : spot = none := by simpa [Addr.add] using World.cell?_spot h0
      subst hspot
      have hv : ∀ i, i < len → ∃ x, V i = .float .f32 x ∧ x < 4294967296 := fun i hi => trod_f32 he (hx i (by omega)).2
      refine .inr ⟨b, off, len, cap, fun i => match V i with | .float _ x => x | _ => 0, rfl, z, ?_, fun i hi => ?_, fun i hi => ?_⟩
      · exact Nat.le_trans hl (Nat.le_trans hm (by decide))
      · have h1 := (hx i (by omega)).1
        obtain ⟨x, e1, _⟩ := hv i hi
        rw [← Go.WideShapes.add_plain, h1]
        simp only [e1]
      · obtain ⟨x, e1, e2⟩ := hv i hi
        simp only [e1]; exact e2

theorem cellsF : Try.prog.cellsOf 26 = 5 := by kernel_rfl
theorem cellsR : Try.prog.cellsOf 23 = 4 := by kernel_rfl
theorem cellsS : Try.prog.cellsOf 24 = 1 := by kernel_rfl
theorem cells1 : Try.prog.cellsOf 50 = 1 := by kernel_rfl
theorem cellsI : Try.prog.cellsOf 3 = 1 := by kernel_rfl

set_option maxRecDepth 100000 in
theorem open_field {r : Reach} {b0 : Nat} {v : Value} {d : DataW H} {p : List MemPlace} (hv : Value.okWide Try.prog w r b0 26 v) (h : DataW.Trod enc Try.prog w base spare held 26 v d p) :
    ∃ X Y W' H' : Int, ∃ s, v = fldV X Y W' H' s ∧ SlF w s := by
  obtain ⟨cs, rfl, hsz⟩ := okWide_struct Try.underlying26 hv
  obtain ⟨c0, c1, c2, c3, c4, rfl⟩ := array5 (hsz.trans cellsF)
  obtain ⟨fuel, hf⟩ := h
  obtain ⟨y0, y1, n, _, _, h0, h1⟩ := trod_struct2 Try.underlying26 hf
  rw [cellsR] at h0
  rw [cellsS] at h1
  obtain ⟨s, e4, hs⟩ := open_singles Try.underlying24 Try.underlying50 cells1 h1
  obtain ⟨z0, z1, z2, z3, n2, _, _, g0, g1, g2, g3⟩ := trod_struct4 Try.underlying23 h0
  rw [cellsI] at g0 g1 g2 g3
  obtain ⟨x0, e0, _, _⟩ := DataW.trod_int Try.underlying3 g0
  obtain ⟨x1, e1, _, _⟩ := DataW.trod_int Try.underlying3 g1
  obtain ⟨x2, e2, _, _⟩ := DataW.trod_int Try.underlying3 g2
  obtain ⟨x3, e3, _, _⟩ := DataW.trod_int Try.underlying3 g3
  simp [Value.cells] at e0 e1 e2 e3 e4
  subst e0 e1 e2 e3 e4
  exact ⟨x0, x1, x2, x3, _, rfl, hs⟩
end

theorem SlF.stay {w w' : World} {s : Value} (h : SlF w s) (hb : Below w.heap.size w w') : SlF w' s := by
  rcases h with h | ⟨b, off, len, cap, x, rfl, h1, h2, h3, h4⟩
  · exact .inl h
  · exact .inr ⟨b, off, len, cap, x, rfl, h1, h2, flAt_congr' h3 (hb.block _ (World.block_lt_of_cell? w _ (h3 0 h1))), h4⟩

theorem laidOut : laidOutB Try.prog = true := by kernel_rfl
end Go.Proofs.Ytjjafjdjdjonfaa

/- TopLevels, for every field and every number of levels: what levels lose is at most twice the greatest magnitude, the first one loses nothing, and a level is the only one of its own pyramid of one. No condition. -/
namespace Go.Proofs.Ytjjafjdjdjonfaa.topLevels
open Go.ChangeShapes Go.WideShapes Go.ChangeAt Go.RowKit Go.Joins Fl
set_option linter.unusedVariables false

theorem own : ownKnob Try.prog.godebug = none := by kernel_rfl

/-- TopLevels, of a field's slice that came in. -/
theorem law (X Y W0 H0 : Int) (s : Value) (m : Int) (w : World) (hs : SlF w s) :
    Calls Try.prog 4 #[fldV X Y W0 H0 s, .int .i64 m] w fun e w' => e = .returned (.bool true) ∧ Below w.heap.size w w' := by
  rcases hs with ⟨a, cap, rfl⟩ | ⟨b, off, len, cap, x, rfl, h1, h2, h3, _⟩
  · exact topLevels_sl X Y W0 H0 a 0 cap 0 m w (slE_nil w a cap) (fun _ h => absurd rfl h)
  · exact topLevels_sl X Y W0 H0 _ len cap _ m w (slE_row h1 h2 h3) (fun he _ => ⟨b, off, x, rfl, h3, fldE_zero.1 he⟩)

set_option maxRecDepth 100000 in
theorem lifted (os : Os) (started : os.Started) (H : Type) (enc : TypeId × Value → H) :
    ReturnsInHanded {} Try.checked os 4 .any (Rows.topLevelsSpec.pre6 enc Try.prog Try.f4 Rows.topLevelsRow.domain false) (Rows.topLevelsSpec.post enc Try.prog Try.f4 false true false false) := by
  refine returnsInHanded_of_change (C := Try.checked) own started (by kernel_rfl) Try.func4
    (ChangeSpec.witness6 (enc := enc) (C := Try.checked) false ⟨#[], #[fldV 0 0 0 0 (.slice none 0 0), .int .i64 0], []⟩ 8 (by kernel_rfl) (by kernel_rfl) (by kernel_rfl) (by kernel_rfl)) ?_
  intro W base args ds gs before hval0 hW hcnd _
  have hval : ∀ (j : Nat) t v, Try.f4.params[j]? = some t → args[j]? = some v → Value.okWide Try.prog W .any base t v := hval0
  have hW' := hW
  have hplt : ∀ x ∈ before, x.block < W.heap.size := fun x hx => by simpa using hW'.lt x hx
  obtain ⟨p, q, hA0, hV, rfl, hfz, hnd⟩ := hW
  have hA : DataW.TrodAll enc Try.prog W 0 (fun _ => true) true Try.f4.params.toList args.toList ds p := hA0
  rw [Try.params4] at hA hval
  obtain ⟨v0, vs0, d0, ds0, p0, q0, hargs, rfl, rfl, h0, r0⟩ := trodAll_cons hA
  obtain ⟨v1, vs1, d1, ds1, p1, q1, rfl, rfl, rfl, h1, r1⟩ := trodAll_cons r0
  obtain ⟨rfl, rfl, rfl⟩ := trodAll_nil r1
  obtain rfl : args = #[v0, v1] := by cases args; simp_all
  obtain ⟨rfl, rfl⟩ := trodVars_none hV
  obtain ⟨X, Y, W0, H0, s, rfl, hs⟩ := open_field (hval 0 26 v0 rfl rfl) h0
  obtain ⟨x0, rfl, rfl, rfl, w0⟩ := open_int Try.underlying3 (hval 1 3 v1 rfl rfl) h1
  have hlt : ∀ x ∈ p0, x.block < W.heap.size := fun x hx => hplt x (by simp [hx])
  clear hA0 hval0 hplt
  simp only [List.append_nil] at hW'
  refine (law X Y W0 H0 s x0 W hs).mono fun e W' ⟨he, hb⟩ => ?_
  subst he
  exact ⟨_, rfl, _, _, _, [], _, [], hW', trodAll_cons_mk (shut_bool Try.underlying4 _) trodAll_mk0, trodAll_cons_mk (Below.trod laidOut (by kernel_rfl) (of_decide_eq_true (by kernel_rfl)) h0 hb hlt) (trodAll_cons_mk (shut_int Try.underlying3 w0) trodAll_mk0), rfl, hb.frame _, fun h => by cases h⟩

theorem over : Rows.topLevelsRow.holds Try.pinned (OpenSpec.ofChange Rows.topLevelsSpec) :=
  OpenClaim.holds_of_wide 4 Try.f4 rfl rfl rfl rfl rfl rfl rfl ⟨rfl, rfl, rfl, rfl, rfl⟩ rfl rfl rfl rfl rfl (by kernel_rfl) Try.func4 (by kernel_rfl)
    (of_decide_eq_true (by kernel_rfl)) (by unfold Func.isWrapper; rw [if_neg (of_decide_eq_false (by kernel_rfl))]; exact ⟨rfl, rfl⟩)
    (fun os started H enc _ => lifted os started H enc)

theorem proved : Rows.TopLevelsSaid :=
  over
#print axioms proved
end Go.Proofs.Ytjjafjdjdjonfaa.topLevels
