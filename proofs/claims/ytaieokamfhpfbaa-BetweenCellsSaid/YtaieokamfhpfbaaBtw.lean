/- Contracts: between and along of the program. -/
import Derived.Test.YtaieokamfhpfbaaPlace
import Derived.Test.YtaieokamfhpfbaaFloor
import Derived.Test.YtaieokamfhpfbaaFl17
import Derived.Test.YtaieokamfhpfbaaReg3
namespace Go.Proofs.Ytaieokamfhpfbaa
open Go.RowKit Fl
set_option linter.unusedVariables false

/-- The value between two. -/
def alongW (cs : Bool) (s x y : Nat) : Nat := if cs then x else mixW x y s

set_option maxHeartbeats 1000000 in
theorem along_zero (b off len cap : Nat) (x s : Nat) (w : World) (h0 : w.cell? ⟨b, off, none⟩ = some (.float .f32 x)) (hl : 1 ≤ len) (hs : (FloatKind.f32.format.order s 0 == some .eq) = true) :
    Calls Try.prog 169 #[.slice (some ⟨b, off, none⟩) len cap, .float .f32 s] w fun e w' => e = .returned (.float .f32 x) ∧ w = w' := by
  have h1 : (0 : Int) < (len : Int) := by omega
  go_enter Try.func169, Try.ntmps169
  go_wp2
  go_ret
  exact ⟨rfl, rfl⟩

set_option maxHeartbeats 1000000 in
theorem along_mix (b off len cap : Nat) (x y s : Nat) (w : World) (h0 : w.cell? ⟨b, off, none⟩ = some (.float .f32 x)) (h1 : w.cell? ⟨b, off + 1, none⟩ = some (.float .f32 y)) (hl : 2 ≤ len) (hs : (FloatKind.f32.format.order s 0 == some .eq) = false)
    (bx : Bd 20 x) (by' : Bd 20 y) (bs : Bd 1 s) :
    Calls Try.prog 169 #[.slice (some ⟨b, off, none⟩) len cap, .float .f32 s] w fun e w' => e = .returned (.float .f32 (mixW x y s)) ∧ Below w.heap.size w w' := by
  obtain ⟨d, q, r, e1, _, e2, _, e3, _, _, _⟩ := mix_parts (i := 20) (j := 1) (by omega) (by omega) bx by' bs
  have MX := Lib.hid (fun w => mix_any x y s d q r e1 e2 e3 w)
  rw [mix_eq e1 e2 e3]
  have l1 : (0 : Int) < (len : Int) := by omega
  have l2 : (1 : Int) < (len : Int) := by omega
  clear e1 e2 e3 bx by' bs
  go_enter Try.func169, Try.ntmps169
  go_wp2
  go_quiet (first | (go_at_call 113; exact Calls.quiet_of_same ((MX.out _).mono fun _ _ h => ⟨h.1, h.2.symm⟩)))
  go_wp2
  go_ret
  exact ⟨rfl, below_drewN _ _⟩

theorem cell_lt {X Y x y : Int} {W H n i : Nat} (hW1 : 1 ≤ W) (h1 : X ≤ x) (h2 : x < X + W) (h4 : y < Y + H) (h5 : (i : Int) = (y - Y) * W + (x - X)) (hnn : n = H * W) : i < n := by
  have a : (y - Y) * W ≤ ((H : Int) - 1) * W := Int.mul_le_mul_of_nonneg_right (by omega) (by omega)
  have b : ((H : Int) - 1) * W = (n : Int) - W := by rw [hnn, Int.sub_mul]; simp
  omega

theorem along_any (b off len cap : Nat) (x y s : Nat) (cs : Bool) (w : World) (h0 : w.cell? ⟨b, off, none⟩ = some (.float .f32 x)) (h1 : cs = false → w.cell? ⟨b, off + 1, none⟩ = some (.float .f32 y) ∧ 2 ≤ len ∧ Bd 20 y) (hl : 1 ≤ len) (hs : (FloatKind.f32.format.order s 0 == some .eq) = cs)
    (bx : Bd 20 x) (bs : Bd 1 s) :
    Calls Try.prog 169 #[.slice (some ⟨b, off, none⟩) len cap, .float .f32 s] w fun e w' => e = .returned (.float .f32 (alongW cs s x y)) ∧ Below w.heap.size w w' := by
  cases cs with
  | true => exact (along_zero b off len cap x s w h0 hl hs).mono fun e w' h => ⟨h.1, by rw [← h.2]; exact Below.refl _ _⟩
  | false =>
    obtain ⟨h2, h3, h4⟩ := h1 rfl
    exact along_mix b off len cap x y s w h0 h2 h3 hs bx h4 bs
theorem along_bd {cs : Bool} {x y s : Nat} (bx : Bd 20 x) (by' : cs = false → Bd 20 y) (bs : Bd 1 s) : Bd 23 (alongW cs s x y) := by
  cases cs with
  | true => exact bd_up bx (by omega)
  | false =>
    obtain ⟨d, q, r, e1, _, e2, _, e3, _, _, br⟩ := mix_parts (i := 20) (j := 1) (by omega) (by omega) bx (by' rfl) bs
    show Bd 23 (mixW x y s)
    rw [mix_eq e1 e2 e3]; exact br

set_option maxHeartbeats 400000 in
theorem cell_any (x y : Int) (w : World) :
    Calls Try.prog 100 #[.int .i64 x, .int .i64 y] w fun e w' => e = .returned (reg x y 1 1) ∧ Below w.heap.size w w' := by
  go_enter Try.func100, Try.ntmps100
  go_wp2
  exact bodyPost_ret (v := reg x y 1 1) (by simp [results, Try.results100, go_sem]) rfl ⟨rfl, (by repeat (first | exact Below.refl _ _ | refine Below.alloc ?_ (by first | omega | (simp; done) | (simp; omega)) _ | refine Below.setCell ?_ (by first | omega | (simp; done) | (simp; omega)) _ | refine Below.drew ?_))⟩

/-- Are the cells there that are wanted? -/
def thereB (X Y W H i j : Int) (cs ct : Bool) : Bool := insideB i j (if cs then 1 else 2) (if ct then 1 else 2) X Y W H
/-- The number of a cell. -/
def numC (X Y : Int) (W : Nat) (i j : Int) : Nat := ((j - Y) * W + (i - X)).toNat
/-- The value between the cells behind number k. -/
def btwW (v : Nat → Nat) (W k : Nat) (cs ct : Bool) (s t : Nat) : Nat := if ct then alongW cs s (v k) (v (k + 1)) else mixW (alongW cs s (v k) (v (k + 1))) (alongW cs s (v (k + W)) (v (k + W + 1))) t

set_option maxHeartbeats 4000000 in
theorem between_no (X Y : Int) (W H n b cap : Nat) (i j : Int) (s t : Nat) (cs ct : Bool) (w : World) (h0 : checkR X Y W H = 0) (i1 : -16777216 ≤ i) (i2 : i ≤ 16777216) (j1 : -16777216 ≤ j) (j2 : j ≤ 16777216)
    (hs : (FloatKind.f32.format.order s 0 == some .eq) = cs) (ht : (FloatKind.f32.format.order t 0 == some .eq) = ct) (hth : thereB X Y W H i j cs ct = false) :
    Calls Try.prog 136 #[fldV X Y W H (.slice (some ⟨b, 0, none⟩) n cap), .int .i64 i, .int .i64 j, .float .f32 s, .float .f32 t] w fun e w' => e = .returned (.tuple #[.float .f32 0, .bool false]) ∧ Below w.heap.size w w' := by
  obtain ⟨b1, b2, b3, b4, b5, b6, b7, b8, b9⟩ := checkR_zero h0
  have IN := Lib.hid (fun w => inside_any i j (if cs then 1 else 2) (if ct then 1 else 2) X Y W H w (by omega) (by omega) (by omega) (by omega) (by cases cs <;> simp) (by cases cs <;> simp) (by cases ct <;> simp) (by cases ct <;> simp) (by omega) (by omega) (by omega) (by omega) (by omega) (by omega) (by omega) (by omega))
  rw [show insideB i j (if cs then 1 else 2) (if ct then 1 else 2) X Y W H = false from hth] at IN
  have hs' : (FloatKind.f32.format.order s 0 != some .eq) = !cs := by rw [bne, hs]
  have ht' : (FloatKind.f32.format.order t 0 != some .eq) = !ct := by rw [bne, ht]
  clear h0 b1 b2 b3 b4 b5 b6 b7 b8 b9 hth
  cases cs <;> cases ct
  all_goals simp only [Bool.not_true, Bool.not_false] at hs' ht'
  all_goals simp only [Bool.false_eq_true, if_false, if_true] at IN
  all_goals
    go_enter Try.func136, Try.ntmps136
    go_wp2_with (first | (go_at_call 100; refine (cell_any _ _ _).mono ?_; rintro e w1 ⟨rfl, hb1⟩; have HA1 := Lib.hid (blkStay (b := w.heap.size) (o := fldO X Y W H (.slice (some ⟨b, 0, none⟩) n cap)) (by ((simp only [heap_alloc_get, heap_size_alloc, if_true]) <;> ((repeat' split) <;> first | rfl | omega))) hb1); have hB1 := Lib.hid (Below.trans (show Below w.heap.size w _ from (by repeat (first | exact Below.refl _ _ | refine Below.alloc ?_ (by first | omega | (simp; done) | (simp; omega)) _ | refine Below.setCell ?_ (by first | omega | (simp; done) | (simp; omega)) _ | refine Below.drew ?_))) (Below.mono hb1 (by first | omega | (simp; done) | (simp; omega)))); obtain ⟨cA, fA, zA⟩ := blkC HA1.out; clear hb1) | (go_at_call 23; refine (IN.out _).mono ?_; rintro e w2 ⟨rfl, hb2⟩))
    go_ret2
    have b1 := hB1.out
    exact ⟨rfl, b1.trans (Below.trans ((Below.refl _ _).alloc b1.size _) (hb2.mono (by rw [heap_size_alloc]; have := b1.size; omega)))⟩

set_option maxHeartbeats 8000000 in
theorem between_ok (X Y : Int) (W H n b cap : Nat) (v : Nat → Nat) (i j : Int) (s t : Nat) (cs ct : Bool) (w : World) (h0 : checkR X Y W H = 0) (hn : n = W * H) (hcap : n ≤ cap) (hc : FlAt w b 0 n v) (hh : allB n (fun i => hgtB (v i)) = true)
    (hs : (FloatKind.f32.format.order s 0 == some .eq) = cs) (ht : (FloatKind.f32.format.order t 0 == some .eq) = ct) (hth : thereB X Y W H i j cs ct = true) (bs : Bd 1 s) (bt : Bd 1 t) :
    Calls Try.prog 136 #[fldV X Y W H (.slice (some ⟨b, 0, none⟩) n cap), .int .i64 i, .int .i64 j, .float .f32 s, .float .f32 t] w fun e w' => e = .returned (.tuple #[.float .f32 (btwW v W (numC X Y W i j) cs ct s t), .bool true]) ∧ Below w.heap.size w w' := by
  obtain ⟨b1, b2, b3, b4, b5, b6, b7, b8, b9⟩ := checkR_zero h0
  have hnn : n = H * W := by rw [hn]; exact Nat.mul_comm _ _
  have hn2 : n ≤ 65536 := by
    have : ((W : Int) * (H : Int)) = (n : Int) := by rw [hn]; simp
    omega
  have hth' : X ≤ i ∧ Y ≤ j ∧ i + (if cs then 1 else 2) ≤ X + W ∧ j + (if ct then 1 else 2) ≤ Y + H := insideB_iff.1 hth
  obtain ⟨t1, t2, t3, t4⟩ := hth'
  have t5 : i + 1 ≤ X + W := by cases cs <;> simp at t3 <;> omega
  have t6 : j + 1 ≤ Y + H := by cases ct <;> simp at t4 <;> omega
  have hk : ((numC X Y W i j : Nat) : Int) = (j - Y) * W + (i - X) := by
    unfold numC
    have : 0 ≤ (j - Y) * W := Int.mul_nonneg (by omega) (by omega)
    omega
  generalize numC X Y W i j = k at *
  have hkn : k < n := cell_lt (X := X) (Y := Y) (x := i) (y := j) (by omega) t1 (by omega) (by omega) hk hnn
  have hk1 : cs = false → k + 1 < n := fun h => by
    rw [h] at t3; simp at t3
    exact cell_lt (X := X) (Y := Y) (x := i + 1) (y := j) (by omega) (by omega) (by omega) (by omega) (by omega) hnn
  have hkW : ct = false → k + W < n := fun h => by
    rw [h] at t4; simp at t4
    exact cell_lt (X := X) (Y := Y) (x := i) (y := j + 1) (by omega) t1 (by omega) (by omega) (by rw [show (j + 1 - Y) = (j - Y) + 1 by omega, Int.add_mul]; omega) hnn
  have hkW1 : cs = false → ct = false → k + W + 1 < n := fun h h' => by
    rw [h] at t3; simp at t3
    rw [h'] at t4; simp at t4
    exact cell_lt (X := X) (Y := Y) (x := i + 1) (y := j + 1) (by omega) (by omega) (by omega) (by omega) (by rw [show (j + 1 - Y) = (j - Y) + 1 by omega, Int.add_mul]; omega) hnn
  have IN := Lib.hid (fun w => inside_any i j (if cs then 1 else 2) (if ct then 1 else 2) X Y W H w (by omega) (by omega) (by omega) (by omega) (by cases cs <;> simp) (by cases cs <;> simp) (by cases ct <;> simp) (by cases ct <;> simp) (by omega) (by omega) (by omega) (by omega) (by omega) (by omega) (by omega) (by omega))
  rw [show insideB i j (if cs then 1 else 2) (if ct then 1 else 2) X Y W H = true from hth] at IN
  have IX := Lib.hid (fun w => index_any X Y W H k i j w (by omega) (by omega) (by omega) (by omega) (by omega) (by omega) (by omega) t1 (by omega) t2 (by omega) hk (by omega))
  have hs' : (FloatKind.f32.format.order s 0 != some .eq) = !cs := by rw [bne, hs]
  have ht' : (FloatKind.f32.format.order t 0 != some .eq) = !ct := by rw [bne, ht]
  have z : b < w.heap.size := World.block_lt_of_cell? w _ (hc 0 (by omega))
  have cc : ∀ m, m < n → w.cell? ⟨b, m, none⟩ = some (.float .f32 (v m)) := fun m hm => by have := hc m hm; rwa [Nat.zero_add] at this
  have hb20 : ∀ m, m < n → Bd 20 (v m) := fun m hm => hgt_bd (allB_iff.1 hh m hm)
  have CC := Lib.hid cc
  have HB := Lib.hid hb20
  have K1 := Lib.hid hk1
  have KW := Lib.hid hkW
  have KW1 := Lib.hid hkW1
  have x1 : (k : Int) < (cap : Int) := by omega
  have x2 : (k : Int) ≤ (n : Int) := by omega
  have x3 : (0 : Int) ≤ (k : Int) := by omega
  have x4 : (W : Int) ≤ 512 := by omega
  have x5 : (n : Int) ≤ 65536 := by omega
  have x6 : ¬ (cap = k) := by omega
  have HK := Lib.hid hkn
  clear h0 b1 b2 b3 b4 b5 b6 b7 b8 b9 hth hc hh hn hnn t1 t2 t3 t4 t5 t6 hk cc hb20 hk1 hkW hkW1 hn2 hkn
  cases cs <;> cases ct
  all_goals simp only [Bool.not_true, Bool.not_false] at hs' ht'
  all_goals simp only [Bool.false_eq_true, if_false, if_true] at IN
  all_goals
    go_enter Try.func136, Try.ntmps136
    go_wp2_with (first | (go_at_call 100; refine (cell_any _ _ _).mono ?_; rintro e w1 ⟨rfl, hb1⟩; have HA1 := Lib.hid (blkStay (b := w.heap.size) (o := fldO X Y W H (.slice (some ⟨b, 0, none⟩) n cap)) (by ((simp only [heap_alloc_get, heap_size_alloc, if_true]) <;> ((repeat' split) <;> first | rfl | omega))) hb1); have hB1 := Lib.hid (Below.trans (show Below w.heap.size w _ from (by repeat (first | exact Below.refl _ _ | refine Below.alloc ?_ (by first | omega | (simp; done) | (simp; omega)) _ | refine Below.setCell ?_ (by first | omega | (simp; done) | (simp; omega)) _ | refine Below.drew ?_))) (Below.mono hb1 (by first | omega | (simp; done) | (simp; omega)))); obtain ⟨cA, fA, zA⟩ := blkC HA1.out; clear hb1) | (go_at_call 23; refine (IN.out _).mono ?_; rintro e w2 ⟨rfl, hb2⟩; have hB2 := Lib.hid (hB1.out.trans (Below.trans ((Below.refl _ _).alloc hB1.out.size _) (hb2.mono (by rw [heap_size_alloc]; have := hB1.out.size; omega)))); have HA2 := Lib.hid (blkStay ((heap_alloc_old w1 _ zA).trans HA1.out) hb2); clear cA fA hb2; obtain ⟨cA2, fA2, zA2⟩ := blkC HA2.out) | (go_at_call 92; refine (IX.out _).mono ?_; rintro e w3 ⟨rfl, hw3⟩; have hb3 : Below w2.heap.size w2 w3 := (by rw [← hw3]; exact (Below.refl _ _).alloc (Nat.le_refl _) _); clear hw3; have hB3 := Lib.hid (hB2.out.trans (hb3.mono hB2.out.size)); have HA3 := Lib.hid (blkStay HA2.out hb3); clear cA2 fA2 hb3; obtain ⟨cA3, fA3, zA3⟩ := blkC HA3.out))
    have z3 : b < w3.heap.size := by have := hB3.out.size; omega
    have C3 := Lib.hid (fun m (hm : m < n) => ((hB3.out.cell (p := ⟨b, m, none⟩) z).trans (CC.out m hm)))
    refine (along_any b k (n - k) (cap - k) (v k) (v (k + 1)) s _ w3 (C3.out k HK.out) (by intro h; first | (cases h; done) | (have q := K1.out trivial; exact ⟨C3.out (k + 1) q, by omega, HB.out (k + 1) q⟩)) (by have := HK.out; omega) hs (HB.out k HK.out) bs).mono ?_
    rintro e w4 ⟨rfl, hb4⟩
    have hB4 := Lib.hid (hB3.out.trans (hb4.mono hB3.out.size))
    have HA4 := Lib.hid (blkStay HA3.out hb4)
    clear cA3 fA3 hb4
    obtain ⟨cA4, fA4, zA4⟩ := blkC HA4.out
  · have y1 : (k : Int) + (W : Int) ≤ (n : Int) := by have := KW.out trivial; omega
    have y2 : ((k : Int) + (W : Int)).toNat = k + W := by omega
    have y3 : ¬ (cap = k + W) := by have := KW.out trivial; omega
    have y4 : (k : Int) + (W : Int) < (cap : Int) := by have := KW.out trivial; omega
    go_wp2_with fail
    have z4 : b < w4.heap.size := by have := hB4.out.size; omega
    have C4 := Lib.hid (fun m (hm : m < n) => ((hB4.out.cell (p := ⟨b, m, none⟩) z).trans (CC.out m hm)))
    refine (along_any b (k + W) (n - (k + W)) (cap - (k + W)) (v (k + W)) (v (k + W + 1)) s _ w4 (C4.out (k + W) (KW.out trivial)) (by intro h; first | (cases h; done) | (have q := KW1.out trivial trivial; exact ⟨C4.out (k + W + 1) q, by omega, HB.out (k + W + 1) q⟩)) (by have := KW.out trivial; omega) hs (HB.out (k + W) (KW.out trivial)) bs).mono ?_
    rintro e w5 ⟨rfl, hb5⟩
    have hB5 := Lib.hid (hB4.out.trans (hb5.mono hB4.out.size))
    clear hb5 cA4 fA4
    have P1 : Bd 23 (alongW false s (v k) (v (k + 1))) := along_bd (HB.out k HK.out) (by intro h; first | (cases h; done) | exact HB.out (k + 1) (K1.out trivial)) bs
    have P2 : Bd 23 (alongW false s (v (k + W)) (v (k + W + 1))) := along_bd (HB.out (k + W) (KW.out trivial)) (by intro h; first | (cases h; done) | exact HB.out (k + W + 1) (KW1.out trivial trivial)) bs
    obtain ⟨d, q, r, e1, _, e2, _, e3, _, _, _⟩ := mix_parts (i := 23) (j := 1) (by omega) (by omega) P1 P2 bt
    have MX := Lib.hid (fun w => mix_any _ _ t d q r e1 e2 e3 w)
    have HE := Lib.hid (mix_eq e1 e2 e3)
    clear P1 P2 e1 e2 e3
    go_wp2_with (first | (go_at_call 113; refine (MX.out _).mono ?_; rintro e w' ⟨rfl, rfl⟩))
    go_ret2
    exact ⟨by rw [← HE.out]; rfl, hB5.out⟩
  · go_wp2
    go_ret2
    exact ⟨rfl, hB4.out⟩
  · have y1 : (k : Int) + (W : Int) ≤ (n : Int) := by have := KW.out trivial; omega
    have y2 : ((k : Int) + (W : Int)).toNat = k + W := by omega
    have y3 : ¬ (cap = k + W) := by have := KW.out trivial; omega
    have y4 : (k : Int) + (W : Int) < (cap : Int) := by have := KW.out trivial; omega
    go_wp2_with fail
    have z4 : b < w4.heap.size := by have := hB4.out.size; omega
    have C4 := Lib.hid (fun m (hm : m < n) => ((hB4.out.cell (p := ⟨b, m, none⟩) z).trans (CC.out m hm)))
    refine (along_any b (k + W) (n - (k + W)) (cap - (k + W)) (v (k + W)) (v (k + W + 1)) s _ w4 (C4.out (k + W) (KW.out trivial)) (by intro h; first | (cases h; done) | (have q := KW1.out trivial trivial; exact ⟨C4.out (k + W + 1) q, by omega, HB.out (k + W + 1) q⟩)) (by have := KW.out trivial; omega) hs (HB.out (k + W) (KW.out trivial)) bs).mono ?_
    rintro e w5 ⟨rfl, hb5⟩
    have hB5 := Lib.hid (hB4.out.trans (hb5.mono hB4.out.size))
    clear hb5 cA4 fA4
    have P1 : Bd 23 (alongW true s (v k) (v (k + 1))) := along_bd (HB.out k HK.out) (by intro h; first | (cases h; done) | exact HB.out (k + 1) (K1.out trivial)) bs
    have P2 : Bd 23 (alongW true s (v (k + W)) (v (k + W + 1))) := along_bd (HB.out (k + W) (KW.out trivial)) (by intro h; first | (cases h; done) | exact HB.out (k + W + 1) (KW1.out trivial trivial)) bs
    obtain ⟨d, q, r, e1, _, e2, _, e3, _, _, _⟩ := mix_parts (i := 23) (j := 1) (by omega) (by omega) P1 P2 bt
    have MX := Lib.hid (fun w => mix_any _ _ t d q r e1 e2 e3 w)
    have HE := Lib.hid (mix_eq e1 e2 e3)
    clear P1 P2 e1 e2 e3
    go_wp2_with (first | (go_at_call 113; refine (MX.out _).mono ?_; rintro e w' ⟨rfl, rfl⟩))
    go_ret2
    exact ⟨by rw [← HE.out]; rfl, hB5.out⟩
  · go_wp2
    go_ret2
    exact ⟨rfl, hB4.out⟩
end Go.Proofs.Ytaieokamfhpfbaa
