/- Lemmas and contracts for the proof that the last text of this claim holds. -/
import Derived.Test.YtjjafjdjdjonfaaLinJC

/- Contracts: Down. -/
namespace Go.Proofs.Ytjjafjdjdjonfaa
open Go.RowKit Fl
set_option linter.unusedVariables false

/-- The first of the four cells below the cell number j of a half; the value there. -/
def dnI (W j : Nat) : Nat := (2 * (j / W)) * (2 * W) + 2 * (j % W)
def dnF (v : Nat → Nat) (W j : Nat) : Nat := meanW (v (dnI W j)) (v (dnI W j + 1)) (v (dnI W j + 2 * W)) (v (dnI W j + 2 * W + 1))
def DnAt (v : Nat → Nat) (W n : Nat) : Prop := ∀ j, j < n → ∃ s1 s2 s3, MeanAt (v (dnI W j)) (v (dnI W j + 1)) (v (dnI W j + 2 * W)) (v (dnI W j + 2 * W + 1)) s1 s2 s3 (dnF v W j)
theorem enters_dn1 : Enters 49 := by intro args W; simp [callFunc, Try.func49, Try.f49]

theorem dn_parts {X Y x y : Int} {W H j : Nat} (hW : 1 ≤ W) (h1 : X ≤ x) (h2 : x < X + W) (h3 : Y ≤ y) (h4 : y < Y + H) (hj : (j : Int) = (y - Y) * W + (x - X)) :
    ((dnI W j : Nat) : Int) = (2 * y - 2 * Y) * ((2 * W : Nat) : Int) + (2 * x - 2 * X) ∧ dnI W j + 2 * W + 1 < (2 * H) * (2 * W) ∧ j < H * W := by
  obtain ⟨a, ha⟩ : ∃ a : Nat, x - X = a := ⟨(x - X).toNat, by omega⟩
  obtain ⟨b, hb⟩ : ∃ b : Nat, y - Y = b := ⟨(y - Y).toNat, by omega⟩
  rw [ha, hb] at hj
  have ej : j = b * W + a := by
    have : ((b * W + a : Nat) : Int) = (b : Int) * W + a := by simp
    omega
  have aW : a < W := by omega
  have bH : b < H := by omega
  have d1 : j / W = b := by rw [ej, Nat.mul_comm, Nat.mul_add_div (by omega), Nat.div_eq_of_lt aW, Nat.add_zero]
  have d2 : j % W = a := by rw [ej, Nat.mul_comm, Nat.mul_add_mod]; exact Nat.mod_eq_of_lt aW
  have e : dnI W j = 2 * b * (2 * W) + 2 * a := by unfold dnI; rw [d1, d2]
  have m1 : (2 * b + 1) * (2 * W) ≤ (2 * H - 1) * (2 * W) := Nat.mul_le_mul_right _ (by omega)
  have m2 : (2 * b + 1) * (2 * W) = 2 * b * (2 * W) + 2 * W := by rw [Nat.add_mul, Nat.one_mul]
  have m3 : (2 * H - 1) * (2 * W) + 2 * W = (2 * H) * (2 * W) := by
    rw [show 2 * H = (2 * H - 1) + 1 by omega, Nat.add_mul, Nat.one_mul]
    simp
  have m4 : b * W + W ≤ H * W := by
    have := Nat.mul_le_mul_right W (show b + 1 ≤ H by omega)
    rwa [Nat.add_mul, Nat.one_mul] at this
  refine ⟨?_, by omega, by omega⟩
  rw [e, show 2 * y - 2 * Y = ((2 * b : Nat) : Int) by omega, show 2 * x - 2 * X = ((2 * a : Nat) : Int) by omega]
  simp

set_option maxHeartbeats 4000000 in
theorem dn1_any (X Y RX RY : Int) (W H RW RH n b off cap : Nat) (v : Nat → Nat) (p : Nat) (w : World) (hRX : RX = 2 * X) (hRY : RY = 2 * Y) (hRW : RW = 2 * W) (hRH : RH = 2 * H)
    (hp : w.heap[p]? = some (fldO RX RY RW RH (.slice (some ⟨b, off, none⟩) n cap))) (hr : FlAt w b off n v) (hM : DnAt v W (H * W))
    (hX1 : -4194304 ≤ X) (hX2 : X ≤ 4194304) (hY1 : -4194304 ≤ Y) (hY2 : Y ≤ 4194304) (hW1 : 1 ≤ W) (hW2 : W ≤ 256) (hH1 : 1 ≤ H) (hH2 : H ≤ 256) (hnn : n = RH * RW) (hn : n ≤ 65536) :
    Clos2 49 #[.pointer (some ⟨p, 0, none⟩)] X Y W H (dnF v W) w := by
  intro x y j w2 h1 h2 h3 h4 h5 hb
  obtain ⟨q1, q2, q3⟩ := dn_parts hW1 h1 h2 h3 h4 h5
  rw [← hRW] at q1 q2
  rw [← hRH, ← hnn] at q2
  obtain ⟨s1, s2, s3, MA⟩ := hM j q3
  have hn1 : 1 ≤ n := by rw [hnn]; exact Nat.mul_pos (by omega) (by omega)
  have hz : b < w.heap.size := World.block_lt_of_cell? w _ (hr 0 hn1)
  have HFl := flAt_congr hr (hb.block _ hz)
  have K := blkStay hp hb
  obtain ⟨i, hi⟩ : ∃ i, dnI W j = i := ⟨_, rfl⟩
  obtain ⟨m, hm⟩ : ∃ m, dnF v W j = m := ⟨_, rfl⟩
  rw [hi] at q1 q2 MA
  rw [hm, ← hRW] at MA
  show Calls _ _ _ _ fun e w' => e = .returned (.float .f32 (dnF v W j)) ∧ _
  rw [hm]
  have IX := Lib.hid (fun w => index_any RX RY RW RH i (2 * x) (2 * y) w (by omega) (by omega) (by omega) (by omega) (by omega) (by omega) (by omega) (by omega) (by omega) (by omega) (by omega) (by rw [hRX, hRY]; exact q1) (by omega))
  have zb2 : b < w2.heap.size := Nat.lt_of_lt_of_le hz hb.size
  have SQ := Lib.hid (fun W' (hB : Below w2.heap.size w2 W') => squareAt_any RX RY RW RH n b off cap v i W' (flAt_congr HFl (hB.block b zb2)) hn (by omega) (by omega))
  have MM := Lib.hid (fun w => mean_any _ _ _ _ _ _ _ _ MA w)
  have HF := Lib.hid K
  have u1 : IntKind.i64.wrap (2 * x) = 2 * x := IntWalk.i64_in _ (by omega)
  have u2 : IntKind.i64.wrap (2 * y) = 2 * y := IntWalk.i64_in _ (by omega)
  obtain ⟨cF, fF, zF⟩ := blkC K
  clear hp hr hM hb K HFl MA q1 q2 q3 hi hm hnn h5 hRX hRY hRW hRH h1 h2 h3 h4 hX1 hX2 hY1 hY2 hW1 hW2 hH1 hH2 hn hn1
  go_enter Try.func49, Try.ntmps49
  go_wp2
  go_region_held3 (fun w' => (∀ o, w'.cell? ⟨p, o, none⟩ = #[.int .i64 RX, .int .i64 RY, .int .i64 RW, .int .i64 RH, .slice (some ⟨b, off, none⟩) n cap][o]?) ∧ Below w2.heap.size w2 w') (first | exact ⟨(blkC (blkStay HF.out hb9)).1, hb9⟩ | exact ⟨(blkC (blkStay HF.out (by repeat (first | exact Below.refl _ _ | refine Below.alloc ?_ (by first | omega | (simp; done) | (simp; omega)) _ | refine Below.setCell ?_ (by first | omega | (simp; done) | (simp; omega)) _ | refine Below.drew ?_)))).1, (by repeat (first | exact Below.refl _ _ | refine Below.alloc ?_ (by first | omega | (simp; done) | (simp; omega)) _ | refine Below.setCell ?_ (by first | omega | (simp; done) | (simp; omega)) _ | refine Below.drew ?_))⟩) (first
    | (go_at_call 47; (with_reducible refine Calls.mono (IX.out _) ?_); rintro e w' ⟨rfl, rfl⟩)
    | (go_at_call 50; (with_reducible refine Calls.mono (SQ.out _ ?_) ?_); exact (by repeat (first | exact Below.refl _ _ | refine Below.alloc ?_ (by first | omega | (simp; done) | (simp; omega)) _ | refine Below.setCell ?_ (by first | omega | (simp; done) | (simp; omega)) _ | refine Below.drew ?_)); rintro e w' ⟨rfl, hb8⟩; have hb9 : Below w2.heap.size w2 w' := Below.trans (by repeat (first | exact Below.refl _ _ | refine Below.alloc ?_ (by first | omega | (simp; done) | (simp; omega)) _ | refine Below.setCell ?_ (by first | omega | (simp; done) | (simp; omega)) _ | refine Below.drew ?_)) (Below.mono hb8 (by first | exact Nat.le_refl _ | (simp; done) | (simp; omega))); clear hb8)
    | (go_at_call 51; (with_reducible refine Calls.mono (MM.out _) ?_); rintro e w' ⟨rfl, hb8⟩; have hb7 := hb9.trans (hb8.mono hb9.size); clear hb9 hb8; have hb9 := hb7; clear hb7))
  rename_i hHeld
  go_wp2
  go_ret
  exact ⟨rfl, hHeld.2⟩

set_option maxHeartbeats 4000000 in
theorem down_ok (X Y RX RY : Int) (W H RW RH n b off cap : Nat) (v : Nat → Nat) (w : World) (hRX : RX = 2 * X) (hRY : RY = 2 * Y) (hRW : RW = 2 * W) (hRH : RH = 2 * H) (h0 : checkR RX RY RW RH = 0) (hr : FlAt w b off n v) (hE : SlE w (some ⟨b, off, none⟩) n cap 0) (hM : DnAt v W (H * W)) (hnn : n = RH * RW) :
    Calls Try.prog 28 #[fldV RX RY RW RH (.slice (some ⟨b, off, none⟩) n cap)] w (MadePost w X Y W H (H * W) (dnF v W)) := by
  have CK := Lib.hid (fun W' (hB : Below w.heap.size w W') => checkA_any RX RY RW RH (some ⟨b, off, none⟩) n cap 0 W' (hE.stay hB).1)
  rw [show fldChk RX RY RW RH n 0 = 0 from by unfold fldChk; rw [if_neg (by rw [h0]; simp), if_neg (by rw [hnn, Nat.mul_comm]; simp)]] at CK
  obtain ⟨b1, b2, b3, b4, b5, b6, b7, b8, b9⟩ := checkR_zero h0
  have par : bits .and .i64 (bits .or .i64 (bits .or .i64 (bits .or .i64 RX RY) RW) RH) 1 = 0 := (odd4 _ _ _ _).2 ⟨by omega, by omega, by omega, by omega⟩
  have t1 : RX.tdiv 2 = X := by rw [hRX]; exact Int.mul_tdiv_cancel_left _ (by decide)
  have t2 : RY.tdiv 2 = Y := by rw [hRY]; exact Int.mul_tdiv_cancel_left _ (by decide)
  have t3 : (RW : Int) / 2 = (W : Int) := by omega
  have t4 : (RH : Int) / 2 = (H : Int) := by omega
  have t5 : IntKind.i64.wrap X = X := IntWalk.i64_in _ (by omega)
  have t6 : IntKind.i64.wrap Y = Y := IntWalk.i64_in _ (by omega)
  have hhalf : checkR X Y W H = 0 := by
    have q : (W : Int) * H ≤ 65536 := by
      have q1 : ((RW : Int) * RH) = 4 * ((W : Int) * H) := by
        rw [hRW, hRH, Int.natCast_mul, Int.natCast_mul, Int.mul_assoc, ← Int.mul_assoc (W : Int), Int.mul_comm (W : Int) ((2 : Nat) : Int), Int.mul_assoc, ← Int.mul_assoc]
        rfl
      have q2 : 0 ≤ (W : Int) * H := Int.mul_nonneg (by omega) (by omega)
      omega
    unfold checkR
    rw [if_neg (by omega), if_neg (by omega), if_neg (by omega)]
  have hn : n ≤ 65536 := by
    have : ((RW : Int) * (RH : Int)) = (n : Int) := by rw [hnn, Nat.mul_comm]; simp
    omega
  have hn1 : 1 ≤ n := by rw [hnn]; exact Nat.mul_pos (by omega) (by omega)
  have zb : b < w.heap.size := World.block_lt_of_cell? w _ (hr 0 hn1)
  have MK := Lib.hid (fun (W' : World) (hB : Below w.heap.size w W') (hk : W'.heap[w.heap.size]? = some (fldO RX RY RW RH (.slice (some ⟨b, off, none⟩) n cap))) => make_ok X Y W H (H * W) 49 #[.pointer (some ⟨w.heap.size, 0, none⟩)] (dnF v W) W' enters_dn1
    (dn1_any X Y RX RY W H RW RH n b off cap v w.heap.size W' hRX hRY hRW hRH hk (flAt_congr hr (hB.block b zb)) hM (by omega) (by omega) (by omega) (by omega) (by omega) (by omega) (by omega) (by omega) hnn hn) hhalf rfl)
  have HN := Lib.hid (And.intro b1 (And.intro b2 (And.intro b3 b4)))
  clear hRX hRY hRW hRH h0 hr hE hM hnn hhalf hn hn1 zb b5
  generalize H * W = k at *
  generalize dnF v W = f at *
  go_enter Try.func28, Try.ntmps28
  go_wp2_with (go_at_call 25; refine (CK.out _ (by repeat (first | exact Below.refl _ _ | refine Below.alloc ?_ (by first | omega | (simp; done) | (simp; omega)) _ | refine Below.setCell ?_ (by first | omega | (simp; done) | (simp; omega)) _ | refine Below.drew ?_))).mono ?_; rintro e w1 ⟨rfl, hb1⟩; have HF1 := Lib.hid (blkStay (b := w.heap.size) (o := fldO RX RY RW RH (.slice (some ⟨b, off, none⟩) n cap)) (by (first | (rw [heap_alloc_get, if_pos rfl]; done) | ((simp only [heap_alloc_get, heap_size_alloc, if_true]) <;> ((repeat' split) <;> first | rfl | omega)))) hb1); have HR1 := Lib.hid (blkStay (b := w.heap.size + 1) (o := fldO 0 0 0 0 (.slice none 0 0)) (by (first | (rw [heap_alloc_get, if_pos rfl]; done) | ((simp only [heap_alloc_get, heap_size_alloc, if_true]) <;> ((repeat' split) <;> first | rfl | omega)))) hb1); have B1 := Lib.hid (Below.trans (show Below w.heap.size w _ from (by repeat (first | exact Below.refl _ _ | refine Below.alloc ?_ (by first | omega | (simp; done) | (simp; omega)) _ | refine Below.setCell ?_ (by first | omega | (simp; done) | (simp; omega)) _ | refine Below.drew ?_))) (hb1.mono (by first | omega | (simp; done) | (simp; omega)))); clear hb1; obtain ⟨cF, fF, zF⟩ := blkC HF1.out)
  have hb2 : Below w1.heap.size w1 (w1.alloc (regObj X Y W H)) := (Below.refl _ _).alloc (Nat.le_refl _) _
  refine (MK.out _ (B1.out.trans (hb2.mono B1.out.size)) (blkStay HF1.out hb2)).mono ?_
  intro e w4 hmade
  have zR := (blkC HR1.out).2.2
  rcases hmade with ⟨hall, b', cap', rfl, hb', hlt', hrow, hbel⟩ | ⟨hall, rfl, hbel⟩
  · have hS := Lib.hid (blkStay (blkStay HR1.out hb2) hbel)
    have hB : Below w.heap.size w w4 := (B1.out.trans (hb2.mono B1.out.size)).trans (hbel.mono (B1.out.trans (hb2.mono B1.out.size)).size)
    obtain ⟨cS, fS, zS⟩ := blkC hS.out
    have HB := Lib.hid hb'
    have HL := Lib.hid hlt'
    have HRW := Lib.hid hrow
    have HAL := Lib.hid hall
    have zw := B1.out.size
    clear hb' hlt' hrow hall cF fF zF
    go_wp2
    refine bodyPost_ret (v := .tuple #[fldV X Y W H (.slice (some ⟨b', 0, none⟩) k cap'), .int .i64 0]) (by simp [results, Try.results28, go_sem, cS]) rfl ?_
    have hb' := HB.out
    simp only [heap_size_alloc] at hb'
    exact .inl ⟨HAL.out, b', cap', rfl, by omega, by rw [set5_size]; exact HL.out, flAt_congr HRW.out (set5_heap w4 _ _ _ _ _ _ _ (by omega)), set5_below hB _ _ _ _ _ _ (by omega)⟩
  · have hS := Lib.hid (blkStay (blkStay HR1.out hb2) hbel)
    have hB : Below w.heap.size w w4 := (B1.out.trans (hb2.mono B1.out.size)).trans (hbel.mono (B1.out.trans (hb2.mono B1.out.size)).size)
    obtain ⟨cS, fS, zS⟩ := blkC hS.out
    have HAL := Lib.hid hall
    clear hall cF fF zF
    go_wp2
    refine bodyPost_ret (v := .tuple #[fldV 0 0 0 0 (.slice none 0 0), .int .i64 3]) (by simp [results, Try.results28, go_sem, cS]) rfl ?_
    exact .inr ⟨HAL.out, rfl, set5_below hB _ _ _ _ _ _ (by omega)⟩
end Go.Proofs.Ytjjafjdjdjonfaa

/- Contract: levels, which each law of chapter 9 asks first. -/
namespace Go.Proofs.Ytjjafjdjdjonfaa
open Go.RowKit Fl
set_option linter.unusedVariables false

/-- The four singles 1, 3, 2, 2. -/
def lev4 (i : Nat) : Nat := match i with | 0 => 1065353216 | 1 => 1077936128 | _ => 1073741824
theorem lev_mean : MeanAt 1065353216 1077936128 1073741824 1073741824 1082130432 1082130432 1090519040 1073741824 :=
  ⟨by kernel_rfl, by kernel_rfl, by kernel_rfl, by kernel_rfl⟩
theorem lev_dn : DnAt lev4 1 (1 * 1) := fun j hj => by
  obtain rfl : j = 0 := by omega
  have e : dnF lev4 1 0 = 1073741824 := lev_mean.w
  rw [e]
  exact ⟨_, _, _, lev_mean⟩
abbrev lev4O : Obj := .cells #[.float .f32 1065353216, .float .f32 1077936128, .float .f32 1073741824, .float .f32 1073741824] 50
theorem lev_flAt {w : World} {p : Nat} (h : w.heap[p]? = some lev4O) : FlAt w p 0 4 lev4 := fun i hi => by
  rw [(blkC h).1]
  match i, hi with
  | 0, _ => rfl
  | 1, _ => rfl
  | 2, _ => rfl
  | 3, _ => rfl
theorem lev_hgt : allB 4 (fun i => hgtB (lev4 i)) = true := by kernel_rfl
theorem lev_down {w : World} {p cap : Nat} (h : w.heap[p]? = some lev4O) :
    Calls Try.prog 28 #[fldV 0 0 2 2 (.slice (some ⟨p, 0, none⟩) 4 cap)] w fun e w' => ∃ b' cap', e = .returned (.tuple #[fldV 0 0 1 1 (.slice (some ⟨b', 0, none⟩) 1 cap'), .int .i64 0]) ∧ w'.cell? ⟨b', 0, none⟩ = some (.float .f32 1073741824) ∧ b' < w'.heap.size ∧ Below w.heap.size w w' := by
  have hE : SlE w (some ⟨p, 0, none⟩) 4 cap 0 := by
    have := slE_row (cap := cap) (by omega) (by omega) (lev_flAt h)
    rwa [fldE_zero.2 lev_hgt] at this
  have D := down_ok 0 0 0 0 1 1 2 2 4 p 0 cap lev4 w rfl rfl rfl rfl (by decide) (lev_flAt h) hE lev_dn rfl
  refine Calls.mono D ?_
  intro e w' hm
  have e0 : dnF lev4 1 0 = 1073741824 := lev_mean.w
  rcases hm with ⟨_, b', cap', rfl, _, hlt, hrow, hb⟩ | ⟨hall, _, _⟩
  · refine ⟨b', cap', rfl, ?_, hlt, hb⟩
    have := hrow 0 (by omega)
    rw [e0] at this
    exact this
  · exfalso
    have : allB (1 * 1) (fun i => hgtB (dnF lev4 1 i)) = true := allB_iff.2 fun i hi => by
      obtain rfl : i = 0 := by omega
      rw [e0]
      kernel_rfl
    rw [this] at hall
    cases hall

set_option maxHeartbeats 2000000 in
theorem levels_any (w : World) : Calls Try.prog 10 #[] w fun e w' => e = .returned (.bool true) ∧ Below w.heap.size w w' := by
  have DN := Lib.hid (fun (p cap : Nat) (w : World) (h : w.heap[p]? = some lev4O) => lev_down (cap := cap) h)
  have fe : (FloatKind.f32.format.order 1073741824 1073741824 == some .eq) = true := by kernel_rfl
  go_enter Try.func10, Try.ntmps10
  go_wp2_with (go_at_call 28; refine Calls.mono (DN.out _ _ _ (by (first | (rw [heap_alloc_get, if_pos rfl]; done) | ((simp only [heap_alloc_get, heap_size_alloc, if_true]) <;> ((repeat' split) <;> first | rfl | omega))))) ?_; rintro e w1 ⟨b', cap', rfl, hc, hz, hb1⟩; have B1 := Lib.hid (Below.trans (show Below w.heap.size w _ from (by repeat (first | exact Below.refl _ _ | refine Below.alloc ?_ (by first | omega | (simp; done) | (simp; omega)) _ | refine Below.setCell ?_ (by first | omega | (simp; done) | (simp; omega)) _ | refine Below.drew ?_))) (hb1.mono (by first | omega | (simp; done) | (simp; omega)))); clear hb1)
  go_ret
  exact ⟨rfl, B1.out.alloc B1.out.size _⟩
end Go.Proofs.Ytjjafjdjdjonfaa

/- LinesMatch, walked, by cases. -/
namespace Go.Proofs.Ytjjafjdjdjonfaa
open Go.RowKit Fl
set_option linter.unusedVariables false

/-- Whether a place is in a region of whatever four integers, as the reference asks it. -/
def hasW (X Y W H x y : Int) : Bool := (decide (X ≤ x) && decide (x < wrap64 (X + W))) && (decide (Y ≤ y) && decide (y < wrap64 (Y + H)))
set_option maxHeartbeats 1000000 in
theorem qHasW_any (X Y W H x y : Int) (w : World) :
    Calls Try.prog 14 #[reg X Y W H, .int .i64 x, .int .i64 y] w fun e w' => e = .returned (.bool (hasW X Y W H x y)) ∧ Below w.heap.size w w' := by
  have HB := Lib.hid (show hasW X Y W H x y = ((decide (X ≤ x) && decide (x < wrap64 (X + W))) && (decide (Y ≤ y) && decide (y < wrap64 (Y + H)))) from rfl)
  generalize hasW X Y W H x y = q at *
  go_enter Try.func14, Try.ntmps14
  go_wp2
  all_goals go_ret
  all_goals exact ⟨ret_bool (by rw [HB.out, Bool.eq_iff_iff]; simp; omega), (by repeat (first | exact Below.refl _ _ | refine Below.alloc ?_ (by first | omega | (simp; done) | (simp; omega)) _ | refine Below.setCell ?_ (by first | omega | (simp; done) | (simp; omega)) _ | refine Below.drew ?_))⟩

/-- What the law keeps: the boxes of its field and of its two places. -/
structure LnAt (w : World) (X Y W H : Int) (s : Value) (ax ay cx cy : Int) (wr : World) : Prop where
  f : wr.heap[w.heap.size]? = some (fldO X Y W H s)
  a : wr.heap[w.heap.size + 1]? = some (ptObj ax ay)
  c : wr.heap[w.heap.size + 1 + 1]? = some (ptObj cx cy)
  b : Below w.heap.size w wr
theorem LnAt.stay {w w1 w2 : World} {X Y W H : Int} {s : Value} {ax ay cx cy : Int} (h : LnAt w X Y W H s ax ay cx cy w1) (hb : Below w1.heap.size w1 w2) : LnAt w X Y W H s ax ay cx cy w2 :=
  ⟨blkStay h.f hb, blkStay h.a hb, blkStay h.c hb, h.b.trans (hb.mono h.b.size)⟩
theorem LnAt.new (w : World) (X Y W H : Int) (s : Value) (ax ay cx cy : Int) : LnAt w X Y W H s ax ay cx cy (((w.alloc (fldO X Y W H s)).alloc (ptObj ax ay)).alloc (ptObj cx cy)) :=
  ⟨by (first | (rw [heap_alloc_get, if_pos rfl]; done) | ((simp only [heap_alloc_get, heap_size_alloc, if_true]) <;> ((repeat' split) <;> first | rfl | omega))), by (first | (rw [heap_alloc_get, if_pos rfl]; done) | ((simp only [heap_alloc_get, heap_size_alloc, if_true]) <;> ((repeat' split) <;> first | rfl | omega))), by (first | (rw [heap_alloc_get, if_pos rfl]; done) | ((simp only [heap_alloc_get, heap_size_alloc, if_true]) <;> ((repeat' split) <;> first | rfl | omega))), (by repeat (first | exact Below.refl _ _ | refine Below.alloc ?_ (by first | omega | (simp; done) | (simp; omega)) _ | refine Below.setCell ?_ (by first | omega | (simp; done) | (simp; omega)) _ | refine Below.drew ?_))⟩

/-- The errors of the two places, as the law reckons them. -/
def want1 (bxa bya : Bool) : Int := firstE 0 (whenE (!bxa || !bya) 5)
def want2 (bxa bya bxc byc : Bool) : Int := firstE (want1 bxa bya) (whenE (!bxc || !byc) 5)
set_option maxRecDepth 100000 in
set_option maxHeartbeats 8000000 in
theorem linAt (X Y W H : Int) (a : Option Addr) (n cap : Nat) (ax ay cx cy : Int) (w : World) (bxa bya bxc byc : Bool) (pe fe : Int) (hc : Bool)
    (WXA : Hid (∀ w, Calls Try.prog 9 #[.int .i64 ax, .int .i64 (-4194304), .int .i64 4194304] w fun e w' => e = .returned (.bool bxa) ∧ w = w'))
    (WYA : Hid (∀ w, Calls Try.prog 9 #[.int .i64 ay, .int .i64 (-4194304), .int .i64 4194304] w fun e w' => e = .returned (.bool bya) ∧ w = w'))
    (WXC : Hid (∀ w, Calls Try.prog 9 #[.int .i64 cx, .int .i64 (-4194304), .int .i64 4194304] w fun e w' => e = .returned (.bool bxc) ∧ w = w'))
    (WYC : Hid (∀ w, Calls Try.prog 9 #[.int .i64 cy, .int .i64 (-4194304), .int .i64 4194304] w fun e w' => e = .returned (.bool byc) ∧ w = w'))
    (hw2 : want2 bxa bya bxc byc = 5)
    (LI : Hid (∀ w', Below w.heap.size w w' → Calls Try.prog 5 #[ptV ax ay, ptV cx cy] w' fun e w'' => e = .returned (.tuple #[.slice none 0 0, .int .i64 5]) ∧ Below w'.heap.size w' w''))
    (PR : Hid (∀ w', Below w.heap.size w w' → Calls Try.prog 6 #[fldV X Y W H (.slice a n cap), ptV ax ay, ptV cx cy] w' fun e w'' => e = .returned (.tuple #[.slice none 0 0, .int .i64 pe]) ∧ Below w'.heap.size w' w''))
    (FE : Hid (∀ w', Below w.heap.size w w' → Calls Try.prog 13 #[fldV X Y W H (.slice a n cap)] w' fun e w'' => e = .returned (.int .i64 fe) ∧ Below w'.heap.size w' w''))
    (HA : Hid (∀ w, Calls Try.prog 14 #[reg X Y W H, .int .i64 ax, .int .i64 ay] w fun e w' => e = .returned (.bool true) ∧ Below w.heap.size w w'))
    (HC : Hid (∀ w, Calls Try.prog 14 #[reg X Y W H, .int .i64 cx, .int .i64 cy] w fun e w' => e = .returned (.bool hc) ∧ Below w.heap.size w w'))
    (FI2 : Hid (∀ p w, w.heap[p]? = some (.cells #[.int .i64 fe, .int .i64 (whenE (!hc) 5)] 30) → Calls Try.prog 7 #[.slice (some ⟨p, 0, none⟩) 2 2] w fun e w' => e = .returned (.int .i64 pe) ∧ w = w')) (hpe : (pe != 0) = true) :
    Calls Try.prog 3 #[fldV X Y W H (.slice a n cap), ptV ax ay, ptV cx cy] w fun e w' => e = .returned (.bool true) ∧ Below w.heap.size w w' := by
  have A0 := Lib.hid (LnAt.new w X Y W H (.slice a n cap) ax ay cx cy)
  have WH := Lib.hid (fun c w => when_any c 5 w)
  have FI := Lib.hid (fun x y p w h => first2_any x y p w h)
  have E1 := Lib.hid (show want1 bxa bya = firstE 0 (whenE (!bxa || !bya) 5) from rfl)
  have E2 := Lib.hid (show want2 bxa bya bxc byc = firstE (want1 bxa bya) (whenE (!bxc || !byc) 5) from rfl)
  rw [hw2] at E2
  clear hw2
  generalize want1 bxa bya = p1 at *
  go_enter Try.func3, Try.ntmps3
  go_wp2_with (first | (go_at_call 5; refine (LI.out _ (A0.out.b)).mono ?_; rintro e w1 ⟨rfl, hb1⟩; have A1 := Lib.hid (A0.out.stay hb1); clear hb1; obtain ⟨cF, fF, zF⟩ := blkC A1.out.f; obtain ⟨cA, fA, zA⟩ := blkC A1.out.a; obtain ⟨cC, fC, zC⟩ := blkC A1.out.c) | (go_at_call 6; refine (PR.out _ (A1.out.b)).mono ?_; rintro e w2 ⟨rfl, hb2⟩; have A2 := Lib.hid (A1.out.stay hb2); clear hb2; clear cF fF zF cA fA zA cC fC zC; obtain ⟨cF, fF, zF⟩ := blkC A2.out.f; obtain ⟨cA, fA, zA⟩ := blkC A2.out.a; obtain ⟨cC, fC, zC⟩ := blkC A2.out.c))
  have hl := heap_alloc_new w2 (.cells #[.int .i64 ax, .int .i64 ay, .int .i64 cx, .int .i64 cy] 28)
  have hbl : Below w2.heap.size w2 (w2.alloc (.cells #[.int .i64 ax, .int .i64 ay, .int .i64 cx, .int .i64 cy] 28)) := (Below.refl _ _).alloc (Nat.le_refl _) _
  have A3 := Lib.hid (A2.out.stay hbl)
  have HL3 := Lib.hid hl
  have BL3 := Lib.hid hbl
  obtain ⟨lp, hlp⟩ : ∃ lp, lp = w2.heap.size := ⟨_, rfl⟩
  rw [← hlp] at HL3 ⊢
  clear hl hbl hlp cF fF zF cA fA zA cC fC zC
  generalize w2.alloc (.cells #[.int .i64 ax, .int .i64 ay, .int .i64 cx, .int .i64 cy] 28) = w3 at *
  go_loopw [11, 31] (fun s11 s31 wr => ((s31 = .int .i64 0 ∧ s11 = .int .i64 0) ∨ (s31 = .int .i64 1 ∧ s11 = .int .i64 p1) ∨ (s31 = .int .i64 2 ∧ s11 = .int .i64 5)) ∧ Below w3.heap.size w3 wr) (fun _ s31 _ => 3 - (intOf s31).toNat)
  case atStart => exact ⟨.inl ⟨rfl, rfl⟩, Below.refl _ _⟩
  case round =>
    obtain ⟨hs, hb⟩ := hrel
    have HB := Lib.hid hb
    have AR := Lib.hid (A3.out.stay hb)
    obtain ⟨cL, fL, zL⟩ := blkC (blkStay HL3.out hb)
    clear hb
    rcases hs with ⟨rfl, rfl⟩ | ⟨rfl, rfl⟩ | ⟨rfl, rfl⟩
    · cases bxa
      · go_wp2_with (first | (go_at_call 9; (with_reducible refine (WXA.out _).mono ?_); rintro e w' ⟨rfl, rfl⟩) | (go_at_call 8; refine (WH.out _ _).mono ?_; rintro e w' ⟨rfl, rfl⟩) | (go_at_call 7; refine (FI.out 0 (whenE true 5) _ _ (by (first | (rw [heap_alloc_get, if_pos rfl]; done) | ((simp only [heap_alloc_get, heap_size_alloc, if_true]) <;> ((repeat' split) <;> first | rfl | omega))))).mono ?_; rintro e w' ⟨rfl, rfl⟩))
        go_roundw
        case rel => exact ⟨.inr (.inl ⟨rfl, congrArg (Value.int .i64) E1.out.symm⟩), HB.out.trans (Below.mono (show Below wr.heap.size wr _ from (by repeat (first | exact Below.refl _ _ | refine Below.alloc ?_ (by first | omega | (simp; done) | (simp; omega)) _ | refine Below.setCell ?_ (by first | omega | (simp; done) | (simp; omega)) _ | refine Below.drew ?_))) HB.out.size)⟩
        case measure => simp [intOf]
      · go_wp2_with (first | (go_at_call 9; (with_reducible refine (WXA.out _).mono ?_); rintro e w' ⟨rfl, rfl⟩) | (go_at_call 9; (with_reducible refine (WYA.out _).mono ?_); rintro e w' ⟨rfl, rfl⟩) | (go_at_call 8; refine (WH.out _ _).mono ?_; rintro e w' ⟨rfl, rfl⟩) | (go_at_call 7; refine (FI.out 0 (whenE (!bya) 5) _ _ (by (first | (rw [heap_alloc_get, if_pos rfl]; done) | ((simp only [heap_alloc_get, heap_size_alloc, if_true]) <;> ((repeat' split) <;> first | rfl | omega))))).mono ?_; rintro e w' ⟨rfl, rfl⟩))
        go_roundw
        case rel => exact ⟨.inr (.inl ⟨rfl, congrArg (Value.int .i64) E1.out.symm⟩), HB.out.trans (Below.mono (show Below wr.heap.size wr _ from (by repeat (first | exact Below.refl _ _ | refine Below.alloc ?_ (by first | omega | (simp; done) | (simp; omega)) _ | refine Below.setCell ?_ (by first | omega | (simp; done) | (simp; omega)) _ | refine Below.drew ?_))) HB.out.size)⟩
        case measure => simp [intOf]
    · cases bxc
      · go_wp2_with (first | (go_at_call 9; (with_reducible refine (WXC.out _).mono ?_); rintro e w' ⟨rfl, rfl⟩) | (go_at_call 8; refine (WH.out _ _).mono ?_; rintro e w' ⟨rfl, rfl⟩) | (go_at_call 7; refine (FI.out p1 (whenE true 5) _ _ (by (first | (rw [heap_alloc_get, if_pos rfl]; done) | ((simp only [heap_alloc_get, heap_size_alloc, if_true]) <;> ((repeat' split) <;> first | rfl | omega))))).mono ?_; rintro e w' ⟨rfl, rfl⟩))
        go_roundw
        case rel => exact ⟨.inr (.inr ⟨rfl, congrArg (Value.int .i64) E2.out.symm⟩), HB.out.trans (Below.mono (show Below wr.heap.size wr _ from (by repeat (first | exact Below.refl _ _ | refine Below.alloc ?_ (by first | omega | (simp; done) | (simp; omega)) _ | refine Below.setCell ?_ (by first | omega | (simp; done) | (simp; omega)) _ | refine Below.drew ?_))) HB.out.size)⟩
        case measure => simp [intOf]
      · go_wp2_with (first | (go_at_call 9; (with_reducible refine (WXC.out _).mono ?_); rintro e w' ⟨rfl, rfl⟩) | (go_at_call 9; (with_reducible refine (WYC.out _).mono ?_); rintro e w' ⟨rfl, rfl⟩) | (go_at_call 8; refine (WH.out _ _).mono ?_; rintro e w' ⟨rfl, rfl⟩) | (go_at_call 7; refine (FI.out p1 (whenE (!byc) 5) _ _ (by (first | (rw [heap_alloc_get, if_pos rfl]; done) | ((simp only [heap_alloc_get, heap_size_alloc, if_true]) <;> ((repeat' split) <;> first | rfl | omega))))).mono ?_; rintro e w' ⟨rfl, rfl⟩))
        go_roundw
        case rel => exact ⟨.inr (.inr ⟨rfl, congrArg (Value.int .i64) E2.out.symm⟩), HB.out.trans (Below.mono (show Below wr.heap.size wr _ from (by repeat (first | exact Below.refl _ _ | refine Below.alloc ?_ (by first | omega | (simp; done) | (simp; omega)) _ | refine Below.setCell ?_ (by first | omega | (simp; done) | (simp; omega)) _ | refine Below.drew ?_))) HB.out.size)⟩
        case measure => simp [intOf]
    · obtain ⟨cF, fF, zF⟩ := blkC AR.out.f
      obtain ⟨cA, fA, zA⟩ := blkC AR.out.a
      obtain ⟨cC, fC, zC⟩ := blkC AR.out.c
      clear cL fL zL
      go_wp2_with (go_at_call 10; refine (levels_any _).mono ?_; rintro e w4 ⟨rfl, hb4⟩; have A4 := Lib.hid (AR.out.stay hb4); clear hb4; clear cF fF zF cA fA zA cC fC zC; obtain ⟨cF, fF, zF⟩ := blkC A4.out.f; obtain ⟨cA, fA, zA⟩ := blkC A4.out.a; obtain ⟨cC, fC, zC⟩ := blkC A4.out.c)
      refine wp_region_held_drew (S := (fun w' => (∀ o, w'.cell? ⟨w.heap.size, o, none⟩ = #[.int .i64 X, .int .i64 Y, .int .i64 W, .int .i64 H, .slice a n cap][o]?) ∧ (∀ o, w'.cell? ⟨w.heap.size + 1, o, none⟩ = #[.int .i64 ax, .int .i64 ay][o]?) ∧ (∀ o, w'.cell? ⟨w.heap.size + 1 + 1, o, none⟩ = #[.int .i64 cx, .int .i64 cy][o]?) ∧ Below w4.heap.size w4 w')) (by kernel_rfl) ?_ (fun hHeld => ?_)
      · try dsimp only
        exact (fun K => ⟨(blkC (A4.out.stay K).f).1, (blkC (A4.out.stay K).a).1, (blkC (A4.out.stay K).c).1, K⟩) (by repeat (first | exact hb9 | exact Below.refl _ _ | refine Below.drew ?_ | refine Below.alloc ?_ (by first | exact Nat.le_refl _ | exact hb9.size | (simp; done) | (have := hb9.size; simp; omega) | (simp; omega)) _))
      refine wpAnyH_take (i := 0) (v := ?hv1) rfl (by kernel_rfl) (by kernel_rfl) (by kernel_rfl) (fun _ _ _ h => h) (Or.inl ⟨by rfl, ?hy1⟩) (by assumption) ?hr1; (case hy1 => ((intro w hSw; (try dsimp only at hSw); go_simp) <;> with_reducible rfl)); try simp only [Act.put, List.setIfInBounds_toArray]
      refine wpAnyH_take (i := 2) (v := ?hv3) rfl (by kernel_rfl) (by kernel_rfl) (by kernel_rfl) (fun _ _ _ h => h) (Or.inl ⟨by rfl, ?hy3⟩) (by assumption) ?hr3; (case hy3 => ((intro w hSw; (try dsimp only at hSw); go_simp) <;> with_reducible rfl)); try simp only [Act.put]
      refine wpAnyH_take (i := 3) (v := ?hv4) rfl (by kernel_rfl) (by kernel_rfl) (by kernel_rfl) (fun _ _ _ h => h) (Or.inl ⟨by rfl, ?hy4⟩) (by assumption) ?hr4; (case hy4 => ((intro w hSw; (try dsimp only at hSw); go_simp) <;> with_reducible rfl)); try simp only [Act.put]
      refine wpAnyH_take (i := 4) (v := ?hv5) rfl (by kernel_rfl) (by kernel_rfl) (by kernel_rfl) (fun _ _ _ h => h) (Or.inl ⟨by rfl, ?hy5⟩) (by assumption) ?hr5; (case hy5 => ((intro w hSw; (try dsimp only at hSw); go_simp) <;> with_reducible rfl)); try simp only [Act.put]
      refine wpAnyH_take (i := 5) (v := ?hv6) rfl (by kernel_rfl) (by kernel_rfl) (by kernel_rfl) (fun _ _ _ h => h) (Or.inl ⟨by rfl, ?hy6⟩) (by assumption) ?hr6; (case hy6 => ((intro w hSw; (try dsimp only at hSw); go_simp) <;> with_reducible rfl)); try simp only [Act.put]
      refine wpAnyH_take (i := 6) (v := ?hv7) rfl (by kernel_rfl) (by kernel_rfl) (by kernel_rfl) (fun _ _ _ h => h) (Or.inl ⟨by rfl, ?hy7⟩) (by assumption) ?hr7; (case hy7 => ((intro w hSw; (try dsimp only at hSw); go_simp) <;> with_reducible rfl)); try simp only [Act.put]
      refine wpAnyH_take (i := 7) (v := ?hv8) rfl (by kernel_rfl) (by kernel_rfl) (by kernel_rfl) (fun _ _ _ h => h) (Or.inl ⟨by rfl, ?hy8⟩) (by assumption) ?hr8; (case hy8 => ((intro w hSw; (try dsimp only at hSw); go_simp) <;> with_reducible rfl)); try simp only [Act.put]
      refine wpAnyH_ready (rs := [1]) (by kernel_rfl) (by simp) ?_; refine AllReadyH.cons rfl (fun K hK => ?_) AllReadyH.nil; go_simp
      (with_reducible refine Calls.mono (FE.out _ (A4.out.b.trans (Below.mono (by repeat (first | exact hb9 | exact Below.refl _ _ | refine Below.drew ?_ | refine Below.alloc ?_ (by first | exact Nat.le_refl _ | exact hb9.size | (simp; done) | (have := hb9.size; simp; omega) | (simp; omega)) _)) A4.out.b.size))) ?_); rintro e w1r ⟨rfl, hb8⟩
      have hb7 : Below w4.heap.size w4 w1r := Below.trans (by repeat (first | exact hb9 | exact Below.refl _ _ | refine Below.drew ?_ | refine Below.alloc ?_ (by first | exact Nat.le_refl _ | exact hb9.size | (simp; done) | (have := hb9.size; simp; omega) | (simp; omega)) _)) (Below.mono hb8 (by first | exact Nat.le_refl _ | exact hb9.size | (simp; done) | (have := hb9.size; simp; omega) | (simp; omega)))
      clear hb8; (try clear hb9); have hb9 := hb7; clear hb7
      try go_wp2_with fail
      refine hK.out _ _ ?_ (fun hHeld => ?_)
      · try dsimp only
        exact (fun K => ⟨(blkC (A4.out.stay K).f).1, (blkC (A4.out.stay K).a).1, (blkC (A4.out.stay K).c).1, K⟩) (by repeat (first | exact hb9 | exact Below.refl _ _ | refine Below.drew ?_ | refine Below.alloc ?_ (by first | exact Nat.le_refl _ | exact hb9.size | (simp; done) | (have := hb9.size; simp; omega) | (simp; omega)) _))
      clear hK K; try simp only [Act.put, List.setIfInBounds_toArray, List.set_cons_zero, List.set_cons_succ]
      refine wpAnyH_ready (rs := [8]) (by kernel_rfl) (by simp) ?_; refine AllReadyH.cons rfl (fun K hK => ?_) AllReadyH.nil; go_simp
      (with_reducible refine Calls.mono (HA.out _) ?_); rintro e w8r ⟨rfl, hb8⟩
      have hb7 : Below w4.heap.size w4 w8r := Below.trans (by repeat (first | exact hb9 | exact Below.refl _ _ | refine Below.drew ?_ | refine Below.alloc ?_ (by first | exact Nat.le_refl _ | exact hb9.size | (simp; done) | (have := hb9.size; simp; omega) | (simp; omega)) _)) (Below.mono hb8 (by first | exact Nat.le_refl _ | exact hb9.size | (simp; done) | (have := hb9.size; simp; omega) | (simp; omega)))
      clear hb8; (try clear hb9); have hb9 := hb7; clear hb7
      try go_wp2_with fail
      refine hK.out _ _ ?_ (fun hHeld => ?_)
      · try dsimp only
        exact (fun K => ⟨(blkC (A4.out.stay K).f).1, (blkC (A4.out.stay K).a).1, (blkC (A4.out.stay K).c).1, K⟩) (by repeat (first | exact hb9 | exact Below.refl _ _ | refine Below.drew ?_ | refine Below.alloc ?_ (by first | exact Nat.le_refl _ | exact hb9.size | (simp; done) | (have := hb9.size; simp; omega) | (simp; omega)) _))
      clear hK K; try simp only [Act.put, List.setIfInBounds_toArray, List.set_cons_zero, List.set_cons_succ]
      refine wpAnyH_take (i := 9) (v := ?hv9) rfl (by kernel_rfl) (by kernel_rfl) (by kernel_rfl) (fun _ _ _ h => h) (Or.inl ⟨by rfl, ?hy9⟩) (by assumption) ?hr9; (case hy9 => ((intro w hSw; (try dsimp only at hSw); go_simp) <;> with_reducible rfl)); try simp only [Act.put]
      refine wpAnyH_take (i := 10) (v := ?hv10) rfl (by kernel_rfl) (by kernel_rfl) (by kernel_rfl) (fun _ _ _ h => h) (Or.inl ⟨by rfl, ?hy10⟩) (by assumption) ?hr10; (case hy10 => ((intro w hSw; (try dsimp only at hSw); go_simp) <;> with_reducible rfl)); try simp only [Act.put]
      refine wpAnyH_take (i := 11) (v := ?hv23) rfl (by kernel_rfl) (by kernel_rfl) (by kernel_rfl) (fun _ _ _ h => h) (Or.inl ⟨by kernel_rfl, ?hy23⟩) (by assumption) ?hr23; (case hy23 => ((intro w hSw; (try dsimp only at hSw); go_simp) <;> with_reducible rfl)); try simp only [Act.put]
      refine wpAnyH_take (i := 12) (v := ?hv24) rfl (by kernel_rfl) (by kernel_rfl) (by kernel_rfl) (fun _ _ _ h => h) (Or.inl ⟨by kernel_rfl, ?hy24⟩) (by assumption) ?hr24; (case hy24 => ((intro w hSw; (try dsimp only at hSw); go_simp) <;> with_reducible rfl)); try simp only [Act.put]
      refine wpAnyH_take (i := 13) (v := ?hv25) rfl (by kernel_rfl) (by kernel_rfl) (by kernel_rfl) (fun _ _ _ h => h) (Or.inl ⟨by kernel_rfl, ?hy25⟩) (by assumption) ?hr25; (case hy25 => ((intro w hSw; (try dsimp only at hSw); go_simp) <;> with_reducible rfl)); try simp only [Act.put]
      refine wpAnyH_take (i := 14) (v := ?hv26) rfl (by kernel_rfl) (by kernel_rfl) (by kernel_rfl) (fun _ _ _ h => h) (Or.inl ⟨by kernel_rfl, ?hy26⟩) (by assumption) ?hr26; (case hy26 => ((intro w hSw; (try dsimp only at hSw); go_simp) <;> with_reducible rfl)); try simp only [Act.put]
      refine wpAnyH_take (i := 15) (v := ?hv27) rfl (by kernel_rfl) (by kernel_rfl) (by kernel_rfl) (fun _ _ _ h => h) (Or.inl ⟨by kernel_rfl, ?hy27⟩) (by assumption) ?hr27; (case hy27 => ((intro w hSw; (try dsimp only at hSw); go_simp) <;> with_reducible rfl)); try simp only [Act.put]
      refine wpAnyH_take (i := 16) (v := ?hv28) rfl (by kernel_rfl) (by kernel_rfl) (by kernel_rfl) (fun _ _ _ h => h) (Or.inl ⟨by kernel_rfl, ?hy28⟩) (by assumption) ?hr28; (case hy28 => ((intro w hSw; (try dsimp only at hSw); go_simp) <;> with_reducible rfl)); try simp only [Act.put]
      refine wpAnyH_ready (rs := [17]) (by kernel_rfl) (by simp) ?_; refine AllReadyH.cons rfl (fun K hK => ?_) AllReadyH.nil; go_simp
      (with_reducible refine Calls.mono (HC.out _) ?_); rintro e w17r ⟨rfl, hb8⟩
      have hb7 : Below w4.heap.size w4 w17r := Below.trans (by repeat (first | exact hb9 | exact Below.refl _ _ | refine Below.drew ?_ | refine Below.alloc ?_ (by first | exact Nat.le_refl _ | exact hb9.size | (simp; done) | (have := hb9.size; simp; omega) | (simp; omega)) _)) (Below.mono hb8 (by first | exact Nat.le_refl _ | exact hb9.size | (simp; done) | (have := hb9.size; simp; omega) | (simp; omega)))
      clear hb8; (try clear hb9); have hb9 := hb7; clear hb7
      try go_wp2_with fail
      refine hK.out _ _ ?_ (fun hHeld => ?_)
      · try dsimp only
        exact (fun K => ⟨(blkC (A4.out.stay K).f).1, (blkC (A4.out.stay K).a).1, (blkC (A4.out.stay K).c).1, K⟩) (by repeat (first | exact hb9 | exact Below.refl _ _ | refine Below.drew ?_ | refine Below.alloc ?_ (by first | exact Nat.le_refl _ | exact hb9.size | (simp; done) | (have := hb9.size; simp; omega) | (simp; omega)) _))
      clear hK K; try simp only [Act.put, List.setIfInBounds_toArray, List.set_cons_zero, List.set_cons_succ]
      refine wpAnyH_take (i := 18) (v := ?hv29) rfl (by kernel_rfl) (by kernel_rfl) (by kernel_rfl) (fun _ _ _ h => h) (Or.inl ⟨by kernel_rfl, ?hy29⟩) (by assumption) ?hr29; (case hy29 => ((intro w hSw; (try dsimp only at hSw); go_simp) <;> with_reducible rfl)); try simp only [Act.put]
      refine wpAnyH_take (i := 19) (v := ?hv11) rfl (by kernel_rfl) (by kernel_rfl) (by kernel_rfl) (fun _ _ _ h => h) (Or.inl ⟨by rfl, ?hy11⟩) (by assumption) ?hr11; (case hy11 => ((intro w hSw; (try dsimp only at hSw); go_simp) <;> with_reducible rfl)); try simp only [Act.put]
      refine wpAnyH_ready (rs := [20]) (by kernel_rfl) (by simp) ?_; refine AllReadyH.cons rfl (fun K hK => ?_) AllReadyH.nil; go_simp
      (with_reducible refine Calls.mono (WH.out (!hc) _) ?_); rintro e w' ⟨rfl, rfl⟩
      try go_wp2_with fail
      refine hK.out _ _ ?_ (fun hHeld => ?_)
      · try dsimp only
        exact (fun K => ⟨(blkC (A4.out.stay K).f).1, (blkC (A4.out.stay K).a).1, (blkC (A4.out.stay K).c).1, K⟩) (by repeat (first | exact hb9 | exact Below.refl _ _ | refine Below.drew ?_ | refine Below.alloc ?_ (by first | exact Nat.le_refl _ | exact hb9.size | (simp; done) | (have := hb9.size; simp; omega) | (simp; omega)) _))
      clear hK K; try simp only [Act.put, List.setIfInBounds_toArray, List.set_cons_zero, List.set_cons_succ]
      refine wpAnyH_ready (rs := [21]) (by kernel_rfl) (by simp) ?_; refine AllReadyH.cons rfl (fun K hK => ?_) AllReadyH.nil; go_simp
      refine hK.out _ _ ?_ (fun hHeld => ?_)
      · try dsimp only
        exact (fun K => ⟨(blkC (A4.out.stay K).f).1, (blkC (A4.out.stay K).a).1, (blkC (A4.out.stay K).c).1, K⟩) (by repeat (first | exact hb9 | exact Below.refl _ _ | refine Below.drew ?_ | refine Below.alloc ?_ (by first | exact Nat.le_refl _ | exact hb9.size | (simp; done) | (have := hb9.size; simp; omega) | (simp; omega)) _))
      clear hK K; try simp only [Act.put, List.setIfInBounds_toArray, List.set_cons_zero, List.set_cons_succ]
      refine wpAnyH_ready (rs := [22]) (by kernel_rfl) (by simp) ?_; refine AllReadyH.cons rfl (fun K hK => ?_) AllReadyH.nil; go_simp
      (with_reducible refine Calls.mono (FI2.out _ _ (by first | ((simp only [heap_alloc_get, if_true]) <;> ((repeat' split) <;> first | rfl | omega)) | ((simp only [heap_alloc_get, heap_size_alloc, if_true]) <;> ((repeat' split) <;> first | rfl | omega)))) ?_); rintro e w' ⟨rfl, rfl⟩
      try go_wp2_with fail
      refine hK.out _ _ ?_ (fun hHeld => ?_)
      · try dsimp only
        exact (fun K => ⟨(blkC (A4.out.stay K).f).1, (blkC (A4.out.stay K).a).1, (blkC (A4.out.stay K).c).1, K⟩) (by repeat (first | exact hb9 | exact Below.refl _ _ | refine Below.drew ?_ | refine Below.alloc ?_ (by first | exact Nat.le_refl _ | exact hb9.size | (simp; done) | (have := hb9.size; simp; omega) | (simp; omega)) _))
      clear hK K; try simp only [Act.put, List.setIfInBounds_toArray, List.set_cons_zero, List.set_cons_succ]
      refine wpAnyH_take (i := 23) (v := ?hv12) rfl (by kernel_rfl) (by kernel_rfl) (by kernel_rfl) (fun _ _ _ h => h) (Or.inl ⟨by rfl, ?hy12⟩) (by assumption) ?hr12; (case hy12 => ((intro w hSw; (try dsimp only at hSw); go_simp) <;> with_reducible rfl)); try simp only [Act.put]
      refine wpAnyH_done (by kernel_rfl) ?_ _
      have AH := Lib.hid (A4.out.stay hHeld.2.2.2)
      clear hHeld
      go_wp2
      go_ret
      exact ⟨rfl, AH.out.b⟩

set_option maxRecDepth 100000 in
set_option maxHeartbeats 8000000 in
theorem linAf (X Y W H : Int) (a : Option Addr) (n cap : Nat) (ax ay cx cy : Int) (w : World) (bxa bya bxc byc : Bool) (pe fe : Int) (hc : Bool)
    (WXA : Hid (∀ w, Calls Try.prog 9 #[.int .i64 ax, .int .i64 (-4194304), .int .i64 4194304] w fun e w' => e = .returned (.bool bxa) ∧ w = w'))
    (WYA : Hid (∀ w, Calls Try.prog 9 #[.int .i64 ay, .int .i64 (-4194304), .int .i64 4194304] w fun e w' => e = .returned (.bool bya) ∧ w = w'))
    (WXC : Hid (∀ w, Calls Try.prog 9 #[.int .i64 cx, .int .i64 (-4194304), .int .i64 4194304] w fun e w' => e = .returned (.bool bxc) ∧ w = w'))
    (WYC : Hid (∀ w, Calls Try.prog 9 #[.int .i64 cy, .int .i64 (-4194304), .int .i64 4194304] w fun e w' => e = .returned (.bool byc) ∧ w = w'))
    (hw2 : want2 bxa bya bxc byc = 5)
    (LI : Hid (∀ w', Below w.heap.size w w' → Calls Try.prog 5 #[ptV ax ay, ptV cx cy] w' fun e w'' => e = .returned (.tuple #[.slice none 0 0, .int .i64 5]) ∧ Below w'.heap.size w' w''))
    (PR : Hid (∀ w', Below w.heap.size w w' → Calls Try.prog 6 #[fldV X Y W H (.slice a n cap), ptV ax ay, ptV cx cy] w' fun e w'' => e = .returned (.tuple #[.slice none 0 0, .int .i64 pe]) ∧ Below w'.heap.size w' w''))
    (FE : Hid (∀ w', Below w.heap.size w w' → Calls Try.prog 13 #[fldV X Y W H (.slice a n cap)] w' fun e w'' => e = .returned (.int .i64 fe) ∧ Below w'.heap.size w' w''))
    (HA : Hid (∀ w, Calls Try.prog 14 #[reg X Y W H, .int .i64 ax, .int .i64 ay] w fun e w' => e = .returned (.bool false) ∧ Below w.heap.size w w'))
    (FI2 : Hid (∀ p w, w.heap[p]? = some (.cells #[.int .i64 fe, .int .i64 (whenE true 5)] 30) → Calls Try.prog 7 #[.slice (some ⟨p, 0, none⟩) 2 2] w fun e w' => e = .returned (.int .i64 pe) ∧ w = w')) (hpe : (pe != 0) = true) :
    Calls Try.prog 3 #[fldV X Y W H (.slice a n cap), ptV ax ay, ptV cx cy] w fun e w' => e = .returned (.bool true) ∧ Below w.heap.size w w' := by
  have A0 := Lib.hid (LnAt.new w X Y W H (.slice a n cap) ax ay cx cy)
  have WH := Lib.hid (fun c w => when_any c 5 w)
  have FI := Lib.hid (fun x y p w h => first2_any x y p w h)
  have E1 := Lib.hid (show want1 bxa bya = firstE 0 (whenE (!bxa || !bya) 5) from rfl)
  have E2 := Lib.hid (show want2 bxa bya bxc byc = firstE (want1 bxa bya) (whenE (!bxc || !byc) 5) from rfl)
  rw [hw2] at E2
  clear hw2
  generalize want1 bxa bya = p1 at *
  go_enter Try.func3, Try.ntmps3
  go_wp2_with (first | (go_at_call 5; refine (LI.out _ (A0.out.b)).mono ?_; rintro e w1 ⟨rfl, hb1⟩; have A1 := Lib.hid (A0.out.stay hb1); clear hb1; obtain ⟨cF, fF, zF⟩ := blkC A1.out.f; obtain ⟨cA, fA, zA⟩ := blkC A1.out.a; obtain ⟨cC, fC, zC⟩ := blkC A1.out.c) | (go_at_call 6; refine (PR.out _ (A1.out.b)).mono ?_; rintro e w2 ⟨rfl, hb2⟩; have A2 := Lib.hid (A1.out.stay hb2); clear hb2; clear cF fF zF cA fA zA cC fC zC; obtain ⟨cF, fF, zF⟩ := blkC A2.out.f; obtain ⟨cA, fA, zA⟩ := blkC A2.out.a; obtain ⟨cC, fC, zC⟩ := blkC A2.out.c))
  have hl := heap_alloc_new w2 (.cells #[.int .i64 ax, .int .i64 ay, .int .i64 cx, .int .i64 cy] 28)
  have hbl : Below w2.heap.size w2 (w2.alloc (.cells #[.int .i64 ax, .int .i64 ay, .int .i64 cx, .int .i64 cy] 28)) := (Below.refl _ _).alloc (Nat.le_refl _) _
  have A3 := Lib.hid (A2.out.stay hbl)
  have HL3 := Lib.hid hl
  have BL3 := Lib.hid hbl
  obtain ⟨lp, hlp⟩ : ∃ lp, lp = w2.heap.size := ⟨_, rfl⟩
  rw [← hlp] at HL3 ⊢
  clear hl hbl hlp cF fF zF cA fA zA cC fC zC
  generalize w2.alloc (.cells #[.int .i64 ax, .int .i64 ay, .int .i64 cx, .int .i64 cy] 28) = w3 at *
  go_loopw [11, 31] (fun s11 s31 wr => ((s31 = .int .i64 0 ∧ s11 = .int .i64 0) ∨ (s31 = .int .i64 1 ∧ s11 = .int .i64 p1) ∨ (s31 = .int .i64 2 ∧ s11 = .int .i64 5)) ∧ Below w3.heap.size w3 wr) (fun _ s31 _ => 3 - (intOf s31).toNat)
  case atStart => exact ⟨.inl ⟨rfl, rfl⟩, Below.refl _ _⟩
  case round =>
    obtain ⟨hs, hb⟩ := hrel
    have HB := Lib.hid hb
    have AR := Lib.hid (A3.out.stay hb)
    obtain ⟨cL, fL, zL⟩ := blkC (blkStay HL3.out hb)
    clear hb
    rcases hs with ⟨rfl, rfl⟩ | ⟨rfl, rfl⟩ | ⟨rfl, rfl⟩
    · cases bxa
      · go_wp2_with (first | (go_at_call 9; (with_reducible refine (WXA.out _).mono ?_); rintro e w' ⟨rfl, rfl⟩) | (go_at_call 8; refine (WH.out _ _).mono ?_; rintro e w' ⟨rfl, rfl⟩) | (go_at_call 7; refine (FI.out 0 (whenE true 5) _ _ (by (first | (rw [heap_alloc_get, if_pos rfl]; done) | ((simp only [heap_alloc_get, heap_size_alloc, if_true]) <;> ((repeat' split) <;> first | rfl | omega))))).mono ?_; rintro e w' ⟨rfl, rfl⟩))
        go_roundw
        case rel => exact ⟨.inr (.inl ⟨rfl, congrArg (Value.int .i64) E1.out.symm⟩), HB.out.trans (Below.mono (show Below wr.heap.size wr _ from (by repeat (first | exact Below.refl _ _ | refine Below.alloc ?_ (by first | omega | (simp; done) | (simp; omega)) _ | refine Below.setCell ?_ (by first | omega | (simp; done) | (simp; omega)) _ | refine Below.drew ?_))) HB.out.size)⟩
        case measure => simp [intOf]
      · go_wp2_with (first | (go_at_call 9; (with_reducible refine (WXA.out _).mono ?_); rintro e w' ⟨rfl, rfl⟩) | (go_at_call 9; (with_reducible refine (WYA.out _).mono ?_); rintro e w' ⟨rfl, rfl⟩) | (go_at_call 8; refine (WH.out _ _).mono ?_; rintro e w' ⟨rfl, rfl⟩) | (go_at_call 7; refine (FI.out 0 (whenE (!bya) 5) _ _ (by (first | (rw [heap_alloc_get, if_pos rfl]; done) | ((simp only [heap_alloc_get, heap_size_alloc, if_true]) <;> ((repeat' split) <;> first | rfl | omega))))).mono ?_; rintro e w' ⟨rfl, rfl⟩))
        go_roundw
        case rel => exact ⟨.inr (.inl ⟨rfl, congrArg (Value.int .i64) E1.out.symm⟩), HB.out.trans (Below.mono (show Below wr.heap.size wr _ from (by repeat (first | exact Below.refl _ _ | refine Below.alloc ?_ (by first | omega | (simp; done) | (simp; omega)) _ | refine Below.setCell ?_ (by first | omega | (simp; done) | (simp; omega)) _ | refine Below.drew ?_))) HB.out.size)⟩
        case measure => simp [intOf]
    · cases bxc
      · go_wp2_with (first | (go_at_call 9; (with_reducible refine (WXC.out _).mono ?_); rintro e w' ⟨rfl, rfl⟩) | (go_at_call 8; refine (WH.out _ _).mono ?_; rintro e w' ⟨rfl, rfl⟩) | (go_at_call 7; refine (FI.out p1 (whenE true 5) _ _ (by (first | (rw [heap_alloc_get, if_pos rfl]; done) | ((simp only [heap_alloc_get, heap_size_alloc, if_true]) <;> ((repeat' split) <;> first | rfl | omega))))).mono ?_; rintro e w' ⟨rfl, rfl⟩))
        go_roundw
        case rel => exact ⟨.inr (.inr ⟨rfl, congrArg (Value.int .i64) E2.out.symm⟩), HB.out.trans (Below.mono (show Below wr.heap.size wr _ from (by repeat (first | exact Below.refl _ _ | refine Below.alloc ?_ (by first | omega | (simp; done) | (simp; omega)) _ | refine Below.setCell ?_ (by first | omega | (simp; done) | (simp; omega)) _ | refine Below.drew ?_))) HB.out.size)⟩
        case measure => simp [intOf]
      · go_wp2_with (first | (go_at_call 9; (with_reducible refine (WXC.out _).mono ?_); rintro e w' ⟨rfl, rfl⟩) | (go_at_call 9; (with_reducible refine (WYC.out _).mono ?_); rintro e w' ⟨rfl, rfl⟩) | (go_at_call 8; refine (WH.out _ _).mono ?_; rintro e w' ⟨rfl, rfl⟩) | (go_at_call 7; refine (FI.out p1 (whenE (!byc) 5) _ _ (by (first | (rw [heap_alloc_get, if_pos rfl]; done) | ((simp only [heap_alloc_get, heap_size_alloc, if_true]) <;> ((repeat' split) <;> first | rfl | omega))))).mono ?_; rintro e w' ⟨rfl, rfl⟩))
        go_roundw
        case rel => exact ⟨.inr (.inr ⟨rfl, congrArg (Value.int .i64) E2.out.symm⟩), HB.out.trans (Below.mono (show Below wr.heap.size wr _ from (by repeat (first | exact Below.refl _ _ | refine Below.alloc ?_ (by first | omega | (simp; done) | (simp; omega)) _ | refine Below.setCell ?_ (by first | omega | (simp; done) | (simp; omega)) _ | refine Below.drew ?_))) HB.out.size)⟩
        case measure => simp [intOf]
    · obtain ⟨cF, fF, zF⟩ := blkC AR.out.f
      obtain ⟨cA, fA, zA⟩ := blkC AR.out.a
      obtain ⟨cC, fC, zC⟩ := blkC AR.out.c
      clear cL fL zL
      go_wp2_with (go_at_call 10; refine (levels_any _).mono ?_; rintro e w4 ⟨rfl, hb4⟩; have A4 := Lib.hid (AR.out.stay hb4); clear hb4; clear cF fF zF cA fA zA cC fC zC; obtain ⟨cF, fF, zF⟩ := blkC A4.out.f; obtain ⟨cA, fA, zA⟩ := blkC A4.out.a; obtain ⟨cC, fC, zC⟩ := blkC A4.out.c)
      refine wp_region_held_drew (S := (fun w' => (∀ o, w'.cell? ⟨w.heap.size, o, none⟩ = #[.int .i64 X, .int .i64 Y, .int .i64 W, .int .i64 H, .slice a n cap][o]?) ∧ (∀ o, w'.cell? ⟨w.heap.size + 1, o, none⟩ = #[.int .i64 ax, .int .i64 ay][o]?) ∧ (∀ o, w'.cell? ⟨w.heap.size + 1 + 1, o, none⟩ = #[.int .i64 cx, .int .i64 cy][o]?) ∧ Below w4.heap.size w4 w')) (by kernel_rfl) ?_ (fun hHeld => ?_)
      · try dsimp only
        exact (fun K => ⟨(blkC (A4.out.stay K).f).1, (blkC (A4.out.stay K).a).1, (blkC (A4.out.stay K).c).1, K⟩) (by repeat (first | exact hb9 | exact Below.refl _ _ | refine Below.drew ?_ | refine Below.alloc ?_ (by first | exact Nat.le_refl _ | exact hb9.size | (simp; done) | (have := hb9.size; simp; omega) | (simp; omega)) _))
      refine wpAnyH_take (i := 0) (v := ?hv2) rfl (by kernel_rfl) (by kernel_rfl) (by kernel_rfl) (fun _ _ _ h => h) (Or.inl ⟨by rfl, ?hy2⟩) (by assumption) ?hr2; (case hy2 => ((intro w hSw; (try dsimp only at hSw); go_simp) <;> with_reducible rfl)); try simp only [Act.put, List.setIfInBounds_toArray]
      refine wpAnyH_take (i := 2) (v := ?hv13) rfl (by kernel_rfl) (by kernel_rfl) (by kernel_rfl) (fun _ _ _ h => h) (Or.inl ⟨by rfl, ?hy13⟩) (by assumption) ?hr13; (case hy13 => ((intro w hSw; (try dsimp only at hSw); go_simp) <;> with_reducible rfl)); try simp only [Act.put]
      refine wpAnyH_take (i := 3) (v := ?hv14) rfl (by kernel_rfl) (by kernel_rfl) (by kernel_rfl) (fun _ _ _ h => h) (Or.inl ⟨by rfl, ?hy14⟩) (by assumption) ?hr14; (case hy14 => ((intro w hSw; (try dsimp only at hSw); go_simp) <;> with_reducible rfl)); try simp only [Act.put]
      refine wpAnyH_take (i := 4) (v := ?hv15) rfl (by kernel_rfl) (by kernel_rfl) (by kernel_rfl) (fun _ _ _ h => h) (Or.inl ⟨by rfl, ?hy15⟩) (by assumption) ?hr15; (case hy15 => ((intro w hSw; (try dsimp only at hSw); go_simp) <;> with_reducible rfl)); try simp only [Act.put]
      refine wpAnyH_take (i := 5) (v := ?hv16) rfl (by kernel_rfl) (by kernel_rfl) (by kernel_rfl) (fun _ _ _ h => h) (Or.inl ⟨by rfl, ?hy16⟩) (by assumption) ?hr16; (case hy16 => ((intro w hSw; (try dsimp only at hSw); go_simp) <;> with_reducible rfl)); try simp only [Act.put]
      refine wpAnyH_take (i := 6) (v := ?hv17) rfl (by kernel_rfl) (by kernel_rfl) (by kernel_rfl) (fun _ _ _ h => h) (Or.inl ⟨by rfl, ?hy17⟩) (by assumption) ?hr17; (case hy17 => ((intro w hSw; (try dsimp only at hSw); go_simp) <;> with_reducible rfl)); try simp only [Act.put]
      refine wpAnyH_take (i := 7) (v := ?hv18) rfl (by kernel_rfl) (by kernel_rfl) (by kernel_rfl) (fun _ _ _ h => h) (Or.inl ⟨by rfl, ?hy18⟩) (by assumption) ?hr18; (case hy18 => ((intro w hSw; (try dsimp only at hSw); go_simp) <;> with_reducible rfl)); try simp only [Act.put]
      refine wpAnyH_ready (rs := [1]) (by kernel_rfl) (by simp) ?_; refine AllReadyH.cons rfl (fun K hK => ?_) AllReadyH.nil; go_simp
      (with_reducible refine Calls.mono (FE.out _ (A4.out.b.trans (Below.mono (by repeat (first | exact hb9 | exact Below.refl _ _ | refine Below.drew ?_ | refine Below.alloc ?_ (by first | exact Nat.le_refl _ | exact hb9.size | (simp; done) | (have := hb9.size; simp; omega) | (simp; omega)) _)) A4.out.b.size))) ?_); rintro e w1r ⟨rfl, hb8⟩
      have hb7 : Below w4.heap.size w4 w1r := Below.trans (by repeat (first | exact hb9 | exact Below.refl _ _ | refine Below.drew ?_ | refine Below.alloc ?_ (by first | exact Nat.le_refl _ | exact hb9.size | (simp; done) | (have := hb9.size; simp; omega) | (simp; omega)) _)) (Below.mono hb8 (by first | exact Nat.le_refl _ | exact hb9.size | (simp; done) | (have := hb9.size; simp; omega) | (simp; omega)))
      clear hb8; (try clear hb9); have hb9 := hb7; clear hb7
      try go_wp2_with fail
      refine hK.out _ _ ?_ (fun hHeld => ?_)
      · try dsimp only
        exact (fun K => ⟨(blkC (A4.out.stay K).f).1, (blkC (A4.out.stay K).a).1, (blkC (A4.out.stay K).c).1, K⟩) (by repeat (first | exact hb9 | exact Below.refl _ _ | refine Below.drew ?_ | refine Below.alloc ?_ (by first | exact Nat.le_refl _ | exact hb9.size | (simp; done) | (have := hb9.size; simp; omega) | (simp; omega)) _))
      clear hK K; try simp only [Act.put, List.setIfInBounds_toArray, List.set_cons_zero, List.set_cons_succ]
      refine wpAnyH_ready (rs := [8]) (by kernel_rfl) (by simp) ?_; refine AllReadyH.cons rfl (fun K hK => ?_) AllReadyH.nil; go_simp
      (with_reducible refine Calls.mono (HA.out _) ?_); rintro e w8r ⟨rfl, hb8⟩
      have hb7 : Below w4.heap.size w4 w8r := Below.trans (by repeat (first | exact hb9 | exact Below.refl _ _ | refine Below.drew ?_ | refine Below.alloc ?_ (by first | exact Nat.le_refl _ | exact hb9.size | (simp; done) | (have := hb9.size; simp; omega) | (simp; omega)) _)) (Below.mono hb8 (by first | exact Nat.le_refl _ | exact hb9.size | (simp; done) | (have := hb9.size; simp; omega) | (simp; omega)))
      clear hb8; (try clear hb9); have hb9 := hb7; clear hb7
      try go_wp2_with fail
      refine hK.out _ _ ?_ (fun hHeld => ?_)
      · try dsimp only
        exact (fun K => ⟨(blkC (A4.out.stay K).f).1, (blkC (A4.out.stay K).a).1, (blkC (A4.out.stay K).c).1, K⟩) (by repeat (first | exact hb9 | exact Below.refl _ _ | refine Below.drew ?_ | refine Below.alloc ?_ (by first | exact Nat.le_refl _ | exact hb9.size | (simp; done) | (have := hb9.size; simp; omega) | (simp; omega)) _))
      clear hK K; try simp only [Act.put, List.setIfInBounds_toArray, List.set_cons_zero, List.set_cons_succ]
      refine wpAnyH_take (i := 9) (v := ?hv19) rfl (by kernel_rfl) (by kernel_rfl) (by kernel_rfl) (fun _ _ _ h => h) (Or.inl ⟨by rfl, ?hy19⟩) (by assumption) ?hr19; (case hy19 => ((intro w hSw; (try dsimp only at hSw); go_simp) <;> with_reducible rfl)); try simp only [Act.put]
      refine wpAnyH_take (i := 10) (v := ?hv20) rfl (by kernel_rfl) (by kernel_rfl) (by kernel_rfl) (fun _ _ _ h => h) (Or.inl ⟨by rfl, ?hy20⟩) (by assumption) ?hr20; (case hy20 => ((intro w hSw; (try dsimp only at hSw); go_simp) <;> with_reducible rfl)); try simp only [Act.put]
      refine wpAnyH_take (i := 11) (v := undef) rfl (by kernel_rfl) (by kernel_rfl) (by kernel_rfl) (fun _ _ _ h => h) (Or.inr ⟨by kernel_rfl, rfl⟩) (by assumption) ?_; try simp only [Act.put]
      refine wpAnyH_take (i := 12) (v := undef) rfl (by kernel_rfl) (by kernel_rfl) (by kernel_rfl) (fun _ _ _ h => h) (Or.inr ⟨by kernel_rfl, rfl⟩) (by assumption) ?_; try simp only [Act.put]
      refine wpAnyH_take (i := 13) (v := undef) rfl (by kernel_rfl) (by kernel_rfl) (by kernel_rfl) (fun _ _ _ h => h) (Or.inr ⟨by kernel_rfl, rfl⟩) (by assumption) ?_; try simp only [Act.put]
      refine wpAnyH_take (i := 14) (v := undef) rfl (by kernel_rfl) (by kernel_rfl) (by kernel_rfl) (fun _ _ _ h => h) (Or.inr ⟨by kernel_rfl, rfl⟩) (by assumption) ?_; try simp only [Act.put]
      refine wpAnyH_take (i := 15) (v := undef) rfl (by kernel_rfl) (by kernel_rfl) (by kernel_rfl) (fun _ _ _ h => h) (Or.inr ⟨by kernel_rfl, rfl⟩) (by assumption) ?_; try simp only [Act.put]
      refine wpAnyH_take (i := 16) (v := undef) rfl (by kernel_rfl) (by kernel_rfl) (by kernel_rfl) (fun _ _ _ h => h) (Or.inr ⟨by kernel_rfl, rfl⟩) (by assumption) ?_; try simp only [Act.put]
      refine wpAnyH_take (i := 17) (v := undef) rfl (by kernel_rfl) (by kernel_rfl) (by kernel_rfl) (fun _ _ _ h => h) (Or.inr ⟨by kernel_rfl, rfl⟩) (by assumption) ?_; try simp only [Act.put]
      refine wpAnyH_take (i := 18) (v := undef) rfl (by kernel_rfl) (by kernel_rfl) (by kernel_rfl) (fun _ _ _ h => h) (Or.inr ⟨by kernel_rfl, rfl⟩) (by assumption) ?_; try simp only [Act.put]
      refine wpAnyH_take (i := 19) (v := ?hv21) rfl (by kernel_rfl) (by kernel_rfl) (by kernel_rfl) (fun _ _ _ h => h) (Or.inl ⟨by rfl, ?hy21⟩) (by assumption) ?hr21; (case hy21 => ((intro w hSw; (try dsimp only at hSw); go_simp) <;> with_reducible rfl)); try simp only [Act.put]
      refine wpAnyH_ready (rs := [20]) (by kernel_rfl) (by simp) ?_; refine AllReadyH.cons rfl (fun K hK => ?_) AllReadyH.nil; go_simp
      (with_reducible refine Calls.mono (WH.out true _) ?_); rintro e w' ⟨rfl, rfl⟩
      try go_wp2_with fail
      refine hK.out _ _ ?_ (fun hHeld => ?_)
      · try dsimp only
        exact (fun K => ⟨(blkC (A4.out.stay K).f).1, (blkC (A4.out.stay K).a).1, (blkC (A4.out.stay K).c).1, K⟩) (by repeat (first | exact hb9 | exact Below.refl _ _ | refine Below.drew ?_ | refine Below.alloc ?_ (by first | exact Nat.le_refl _ | exact hb9.size | (simp; done) | (have := hb9.size; simp; omega) | (simp; omega)) _))
      clear hK K; try simp only [Act.put, List.setIfInBounds_toArray, List.set_cons_zero, List.set_cons_succ]
      refine wpAnyH_ready (rs := [21]) (by kernel_rfl) (by simp) ?_; refine AllReadyH.cons rfl (fun K hK => ?_) AllReadyH.nil; go_simp
      refine hK.out _ _ ?_ (fun hHeld => ?_)
      · try dsimp only
        exact (fun K => ⟨(blkC (A4.out.stay K).f).1, (blkC (A4.out.stay K).a).1, (blkC (A4.out.stay K).c).1, K⟩) (by repeat (first | exact hb9 | exact Below.refl _ _ | refine Below.drew ?_ | refine Below.alloc ?_ (by first | exact Nat.le_refl _ | exact hb9.size | (simp; done) | (have := hb9.size; simp; omega) | (simp; omega)) _))
      clear hK K; try simp only [Act.put, List.setIfInBounds_toArray, List.set_cons_zero, List.set_cons_succ]
      refine wpAnyH_ready (rs := [22]) (by kernel_rfl) (by simp) ?_; refine AllReadyH.cons rfl (fun K hK => ?_) AllReadyH.nil; go_simp
      (with_reducible refine Calls.mono (FI2.out _ _ (by first | ((simp only [heap_alloc_get, if_true]) <;> ((repeat' split) <;> first | rfl | omega)) | ((simp only [heap_alloc_get, heap_size_alloc, if_true]) <;> ((repeat' split) <;> first | rfl | omega)))) ?_); rintro e w' ⟨rfl, rfl⟩
      try go_wp2_with fail
      refine hK.out _ _ ?_ (fun hHeld => ?_)
      · try dsimp only
        exact (fun K => ⟨(blkC (A4.out.stay K).f).1, (blkC (A4.out.stay K).a).1, (blkC (A4.out.stay K).c).1, K⟩) (by repeat (first | exact hb9 | exact Below.refl _ _ | refine Below.drew ?_ | refine Below.alloc ?_ (by first | exact Nat.le_refl _ | exact hb9.size | (simp; done) | (have := hb9.size; simp; omega) | (simp; omega)) _))
      clear hK K; try simp only [Act.put, List.setIfInBounds_toArray, List.set_cons_zero, List.set_cons_succ]
      refine wpAnyH_take (i := 23) (v := ?hv22) rfl (by kernel_rfl) (by kernel_rfl) (by kernel_rfl) (fun _ _ _ h => h) (Or.inl ⟨by rfl, ?hy22⟩) (by assumption) ?hr22; (case hy22 => ((intro w hSw; (try dsimp only at hSw); go_simp) <;> with_reducible rfl)); try simp only [Act.put]
      refine wpAnyH_done (by kernel_rfl) ?_ _
      have AH := Lib.hid (A4.out.stay hHeld.2.2.2)
      clear hHeld
      go_wp2
      go_ret
      exact ⟨rfl, AH.out.b⟩
end Go.Proofs.Ytjjafjdjdjonfaa

/- LinesMatch, walked: the places are right, but too far. -/
namespace Go.Proofs.Ytjjafjdjdjonfaa
open Go.RowKit Fl
set_option linter.unusedVariables false

set_option maxRecDepth 100000 in
set_option maxHeartbeats 8000000 in
theorem linBt (X Y W H : Int) (a : Option Addr) (n cap : Nat) (ax ay cx cy : Int) (w : World) (bxa bya bxc byc : Bool) (pe fe mm : Int) (hc : Bool)
    (WXA : Hid (∀ w, Calls Try.prog 9 #[.int .i64 ax, .int .i64 (-4194304), .int .i64 4194304] w fun e w' => e = .returned (.bool bxa) ∧ w = w'))
    (WYA : Hid (∀ w, Calls Try.prog 9 #[.int .i64 ay, .int .i64 (-4194304), .int .i64 4194304] w fun e w' => e = .returned (.bool bya) ∧ w = w'))
    (WXC : Hid (∀ w, Calls Try.prog 9 #[.int .i64 cx, .int .i64 (-4194304), .int .i64 4194304] w fun e w' => e = .returned (.bool bxc) ∧ w = w'))
    (WYC : Hid (∀ w, Calls Try.prog 9 #[.int .i64 cy, .int .i64 (-4194304), .int .i64 4194304] w fun e w' => e = .returned (.bool byc) ∧ w = w'))
    (hw2 : want2 bxa bya bxc byc = 0) (hmm : 65536 ≤ mm)
    (x1 : -4194304 ≤ ax) (x2 : ax ≤ 4194304) (x3 : -4194304 ≤ ay) (x4 : ay ≤ 4194304) (x5 : -4194304 ≤ cx) (x6 : cx ≤ 4194304) (x7 : -4194304 ≤ cy) (x8 : cy ≤ 4194304)
    (hmx : ∀ (W' : World) (ts : Array TypeId) (t : TypeId), (Builtin.max_ ts t #[.int .i64 (cx - ax), .int .i64 (ax - cx), .int .i64 (cy - ay), .int .i64 (ay - cy)]).run Try.prog W' = .ok (.int .i64 mm) W') (m0 : 0 ≤ mm) (m1 : mm ≤ 16777216)
    (LI : Hid (∀ w', Below w.heap.size w w' → Calls Try.prog 5 #[ptV ax ay, ptV cx cy] w' fun e w'' => e = .returned (.tuple #[.slice none 0 0, .int .i64 4]) ∧ Below w'.heap.size w' w''))
    (PR : Hid (∀ w', Below w.heap.size w w' → Calls Try.prog 6 #[fldV X Y W H (.slice a n cap), ptV ax ay, ptV cx cy] w' fun e w'' => e = .returned (.tuple #[.slice none 0 0, .int .i64 pe]) ∧ Below w'.heap.size w' w''))
    (FE : Hid (∀ w', Below w.heap.size w w' → Calls Try.prog 13 #[fldV X Y W H (.slice a n cap)] w' fun e w'' => e = .returned (.int .i64 fe) ∧ Below w'.heap.size w' w''))
    (HA : Hid (∀ w, Calls Try.prog 14 #[reg X Y W H, .int .i64 ax, .int .i64 ay] w fun e w' => e = .returned (.bool true) ∧ Below w.heap.size w w'))
    (HC : Hid (∀ w, Calls Try.prog 14 #[reg X Y W H, .int .i64 cx, .int .i64 cy] w fun e w' => e = .returned (.bool hc) ∧ Below w.heap.size w w'))
    (FI2 : Hid (∀ p w, w.heap[p]? = some (.cells #[.int .i64 fe, .int .i64 (whenE (!hc) 5)] 30) → Calls Try.prog 7 #[.slice (some ⟨p, 0, none⟩) 2 2] w fun e w' => e = .returned (.int .i64 pe) ∧ w = w')) (hpe : (pe != 0) = true) :
    Calls Try.prog 3 #[fldV X Y W H (.slice a n cap), ptV ax ay, ptV cx cy] w fun e w' => e = .returned (.bool true) ∧ Below w.heap.size w w' := by
  have A0 := Lib.hid (LnAt.new w X Y W H (.slice a n cap) ax ay cx cy)
  have WH := Lib.hid (fun c w => when_any c 5 w)
  have FI := Lib.hid (fun x y p w h => first2_any x y p w h)
  have E1 := Lib.hid (show want1 bxa bya = firstE 0 (whenE (!bxa || !bya) 5) from rfl)
  have E2 := Lib.hid (show want2 bxa bya bxc byc = firstE (want1 bxa bya) (whenE (!bxc || !byc) 5) from rfl)
  rw [hw2] at E2
  clear hw2
  generalize want1 bxa bya = p1 at *
  go_enter Try.func3, Try.ntmps3
  go_wp2_with (first | (go_at_call 5; refine (LI.out _ (A0.out.b)).mono ?_; rintro e w1 ⟨rfl, hb1⟩; have A1 := Lib.hid (A0.out.stay hb1); clear hb1; obtain ⟨cF, fF, zF⟩ := blkC A1.out.f; obtain ⟨cA, fA, zA⟩ := blkC A1.out.a; obtain ⟨cC, fC, zC⟩ := blkC A1.out.c) | (go_at_call 6; refine (PR.out _ (A1.out.b)).mono ?_; rintro e w2 ⟨rfl, hb2⟩; have A2 := Lib.hid (A1.out.stay hb2); clear hb2; clear cF fF zF cA fA zA cC fC zC; obtain ⟨cF, fF, zF⟩ := blkC A2.out.f; obtain ⟨cA, fA, zA⟩ := blkC A2.out.a; obtain ⟨cC, fC, zC⟩ := blkC A2.out.c))
  have hl := heap_alloc_new w2 (.cells #[.int .i64 ax, .int .i64 ay, .int .i64 cx, .int .i64 cy] 28)
  have hbl : Below w2.heap.size w2 (w2.alloc (.cells #[.int .i64 ax, .int .i64 ay, .int .i64 cx, .int .i64 cy] 28)) := (Below.refl _ _).alloc (Nat.le_refl _) _
  have A3 := Lib.hid (A2.out.stay hbl)
  have HL3 := Lib.hid hl
  have BL3 := Lib.hid hbl
  obtain ⟨lp, hlp⟩ : ∃ lp, lp = w2.heap.size := ⟨_, rfl⟩
  rw [← hlp] at HL3 ⊢
  clear hl hbl hlp cF fF zF cA fA zA cC fC zC
  generalize w2.alloc (.cells #[.int .i64 ax, .int .i64 ay, .int .i64 cx, .int .i64 cy] 28) = w3 at *
  go_loopw [11, 31] (fun s11 s31 wr => ((s31 = .int .i64 0 ∧ s11 = .int .i64 0) ∨ (s31 = .int .i64 1 ∧ s11 = .int .i64 p1) ∨ (s31 = .int .i64 2 ∧ s11 = .int .i64 0)) ∧ Below w3.heap.size w3 wr) (fun _ s31 _ => 3 - (intOf s31).toNat)
  case atStart => exact ⟨.inl ⟨rfl, rfl⟩, Below.refl _ _⟩
  case round =>
    obtain ⟨hs, hb⟩ := hrel
    have HB := Lib.hid hb
    have AR := Lib.hid (A3.out.stay hb)
    obtain ⟨cL, fL, zL⟩ := blkC (blkStay HL3.out hb)
    clear hb
    rcases hs with ⟨rfl, rfl⟩ | ⟨rfl, rfl⟩ | ⟨rfl, rfl⟩
    · cases bxa
      · go_wp2_with (first | (go_at_call 9; (with_reducible refine (WXA.out _).mono ?_); rintro e w' ⟨rfl, rfl⟩) | (go_at_call 8; refine (WH.out _ _).mono ?_; rintro e w' ⟨rfl, rfl⟩) | (go_at_call 7; refine (FI.out 0 (whenE true 5) _ _ (by (first | (rw [heap_alloc_get, if_pos rfl]; done) | ((simp only [heap_alloc_get, heap_size_alloc, if_true]) <;> ((repeat' split) <;> first | rfl | omega))))).mono ?_; rintro e w' ⟨rfl, rfl⟩))
        go_roundw
        case rel => exact ⟨.inr (.inl ⟨rfl, congrArg (Value.int .i64) E1.out.symm⟩), HB.out.trans (Below.mono (show Below wr.heap.size wr _ from (by repeat (first | exact Below.refl _ _ | refine Below.alloc ?_ (by first | omega | (simp; done) | (simp; omega)) _ | refine Below.setCell ?_ (by first | omega | (simp; done) | (simp; omega)) _ | refine Below.drew ?_))) HB.out.size)⟩
        case measure => simp [intOf]
      · go_wp2_with (first | (go_at_call 9; (with_reducible refine (WXA.out _).mono ?_); rintro e w' ⟨rfl, rfl⟩) | (go_at_call 9; (with_reducible refine (WYA.out _).mono ?_); rintro e w' ⟨rfl, rfl⟩) | (go_at_call 8; refine (WH.out _ _).mono ?_; rintro e w' ⟨rfl, rfl⟩) | (go_at_call 7; refine (FI.out 0 (whenE (!bya) 5) _ _ (by (first | (rw [heap_alloc_get, if_pos rfl]; done) | ((simp only [heap_alloc_get, heap_size_alloc, if_true]) <;> ((repeat' split) <;> first | rfl | omega))))).mono ?_; rintro e w' ⟨rfl, rfl⟩))
        go_roundw
        case rel => exact ⟨.inr (.inl ⟨rfl, congrArg (Value.int .i64) E1.out.symm⟩), HB.out.trans (Below.mono (show Below wr.heap.size wr _ from (by repeat (first | exact Below.refl _ _ | refine Below.alloc ?_ (by first | omega | (simp; done) | (simp; omega)) _ | refine Below.setCell ?_ (by first | omega | (simp; done) | (simp; omega)) _ | refine Below.drew ?_))) HB.out.size)⟩
        case measure => simp [intOf]
    · cases bxc
      · go_wp2_with (first | (go_at_call 9; (with_reducible refine (WXC.out _).mono ?_); rintro e w' ⟨rfl, rfl⟩) | (go_at_call 8; refine (WH.out _ _).mono ?_; rintro e w' ⟨rfl, rfl⟩) | (go_at_call 7; refine (FI.out p1 (whenE true 5) _ _ (by (first | (rw [heap_alloc_get, if_pos rfl]; done) | ((simp only [heap_alloc_get, heap_size_alloc, if_true]) <;> ((repeat' split) <;> first | rfl | omega))))).mono ?_; rintro e w' ⟨rfl, rfl⟩))
        go_roundw
        case rel => exact ⟨.inr (.inr ⟨rfl, congrArg (Value.int .i64) E2.out.symm⟩), HB.out.trans (Below.mono (show Below wr.heap.size wr _ from (by repeat (first | exact Below.refl _ _ | refine Below.alloc ?_ (by first | omega | (simp; done) | (simp; omega)) _ | refine Below.setCell ?_ (by first | omega | (simp; done) | (simp; omega)) _ | refine Below.drew ?_))) HB.out.size)⟩
        case measure => simp [intOf]
      · go_wp2_with (first | (go_at_call 9; (with_reducible refine (WXC.out _).mono ?_); rintro e w' ⟨rfl, rfl⟩) | (go_at_call 9; (with_reducible refine (WYC.out _).mono ?_); rintro e w' ⟨rfl, rfl⟩) | (go_at_call 8; refine (WH.out _ _).mono ?_; rintro e w' ⟨rfl, rfl⟩) | (go_at_call 7; refine (FI.out p1 (whenE (!byc) 5) _ _ (by (first | (rw [heap_alloc_get, if_pos rfl]; done) | ((simp only [heap_alloc_get, heap_size_alloc, if_true]) <;> ((repeat' split) <;> first | rfl | omega))))).mono ?_; rintro e w' ⟨rfl, rfl⟩))
        go_roundw
        case rel => exact ⟨.inr (.inr ⟨rfl, congrArg (Value.int .i64) E2.out.symm⟩), HB.out.trans (Below.mono (show Below wr.heap.size wr _ from (by repeat (first | exact Below.refl _ _ | refine Below.alloc ?_ (by first | omega | (simp; done) | (simp; omega)) _ | refine Below.setCell ?_ (by first | omega | (simp; done) | (simp; omega)) _ | refine Below.drew ?_))) HB.out.size)⟩
        case measure => simp [intOf]
    · obtain ⟨cF, fF, zF⟩ := blkC AR.out.f
      obtain ⟨cA, fA, zA⟩ := blkC AR.out.a
      obtain ⟨cC, fC, zC⟩ := blkC AR.out.c
      clear cL fL zL
      go_wp2_with (go_at_call 10; refine (levels_any _).mono ?_; rintro e w4 ⟨rfl, hb4⟩; have A4 := Lib.hid (AR.out.stay hb4); clear hb4; clear cF fF zF cA fA zA cC fC zC; obtain ⟨cF, fF, zF⟩ := blkC A4.out.f; obtain ⟨cA, fA, zA⟩ := blkC A4.out.a; obtain ⟨cC, fC, zC⟩ := blkC A4.out.c)
      refine wp_region_held_drew (S := (fun w' => (∀ o, w'.cell? ⟨w.heap.size, o, none⟩ = #[.int .i64 X, .int .i64 Y, .int .i64 W, .int .i64 H, .slice a n cap][o]?) ∧ (∀ o, w'.cell? ⟨w.heap.size + 1, o, none⟩ = #[.int .i64 ax, .int .i64 ay][o]?) ∧ (∀ o, w'.cell? ⟨w.heap.size + 1 + 1, o, none⟩ = #[.int .i64 cx, .int .i64 cy][o]?) ∧ Below w4.heap.size w4 w')) (by kernel_rfl) ?_ (fun hHeld => ?_)
      · try dsimp only
        exact (fun K => ⟨(blkC (A4.out.stay K).f).1, (blkC (A4.out.stay K).a).1, (blkC (A4.out.stay K).c).1, K⟩) (by repeat (first | exact hb9 | exact Below.refl _ _ | refine Below.drew ?_ | refine Below.alloc ?_ (by first | exact Nat.le_refl _ | exact hb9.size | (simp; done) | (have := hb9.size; simp; omega) | (simp; omega)) _))
      refine wpAnyH_take (i := 0) (v := ?hv1) rfl (by kernel_rfl) (by kernel_rfl) (by kernel_rfl) (fun _ _ _ h => h) (Or.inl ⟨by rfl, ?hy1⟩) (by assumption) ?hr1; (case hy1 => ((intro w hSw; (try dsimp only at hSw); go_simp) <;> with_reducible rfl)); try simp only [Act.put, List.setIfInBounds_toArray]
      refine wpAnyH_take (i := 2) (v := ?hv3) rfl (by kernel_rfl) (by kernel_rfl) (by kernel_rfl) (fun _ _ _ h => h) (Or.inl ⟨by rfl, ?hy3⟩) (by assumption) ?hr3; (case hy3 => ((intro w hSw; (try dsimp only at hSw); go_simp) <;> with_reducible rfl)); try simp only [Act.put]
      refine wpAnyH_take (i := 3) (v := ?hv4) rfl (by kernel_rfl) (by kernel_rfl) (by kernel_rfl) (fun _ _ _ h => h) (Or.inl ⟨by rfl, ?hy4⟩) (by assumption) ?hr4; (case hy4 => ((intro w hSw; (try dsimp only at hSw); go_simp) <;> with_reducible rfl)); try simp only [Act.put]
      refine wpAnyH_take (i := 4) (v := ?hv5) rfl (by kernel_rfl) (by kernel_rfl) (by kernel_rfl) (fun _ _ _ h => h) (Or.inl ⟨by rfl, ?hy5⟩) (by assumption) ?hr5; (case hy5 => ((intro w hSw; (try dsimp only at hSw); go_simp) <;> with_reducible rfl)); try simp only [Act.put]
      refine wpAnyH_take (i := 5) (v := ?hv6) rfl (by kernel_rfl) (by kernel_rfl) (by kernel_rfl) (fun _ _ _ h => h) (Or.inl ⟨by rfl, ?hy6⟩) (by assumption) ?hr6; (case hy6 => ((intro w hSw; (try dsimp only at hSw); go_simp) <;> with_reducible rfl)); try simp only [Act.put]
      refine wpAnyH_take (i := 6) (v := ?hv7) rfl (by kernel_rfl) (by kernel_rfl) (by kernel_rfl) (fun _ _ _ h => h) (Or.inl ⟨by rfl, ?hy7⟩) (by assumption) ?hr7; (case hy7 => ((intro w hSw; (try dsimp only at hSw); go_simp) <;> with_reducible rfl)); try simp only [Act.put]
      refine wpAnyH_take (i := 7) (v := ?hv8) rfl (by kernel_rfl) (by kernel_rfl) (by kernel_rfl) (fun _ _ _ h => h) (Or.inl ⟨by rfl, ?hy8⟩) (by assumption) ?hr8; (case hy8 => ((intro w hSw; (try dsimp only at hSw); go_simp) <;> with_reducible rfl)); try simp only [Act.put]
      refine wpAnyH_ready (rs := [1]) (by kernel_rfl) (by simp) ?_; refine AllReadyH.cons rfl (fun K hK => ?_) AllReadyH.nil; go_simp
      (with_reducible refine Calls.mono (FE.out _ (A4.out.b.trans (Below.mono (by repeat (first | exact hb9 | exact Below.refl _ _ | refine Below.drew ?_ | refine Below.alloc ?_ (by first | exact Nat.le_refl _ | exact hb9.size | (simp; done) | (have := hb9.size; simp; omega) | (simp; omega)) _)) A4.out.b.size))) ?_); rintro e w1r ⟨rfl, hb8⟩
      have hb7 : Below w4.heap.size w4 w1r := Below.trans (by repeat (first | exact hb9 | exact Below.refl _ _ | refine Below.drew ?_ | refine Below.alloc ?_ (by first | exact Nat.le_refl _ | exact hb9.size | (simp; done) | (have := hb9.size; simp; omega) | (simp; omega)) _)) (Below.mono hb8 (by first | exact Nat.le_refl _ | exact hb9.size | (simp; done) | (have := hb9.size; simp; omega) | (simp; omega)))
      clear hb8; (try clear hb9); have hb9 := hb7; clear hb7
      try go_wp2_with fail
      refine hK.out _ _ ?_ (fun hHeld => ?_)
      · try dsimp only
        exact (fun K => ⟨(blkC (A4.out.stay K).f).1, (blkC (A4.out.stay K).a).1, (blkC (A4.out.stay K).c).1, K⟩) (by repeat (first | exact hb9 | exact Below.refl _ _ | refine Below.drew ?_ | refine Below.alloc ?_ (by first | exact Nat.le_refl _ | exact hb9.size | (simp; done) | (have := hb9.size; simp; omega) | (simp; omega)) _))
      clear hK K; try simp only [Act.put, List.setIfInBounds_toArray, List.set_cons_zero, List.set_cons_succ]
      refine wpAnyH_ready (rs := [8]) (by kernel_rfl) (by simp) ?_; refine AllReadyH.cons rfl (fun K hK => ?_) AllReadyH.nil; go_simp
      (with_reducible refine Calls.mono (HA.out _) ?_); rintro e w8r ⟨rfl, hb8⟩
      have hb7 : Below w4.heap.size w4 w8r := Below.trans (by repeat (first | exact hb9 | exact Below.refl _ _ | refine Below.drew ?_ | refine Below.alloc ?_ (by first | exact Nat.le_refl _ | exact hb9.size | (simp; done) | (have := hb9.size; simp; omega) | (simp; omega)) _)) (Below.mono hb8 (by first | exact Nat.le_refl _ | exact hb9.size | (simp; done) | (have := hb9.size; simp; omega) | (simp; omega)))
      clear hb8; (try clear hb9); have hb9 := hb7; clear hb7
      try go_wp2_with fail
      refine hK.out _ _ ?_ (fun hHeld => ?_)
      · try dsimp only
        exact (fun K => ⟨(blkC (A4.out.stay K).f).1, (blkC (A4.out.stay K).a).1, (blkC (A4.out.stay K).c).1, K⟩) (by repeat (first | exact hb9 | exact Below.refl _ _ | refine Below.drew ?_ | refine Below.alloc ?_ (by first | exact Nat.le_refl _ | exact hb9.size | (simp; done) | (have := hb9.size; simp; omega) | (simp; omega)) _))
      clear hK K; try simp only [Act.put, List.setIfInBounds_toArray, List.set_cons_zero, List.set_cons_succ]
      refine wpAnyH_take (i := 9) (v := ?hv9) rfl (by kernel_rfl) (by kernel_rfl) (by kernel_rfl) (fun _ _ _ h => h) (Or.inl ⟨by rfl, ?hy9⟩) (by assumption) ?hr9; (case hy9 => ((intro w hSw; (try dsimp only at hSw); go_simp) <;> with_reducible rfl)); try simp only [Act.put]
      refine wpAnyH_take (i := 10) (v := ?hv10) rfl (by kernel_rfl) (by kernel_rfl) (by kernel_rfl) (fun _ _ _ h => h) (Or.inl ⟨by rfl, ?hy10⟩) (by assumption) ?hr10; (case hy10 => ((intro w hSw; (try dsimp only at hSw); go_simp) <;> with_reducible rfl)); try simp only [Act.put]
      refine wpAnyH_take (i := 11) (v := ?hv23) rfl (by kernel_rfl) (by kernel_rfl) (by kernel_rfl) (fun _ _ _ h => h) (Or.inl ⟨by kernel_rfl, ?hy23⟩) (by assumption) ?hr23; (case hy23 => ((intro w hSw; (try dsimp only at hSw); go_simp) <;> with_reducible rfl)); try simp only [Act.put]
      refine wpAnyH_take (i := 12) (v := ?hv24) rfl (by kernel_rfl) (by kernel_rfl) (by kernel_rfl) (fun _ _ _ h => h) (Or.inl ⟨by kernel_rfl, ?hy24⟩) (by assumption) ?hr24; (case hy24 => ((intro w hSw; (try dsimp only at hSw); go_simp) <;> with_reducible rfl)); try simp only [Act.put]
      refine wpAnyH_take (i := 13) (v := ?hv25) rfl (by kernel_rfl) (by kernel_rfl) (by kernel_rfl) (fun _ _ _ h => h) (Or.inl ⟨by kernel_rfl, ?hy25⟩) (by assumption) ?hr25; (case hy25 => ((intro w hSw; (try dsimp only at hSw); go_simp) <;> with_reducible rfl)); try simp only [Act.put]
      refine wpAnyH_take (i := 14) (v := ?hv26) rfl (by kernel_rfl) (by kernel_rfl) (by kernel_rfl) (fun _ _ _ h => h) (Or.inl ⟨by kernel_rfl, ?hy26⟩) (by assumption) ?hr26; (case hy26 => ((intro w hSw; (try dsimp only at hSw); go_simp) <;> with_reducible rfl)); try simp only [Act.put]
      refine wpAnyH_take (i := 15) (v := ?hv27) rfl (by kernel_rfl) (by kernel_rfl) (by kernel_rfl) (fun _ _ _ h => h) (Or.inl ⟨by kernel_rfl, ?hy27⟩) (by assumption) ?hr27; (case hy27 => ((intro w hSw; (try dsimp only at hSw); go_simp) <;> with_reducible rfl)); try simp only [Act.put]
      refine wpAnyH_take (i := 16) (v := ?hv28) rfl (by kernel_rfl) (by kernel_rfl) (by kernel_rfl) (fun _ _ _ h => h) (Or.inl ⟨by kernel_rfl, ?hy28⟩) (by assumption) ?hr28; (case hy28 => ((intro w hSw; (try dsimp only at hSw); go_simp) <;> with_reducible rfl)); try simp only [Act.put]
      refine wpAnyH_ready (rs := [17]) (by kernel_rfl) (by simp) ?_; refine AllReadyH.cons rfl (fun K hK => ?_) AllReadyH.nil; go_simp
      (with_reducible refine Calls.mono (HC.out _) ?_); rintro e w17r ⟨rfl, hb8⟩
      have hb7 : Below w4.heap.size w4 w17r := Below.trans (by repeat (first | exact hb9 | exact Below.refl _ _ | refine Below.drew ?_ | refine Below.alloc ?_ (by first | exact Nat.le_refl _ | exact hb9.size | (simp; done) | (have := hb9.size; simp; omega) | (simp; omega)) _)) (Below.mono hb8 (by first | exact Nat.le_refl _ | exact hb9.size | (simp; done) | (have := hb9.size; simp; omega) | (simp; omega)))
      clear hb8; (try clear hb9); have hb9 := hb7; clear hb7
      try go_wp2_with fail
      refine hK.out _ _ ?_ (fun hHeld => ?_)
      · try dsimp only
        exact (fun K => ⟨(blkC (A4.out.stay K).f).1, (blkC (A4.out.stay K).a).1, (blkC (A4.out.stay K).c).1, K⟩) (by repeat (first | exact hb9 | exact Below.refl _ _ | refine Below.drew ?_ | refine Below.alloc ?_ (by first | exact Nat.le_refl _ | exact hb9.size | (simp; done) | (have := hb9.size; simp; omega) | (simp; omega)) _))
      clear hK K; try simp only [Act.put, List.setIfInBounds_toArray, List.set_cons_zero, List.set_cons_succ]
      refine wpAnyH_take (i := 18) (v := ?hv29) rfl (by kernel_rfl) (by kernel_rfl) (by kernel_rfl) (fun _ _ _ h => h) (Or.inl ⟨by kernel_rfl, ?hy29⟩) (by assumption) ?hr29; (case hy29 => ((intro w hSw; (try dsimp only at hSw); go_simp) <;> with_reducible rfl)); try simp only [Act.put]
      refine wpAnyH_take (i := 19) (v := ?hv11) rfl (by kernel_rfl) (by kernel_rfl) (by kernel_rfl) (fun _ _ _ h => h) (Or.inl ⟨by rfl, ?hy11⟩) (by assumption) ?hr11; (case hy11 => ((intro w hSw; (try dsimp only at hSw); go_simp) <;> with_reducible rfl)); try simp only [Act.put]
      refine wpAnyH_ready (rs := [20]) (by kernel_rfl) (by simp) ?_; refine AllReadyH.cons rfl (fun K hK => ?_) AllReadyH.nil; go_simp
      (with_reducible refine Calls.mono (WH.out (!hc) _) ?_); rintro e w' ⟨rfl, rfl⟩
      try go_wp2_with fail
      refine hK.out _ _ ?_ (fun hHeld => ?_)
      · try dsimp only
        exact (fun K => ⟨(blkC (A4.out.stay K).f).1, (blkC (A4.out.stay K).a).1, (blkC (A4.out.stay K).c).1, K⟩) (by repeat (first | exact hb9 | exact Below.refl _ _ | refine Below.drew ?_ | refine Below.alloc ?_ (by first | exact Nat.le_refl _ | exact hb9.size | (simp; done) | (have := hb9.size; simp; omega) | (simp; omega)) _))
      clear hK K; try simp only [Act.put, List.setIfInBounds_toArray, List.set_cons_zero, List.set_cons_succ]
      refine wpAnyH_ready (rs := [21]) (by kernel_rfl) (by simp) ?_; refine AllReadyH.cons rfl (fun K hK => ?_) AllReadyH.nil; go_simp
      refine hK.out _ _ ?_ (fun hHeld => ?_)
      · try dsimp only
        exact (fun K => ⟨(blkC (A4.out.stay K).f).1, (blkC (A4.out.stay K).a).1, (blkC (A4.out.stay K).c).1, K⟩) (by repeat (first | exact hb9 | exact Below.refl _ _ | refine Below.drew ?_ | refine Below.alloc ?_ (by first | exact Nat.le_refl _ | exact hb9.size | (simp; done) | (have := hb9.size; simp; omega) | (simp; omega)) _))
      clear hK K; try simp only [Act.put, List.setIfInBounds_toArray, List.set_cons_zero, List.set_cons_succ]
      refine wpAnyH_ready (rs := [22]) (by kernel_rfl) (by simp) ?_; refine AllReadyH.cons rfl (fun K hK => ?_) AllReadyH.nil; go_simp
      (with_reducible refine Calls.mono (FI2.out _ _ (by first | ((simp only [heap_alloc_get, if_true]) <;> ((repeat' split) <;> first | rfl | omega)) | ((simp only [heap_alloc_get, heap_size_alloc, if_true]) <;> ((repeat' split) <;> first | rfl | omega)))) ?_); rintro e w' ⟨rfl, rfl⟩
      try go_wp2_with fail
      refine hK.out _ _ ?_ (fun hHeld => ?_)
      · try dsimp only
        exact (fun K => ⟨(blkC (A4.out.stay K).f).1, (blkC (A4.out.stay K).a).1, (blkC (A4.out.stay K).c).1, K⟩) (by repeat (first | exact hb9 | exact Below.refl _ _ | refine Below.drew ?_ | refine Below.alloc ?_ (by first | exact Nat.le_refl _ | exact hb9.size | (simp; done) | (have := hb9.size; simp; omega) | (simp; omega)) _))
      clear hK K; try simp only [Act.put, List.setIfInBounds_toArray, List.set_cons_zero, List.set_cons_succ]
      refine wpAnyH_take (i := 23) (v := ?hv12) rfl (by kernel_rfl) (by kernel_rfl) (by kernel_rfl) (fun _ _ _ h => h) (Or.inl ⟨by rfl, ?hy12⟩) (by assumption) ?hr12; (case hy12 => ((intro w hSw; (try dsimp only at hSw); go_simp) <;> with_reducible rfl)); try simp only [Act.put]
      refine wpAnyH_done (by kernel_rfl) ?_ _
      have AH := Lib.hid (A4.out.stay hHeld.2.2.2)
      clear hHeld
      go_wp2
      go_ret
      exact ⟨rfl, AH.out.b⟩

set_option maxRecDepth 100000 in
set_option maxHeartbeats 8000000 in
theorem linBf (X Y W H : Int) (a : Option Addr) (n cap : Nat) (ax ay cx cy : Int) (w : World) (bxa bya bxc byc : Bool) (pe fe mm : Int) (hc : Bool)
    (WXA : Hid (∀ w, Calls Try.prog 9 #[.int .i64 ax, .int .i64 (-4194304), .int .i64 4194304] w fun e w' => e = .returned (.bool bxa) ∧ w = w'))
    (WYA : Hid (∀ w, Calls Try.prog 9 #[.int .i64 ay, .int .i64 (-4194304), .int .i64 4194304] w fun e w' => e = .returned (.bool bya) ∧ w = w'))
    (WXC : Hid (∀ w, Calls Try.prog 9 #[.int .i64 cx, .int .i64 (-4194304), .int .i64 4194304] w fun e w' => e = .returned (.bool bxc) ∧ w = w'))
    (WYC : Hid (∀ w, Calls Try.prog 9 #[.int .i64 cy, .int .i64 (-4194304), .int .i64 4194304] w fun e w' => e = .returned (.bool byc) ∧ w = w'))
    (hw2 : want2 bxa bya bxc byc = 0) (hmm : 65536 ≤ mm)
    (x1 : -4194304 ≤ ax) (x2 : ax ≤ 4194304) (x3 : -4194304 ≤ ay) (x4 : ay ≤ 4194304) (x5 : -4194304 ≤ cx) (x6 : cx ≤ 4194304) (x7 : -4194304 ≤ cy) (x8 : cy ≤ 4194304)
    (hmx : ∀ (W' : World) (ts : Array TypeId) (t : TypeId), (Builtin.max_ ts t #[.int .i64 (cx - ax), .int .i64 (ax - cx), .int .i64 (cy - ay), .int .i64 (ay - cy)]).run Try.prog W' = .ok (.int .i64 mm) W') (m0 : 0 ≤ mm) (m1 : mm ≤ 16777216)
    (LI : Hid (∀ w', Below w.heap.size w w' → Calls Try.prog 5 #[ptV ax ay, ptV cx cy] w' fun e w'' => e = .returned (.tuple #[.slice none 0 0, .int .i64 4]) ∧ Below w'.heap.size w' w''))
    (PR : Hid (∀ w', Below w.heap.size w w' → Calls Try.prog 6 #[fldV X Y W H (.slice a n cap), ptV ax ay, ptV cx cy] w' fun e w'' => e = .returned (.tuple #[.slice none 0 0, .int .i64 pe]) ∧ Below w'.heap.size w' w''))
    (FE : Hid (∀ w', Below w.heap.size w w' → Calls Try.prog 13 #[fldV X Y W H (.slice a n cap)] w' fun e w'' => e = .returned (.int .i64 fe) ∧ Below w'.heap.size w' w''))
    (HA : Hid (∀ w, Calls Try.prog 14 #[reg X Y W H, .int .i64 ax, .int .i64 ay] w fun e w' => e = .returned (.bool false) ∧ Below w.heap.size w w'))
    (FI2 : Hid (∀ p w, w.heap[p]? = some (.cells #[.int .i64 fe, .int .i64 (whenE true 5)] 30) → Calls Try.prog 7 #[.slice (some ⟨p, 0, none⟩) 2 2] w fun e w' => e = .returned (.int .i64 pe) ∧ w = w')) (hpe : (pe != 0) = true) :
    Calls Try.prog 3 #[fldV X Y W H (.slice a n cap), ptV ax ay, ptV cx cy] w fun e w' => e = .returned (.bool true) ∧ Below w.heap.size w w' := by
  have A0 := Lib.hid (LnAt.new w X Y W H (.slice a n cap) ax ay cx cy)
  have WH := Lib.hid (fun c w => when_any c 5 w)
  have FI := Lib.hid (fun x y p w h => first2_any x y p w h)
  have E1 := Lib.hid (show want1 bxa bya = firstE 0 (whenE (!bxa || !bya) 5) from rfl)
  have E2 := Lib.hid (show want2 bxa bya bxc byc = firstE (want1 bxa bya) (whenE (!bxc || !byc) 5) from rfl)
  rw [hw2] at E2
  clear hw2
  generalize want1 bxa bya = p1 at *
  go_enter Try.func3, Try.ntmps3
  go_wp2_with (first | (go_at_call 5; refine (LI.out _ (A0.out.b)).mono ?_; rintro e w1 ⟨rfl, hb1⟩; have A1 := Lib.hid (A0.out.stay hb1); clear hb1; obtain ⟨cF, fF, zF⟩ := blkC A1.out.f; obtain ⟨cA, fA, zA⟩ := blkC A1.out.a; obtain ⟨cC, fC, zC⟩ := blkC A1.out.c) | (go_at_call 6; refine (PR.out _ (A1.out.b)).mono ?_; rintro e w2 ⟨rfl, hb2⟩; have A2 := Lib.hid (A1.out.stay hb2); clear hb2; clear cF fF zF cA fA zA cC fC zC; obtain ⟨cF, fF, zF⟩ := blkC A2.out.f; obtain ⟨cA, fA, zA⟩ := blkC A2.out.a; obtain ⟨cC, fC, zC⟩ := blkC A2.out.c))
  have hl := heap_alloc_new w2 (.cells #[.int .i64 ax, .int .i64 ay, .int .i64 cx, .int .i64 cy] 28)
  have hbl : Below w2.heap.size w2 (w2.alloc (.cells #[.int .i64 ax, .int .i64 ay, .int .i64 cx, .int .i64 cy] 28)) := (Below.refl _ _).alloc (Nat.le_refl _) _
  have A3 := Lib.hid (A2.out.stay hbl)
  have HL3 := Lib.hid hl
  have BL3 := Lib.hid hbl
  obtain ⟨lp, hlp⟩ : ∃ lp, lp = w2.heap.size := ⟨_, rfl⟩
  rw [← hlp] at HL3 ⊢
  clear hl hbl hlp cF fF zF cA fA zA cC fC zC
  generalize w2.alloc (.cells #[.int .i64 ax, .int .i64 ay, .int .i64 cx, .int .i64 cy] 28) = w3 at *
  go_loopw [11, 31] (fun s11 s31 wr => ((s31 = .int .i64 0 ∧ s11 = .int .i64 0) ∨ (s31 = .int .i64 1 ∧ s11 = .int .i64 p1) ∨ (s31 = .int .i64 2 ∧ s11 = .int .i64 0)) ∧ Below w3.heap.size w3 wr) (fun _ s31 _ => 3 - (intOf s31).toNat)
  case atStart => exact ⟨.inl ⟨rfl, rfl⟩, Below.refl _ _⟩
  case round =>
    obtain ⟨hs, hb⟩ := hrel
    have HB := Lib.hid hb
    have AR := Lib.hid (A3.out.stay hb)
    obtain ⟨cL, fL, zL⟩ := blkC (blkStay HL3.out hb)
    clear hb
    rcases hs with ⟨rfl, rfl⟩ | ⟨rfl, rfl⟩ | ⟨rfl, rfl⟩
    · cases bxa
      · go_wp2_with (first | (go_at_call 9; (with_reducible refine (WXA.out _).mono ?_); rintro e w' ⟨rfl, rfl⟩) | (go_at_call 8; refine (WH.out _ _).mono ?_; rintro e w' ⟨rfl, rfl⟩) | (go_at_call 7; refine (FI.out 0 (whenE true 5) _ _ (by (first | (rw [heap_alloc_get, if_pos rfl]; done) | ((simp only [heap_alloc_get, heap_size_alloc, if_true]) <;> ((repeat' split) <;> first | rfl | omega))))).mono ?_; rintro e w' ⟨rfl, rfl⟩))
        go_roundw
        case rel => exact ⟨.inr (.inl ⟨rfl, congrArg (Value.int .i64) E1.out.symm⟩), HB.out.trans (Below.mono (show Below wr.heap.size wr _ from (by repeat (first | exact Below.refl _ _ | refine Below.alloc ?_ (by first | omega | (simp; done) | (simp; omega)) _ | refine Below.setCell ?_ (by first | omega | (simp; done) | (simp; omega)) _ | refine Below.drew ?_))) HB.out.size)⟩
        case measure => simp [intOf]
      · go_wp2_with (first | (go_at_call 9; (with_reducible refine (WXA.out _).mono ?_); rintro e w' ⟨rfl, rfl⟩) | (go_at_call 9; (with_reducible refine (WYA.out _).mono ?_); rintro e w' ⟨rfl, rfl⟩) | (go_at_call 8; refine (WH.out _ _).mono ?_; rintro e w' ⟨rfl, rfl⟩) | (go_at_call 7; refine (FI.out 0 (whenE (!bya) 5) _ _ (by (first | (rw [heap_alloc_get, if_pos rfl]; done) | ((simp only [heap_alloc_get, heap_size_alloc, if_true]) <;> ((repeat' split) <;> first | rfl | omega))))).mono ?_; rintro e w' ⟨rfl, rfl⟩))
        go_roundw
        case rel => exact ⟨.inr (.inl ⟨rfl, congrArg (Value.int .i64) E1.out.symm⟩), HB.out.trans (Below.mono (show Below wr.heap.size wr _ from (by repeat (first | exact Below.refl _ _ | refine Below.alloc ?_ (by first | omega | (simp; done) | (simp; omega)) _ | refine Below.setCell ?_ (by first | omega | (simp; done) | (simp; omega)) _ | refine Below.drew ?_))) HB.out.size)⟩
        case measure => simp [intOf]
    · cases bxc
      · go_wp2_with (first | (go_at_call 9; (with_reducible refine (WXC.out _).mono ?_); rintro e w' ⟨rfl, rfl⟩) | (go_at_call 8; refine (WH.out _ _).mono ?_; rintro e w' ⟨rfl, rfl⟩) | (go_at_call 7; refine (FI.out p1 (whenE true 5) _ _ (by (first | (rw [heap_alloc_get, if_pos rfl]; done) | ((simp only [heap_alloc_get, heap_size_alloc, if_true]) <;> ((repeat' split) <;> first | rfl | omega))))).mono ?_; rintro e w' ⟨rfl, rfl⟩))
        go_roundw
        case rel => exact ⟨.inr (.inr ⟨rfl, congrArg (Value.int .i64) E2.out.symm⟩), HB.out.trans (Below.mono (show Below wr.heap.size wr _ from (by repeat (first | exact Below.refl _ _ | refine Below.alloc ?_ (by first | omega | (simp; done) | (simp; omega)) _ | refine Below.setCell ?_ (by first | omega | (simp; done) | (simp; omega)) _ | refine Below.drew ?_))) HB.out.size)⟩
        case measure => simp [intOf]
      · go_wp2_with (first | (go_at_call 9; (with_reducible refine (WXC.out _).mono ?_); rintro e w' ⟨rfl, rfl⟩) | (go_at_call 9; (with_reducible refine (WYC.out _).mono ?_); rintro e w' ⟨rfl, rfl⟩) | (go_at_call 8; refine (WH.out _ _).mono ?_; rintro e w' ⟨rfl, rfl⟩) | (go_at_call 7; refine (FI.out p1 (whenE (!byc) 5) _ _ (by (first | (rw [heap_alloc_get, if_pos rfl]; done) | ((simp only [heap_alloc_get, heap_size_alloc, if_true]) <;> ((repeat' split) <;> first | rfl | omega))))).mono ?_; rintro e w' ⟨rfl, rfl⟩))
        go_roundw
        case rel => exact ⟨.inr (.inr ⟨rfl, congrArg (Value.int .i64) E2.out.symm⟩), HB.out.trans (Below.mono (show Below wr.heap.size wr _ from (by repeat (first | exact Below.refl _ _ | refine Below.alloc ?_ (by first | omega | (simp; done) | (simp; omega)) _ | refine Below.setCell ?_ (by first | omega | (simp; done) | (simp; omega)) _ | refine Below.drew ?_))) HB.out.size)⟩
        case measure => simp [intOf]
    · obtain ⟨cF, fF, zF⟩ := blkC AR.out.f
      obtain ⟨cA, fA, zA⟩ := blkC AR.out.a
      obtain ⟨cC, fC, zC⟩ := blkC AR.out.c
      clear cL fL zL
      go_wp2_with (go_at_call 10; refine (levels_any _).mono ?_; rintro e w4 ⟨rfl, hb4⟩; have A4 := Lib.hid (AR.out.stay hb4); clear hb4; clear cF fF zF cA fA zA cC fC zC; obtain ⟨cF, fF, zF⟩ := blkC A4.out.f; obtain ⟨cA, fA, zA⟩ := blkC A4.out.a; obtain ⟨cC, fC, zC⟩ := blkC A4.out.c)
      refine wp_region_held_drew (S := (fun w' => (∀ o, w'.cell? ⟨w.heap.size, o, none⟩ = #[.int .i64 X, .int .i64 Y, .int .i64 W, .int .i64 H, .slice a n cap][o]?) ∧ (∀ o, w'.cell? ⟨w.heap.size + 1, o, none⟩ = #[.int .i64 ax, .int .i64 ay][o]?) ∧ (∀ o, w'.cell? ⟨w.heap.size + 1 + 1, o, none⟩ = #[.int .i64 cx, .int .i64 cy][o]?) ∧ Below w4.heap.size w4 w')) (by kernel_rfl) ?_ (fun hHeld => ?_)
      · try dsimp only
        exact (fun K => ⟨(blkC (A4.out.stay K).f).1, (blkC (A4.out.stay K).a).1, (blkC (A4.out.stay K).c).1, K⟩) (by repeat (first | exact hb9 | exact Below.refl _ _ | refine Below.drew ?_ | refine Below.alloc ?_ (by first | exact Nat.le_refl _ | exact hb9.size | (simp; done) | (have := hb9.size; simp; omega) | (simp; omega)) _))
      refine wpAnyH_take (i := 0) (v := ?hv2) rfl (by kernel_rfl) (by kernel_rfl) (by kernel_rfl) (fun _ _ _ h => h) (Or.inl ⟨by rfl, ?hy2⟩) (by assumption) ?hr2; (case hy2 => ((intro w hSw; (try dsimp only at hSw); go_simp) <;> with_reducible rfl)); try simp only [Act.put, List.setIfInBounds_toArray]
      refine wpAnyH_take (i := 2) (v := ?hv13) rfl (by kernel_rfl) (by kernel_rfl) (by kernel_rfl) (fun _ _ _ h => h) (Or.inl ⟨by rfl, ?hy13⟩) (by assumption) ?hr13; (case hy13 => ((intro w hSw; (try dsimp only at hSw); go_simp) <;> with_reducible rfl)); try simp only [Act.put]
      refine wpAnyH_take (i := 3) (v := ?hv14) rfl (by kernel_rfl) (by kernel_rfl) (by kernel_rfl) (fun _ _ _ h => h) (Or.inl ⟨by rfl, ?hy14⟩) (by assumption) ?hr14; (case hy14 => ((intro w hSw; (try dsimp only at hSw); go_simp) <;> with_reducible rfl)); try simp only [Act.put]
      refine wpAnyH_take (i := 4) (v := ?hv15) rfl (by kernel_rfl) (by kernel_rfl) (by kernel_rfl) (fun _ _ _ h => h) (Or.inl ⟨by rfl, ?hy15⟩) (by assumption) ?hr15; (case hy15 => ((intro w hSw; (try dsimp only at hSw); go_simp) <;> with_reducible rfl)); try simp only [Act.put]
      refine wpAnyH_take (i := 5) (v := ?hv16) rfl (by kernel_rfl) (by kernel_rfl) (by kernel_rfl) (fun _ _ _ h => h) (Or.inl ⟨by rfl, ?hy16⟩) (by assumption) ?hr16; (case hy16 => ((intro w hSw; (try dsimp only at hSw); go_simp) <;> with_reducible rfl)); try simp only [Act.put]
      refine wpAnyH_take (i := 6) (v := ?hv17) rfl (by kernel_rfl) (by kernel_rfl) (by kernel_rfl) (fun _ _ _ h => h) (Or.inl ⟨by rfl, ?hy17⟩) (by assumption) ?hr17; (case hy17 => ((intro w hSw; (try dsimp only at hSw); go_simp) <;> with_reducible rfl)); try simp only [Act.put]
      refine wpAnyH_take (i := 7) (v := ?hv18) rfl (by kernel_rfl) (by kernel_rfl) (by kernel_rfl) (fun _ _ _ h => h) (Or.inl ⟨by rfl, ?hy18⟩) (by assumption) ?hr18; (case hy18 => ((intro w hSw; (try dsimp only at hSw); go_simp) <;> with_reducible rfl)); try simp only [Act.put]
      refine wpAnyH_ready (rs := [1]) (by kernel_rfl) (by simp) ?_; refine AllReadyH.cons rfl (fun K hK => ?_) AllReadyH.nil; go_simp
      (with_reducible refine Calls.mono (FE.out _ (A4.out.b.trans (Below.mono (by repeat (first | exact hb9 | exact Below.refl _ _ | refine Below.drew ?_ | refine Below.alloc ?_ (by first | exact Nat.le_refl _ | exact hb9.size | (simp; done) | (have := hb9.size; simp; omega) | (simp; omega)) _)) A4.out.b.size))) ?_); rintro e w1r ⟨rfl, hb8⟩
      have hb7 : Below w4.heap.size w4 w1r := Below.trans (by repeat (first | exact hb9 | exact Below.refl _ _ | refine Below.drew ?_ | refine Below.alloc ?_ (by first | exact Nat.le_refl _ | exact hb9.size | (simp; done) | (have := hb9.size; simp; omega) | (simp; omega)) _)) (Below.mono hb8 (by first | exact Nat.le_refl _ | exact hb9.size | (simp; done) | (have := hb9.size; simp; omega) | (simp; omega)))
      clear hb8; (try clear hb9); have hb9 := hb7; clear hb7
      try go_wp2_with fail
      refine hK.out _ _ ?_ (fun hHeld => ?_)
      · try dsimp only
        exact (fun K => ⟨(blkC (A4.out.stay K).f).1, (blkC (A4.out.stay K).a).1, (blkC (A4.out.stay K).c).1, K⟩) (by repeat (first | exact hb9 | exact Below.refl _ _ | refine Below.drew ?_ | refine Below.alloc ?_ (by first | exact Nat.le_refl _ | exact hb9.size | (simp; done) | (have := hb9.size; simp; omega) | (simp; omega)) _))
      clear hK K; try simp only [Act.put, List.setIfInBounds_toArray, List.set_cons_zero, List.set_cons_succ]
      refine wpAnyH_ready (rs := [8]) (by kernel_rfl) (by simp) ?_; refine AllReadyH.cons rfl (fun K hK => ?_) AllReadyH.nil; go_simp
      (with_reducible refine Calls.mono (HA.out _) ?_); rintro e w8r ⟨rfl, hb8⟩
      have hb7 : Below w4.heap.size w4 w8r := Below.trans (by repeat (first | exact hb9 | exact Below.refl _ _ | refine Below.drew ?_ | refine Below.alloc ?_ (by first | exact Nat.le_refl _ | exact hb9.size | (simp; done) | (have := hb9.size; simp; omega) | (simp; omega)) _)) (Below.mono hb8 (by first | exact Nat.le_refl _ | exact hb9.size | (simp; done) | (have := hb9.size; simp; omega) | (simp; omega)))
      clear hb8; (try clear hb9); have hb9 := hb7; clear hb7
      try go_wp2_with fail
      refine hK.out _ _ ?_ (fun hHeld => ?_)
      · try dsimp only
        exact (fun K => ⟨(blkC (A4.out.stay K).f).1, (blkC (A4.out.stay K).a).1, (blkC (A4.out.stay K).c).1, K⟩) (by repeat (first | exact hb9 | exact Below.refl _ _ | refine Below.drew ?_ | refine Below.alloc ?_ (by first | exact Nat.le_refl _ | exact hb9.size | (simp; done) | (have := hb9.size; simp; omega) | (simp; omega)) _))
      clear hK K; try simp only [Act.put, List.setIfInBounds_toArray, List.set_cons_zero, List.set_cons_succ]
      refine wpAnyH_take (i := 9) (v := ?hv19) rfl (by kernel_rfl) (by kernel_rfl) (by kernel_rfl) (fun _ _ _ h => h) (Or.inl ⟨by rfl, ?hy19⟩) (by assumption) ?hr19; (case hy19 => ((intro w hSw; (try dsimp only at hSw); go_simp) <;> with_reducible rfl)); try simp only [Act.put]
      refine wpAnyH_take (i := 10) (v := ?hv20) rfl (by kernel_rfl) (by kernel_rfl) (by kernel_rfl) (fun _ _ _ h => h) (Or.inl ⟨by rfl, ?hy20⟩) (by assumption) ?hr20; (case hy20 => ((intro w hSw; (try dsimp only at hSw); go_simp) <;> with_reducible rfl)); try simp only [Act.put]
      refine wpAnyH_take (i := 11) (v := undef) rfl (by kernel_rfl) (by kernel_rfl) (by kernel_rfl) (fun _ _ _ h => h) (Or.inr ⟨by kernel_rfl, rfl⟩) (by assumption) ?_; try simp only [Act.put]
      refine wpAnyH_take (i := 12) (v := undef) rfl (by kernel_rfl) (by kernel_rfl) (by kernel_rfl) (fun _ _ _ h => h) (Or.inr ⟨by kernel_rfl, rfl⟩) (by assumption) ?_; try simp only [Act.put]
      refine wpAnyH_take (i := 13) (v := undef) rfl (by kernel_rfl) (by kernel_rfl) (by kernel_rfl) (fun _ _ _ h => h) (Or.inr ⟨by kernel_rfl, rfl⟩) (by assumption) ?_; try simp only [Act.put]
      refine wpAnyH_take (i := 14) (v := undef) rfl (by kernel_rfl) (by kernel_rfl) (by kernel_rfl) (fun _ _ _ h => h) (Or.inr ⟨by kernel_rfl, rfl⟩) (by assumption) ?_; try simp only [Act.put]
      refine wpAnyH_take (i := 15) (v := undef) rfl (by kernel_rfl) (by kernel_rfl) (by kernel_rfl) (fun _ _ _ h => h) (Or.inr ⟨by kernel_rfl, rfl⟩) (by assumption) ?_; try simp only [Act.put]
      refine wpAnyH_take (i := 16) (v := undef) rfl (by kernel_rfl) (by kernel_rfl) (by kernel_rfl) (fun _ _ _ h => h) (Or.inr ⟨by kernel_rfl, rfl⟩) (by assumption) ?_; try simp only [Act.put]
      refine wpAnyH_take (i := 17) (v := undef) rfl (by kernel_rfl) (by kernel_rfl) (by kernel_rfl) (fun _ _ _ h => h) (Or.inr ⟨by kernel_rfl, rfl⟩) (by assumption) ?_; try simp only [Act.put]
      refine wpAnyH_take (i := 18) (v := undef) rfl (by kernel_rfl) (by kernel_rfl) (by kernel_rfl) (fun _ _ _ h => h) (Or.inr ⟨by kernel_rfl, rfl⟩) (by assumption) ?_; try simp only [Act.put]
      refine wpAnyH_take (i := 19) (v := ?hv21) rfl (by kernel_rfl) (by kernel_rfl) (by kernel_rfl) (fun _ _ _ h => h) (Or.inl ⟨by rfl, ?hy21⟩) (by assumption) ?hr21; (case hy21 => ((intro w hSw; (try dsimp only at hSw); go_simp) <;> with_reducible rfl)); try simp only [Act.put]
      refine wpAnyH_ready (rs := [20]) (by kernel_rfl) (by simp) ?_; refine AllReadyH.cons rfl (fun K hK => ?_) AllReadyH.nil; go_simp
      (with_reducible refine Calls.mono (WH.out true _) ?_); rintro e w' ⟨rfl, rfl⟩
      try go_wp2_with fail
      refine hK.out _ _ ?_ (fun hHeld => ?_)
      · try dsimp only
        exact (fun K => ⟨(blkC (A4.out.stay K).f).1, (blkC (A4.out.stay K).a).1, (blkC (A4.out.stay K).c).1, K⟩) (by repeat (first | exact hb9 | exact Below.refl _ _ | refine Below.drew ?_ | refine Below.alloc ?_ (by first | exact Nat.le_refl _ | exact hb9.size | (simp; done) | (have := hb9.size; simp; omega) | (simp; omega)) _))
      clear hK K; try simp only [Act.put, List.setIfInBounds_toArray, List.set_cons_zero, List.set_cons_succ]
      refine wpAnyH_ready (rs := [21]) (by kernel_rfl) (by simp) ?_; refine AllReadyH.cons rfl (fun K hK => ?_) AllReadyH.nil; go_simp
      refine hK.out _ _ ?_ (fun hHeld => ?_)
      · try dsimp only
        exact (fun K => ⟨(blkC (A4.out.stay K).f).1, (blkC (A4.out.stay K).a).1, (blkC (A4.out.stay K).c).1, K⟩) (by repeat (first | exact hb9 | exact Below.refl _ _ | refine Below.drew ?_ | refine Below.alloc ?_ (by first | exact Nat.le_refl _ | exact hb9.size | (simp; done) | (have := hb9.size; simp; omega) | (simp; omega)) _))
      clear hK K; try simp only [Act.put, List.setIfInBounds_toArray, List.set_cons_zero, List.set_cons_succ]
      refine wpAnyH_ready (rs := [22]) (by kernel_rfl) (by simp) ?_; refine AllReadyH.cons rfl (fun K hK => ?_) AllReadyH.nil; go_simp
      (with_reducible refine Calls.mono (FI2.out _ _ (by first | ((simp only [heap_alloc_get, if_true]) <;> ((repeat' split) <;> first | rfl | omega)) | ((simp only [heap_alloc_get, heap_size_alloc, if_true]) <;> ((repeat' split) <;> first | rfl | omega)))) ?_); rintro e w' ⟨rfl, rfl⟩
      try go_wp2_with fail
      refine hK.out _ _ ?_ (fun hHeld => ?_)
      · try dsimp only
        exact (fun K => ⟨(blkC (A4.out.stay K).f).1, (blkC (A4.out.stay K).a).1, (blkC (A4.out.stay K).c).1, K⟩) (by repeat (first | exact hb9 | exact Below.refl _ _ | refine Below.drew ?_ | refine Below.alloc ?_ (by first | exact Nat.le_refl _ | exact hb9.size | (simp; done) | (have := hb9.size; simp; omega) | (simp; omega)) _))
      clear hK K; try simp only [Act.put, List.setIfInBounds_toArray, List.set_cons_zero, List.set_cons_succ]
      refine wpAnyH_take (i := 23) (v := ?hv22) rfl (by kernel_rfl) (by kernel_rfl) (by kernel_rfl) (fun _ _ _ h => h) (Or.inl ⟨by rfl, ?hy22⟩) (by assumption) ?hr22; (case hy22 => ((intro w hSw; (try dsimp only at hSw); go_simp) <;> with_reducible rfl)); try simp only [Act.put]
      refine wpAnyH_done (by kernel_rfl) ?_ _
      have AH := Lib.hid (A4.out.stay hHeld.2.2.2)
      clear hHeld
      go_wp2
      go_ret
      exact ⟨rfl, AH.out.b⟩
end Go.Proofs.Ytjjafjdjdjonfaa

/- LinesMatch, walked: the line is right, Profile is an error. -/
namespace Go.Proofs.Ytjjafjdjdjonfaa
open Go.RowKit Fl
set_option linter.unusedVariables false

set_option maxRecDepth 100000 in
set_option maxHeartbeats 8000000 in
theorem linCt (X Y W H : Int) (a : Option Addr) (n cap : Nat) (ax ay cx cy : Int) (w : World) (bxa bya bxc byc : Bool) (pe fe mm : Int) (hc : Bool) (M : Nat) (T : Nat → Pnt)
    (WXA : Hid (∀ w, Calls Try.prog 9 #[.int .i64 ax, .int .i64 (-4194304), .int .i64 4194304] w fun e w' => e = .returned (.bool bxa) ∧ w = w'))
    (WYA : Hid (∀ w, Calls Try.prog 9 #[.int .i64 ay, .int .i64 (-4194304), .int .i64 4194304] w fun e w' => e = .returned (.bool bya) ∧ w = w'))
    (WXC : Hid (∀ w, Calls Try.prog 9 #[.int .i64 cx, .int .i64 (-4194304), .int .i64 4194304] w fun e w' => e = .returned (.bool bxc) ∧ w = w'))
    (WYC : Hid (∀ w, Calls Try.prog 9 #[.int .i64 cy, .int .i64 (-4194304), .int .i64 4194304] w fun e w' => e = .returned (.bool byc) ∧ w = w'))
    (hw2 : want2 bxa bya bxc byc = 0) (hmm : mm ≤ 65535)
    (x1 : -4194304 ≤ ax) (x2 : ax ≤ 4194304) (x3 : -4194304 ≤ ay) (x4 : ay ≤ 4194304) (x5 : -4194304 ≤ cx) (x6 : cx ≤ 4194304) (x7 : -4194304 ≤ cy) (x8 : cy ≤ 4194304)
    (hmx : ∀ (W' : World) (ts : Array TypeId) (t : TypeId), (Builtin.max_ ts t #[.int .i64 (cx - ax), .int .i64 (ax - cx), .int .i64 (cy - ay), .int .i64 (ay - cy)]).run Try.prog W' = .ok (.int .i64 mm) W') (m0 : 0 ≤ mm) (m1 : mm ≤ 16777216)
    (HM1 : Hid (1 ≤ M)) (HM : Hid (M ≤ 65536)) (LI : Hid (∀ w', Below w.heap.size w w' → Calls Try.prog 5 #[ptV ax ay, ptV cx cy] w' (LinePost w' M T)))
    (LO : Hid (∀ w', Calls Try.prog 12 #[ptV ax ay, ptV cx cy] w' (PtsPost w' M T)))
    (PR : Hid (∀ w', Below w.heap.size w w' → Calls Try.prog 6 #[fldV X Y W H (.slice a n cap), ptV ax ay, ptV cx cy] w' fun e w'' => e = .returned (.tuple #[.slice none 0 0, .int .i64 pe]) ∧ Below w'.heap.size w' w''))
    (FE : Hid (∀ w', Below w.heap.size w w' → Calls Try.prog 13 #[fldV X Y W H (.slice a n cap)] w' fun e w'' => e = .returned (.int .i64 fe) ∧ Below w'.heap.size w' w''))
    (HA : Hid (∀ w, Calls Try.prog 14 #[reg X Y W H, .int .i64 ax, .int .i64 ay] w fun e w' => e = .returned (.bool true) ∧ Below w.heap.size w w'))
    (HC : Hid (∀ w, Calls Try.prog 14 #[reg X Y W H, .int .i64 cx, .int .i64 cy] w fun e w' => e = .returned (.bool hc) ∧ Below w.heap.size w w'))
    (FI2 : Hid (∀ p w, w.heap[p]? = some (.cells #[.int .i64 fe, .int .i64 (whenE (!hc) 5)] 30) → Calls Try.prog 7 #[.slice (some ⟨p, 0, none⟩) 2 2] w fun e w' => e = .returned (.int .i64 pe) ∧ w = w')) (hpe : (pe != 0) = true) :
    Calls Try.prog 3 #[fldV X Y W H (.slice a n cap), ptV ax ay, ptV cx cy] w fun e w' => e = .returned (.bool true) ∧ Below w.heap.size w w' := by
  have A0 := Lib.hid (LnAt.new w X Y W H (.slice a n cap) ax ay cx cy)
  have WH := Lib.hid (fun c w => when_any c 5 w)
  have FI := Lib.hid (fun x y p w h => first2_any x y p w h)
  have E1 := Lib.hid (show want1 bxa bya = firstE 0 (whenE (!bxa || !bya) 5) from rfl)
  have E2 := Lib.hid (show want2 bxa bya bxc byc = firstE (want1 bxa bya) (whenE (!bxc || !byc) 5) from rfl)
  rw [hw2] at E2
  clear hw2
  generalize want1 bxa bya = p1 at *
  go_enter Try.func3, Try.ntmps3
  go_wp2_with (first | (go_at_call 5; refine (LI.out _ (A0.out.b)).mono ?_; rintro e w1 ⟨gl, lc, rfl, hgl, hrl, hb1⟩; have A1 := Lib.hid (A0.out.stay hb1); have RL1 := Lib.hid hrl; clear hb1 hgl hrl; obtain ⟨cF, fF, zF⟩ := blkC A1.out.f; obtain ⟨cA, fA, zA⟩ := blkC A1.out.a; obtain ⟨cC, fC, zC⟩ := blkC A1.out.c) | (go_at_call 6; refine (PR.out _ (A1.out.b)).mono ?_; rintro e w2 ⟨rfl, hb2⟩; have A2 := Lib.hid (A1.out.stay hb2); have RL2 := Lib.hid (RL1.out.stay hb2); clear hb2; clear cF fF zF cA fA zA cC fC zC; obtain ⟨cF, fF, zF⟩ := blkC A2.out.f; obtain ⟨cA, fA, zA⟩ := blkC A2.out.a; obtain ⟨cC, fC, zC⟩ := blkC A2.out.c))
  have hl := heap_alloc_new w2 (.cells #[.int .i64 ax, .int .i64 ay, .int .i64 cx, .int .i64 cy] 28)
  have hbl : Below w2.heap.size w2 (w2.alloc (.cells #[.int .i64 ax, .int .i64 ay, .int .i64 cx, .int .i64 cy] 28)) := (Below.refl _ _).alloc (Nat.le_refl _) _
  have A3 := Lib.hid (A2.out.stay hbl)
  have HL3 := Lib.hid hl
  have BL3 := Lib.hid hbl
  obtain ⟨lp, hlp⟩ : ∃ lp, lp = w2.heap.size := ⟨_, rfl⟩
  rw [← hlp] at HL3 ⊢
  clear hl hbl hlp cF fF zF cA fA zA cC fC zC
  generalize w2.alloc (.cells #[.int .i64 ax, .int .i64 ay, .int .i64 cx, .int .i64 cy] 28) = w3 at *
  go_loopw [11, 31] (fun s11 s31 wr => ((s31 = .int .i64 0 ∧ s11 = .int .i64 0) ∨ (s31 = .int .i64 1 ∧ s11 = .int .i64 p1) ∨ (s31 = .int .i64 2 ∧ s11 = .int .i64 0)) ∧ Below w3.heap.size w3 wr) (fun _ s31 _ => 3 - (intOf s31).toNat)
  case atStart => exact ⟨.inl ⟨rfl, rfl⟩, Below.refl _ _⟩
  case round =>
    obtain ⟨hs, hb⟩ := hrel
    have HB := Lib.hid hb
    have AR := Lib.hid (A3.out.stay hb)
    obtain ⟨cL, fL, zL⟩ := blkC (blkStay HL3.out hb)
    clear hb
    rcases hs with ⟨rfl, rfl⟩ | ⟨rfl, rfl⟩ | ⟨rfl, rfl⟩
    · cases bxa
      · go_wp2_with (first | (go_at_call 9; (with_reducible refine (WXA.out _).mono ?_); rintro e w' ⟨rfl, rfl⟩) | (go_at_call 8; refine (WH.out _ _).mono ?_; rintro e w' ⟨rfl, rfl⟩) | (go_at_call 7; refine (FI.out 0 (whenE true 5) _ _ (by (first | (rw [heap_alloc_get, if_pos rfl]; done) | ((simp only [heap_alloc_get, heap_size_alloc, if_true]) <;> ((repeat' split) <;> first | rfl | omega))))).mono ?_; rintro e w' ⟨rfl, rfl⟩))
        go_roundw
        case rel => exact ⟨.inr (.inl ⟨rfl, congrArg (Value.int .i64) E1.out.symm⟩), HB.out.trans (Below.mono (show Below wr.heap.size wr _ from (by repeat (first | exact Below.refl _ _ | refine Below.alloc ?_ (by first | omega | (simp; done) | (simp; omega)) _ | refine Below.setCell ?_ (by first | omega | (simp; done) | (simp; omega)) _ | refine Below.drew ?_))) HB.out.size)⟩
        case measure => simp [intOf]
      · go_wp2_with (first | (go_at_call 9; (with_reducible refine (WXA.out _).mono ?_); rintro e w' ⟨rfl, rfl⟩) | (go_at_call 9; (with_reducible refine (WYA.out _).mono ?_); rintro e w' ⟨rfl, rfl⟩) | (go_at_call 8; refine (WH.out _ _).mono ?_; rintro e w' ⟨rfl, rfl⟩) | (go_at_call 7; refine (FI.out 0 (whenE (!bya) 5) _ _ (by (first | (rw [heap_alloc_get, if_pos rfl]; done) | ((simp only [heap_alloc_get, heap_size_alloc, if_true]) <;> ((repeat' split) <;> first | rfl | omega))))).mono ?_; rintro e w' ⟨rfl, rfl⟩))
        go_roundw
        case rel => exact ⟨.inr (.inl ⟨rfl, congrArg (Value.int .i64) E1.out.symm⟩), HB.out.trans (Below.mono (show Below wr.heap.size wr _ from (by repeat (first | exact Below.refl _ _ | refine Below.alloc ?_ (by first | omega | (simp; done) | (simp; omega)) _ | refine Below.setCell ?_ (by first | omega | (simp; done) | (simp; omega)) _ | refine Below.drew ?_))) HB.out.size)⟩
        case measure => simp [intOf]
    · cases bxc
      · go_wp2_with (first | (go_at_call 9; (with_reducible refine (WXC.out _).mono ?_); rintro e w' ⟨rfl, rfl⟩) | (go_at_call 8; refine (WH.out _ _).mono ?_; rintro e w' ⟨rfl, rfl⟩) | (go_at_call 7; refine (FI.out p1 (whenE true 5) _ _ (by (first | (rw [heap_alloc_get, if_pos rfl]; done) | ((simp only [heap_alloc_get, heap_size_alloc, if_true]) <;> ((repeat' split) <;> first | rfl | omega))))).mono ?_; rintro e w' ⟨rfl, rfl⟩))
        go_roundw
        case rel => exact ⟨.inr (.inr ⟨rfl, congrArg (Value.int .i64) E2.out.symm⟩), HB.out.trans (Below.mono (show Below wr.heap.size wr _ from (by repeat (first | exact Below.refl _ _ | refine Below.alloc ?_ (by first | omega | (simp; done) | (simp; omega)) _ | refine Below.setCell ?_ (by first | omega | (simp; done) | (simp; omega)) _ | refine Below.drew ?_))) HB.out.size)⟩
        case measure => simp [intOf]
      · go_wp2_with (first | (go_at_call 9; (with_reducible refine (WXC.out _).mono ?_); rintro e w' ⟨rfl, rfl⟩) | (go_at_call 9; (with_reducible refine (WYC.out _).mono ?_); rintro e w' ⟨rfl, rfl⟩) | (go_at_call 8; refine (WH.out _ _).mono ?_; rintro e w' ⟨rfl, rfl⟩) | (go_at_call 7; refine (FI.out p1 (whenE (!byc) 5) _ _ (by (first | (rw [heap_alloc_get, if_pos rfl]; done) | ((simp only [heap_alloc_get, heap_size_alloc, if_true]) <;> ((repeat' split) <;> first | rfl | omega))))).mono ?_; rintro e w' ⟨rfl, rfl⟩))
        go_roundw
        case rel => exact ⟨.inr (.inr ⟨rfl, congrArg (Value.int .i64) E2.out.symm⟩), HB.out.trans (Below.mono (show Below wr.heap.size wr _ from (by repeat (first | exact Below.refl _ _ | refine Below.alloc ?_ (by first | omega | (simp; done) | (simp; omega)) _ | refine Below.setCell ?_ (by first | omega | (simp; done) | (simp; omega)) _ | refine Below.drew ?_))) HB.out.size)⟩
        case measure => simp [intOf]
    · obtain ⟨cF, fF, zF⟩ := blkC AR.out.f
      obtain ⟨cA, fA, zA⟩ := blkC AR.out.a
      obtain ⟨cC, fC, zC⟩ := blkC AR.out.c
      clear cL fL zL
      go_wp2_with (first | (go_at_call 10; refine (levels_any _).mono ?_; rintro e w4 ⟨rfl, hb4⟩; have A4 := Lib.hid (AR.out.stay hb4); have B4 := Lib.hid hb4; have RL4 := Lib.hid (((RL2.out.stay BL3.out).stay HB.out).stay hb4); clear hb4; clear cF fF zF cA fA zA cC fC zC; obtain ⟨cF, fF, zF⟩ := blkC A4.out.f; obtain ⟨cA, fA, zA⟩ := blkC A4.out.a; obtain ⟨cC, fC, zC⟩ := blkC A4.out.c) | (go_at_call 12; refine (LO.out _).mono ?_; rintro e w5 ⟨go, oc, rfl, hgo, hro, hb5⟩; have A5 := Lib.hid (A4.out.stay hb5); have B5 := Lib.hid hb5; have RL5 := Lib.hid (RL4.out.stay hb5); have RO5 := Lib.hid hro; clear hb5 hgo hro; clear cF fF zF cA fA zA cC fC zC; obtain ⟨cF, fF, zF⟩ := blkC A5.out.f; obtain ⟨cA, fA, zA⟩ := blkC A5.out.a; obtain ⟨cC, fC, zC⟩ := blkC A5.out.c) | (go_at_call 11; refine (equalPt_any _ _ _ _ _ T _ HM.out RL5.out RO5.out).mono ?_; rintro e w6 ⟨rfl, hb6⟩; have A6 := Lib.hid (A5.out.stay hb6); have B6 := Lib.hid hb6; clear hb6; clear cF fF zF cA fA zA cC fC zC; obtain ⟨cF, fF, zF⟩ := blkC A6.out.f; obtain ⟨cA, fA, zA⟩ := blkC A6.out.a; obtain ⟨cC, fC, zC⟩ := blkC A6.out.c))
      refine wp_region_held_drew (S := (fun w' => (∀ o, w'.cell? ⟨w.heap.size, o, none⟩ = #[.int .i64 X, .int .i64 Y, .int .i64 W, .int .i64 H, .slice a n cap][o]?) ∧ (∀ o, w'.cell? ⟨w.heap.size + 1, o, none⟩ = #[.int .i64 ax, .int .i64 ay][o]?) ∧ (∀ o, w'.cell? ⟨w.heap.size + 1 + 1, o, none⟩ = #[.int .i64 cx, .int .i64 cy][o]?) ∧ Below w6.heap.size w6 w')) (by kernel_rfl) ?_ (fun hHeld => ?_)
      · try dsimp only
        exact (fun K => ⟨(blkC (A6.out.stay K).f).1, (blkC (A6.out.stay K).a).1, (blkC (A6.out.stay K).c).1, K⟩) (by repeat (first | exact hb9 | exact Below.refl _ _ | refine Below.drew ?_ | refine Below.alloc ?_ (by first | exact Nat.le_refl _ | exact hb9.size | (simp; done) | (have := hb9.size; simp; omega) | (simp; omega)) _))
      refine wpAnyH_take (i := 0) (v := ?hv1) rfl (by kernel_rfl) (by kernel_rfl) (by kernel_rfl) (fun _ _ _ h => h) (Or.inl ⟨by rfl, ?hy1⟩) (by assumption) ?hr1; (case hy1 => ((intro w hSw; (try dsimp only at hSw); go_simp) <;> with_reducible rfl)); try simp only [Act.put, List.setIfInBounds_toArray]
      refine wpAnyH_take (i := 2) (v := ?hv3) rfl (by kernel_rfl) (by kernel_rfl) (by kernel_rfl) (fun _ _ _ h => h) (Or.inl ⟨by rfl, ?hy3⟩) (by assumption) ?hr3; (case hy3 => ((intro w hSw; (try dsimp only at hSw); go_simp) <;> with_reducible rfl)); try simp only [Act.put]
      refine wpAnyH_take (i := 3) (v := ?hv4) rfl (by kernel_rfl) (by kernel_rfl) (by kernel_rfl) (fun _ _ _ h => h) (Or.inl ⟨by rfl, ?hy4⟩) (by assumption) ?hr4; (case hy4 => ((intro w hSw; (try dsimp only at hSw); go_simp) <;> with_reducible rfl)); try simp only [Act.put]
      refine wpAnyH_take (i := 4) (v := ?hv5) rfl (by kernel_rfl) (by kernel_rfl) (by kernel_rfl) (fun _ _ _ h => h) (Or.inl ⟨by rfl, ?hy5⟩) (by assumption) ?hr5; (case hy5 => ((intro w hSw; (try dsimp only at hSw); go_simp) <;> with_reducible rfl)); try simp only [Act.put]
      refine wpAnyH_take (i := 5) (v := ?hv6) rfl (by kernel_rfl) (by kernel_rfl) (by kernel_rfl) (fun _ _ _ h => h) (Or.inl ⟨by rfl, ?hy6⟩) (by assumption) ?hr6; (case hy6 => ((intro w hSw; (try dsimp only at hSw); go_simp) <;> with_reducible rfl)); try simp only [Act.put]
      refine wpAnyH_take (i := 6) (v := ?hv7) rfl (by kernel_rfl) (by kernel_rfl) (by kernel_rfl) (fun _ _ _ h => h) (Or.inl ⟨by rfl, ?hy7⟩) (by assumption) ?hr7; (case hy7 => ((intro w hSw; (try dsimp only at hSw); go_simp) <;> with_reducible rfl)); try simp only [Act.put]
      refine wpAnyH_take (i := 7) (v := ?hv8) rfl (by kernel_rfl) (by kernel_rfl) (by kernel_rfl) (fun _ _ _ h => h) (Or.inl ⟨by rfl, ?hy8⟩) (by assumption) ?hr8; (case hy8 => ((intro w hSw; (try dsimp only at hSw); go_simp) <;> with_reducible rfl)); try simp only [Act.put]
      refine wpAnyH_ready (rs := [1]) (by kernel_rfl) (by simp) ?_; refine AllReadyH.cons rfl (fun K hK => ?_) AllReadyH.nil; go_simp
      (with_reducible refine Calls.mono (FE.out _ (A6.out.b.trans (Below.mono (by repeat (first | exact hb9 | exact Below.refl _ _ | refine Below.drew ?_ | refine Below.alloc ?_ (by first | exact Nat.le_refl _ | exact hb9.size | (simp; done) | (have := hb9.size; simp; omega) | (simp; omega)) _)) A6.out.b.size))) ?_); rintro e w1r ⟨rfl, hb8⟩
      have hb7 : Below w6.heap.size w6 w1r := Below.trans (by repeat (first | exact hb9 | exact Below.refl _ _ | refine Below.drew ?_ | refine Below.alloc ?_ (by first | exact Nat.le_refl _ | exact hb9.size | (simp; done) | (have := hb9.size; simp; omega) | (simp; omega)) _)) (Below.mono hb8 (by first | exact Nat.le_refl _ | exact hb9.size | (simp; done) | (have := hb9.size; simp; omega) | (simp; omega)))
      clear hb8; (try clear hb9); have hb9 := hb7; clear hb7
      try go_wp2_with fail
      refine hK.out _ _ ?_ (fun hHeld => ?_)
      · try dsimp only
        exact (fun K => ⟨(blkC (A6.out.stay K).f).1, (blkC (A6.out.stay K).a).1, (blkC (A6.out.stay K).c).1, K⟩) (by repeat (first | exact hb9 | exact Below.refl _ _ | refine Below.drew ?_ | refine Below.alloc ?_ (by first | exact Nat.le_refl _ | exact hb9.size | (simp; done) | (have := hb9.size; simp; omega) | (simp; omega)) _))
      clear hK K; try simp only [Act.put, List.setIfInBounds_toArray, List.set_cons_zero, List.set_cons_succ]
      refine wpAnyH_ready (rs := [8]) (by kernel_rfl) (by simp) ?_; refine AllReadyH.cons rfl (fun K hK => ?_) AllReadyH.nil; go_simp
      (with_reducible refine Calls.mono (HA.out _) ?_); rintro e w8r ⟨rfl, hb8⟩
      have hb7 : Below w6.heap.size w6 w8r := Below.trans (by repeat (first | exact hb9 | exact Below.refl _ _ | refine Below.drew ?_ | refine Below.alloc ?_ (by first | exact Nat.le_refl _ | exact hb9.size | (simp; done) | (have := hb9.size; simp; omega) | (simp; omega)) _)) (Below.mono hb8 (by first | exact Nat.le_refl _ | exact hb9.size | (simp; done) | (have := hb9.size; simp; omega) | (simp; omega)))
      clear hb8; (try clear hb9); have hb9 := hb7; clear hb7
      try go_wp2_with fail
      refine hK.out _ _ ?_ (fun hHeld => ?_)
      · try dsimp only
        exact (fun K => ⟨(blkC (A6.out.stay K).f).1, (blkC (A6.out.stay K).a).1, (blkC (A6.out.stay K).c).1, K⟩) (by repeat (first | exact hb9 | exact Below.refl _ _ | refine Below.drew ?_ | refine Below.alloc ?_ (by first | exact Nat.le_refl _ | exact hb9.size | (simp; done) | (have := hb9.size; simp; omega) | (simp; omega)) _))
      clear hK K; try simp only [Act.put, List.setIfInBounds_toArray, List.set_cons_zero, List.set_cons_succ]
      refine wpAnyH_take (i := 9) (v := ?hv9) rfl (by kernel_rfl) (by kernel_rfl) (by kernel_rfl) (fun _ _ _ h => h) (Or.inl ⟨by rfl, ?hy9⟩) (by assumption) ?hr9; (case hy9 => ((intro w hSw; (try dsimp only at hSw); go_simp) <;> with_reducible rfl)); try simp only [Act.put]
      refine wpAnyH_take (i := 10) (v := ?hv10) rfl (by kernel_rfl) (by kernel_rfl) (by kernel_rfl) (fun _ _ _ h => h) (Or.inl ⟨by rfl, ?hy10⟩) (by assumption) ?hr10; (case hy10 => ((intro w hSw; (try dsimp only at hSw); go_simp) <;> with_reducible rfl)); try simp only [Act.put]
      refine wpAnyH_take (i := 11) (v := ?hv23) rfl (by kernel_rfl) (by kernel_rfl) (by kernel_rfl) (fun _ _ _ h => h) (Or.inl ⟨by kernel_rfl, ?hy23⟩) (by assumption) ?hr23; (case hy23 => ((intro w hSw; (try dsimp only at hSw); go_simp) <;> with_reducible rfl)); try simp only [Act.put]
      refine wpAnyH_take (i := 12) (v := ?hv24) rfl (by kernel_rfl) (by kernel_rfl) (by kernel_rfl) (fun _ _ _ h => h) (Or.inl ⟨by kernel_rfl, ?hy24⟩) (by assumption) ?hr24; (case hy24 => ((intro w hSw; (try dsimp only at hSw); go_simp) <;> with_reducible rfl)); try simp only [Act.put]
      refine wpAnyH_take (i := 13) (v := ?hv25) rfl (by kernel_rfl) (by kernel_rfl) (by kernel_rfl) (fun _ _ _ h => h) (Or.inl ⟨by kernel_rfl, ?hy25⟩) (by assumption) ?hr25; (case hy25 => ((intro w hSw; (try dsimp only at hSw); go_simp) <;> with_reducible rfl)); try simp only [Act.put]
      refine wpAnyH_take (i := 14) (v := ?hv26) rfl (by kernel_rfl) (by kernel_rfl) (by kernel_rfl) (fun _ _ _ h => h) (Or.inl ⟨by kernel_rfl, ?hy26⟩) (by assumption) ?hr26; (case hy26 => ((intro w hSw; (try dsimp only at hSw); go_simp) <;> with_reducible rfl)); try simp only [Act.put]
      refine wpAnyH_take (i := 15) (v := ?hv27) rfl (by kernel_rfl) (by kernel_rfl) (by kernel_rfl) (fun _ _ _ h => h) (Or.inl ⟨by kernel_rfl, ?hy27⟩) (by assumption) ?hr27; (case hy27 => ((intro w hSw; (try dsimp only at hSw); go_simp) <;> with_reducible rfl)); try simp only [Act.put]
      refine wpAnyH_take (i := 16) (v := ?hv28) rfl (by kernel_rfl) (by kernel_rfl) (by kernel_rfl) (fun _ _ _ h => h) (Or.inl ⟨by kernel_rfl, ?hy28⟩) (by assumption) ?hr28; (case hy28 => ((intro w hSw; (try dsimp only at hSw); go_simp) <;> with_reducible rfl)); try simp only [Act.put]
      refine wpAnyH_ready (rs := [17]) (by kernel_rfl) (by simp) ?_; refine AllReadyH.cons rfl (fun K hK => ?_) AllReadyH.nil; go_simp
      (with_reducible refine Calls.mono (HC.out _) ?_); rintro e w17r ⟨rfl, hb8⟩
      have hb7 : Below w6.heap.size w6 w17r := Below.trans (by repeat (first | exact hb9 | exact Below.refl _ _ | refine Below.drew ?_ | refine Below.alloc ?_ (by first | exact Nat.le_refl _ | exact hb9.size | (simp; done) | (have := hb9.size; simp; omega) | (simp; omega)) _)) (Below.mono hb8 (by first | exact Nat.le_refl _ | exact hb9.size | (simp; done) | (have := hb9.size; simp; omega) | (simp; omega)))
      clear hb8; (try clear hb9); have hb9 := hb7; clear hb7
      try go_wp2_with fail
      refine hK.out _ _ ?_ (fun hHeld => ?_)
      · try dsimp only
        exact (fun K => ⟨(blkC (A6.out.stay K).f).1, (blkC (A6.out.stay K).a).1, (blkC (A6.out.stay K).c).1, K⟩) (by repeat (first | exact hb9 | exact Below.refl _ _ | refine Below.drew ?_ | refine Below.alloc ?_ (by first | exact Nat.le_refl _ | exact hb9.size | (simp; done) | (have := hb9.size; simp; omega) | (simp; omega)) _))
      clear hK K; try simp only [Act.put, List.setIfInBounds_toArray, List.set_cons_zero, List.set_cons_succ]
      refine wpAnyH_take (i := 18) (v := ?hv29) rfl (by kernel_rfl) (by kernel_rfl) (by kernel_rfl) (fun _ _ _ h => h) (Or.inl ⟨by kernel_rfl, ?hy29⟩) (by assumption) ?hr29; (case hy29 => ((intro w hSw; (try dsimp only at hSw); go_simp) <;> with_reducible rfl)); try simp only [Act.put]
      refine wpAnyH_take (i := 19) (v := ?hv11) rfl (by kernel_rfl) (by kernel_rfl) (by kernel_rfl) (fun _ _ _ h => h) (Or.inl ⟨by rfl, ?hy11⟩) (by assumption) ?hr11; (case hy11 => ((intro w hSw; (try dsimp only at hSw); go_simp) <;> with_reducible rfl)); try simp only [Act.put]
      refine wpAnyH_ready (rs := [20]) (by kernel_rfl) (by simp) ?_; refine AllReadyH.cons rfl (fun K hK => ?_) AllReadyH.nil; go_simp
      (with_reducible refine Calls.mono (WH.out (!hc) _) ?_); rintro e w' ⟨rfl, rfl⟩
      try go_wp2_with fail
      refine hK.out _ _ ?_ (fun hHeld => ?_)
      · try dsimp only
        exact (fun K => ⟨(blkC (A6.out.stay K).f).1, (blkC (A6.out.stay K).a).1, (blkC (A6.out.stay K).c).1, K⟩) (by repeat (first | exact hb9 | exact Below.refl _ _ | refine Below.drew ?_ | refine Below.alloc ?_ (by first | exact Nat.le_refl _ | exact hb9.size | (simp; done) | (have := hb9.size; simp; omega) | (simp; omega)) _))
      clear hK K; try simp only [Act.put, List.setIfInBounds_toArray, List.set_cons_zero, List.set_cons_succ]
      refine wpAnyH_ready (rs := [21]) (by kernel_rfl) (by simp) ?_; refine AllReadyH.cons rfl (fun K hK => ?_) AllReadyH.nil; go_simp
      refine hK.out _ _ ?_ (fun hHeld => ?_)
      · try dsimp only
        exact (fun K => ⟨(blkC (A6.out.stay K).f).1, (blkC (A6.out.stay K).a).1, (blkC (A6.out.stay K).c).1, K⟩) (by repeat (first | exact hb9 | exact Below.refl _ _ | refine Below.drew ?_ | refine Below.alloc ?_ (by first | exact Nat.le_refl _ | exact hb9.size | (simp; done) | (have := hb9.size; simp; omega) | (simp; omega)) _))
      clear hK K; try simp only [Act.put, List.setIfInBounds_toArray, List.set_cons_zero, List.set_cons_succ]
      refine wpAnyH_ready (rs := [22]) (by kernel_rfl) (by simp) ?_; refine AllReadyH.cons rfl (fun K hK => ?_) AllReadyH.nil; go_simp
      (with_reducible refine Calls.mono (FI2.out _ _ (by first | ((simp only [heap_alloc_get, if_true]) <;> ((repeat' split) <;> first | rfl | omega)) | ((simp only [heap_alloc_get, heap_size_alloc, if_true]) <;> ((repeat' split) <;> first | rfl | omega)))) ?_); rintro e w' ⟨rfl, rfl⟩
      try go_wp2_with fail
      refine hK.out _ _ ?_ (fun hHeld => ?_)
      · try dsimp only
        exact (fun K => ⟨(blkC (A6.out.stay K).f).1, (blkC (A6.out.stay K).a).1, (blkC (A6.out.stay K).c).1, K⟩) (by repeat (first | exact hb9 | exact Below.refl _ _ | refine Below.drew ?_ | refine Below.alloc ?_ (by first | exact Nat.le_refl _ | exact hb9.size | (simp; done) | (have := hb9.size; simp; omega) | (simp; omega)) _))
      clear hK K; try simp only [Act.put, List.setIfInBounds_toArray, List.set_cons_zero, List.set_cons_succ]
      refine wpAnyH_take (i := 23) (v := ?hv12) rfl (by kernel_rfl) (by kernel_rfl) (by kernel_rfl) (fun _ _ _ h => h) (Or.inl ⟨by rfl, ?hy12⟩) (by assumption) ?hr12; (case hy12 => ((intro w hSw; (try dsimp only at hSw); go_simp) <;> with_reducible rfl)); try simp only [Act.put]
      refine wpAnyH_done (by kernel_rfl) ?_ _
      have AH := Lib.hid (A6.out.stay hHeld.2.2.2)
      clear hHeld
      go_wp2
      go_ret
      exact ⟨rfl, AH.out.b⟩

set_option maxRecDepth 100000 in
set_option maxHeartbeats 8000000 in
theorem linCf (X Y W H : Int) (a : Option Addr) (n cap : Nat) (ax ay cx cy : Int) (w : World) (bxa bya bxc byc : Bool) (pe fe mm : Int) (hc : Bool) (M : Nat) (T : Nat → Pnt)
    (WXA : Hid (∀ w, Calls Try.prog 9 #[.int .i64 ax, .int .i64 (-4194304), .int .i64 4194304] w fun e w' => e = .returned (.bool bxa) ∧ w = w'))
    (WYA : Hid (∀ w, Calls Try.prog 9 #[.int .i64 ay, .int .i64 (-4194304), .int .i64 4194304] w fun e w' => e = .returned (.bool bya) ∧ w = w'))
    (WXC : Hid (∀ w, Calls Try.prog 9 #[.int .i64 cx, .int .i64 (-4194304), .int .i64 4194304] w fun e w' => e = .returned (.bool bxc) ∧ w = w'))
    (WYC : Hid (∀ w, Calls Try.prog 9 #[.int .i64 cy, .int .i64 (-4194304), .int .i64 4194304] w fun e w' => e = .returned (.bool byc) ∧ w = w'))
    (hw2 : want2 bxa bya bxc byc = 0) (hmm : mm ≤ 65535)
    (x1 : -4194304 ≤ ax) (x2 : ax ≤ 4194304) (x3 : -4194304 ≤ ay) (x4 : ay ≤ 4194304) (x5 : -4194304 ≤ cx) (x6 : cx ≤ 4194304) (x7 : -4194304 ≤ cy) (x8 : cy ≤ 4194304)
    (hmx : ∀ (W' : World) (ts : Array TypeId) (t : TypeId), (Builtin.max_ ts t #[.int .i64 (cx - ax), .int .i64 (ax - cx), .int .i64 (cy - ay), .int .i64 (ay - cy)]).run Try.prog W' = .ok (.int .i64 mm) W') (m0 : 0 ≤ mm) (m1 : mm ≤ 16777216)
    (HM1 : Hid (1 ≤ M)) (HM : Hid (M ≤ 65536)) (LI : Hid (∀ w', Below w.heap.size w w' → Calls Try.prog 5 #[ptV ax ay, ptV cx cy] w' (LinePost w' M T)))
    (LO : Hid (∀ w', Calls Try.prog 12 #[ptV ax ay, ptV cx cy] w' (PtsPost w' M T)))
    (PR : Hid (∀ w', Below w.heap.size w w' → Calls Try.prog 6 #[fldV X Y W H (.slice a n cap), ptV ax ay, ptV cx cy] w' fun e w'' => e = .returned (.tuple #[.slice none 0 0, .int .i64 pe]) ∧ Below w'.heap.size w' w''))
    (FE : Hid (∀ w', Below w.heap.size w w' → Calls Try.prog 13 #[fldV X Y W H (.slice a n cap)] w' fun e w'' => e = .returned (.int .i64 fe) ∧ Below w'.heap.size w' w''))
    (HA : Hid (∀ w, Calls Try.prog 14 #[reg X Y W H, .int .i64 ax, .int .i64 ay] w fun e w' => e = .returned (.bool false) ∧ Below w.heap.size w w'))
    (FI2 : Hid (∀ p w, w.heap[p]? = some (.cells #[.int .i64 fe, .int .i64 (whenE true 5)] 30) → Calls Try.prog 7 #[.slice (some ⟨p, 0, none⟩) 2 2] w fun e w' => e = .returned (.int .i64 pe) ∧ w = w')) (hpe : (pe != 0) = true) :
    Calls Try.prog 3 #[fldV X Y W H (.slice a n cap), ptV ax ay, ptV cx cy] w fun e w' => e = .returned (.bool true) ∧ Below w.heap.size w w' := by
  have A0 := Lib.hid (LnAt.new w X Y W H (.slice a n cap) ax ay cx cy)
  have WH := Lib.hid (fun c w => when_any c 5 w)
  have FI := Lib.hid (fun x y p w h => first2_any x y p w h)
  have E1 := Lib.hid (show want1 bxa bya = firstE 0 (whenE (!bxa || !bya) 5) from rfl)
  have E2 := Lib.hid (show want2 bxa bya bxc byc = firstE (want1 bxa bya) (whenE (!bxc || !byc) 5) from rfl)
  rw [hw2] at E2
  clear hw2
  generalize want1 bxa bya = p1 at *
  go_enter Try.func3, Try.ntmps3
  go_wp2_with (first | (go_at_call 5; refine (LI.out _ (A0.out.b)).mono ?_; rintro e w1 ⟨gl, lc, rfl, hgl, hrl, hb1⟩; have A1 := Lib.hid (A0.out.stay hb1); have RL1 := Lib.hid hrl; clear hb1 hgl hrl; obtain ⟨cF, fF, zF⟩ := blkC A1.out.f; obtain ⟨cA, fA, zA⟩ := blkC A1.out.a; obtain ⟨cC, fC, zC⟩ := blkC A1.out.c) | (go_at_call 6; refine (PR.out _ (A1.out.b)).mono ?_; rintro e w2 ⟨rfl, hb2⟩; have A2 := Lib.hid (A1.out.stay hb2); have RL2 := Lib.hid (RL1.out.stay hb2); clear hb2; clear cF fF zF cA fA zA cC fC zC; obtain ⟨cF, fF, zF⟩ := blkC A2.out.f; obtain ⟨cA, fA, zA⟩ := blkC A2.out.a; obtain ⟨cC, fC, zC⟩ := blkC A2.out.c))
  have hl := heap_alloc_new w2 (.cells #[.int .i64 ax, .int .i64 ay, .int .i64 cx, .int .i64 cy] 28)
  have hbl : Below w2.heap.size w2 (w2.alloc (.cells #[.int .i64 ax, .int .i64 ay, .int .i64 cx, .int .i64 cy] 28)) := (Below.refl _ _).alloc (Nat.le_refl _) _
  have A3 := Lib.hid (A2.out.stay hbl)
  have HL3 := Lib.hid hl
  have BL3 := Lib.hid hbl
  obtain ⟨lp, hlp⟩ : ∃ lp, lp = w2.heap.size := ⟨_, rfl⟩
  rw [← hlp] at HL3 ⊢
  clear hl hbl hlp cF fF zF cA fA zA cC fC zC
  generalize w2.alloc (.cells #[.int .i64 ax, .int .i64 ay, .int .i64 cx, .int .i64 cy] 28) = w3 at *
  go_loopw [11, 31] (fun s11 s31 wr => ((s31 = .int .i64 0 ∧ s11 = .int .i64 0) ∨ (s31 = .int .i64 1 ∧ s11 = .int .i64 p1) ∨ (s31 = .int .i64 2 ∧ s11 = .int .i64 0)) ∧ Below w3.heap.size w3 wr) (fun _ s31 _ => 3 - (intOf s31).toNat)
  case atStart => exact ⟨.inl ⟨rfl, rfl⟩, Below.refl _ _⟩
  case round =>
    obtain ⟨hs, hb⟩ := hrel
    have HB := Lib.hid hb
    have AR := Lib.hid (A3.out.stay hb)
    obtain ⟨cL, fL, zL⟩ := blkC (blkStay HL3.out hb)
    clear hb
    rcases hs with ⟨rfl, rfl⟩ | ⟨rfl, rfl⟩ | ⟨rfl, rfl⟩
    · cases bxa
      · go_wp2_with (first | (go_at_call 9; (with_reducible refine (WXA.out _).mono ?_); rintro e w' ⟨rfl, rfl⟩) | (go_at_call 8; refine (WH.out _ _).mono ?_; rintro e w' ⟨rfl, rfl⟩) | (go_at_call 7; refine (FI.out 0 (whenE true 5) _ _ (by (first | (rw [heap_alloc_get, if_pos rfl]; done) | ((simp only [heap_alloc_get, heap_size_alloc, if_true]) <;> ((repeat' split) <;> first | rfl | omega))))).mono ?_; rintro e w' ⟨rfl, rfl⟩))
        go_roundw
        case rel => exact ⟨.inr (.inl ⟨rfl, congrArg (Value.int .i64) E1.out.symm⟩), HB.out.trans (Below.mono (show Below wr.heap.size wr _ from (by repeat (first | exact Below.refl _ _ | refine Below.alloc ?_ (by first | omega | (simp; done) | (simp; omega)) _ | refine Below.setCell ?_ (by first | omega | (simp; done) | (simp; omega)) _ | refine Below.drew ?_))) HB.out.size)⟩
        case measure => simp [intOf]
      · go_wp2_with (first | (go_at_call 9; (with_reducible refine (WXA.out _).mono ?_); rintro e w' ⟨rfl, rfl⟩) | (go_at_call 9; (with_reducible refine (WYA.out _).mono ?_); rintro e w' ⟨rfl, rfl⟩) | (go_at_call 8; refine (WH.out _ _).mono ?_; rintro e w' ⟨rfl, rfl⟩) | (go_at_call 7; refine (FI.out 0 (whenE (!bya) 5) _ _ (by (first | (rw [heap_alloc_get, if_pos rfl]; done) | ((simp only [heap_alloc_get, heap_size_alloc, if_true]) <;> ((repeat' split) <;> first | rfl | omega))))).mono ?_; rintro e w' ⟨rfl, rfl⟩))
        go_roundw
        case rel => exact ⟨.inr (.inl ⟨rfl, congrArg (Value.int .i64) E1.out.symm⟩), HB.out.trans (Below.mono (show Below wr.heap.size wr _ from (by repeat (first | exact Below.refl _ _ | refine Below.alloc ?_ (by first | omega | (simp; done) | (simp; omega)) _ | refine Below.setCell ?_ (by first | omega | (simp; done) | (simp; omega)) _ | refine Below.drew ?_))) HB.out.size)⟩
        case measure => simp [intOf]
    · cases bxc
      · go_wp2_with (first | (go_at_call 9; (with_reducible refine (WXC.out _).mono ?_); rintro e w' ⟨rfl, rfl⟩) | (go_at_call 8; refine (WH.out _ _).mono ?_; rintro e w' ⟨rfl, rfl⟩) | (go_at_call 7; refine (FI.out p1 (whenE true 5) _ _ (by (first | (rw [heap_alloc_get, if_pos rfl]; done) | ((simp only [heap_alloc_get, heap_size_alloc, if_true]) <;> ((repeat' split) <;> first | rfl | omega))))).mono ?_; rintro e w' ⟨rfl, rfl⟩))
        go_roundw
        case rel => exact ⟨.inr (.inr ⟨rfl, congrArg (Value.int .i64) E2.out.symm⟩), HB.out.trans (Below.mono (show Below wr.heap.size wr _ from (by repeat (first | exact Below.refl _ _ | refine Below.alloc ?_ (by first | omega | (simp; done) | (simp; omega)) _ | refine Below.setCell ?_ (by first | omega | (simp; done) | (simp; omega)) _ | refine Below.drew ?_))) HB.out.size)⟩
        case measure => simp [intOf]
      · go_wp2_with (first | (go_at_call 9; (with_reducible refine (WXC.out _).mono ?_); rintro e w' ⟨rfl, rfl⟩) | (go_at_call 9; (with_reducible refine (WYC.out _).mono ?_); rintro e w' ⟨rfl, rfl⟩) | (go_at_call 8; refine (WH.out _ _).mono ?_; rintro e w' ⟨rfl, rfl⟩) | (go_at_call 7; refine (FI.out p1 (whenE (!byc) 5) _ _ (by (first | (rw [heap_alloc_get, if_pos rfl]; done) | ((simp only [heap_alloc_get, heap_size_alloc, if_true]) <;> ((repeat' split) <;> first | rfl | omega))))).mono ?_; rintro e w' ⟨rfl, rfl⟩))
        go_roundw
        case rel => exact ⟨.inr (.inr ⟨rfl, congrArg (Value.int .i64) E2.out.symm⟩), HB.out.trans (Below.mono (show Below wr.heap.size wr _ from (by repeat (first | exact Below.refl _ _ | refine Below.alloc ?_ (by first | omega | (simp; done) | (simp; omega)) _ | refine Below.setCell ?_ (by first | omega | (simp; done) | (simp; omega)) _ | refine Below.drew ?_))) HB.out.size)⟩
        case measure => simp [intOf]
    · obtain ⟨cF, fF, zF⟩ := blkC AR.out.f
      obtain ⟨cA, fA, zA⟩ := blkC AR.out.a
      obtain ⟨cC, fC, zC⟩ := blkC AR.out.c
      clear cL fL zL
      go_wp2_with (first | (go_at_call 10; refine (levels_any _).mono ?_; rintro e w4 ⟨rfl, hb4⟩; have A4 := Lib.hid (AR.out.stay hb4); have B4 := Lib.hid hb4; have RL4 := Lib.hid (((RL2.out.stay BL3.out).stay HB.out).stay hb4); clear hb4; clear cF fF zF cA fA zA cC fC zC; obtain ⟨cF, fF, zF⟩ := blkC A4.out.f; obtain ⟨cA, fA, zA⟩ := blkC A4.out.a; obtain ⟨cC, fC, zC⟩ := blkC A4.out.c) | (go_at_call 12; refine (LO.out _).mono ?_; rintro e w5 ⟨go, oc, rfl, hgo, hro, hb5⟩; have A5 := Lib.hid (A4.out.stay hb5); have B5 := Lib.hid hb5; have RL5 := Lib.hid (RL4.out.stay hb5); have RO5 := Lib.hid hro; clear hb5 hgo hro; clear cF fF zF cA fA zA cC fC zC; obtain ⟨cF, fF, zF⟩ := blkC A5.out.f; obtain ⟨cA, fA, zA⟩ := blkC A5.out.a; obtain ⟨cC, fC, zC⟩ := blkC A5.out.c) | (go_at_call 11; refine (equalPt_any _ _ _ _ _ T _ HM.out RL5.out RO5.out).mono ?_; rintro e w6 ⟨rfl, hb6⟩; have A6 := Lib.hid (A5.out.stay hb6); have B6 := Lib.hid hb6; clear hb6; clear cF fF zF cA fA zA cC fC zC; obtain ⟨cF, fF, zF⟩ := blkC A6.out.f; obtain ⟨cA, fA, zA⟩ := blkC A6.out.a; obtain ⟨cC, fC, zC⟩ := blkC A6.out.c))
      refine wp_region_held_drew (S := (fun w' => (∀ o, w'.cell? ⟨w.heap.size, o, none⟩ = #[.int .i64 X, .int .i64 Y, .int .i64 W, .int .i64 H, .slice a n cap][o]?) ∧ (∀ o, w'.cell? ⟨w.heap.size + 1, o, none⟩ = #[.int .i64 ax, .int .i64 ay][o]?) ∧ (∀ o, w'.cell? ⟨w.heap.size + 1 + 1, o, none⟩ = #[.int .i64 cx, .int .i64 cy][o]?) ∧ Below w6.heap.size w6 w')) (by kernel_rfl) ?_ (fun hHeld => ?_)
      · try dsimp only
        exact (fun K => ⟨(blkC (A6.out.stay K).f).1, (blkC (A6.out.stay K).a).1, (blkC (A6.out.stay K).c).1, K⟩) (by repeat (first | exact hb9 | exact Below.refl _ _ | refine Below.drew ?_ | refine Below.alloc ?_ (by first | exact Nat.le_refl _ | exact hb9.size | (simp; done) | (have := hb9.size; simp; omega) | (simp; omega)) _))
      refine wpAnyH_take (i := 0) (v := ?hv2) rfl (by kernel_rfl) (by kernel_rfl) (by kernel_rfl) (fun _ _ _ h => h) (Or.inl ⟨by rfl, ?hy2⟩) (by assumption) ?hr2; (case hy2 => ((intro w hSw; (try dsimp only at hSw); go_simp) <;> with_reducible rfl)); try simp only [Act.put, List.setIfInBounds_toArray]
      refine wpAnyH_take (i := 2) (v := ?hv13) rfl (by kernel_rfl) (by kernel_rfl) (by kernel_rfl) (fun _ _ _ h => h) (Or.inl ⟨by rfl, ?hy13⟩) (by assumption) ?hr13; (case hy13 => ((intro w hSw; (try dsimp only at hSw); go_simp) <;> with_reducible rfl)); try simp only [Act.put]
      refine wpAnyH_take (i := 3) (v := ?hv14) rfl (by kernel_rfl) (by kernel_rfl) (by kernel_rfl) (fun _ _ _ h => h) (Or.inl ⟨by rfl, ?hy14⟩) (by assumption) ?hr14; (case hy14 => ((intro w hSw; (try dsimp only at hSw); go_simp) <;> with_reducible rfl)); try simp only [Act.put]
      refine wpAnyH_take (i := 4) (v := ?hv15) rfl (by kernel_rfl) (by kernel_rfl) (by kernel_rfl) (fun _ _ _ h => h) (Or.inl ⟨by rfl, ?hy15⟩) (by assumption) ?hr15; (case hy15 => ((intro w hSw; (try dsimp only at hSw); go_simp) <;> with_reducible rfl)); try simp only [Act.put]
      refine wpAnyH_take (i := 5) (v := ?hv16) rfl (by kernel_rfl) (by kernel_rfl) (by kernel_rfl) (fun _ _ _ h => h) (Or.inl ⟨by rfl, ?hy16⟩) (by assumption) ?hr16; (case hy16 => ((intro w hSw; (try dsimp only at hSw); go_simp) <;> with_reducible rfl)); try simp only [Act.put]
      refine wpAnyH_take (i := 6) (v := ?hv17) rfl (by kernel_rfl) (by kernel_rfl) (by kernel_rfl) (fun _ _ _ h => h) (Or.inl ⟨by rfl, ?hy17⟩) (by assumption) ?hr17; (case hy17 => ((intro w hSw; (try dsimp only at hSw); go_simp) <;> with_reducible rfl)); try simp only [Act.put]
      refine wpAnyH_take (i := 7) (v := ?hv18) rfl (by kernel_rfl) (by kernel_rfl) (by kernel_rfl) (fun _ _ _ h => h) (Or.inl ⟨by rfl, ?hy18⟩) (by assumption) ?hr18; (case hy18 => ((intro w hSw; (try dsimp only at hSw); go_simp) <;> with_reducible rfl)); try simp only [Act.put]
      refine wpAnyH_ready (rs := [1]) (by kernel_rfl) (by simp) ?_; refine AllReadyH.cons rfl (fun K hK => ?_) AllReadyH.nil; go_simp
      (with_reducible refine Calls.mono (FE.out _ (A6.out.b.trans (Below.mono (by repeat (first | exact hb9 | exact Below.refl _ _ | refine Below.drew ?_ | refine Below.alloc ?_ (by first | exact Nat.le_refl _ | exact hb9.size | (simp; done) | (have := hb9.size; simp; omega) | (simp; omega)) _)) A6.out.b.size))) ?_); rintro e w1r ⟨rfl, hb8⟩
      have hb7 : Below w6.heap.size w6 w1r := Below.trans (by repeat (first | exact hb9 | exact Below.refl _ _ | refine Below.drew ?_ | refine Below.alloc ?_ (by first | exact Nat.le_refl _ | exact hb9.size | (simp; done) | (have := hb9.size; simp; omega) | (simp; omega)) _)) (Below.mono hb8 (by first | exact Nat.le_refl _ | exact hb9.size | (simp; done) | (have := hb9.size; simp; omega) | (simp; omega)))
      clear hb8; (try clear hb9); have hb9 := hb7; clear hb7
      try go_wp2_with fail
      refine hK.out _ _ ?_ (fun hHeld => ?_)
      · try dsimp only
        exact (fun K => ⟨(blkC (A6.out.stay K).f).1, (blkC (A6.out.stay K).a).1, (blkC (A6.out.stay K).c).1, K⟩) (by repeat (first | exact hb9 | exact Below.refl _ _ | refine Below.drew ?_ | refine Below.alloc ?_ (by first | exact Nat.le_refl _ | exact hb9.size | (simp; done) | (have := hb9.size; simp; omega) | (simp; omega)) _))
      clear hK K; try simp only [Act.put, List.setIfInBounds_toArray, List.set_cons_zero, List.set_cons_succ]
      refine wpAnyH_ready (rs := [8]) (by kernel_rfl) (by simp) ?_; refine AllReadyH.cons rfl (fun K hK => ?_) AllReadyH.nil; go_simp
      (with_reducible refine Calls.mono (HA.out _) ?_); rintro e w8r ⟨rfl, hb8⟩
      have hb7 : Below w6.heap.size w6 w8r := Below.trans (by repeat (first | exact hb9 | exact Below.refl _ _ | refine Below.drew ?_ | refine Below.alloc ?_ (by first | exact Nat.le_refl _ | exact hb9.size | (simp; done) | (have := hb9.size; simp; omega) | (simp; omega)) _)) (Below.mono hb8 (by first | exact Nat.le_refl _ | exact hb9.size | (simp; done) | (have := hb9.size; simp; omega) | (simp; omega)))
      clear hb8; (try clear hb9); have hb9 := hb7; clear hb7
      try go_wp2_with fail
      refine hK.out _ _ ?_ (fun hHeld => ?_)
      · try dsimp only
        exact (fun K => ⟨(blkC (A6.out.stay K).f).1, (blkC (A6.out.stay K).a).1, (blkC (A6.out.stay K).c).1, K⟩) (by repeat (first | exact hb9 | exact Below.refl _ _ | refine Below.drew ?_ | refine Below.alloc ?_ (by first | exact Nat.le_refl _ | exact hb9.size | (simp; done) | (have := hb9.size; simp; omega) | (simp; omega)) _))
      clear hK K; try simp only [Act.put, List.setIfInBounds_toArray, List.set_cons_zero, List.set_cons_succ]
      refine wpAnyH_take (i := 9) (v := ?hv19) rfl (by kernel_rfl) (by kernel_rfl) (by kernel_rfl) (fun _ _ _ h => h) (Or.inl ⟨by rfl, ?hy19⟩) (by assumption) ?hr19; (case hy19 => ((intro w hSw; (try dsimp only at hSw); go_simp) <;> with_reducible rfl)); try simp only [Act.put]
      refine wpAnyH_take (i := 10) (v := ?hv20) rfl (by kernel_rfl) (by kernel_rfl) (by kernel_rfl) (fun _ _ _ h => h) (Or.inl ⟨by rfl, ?hy20⟩) (by assumption) ?hr20; (case hy20 => ((intro w hSw; (try dsimp only at hSw); go_simp) <;> with_reducible rfl)); try simp only [Act.put]
      refine wpAnyH_take (i := 11) (v := undef) rfl (by kernel_rfl) (by kernel_rfl) (by kernel_rfl) (fun _ _ _ h => h) (Or.inr ⟨by kernel_rfl, rfl⟩) (by assumption) ?_; try simp only [Act.put]
      refine wpAnyH_take (i := 12) (v := undef) rfl (by kernel_rfl) (by kernel_rfl) (by kernel_rfl) (fun _ _ _ h => h) (Or.inr ⟨by kernel_rfl, rfl⟩) (by assumption) ?_; try simp only [Act.put]
      refine wpAnyH_take (i := 13) (v := undef) rfl (by kernel_rfl) (by kernel_rfl) (by kernel_rfl) (fun _ _ _ h => h) (Or.inr ⟨by kernel_rfl, rfl⟩) (by assumption) ?_; try simp only [Act.put]
      refine wpAnyH_take (i := 14) (v := undef) rfl (by kernel_rfl) (by kernel_rfl) (by kernel_rfl) (fun _ _ _ h => h) (Or.inr ⟨by kernel_rfl, rfl⟩) (by assumption) ?_; try simp only [Act.put]
      refine wpAnyH_take (i := 15) (v := undef) rfl (by kernel_rfl) (by kernel_rfl) (by kernel_rfl) (fun _ _ _ h => h) (Or.inr ⟨by kernel_rfl, rfl⟩) (by assumption) ?_; try simp only [Act.put]
      refine wpAnyH_take (i := 16) (v := undef) rfl (by kernel_rfl) (by kernel_rfl) (by kernel_rfl) (fun _ _ _ h => h) (Or.inr ⟨by kernel_rfl, rfl⟩) (by assumption) ?_; try simp only [Act.put]
      refine wpAnyH_take (i := 17) (v := undef) rfl (by kernel_rfl) (by kernel_rfl) (by kernel_rfl) (fun _ _ _ h => h) (Or.inr ⟨by kernel_rfl, rfl⟩) (by assumption) ?_; try simp only [Act.put]
      refine wpAnyH_take (i := 18) (v := undef) rfl (by kernel_rfl) (by kernel_rfl) (by kernel_rfl) (fun _ _ _ h => h) (Or.inr ⟨by kernel_rfl, rfl⟩) (by assumption) ?_; try simp only [Act.put]
      refine wpAnyH_take (i := 19) (v := ?hv21) rfl (by kernel_rfl) (by kernel_rfl) (by kernel_rfl) (fun _ _ _ h => h) (Or.inl ⟨by rfl, ?hy21⟩) (by assumption) ?hr21; (case hy21 => ((intro w hSw; (try dsimp only at hSw); go_simp) <;> with_reducible rfl)); try simp only [Act.put]
      refine wpAnyH_ready (rs := [20]) (by kernel_rfl) (by simp) ?_; refine AllReadyH.cons rfl (fun K hK => ?_) AllReadyH.nil; go_simp
      (with_reducible refine Calls.mono (WH.out true _) ?_); rintro e w' ⟨rfl, rfl⟩
      try go_wp2_with fail
      refine hK.out _ _ ?_ (fun hHeld => ?_)
      · try dsimp only
        exact (fun K => ⟨(blkC (A6.out.stay K).f).1, (blkC (A6.out.stay K).a).1, (blkC (A6.out.stay K).c).1, K⟩) (by repeat (first | exact hb9 | exact Below.refl _ _ | refine Below.drew ?_ | refine Below.alloc ?_ (by first | exact Nat.le_refl _ | exact hb9.size | (simp; done) | (have := hb9.size; simp; omega) | (simp; omega)) _))
      clear hK K; try simp only [Act.put, List.setIfInBounds_toArray, List.set_cons_zero, List.set_cons_succ]
      refine wpAnyH_ready (rs := [21]) (by kernel_rfl) (by simp) ?_; refine AllReadyH.cons rfl (fun K hK => ?_) AllReadyH.nil; go_simp
      refine hK.out _ _ ?_ (fun hHeld => ?_)
      · try dsimp only
        exact (fun K => ⟨(blkC (A6.out.stay K).f).1, (blkC (A6.out.stay K).a).1, (blkC (A6.out.stay K).c).1, K⟩) (by repeat (first | exact hb9 | exact Below.refl _ _ | refine Below.drew ?_ | refine Below.alloc ?_ (by first | exact Nat.le_refl _ | exact hb9.size | (simp; done) | (have := hb9.size; simp; omega) | (simp; omega)) _))
      clear hK K; try simp only [Act.put, List.setIfInBounds_toArray, List.set_cons_zero, List.set_cons_succ]
      refine wpAnyH_ready (rs := [22]) (by kernel_rfl) (by simp) ?_; refine AllReadyH.cons rfl (fun K hK => ?_) AllReadyH.nil; go_simp
      (with_reducible refine Calls.mono (FI2.out _ _ (by first | ((simp only [heap_alloc_get, if_true]) <;> ((repeat' split) <;> first | rfl | omega)) | ((simp only [heap_alloc_get, heap_size_alloc, if_true]) <;> ((repeat' split) <;> first | rfl | omega)))) ?_); rintro e w' ⟨rfl, rfl⟩
      try go_wp2_with fail
      refine hK.out _ _ ?_ (fun hHeld => ?_)
      · try dsimp only
        exact (fun K => ⟨(blkC (A6.out.stay K).f).1, (blkC (A6.out.stay K).a).1, (blkC (A6.out.stay K).c).1, K⟩) (by repeat (first | exact hb9 | exact Below.refl _ _ | refine Below.drew ?_ | refine Below.alloc ?_ (by first | exact Nat.le_refl _ | exact hb9.size | (simp; done) | (have := hb9.size; simp; omega) | (simp; omega)) _))
      clear hK K; try simp only [Act.put, List.setIfInBounds_toArray, List.set_cons_zero, List.set_cons_succ]
      refine wpAnyH_take (i := 23) (v := ?hv22) rfl (by kernel_rfl) (by kernel_rfl) (by kernel_rfl) (fun _ _ _ h => h) (Or.inl ⟨by rfl, ?hy22⟩) (by assumption) ?hr22; (case hy22 => ((intro w hSw; (try dsimp only at hSw); go_simp) <;> with_reducible rfl)); try simp only [Act.put]
      refine wpAnyH_done (by kernel_rfl) ?_ _
      have AH := Lib.hid (A6.out.stay hHeld.2.2.2)
      clear hHeld
      go_wp2
      go_ret
      exact ⟨rfl, AH.out.b⟩
end Go.Proofs.Ytjjafjdjdjonfaa
