/- ScalingsMatch, for every scaling, height, level, field and number of bits: CheckScale, Level, Value and Fit answer as the reference does. No condition. -/
import Derived.Test.YtkcehbnmcdppkaaScgJC
import Derived.Lib.SlBytesConst
import Derived.ArgAppend
import Derived.ProofKit
import Derived.OpenShut
import Derived.Lib.SmallJoins
import Derived.Laws.Cover2
import Derived.Deep.Slices
import Derived.WalkLawsBesides

/- Contracts: Check of any field, and the references' FieldError: one answer. -/
namespace Go.Proofs.Ytkcehbnmcdppkaa
open Go.RowKit Fl
set_option linter.unusedVariables false

/-- The error of a field whose numbers have the error er. -/
def fldChk (X Y W H : Int) (n : Nat) (er : Int) : Int := if checkR X Y W H ≠ 0 then checkR X Y W H else if (n : Int) ≠ W * H then 2 else er

set_option maxHeartbeats 1000000 in
theorem checkA_any (X Y W H : Int) (a : Option Addr) (n cap : Nat) (er : Int) (w : World) (CH0 : ∀ W', Below w.heap.size w W' → Calls Try.prog 76 #[.slice a n cap] W' fun e w' => e = .returned (.int .i64 er) ∧ W' = w') :
    Calls Try.prog 87 #[fldV X Y W H (.slice a n cap)] w fun e w' => e = .returned (.int .i64 (fldChk X Y W H n er)) ∧ Below w.heap.size w w' := by
  have CH := Lib.hid CH0
  clear CH0
  have RC := Lib.hid (fun w => checkRegion_any X Y W H w)
  unfold fldChk
  by_cases h0 : checkR X Y W H = 0
  · obtain ⟨b1, b2, b3, b4, b5, _⟩ := checkR_zero h0
    rw [if_neg (by simp [h0])]
    rw [h0] at RC
    have en : wrap64 (W * H) = W * H := IntWalk.wrap64_in _ ⟨by have := (mul_side b1 b2 b3 b4).1; omega, by omega⟩
    by_cases hl : (n : Int) = W * H
    · rw [if_neg (by simp [hl])]
      have en : wrap64 (W * H) = (n : Int) := by rw [en, hl]
      clear h0 b1 b2 b3 b4 b5 hl
      go_enter Try.func87, Try.ntmps87
      go_wp2_with (first | (go_at_call 84; refine (RC.out _).mono ?_; rintro e w' ⟨rfl, rfl⟩) | (go_at_call 76; refine (CH.out _ (by repeat (first | exact Below.refl _ _ | refine Below.alloc ?_ (by first | omega | (simp; done) | (simp; omega)) _ | refine Below.setCell ?_ (by first | omega | (simp; done) | (simp; omega)) _ | refine Below.drew ?_))).mono ?_; rintro e w' ⟨rfl, rfl⟩))
      go_ret
      exact ⟨rfl, (by repeat (first | exact Below.refl _ _ | refine Below.alloc ?_ (by first | omega | (simp; done) | (simp; omega)) _ | refine Below.setCell ?_ (by first | omega | (simp; done) | (simp; omega)) _ | refine Below.drew ?_))⟩
    · rw [if_pos hl]
      have hl' : ((n : Int) != W * H) = true := by simpa using hl
      clear h0 b1 b2 b3 b4 b5 hl CH
      go_enter Try.func87, Try.ntmps87
      go_wp2_with (first | (go_at_call 84; refine (RC.out _).mono ?_; rintro e w' ⟨rfl, rfl⟩))
      go_ret
      exact ⟨rfl, (by repeat (first | exact Below.refl _ _ | refine Below.alloc ?_ (by first | omega | (simp; done) | (simp; omega)) _ | refine Below.setCell ?_ (by first | omega | (simp; done) | (simp; omega)) _ | refine Below.drew ?_))⟩
  · rw [if_pos h0]
    generalize checkR X Y W H = r at *
    have h1 : (r != 0) = true := by simpa using h0
    clear h0 CH
    go_enter Try.func87, Try.ntmps87
    go_wp2_with (first | (go_at_call 84; refine (RC.out _).mono ?_; rintro e w' ⟨rfl, rfl⟩))
    go_ret
    exact ⟨rfl, (by repeat (first | exact Below.refl _ _ | refine Below.alloc ?_ (by first | omega | (simp; done) | (simp; omega)) _ | refine Below.setCell ?_ (by first | omega | (simp; done) | (simp; omega)) _ | refine Below.drew ?_))⟩

set_option maxHeartbeats 1000000 in
theorem qFieldError_any (X Y W H : Int) (a : Option Addr) (n cap : Nat) (er : Int) (w : World) (CH0 : ∀ W', Below w.heap.size w W' → Calls Try.prog 24 #[.slice a n cap] W' fun e w' => e = .returned (.int .i64 er) ∧ W' = w') :
    Calls Try.prog 32 #[fldV X Y W H (.slice a n cap)] w fun e w' => e = .returned (.int .i64 (fldChk X Y W H n er)) ∧ Below w.heap.size w w' := by
  have CH := Lib.hid CH0
  clear CH0
  have RC := Lib.hid (fun w => qRegionError_any X Y W H w)
  unfold fldChk
  by_cases h0 : checkR X Y W H = 0
  · obtain ⟨b1, b2, b3, b4, b5, _⟩ := checkR_zero h0
    rw [if_neg (by simp [h0])]
    rw [h0] at RC
    have en : wrap64 (W * H) = W * H := IntWalk.wrap64_in _ ⟨by have := (mul_side b1 b2 b3 b4).1; omega, by omega⟩
    by_cases hl : (n : Int) = W * H
    · rw [if_neg (by simp [hl])]
      have en : wrap64 (W * H) = (n : Int) := by rw [en, hl]
      clear h0 b1 b2 b3 b4 b5 hl
      go_enter Try.func32, Try.ntmps32
      go_wp2_with (first | (go_at_call 83; refine (RC.out _).mono ?_; rintro e w' ⟨rfl, rfl⟩) | (go_at_call 24; refine (CH.out _ (by repeat (first | exact Below.refl _ _ | refine Below.alloc ?_ (by first | omega | (simp; done) | (simp; omega)) _ | refine Below.setCell ?_ (by first | omega | (simp; done) | (simp; omega)) _ | refine Below.drew ?_))).mono ?_; rintro e w' ⟨rfl, rfl⟩))
      go_ret
      exact ⟨rfl, (by repeat (first | exact Below.refl _ _ | refine Below.alloc ?_ (by first | omega | (simp; done) | (simp; omega)) _ | refine Below.setCell ?_ (by first | omega | (simp; done) | (simp; omega)) _ | refine Below.drew ?_))⟩
    · rw [if_pos hl]
      have hl' : ((n : Int) != W * H) = true := by simpa using hl
      clear h0 b1 b2 b3 b4 b5 hl CH
      go_enter Try.func32, Try.ntmps32
      go_wp2_with (first | (go_at_call 83; refine (RC.out _).mono ?_; rintro e w' ⟨rfl, rfl⟩))
      go_ret
      exact ⟨rfl, (by repeat (first | exact Below.refl _ _ | refine Below.alloc ?_ (by first | omega | (simp; done) | (simp; omega)) _ | refine Below.setCell ?_ (by first | omega | (simp; done) | (simp; omega)) _ | refine Below.drew ?_))⟩
  · rw [if_pos h0]
    generalize checkR X Y W H = r at *
    have h1 : (r != 0) = true := by simpa using h0
    clear h0 CH
    go_enter Try.func32, Try.ntmps32
    go_wp2_with (first | (go_at_call 83; refine (RC.out _).mono ?_; rintro e w' ⟨rfl, rfl⟩))
    go_ret
    exact ⟨rfl, (by repeat (first | exact Below.refl _ _ | refine Below.alloc ?_ (by first | omega | (simp; done) | (simp; omega)) _ | refine Below.setCell ?_ (by first | omega | (simp; done) | (simp; omega)) _ | refine Below.drew ?_))⟩

set_option maxHeartbeats 400000 in
theorem empty_no (w : World) : Calls Try.prog 51 #[fldV 0 0 0 0 (.slice none 0 0)] w fun e w' => e = .returned (.bool true) ∧ Below w.heap.size w w' := by
  go_enter Try.func51, Try.ntmps51
  go_wp2
  go_ret
  exact ⟨rfl, (by repeat (first | exact Below.refl _ _ | refine Below.alloc ?_ (by first | omega | (simp; done) | (simp; omega)) _ | refine Below.setCell ?_ (by first | omega | (simp; done) | (simp; omega)) _ | refine Below.drew ?_))⟩
end Go.Proofs.Ytkcehbnmcdppkaa

/- The error of a slice of singles, as both sides ask it. -/
namespace Go.Proofs.Ytkcehbnmcdppkaa
open Go.RowKit Fl
set_option linter.unusedVariables false

set_option maxHeartbeats 400000 in
theorem qNumberError_nil (a : Option Addr) (cap : Nat) (w : World) :
    Calls Try.prog 24 #[.slice a 0 cap] w fun e w' => e = .returned (.int .i64 0) ∧ w = w' := by
  go_enter Try.func24, Try.ntmps24
  go_wp2
  go_loop [9] (fun i => i = .int .i64 0) (fun _ => 0)
  case atStart => rfl
  case round =>
    subst hrel
    go_wp2
    go_loop [27] (fun i => i = .int .i64 0) (fun _ => 0)
    case atStart => rfl
    case round =>
      subst hrel
      go_wp2
      go_ret
      exact ⟨rfl, rfl⟩

/-- The error of a slice of singles, as both sides ask it, in whatever world behind. -/
def SlE (w : World) (a : Option Addr) (n cap : Nat) (er : Int) : Prop :=
  (∀ W', Below w.heap.size w W' → Calls Try.prog 76 #[.slice a n cap] W' fun e w' => e = .returned (.int .i64 er) ∧ W' = w') ∧
  (∀ W', Below w.heap.size w W' → Calls Try.prog 24 #[.slice a n cap] W' fun e w' => e = .returned (.int .i64 er) ∧ W' = w')

theorem SlE.stay {w w' : World} {a : Option Addr} {n cap : Nat} {er : Int} (h : SlE w a n cap er) (hb : Below w.heap.size w w') : SlE w' a n cap er :=
  ⟨fun W' hB => h.1 W' (hb.trans (hB.mono hb.size)), fun W' hB => h.2 W' (hb.trans (hB.mono hb.size))⟩

theorem slE_nil (w : World) (a : Option Addr) (cap : Nat) : SlE w a 0 cap 0 := ⟨fun W' _ => CheckHeights_nil a cap W', fun W' _ => qNumberError_nil a cap W'⟩

theorem slE_row {w : World} {b off n cap : Nat} {v : Nat → Nat} (h1 : 0 < n) (hl : n ≤ 9223372036854775807) (hc : FlAt w b off n v) : SlE w (some ⟨b, off, none⟩) n cap (fldE n v) := by
  have z : b < w.heap.size := World.block_lt_of_cell? w _ (hc 0 h1)
  exact ⟨fun W' hB => CheckHeights_row b off cap n v hl W' (flAt_congr hc (hB.block _ z)), fun W' hB => qNumberError_row b off cap n v hl W' (flAt_congr hc (hB.block _ z))⟩
end Go.Proofs.Ytkcehbnmcdppkaa

/- Contracts: Range, slices.Min, slices.Max. -/
namespace Go.Proofs.Ytkcehbnmcdppkaa
open Go.RowKit Fl
set_option linter.unusedVariables false

theorem slice_one (g off n cap : Nat) (h : 0 < n) (hc : n ≤ cap) : ∃ g' off', (∀ W : World, (Instr.slice 39 (.slice (some ⟨g, off, none⟩) n cap) (some (.int .i64 1)) none none).run Try.prog W = .ok (.slice (some ⟨g', off', none⟩) (n - 1) (cap - 1)) W) ∧ (1 < n → g' = g ∧ off' = off + 1) := by
  have hs : ∀ W : World, (sizeOf (Try.prog.elem 39)).run Try.prog W = .ok 1 W := fun W => by kernel_rfl
  by_cases c : cap = 1
  · refine ⟨g, off, fun W => ?_, fun h => by omega⟩
    rw [run_slice_l W 39 _ n cap (by kernel_rfl) .i64 1 (by omega) (by omega), hs]
    show Result.ok (sliced _ _ _ _ _) W = _
    unfold sliced
    rw [if_pos (by omega)]
    rfl
  · refine ⟨g, off + 1, fun W => ?_, fun h => ⟨rfl, rfl⟩⟩
    rw [run_slice_l W 39 _ n cap (by kernel_rfl) .i64 1 (by omega) (by omega), hs]
    show Result.ok (sliced _ _ _ _ _) W = _
    unfold sliced
    rw [if_neg (by omega)]
    simp [Addr.add]

theorem lt_next (k : Nat) (i : Nat) : (i < k ∨ i = k) ↔ i < k + 1 := by omega
theorem lt_one (i : Nat) : i = 0 ↔ i < 1 := by omega

set_option maxHeartbeats 2000000 in
set_option maxRecDepth 100000 in
theorem range_no (X Y W H : Int) (a : Option Addr) (n cap : Nat) (er : Int) (w : World) (hE : SlE w a n cap er) (h0 : fldChk X Y W H n er ≠ 0) :
    Calls Try.prog 81 #[fldV X Y W H (.slice a n cap)] w fun e w' => e = .returned (.tuple #[.float .f32 0, .float .f32 0, .int .i64 (fldChk X Y W H n er)]) ∧ Below w.heap.size w w' := by
  have CK := Lib.hid (fun W' (hB : Below w.heap.size w W') => checkA_any X Y W H a n cap er W' (fun W2 h2 => hE.1 W2 (hB.trans (h2.mono hB.size))))
  have h1 : (fldChk X Y W H n er != 0) = true := by simpa using h0
  generalize fldChk X Y W H n er = q at *
  clear hE h0
  go_enter Try.func81, Try.ntmps81
  go_wp2_with (go_at_call 87; go_loud ((with_reducible refine (CK.out _ (by repeat (first | exact Below.refl _ _ | refine Below.alloc ?_ (by first | omega | (simp; done) | (simp; omega)) _ | refine Below.setCell ?_ (by first | omega | (simp; done) | (simp; omega)) _ | refine Below.drew ?_))).mono ?_); rintro en w2 ⟨rfl, hb2⟩; have HB2 := Lib.hid (show Below w.heap.size w w2 from Below.trans (by repeat (first | exact Below.refl _ _ | refine Below.alloc ?_ (by first | omega | (simp; done) | (simp; omega)) _ | refine Below.setCell ?_ (by first | omega | (simp; done) | (simp; omega)) _ | refine Below.drew ?_)) (Below.mono hb2 (by first | omega | (simp; done) | (simp; omega)))); clear hb2))
  go_ret3
  exact ⟨rfl, HB2.out⟩

set_option maxHeartbeats 2000000 in
set_option maxRecDepth 100000 in
theorem range_ok (X Y W H : Int) (b off n cap : Nat) (v : Nat → Nat) (er : Int) (w : World) (hE : SlE w (some ⟨b, off, none⟩) n cap er) (h0 : fldChk X Y W H n er = 0) (hn : 0 < n) (hn2 : n ≤ 65536) (hcap : n ≤ cap) (hc : FlAt w b off n v) (hh : allB n (fun i => hgtB (v i)) = true) :
    Calls Try.prog 81 #[fldV X Y W H (.slice (some ⟨b, off, none⟩) n cap)] w fun e w' => ∃ lo hi, e = .returned (.tuple #[.float .f32 lo, .float .f32 hi, .int .i64 0]) ∧ LoIn v (fun i => i < n) lo ∧ HiIn v (fun i => i < n) hi ∧ Below w.heap.size w w' := by
  have CK := Lib.hid (fun W' (hB : Below w.heap.size w W') => checkA_any X Y W H (some ⟨b, off, none⟩) n cap er W' (fun W2 h2 => hE.1 W2 (hB.trans (h2.mono hB.size))))
  rw [h0] at CK
  obtain ⟨g', off', s1, s2⟩ := slice_one b off n cap hn hcap
  have zb : b < w.heap.size := World.block_lt_of_cell? w _ (hc 0 hn)
  have HC := Lib.hid hc
  have HG := Lib.hid (allB_iff.1 hh)
  have LE := Lib.hid (fun x y w => lesser_any x y w)
  have GE := Lib.hid (fun x y w => greater_any x y w)
  have S2 := Lib.hid s2
  have HL := Lib.hid ((LoIn.one (v := v) (HG.out 0 hn)).congr (lt_one))
  have HH := Lib.hid ((HiIn.one (v := v) (HG.out 0 hn)).congr (lt_one))
  clear hE h0 hc hh s2
  go_enter Try.func81, Try.ntmps81
  go_wp2_with (go_at_call 87; go_loud ((with_reducible refine (CK.out _ (by repeat (first | exact Below.refl _ _ | refine Below.alloc ?_ (by first | omega | (simp; done) | (simp; omega)) _ | refine Below.setCell ?_ (by first | omega | (simp; done) | (simp; omega)) _ | refine Below.drew ?_))).mono ?_); rintro en w2 ⟨rfl, hb2⟩; have HF2 := Lib.hid (blkStay (b := w.heap.size) (o := .cells #[.int .i64 X, .int .i64 Y, .int .i64 W, .int .i64 H, .slice (some ⟨b, off, none⟩) n cap] 41) (by (first | (rw [heap_alloc_get, if_pos rfl]; done) | ((simp only [heap_alloc_get, heap_size_alloc, if_true]) <;> ((repeat' split) <;> first | rfl | omega)))) hb2); have HB2 := Lib.hid (show Below w.heap.size w w2 from Below.trans (by repeat (first | exact Below.refl _ _ | refine Below.alloc ?_ (by first | omega | (simp; done) | (simp; omega)) _ | refine Below.setCell ?_ (by first | omega | (simp; done) | (simp; omega)) _ | refine Below.drew ?_)) (Below.mono hb2 (by first | omega | (simp; done) | (simp; omega)))); clear hb2; obtain ⟨cF, fF, zF⟩ := blkC HF2.out; have c0 := flAt_congr HC.out (HB2.out.block b zb) 0 hn; have c0' := c0; rw [Nat.add_zero] at c0'))
  go_quiet (fail)
  go_wp2
  go_loopw [2, 3, 25] (fun s2 s3 s25 wr => ∃ (k lo hi : Nat), k + 1 ≤ n ∧ s25 = .int .i64 k ∧ s2 = .float .f32 lo ∧ s3 = .float .f32 hi ∧ LoIn v (fun i => i < k + 1) lo ∧ HiIn v (fun i => i < k + 1) hi ∧ Below w.heap.size w wr) (fun _ _ s25 _ => n - 1 - (intOf s25).toNat)
  case atStart => exact ⟨0, v 0, v 0, by omega, rfl, rfl, rfl, HL.out, HH.out, (by repeat' (first | (with_reducible exact Below.refl _ _) | (with_reducible exact HB2.out) | (with_reducible refine Below.setCell ?_ ?_ _) | (with_reducible refine Below.trans ?_ (Below.mono (below_drewN _ _) ?_)) | (with_reducible refine Below.alloc ?_ ?_ _) | (with_reducible refine Below.drew ?_) | omega | (simp; done) | (simp; omega)))⟩
  case round =>
    obtain ⟨k, lo, hi, hk, rfl, rfl, rfl, hlo, hhi, hb⟩ := hrel
    have LO := Lib.hid hlo
    have HI := Lib.hid hhi
    have HB := Lib.hid hb
    clear hlo hhi hb
    by_cases hlt : k + 1 < n
    · obtain ⟨e1, e2⟩ := S2.out (by omega)
      have cc := flAt_congr HC.out (HB.out.block b zb) (k + 1) hlt
      rw [← e1, show off + (k + 1) = off' + k by omega] at cc
      clear e1 e2
      have hgk := HG.out (k + 1) hlt
      have LN := Lib.hid ((LO.out.step hgk).congr (Q := fun i => i < k + 1 + 1) (lt_next (k + 1)))
      have HN := Lib.hid ((HI.out.step hgk).congr (Q := fun i => i < k + 1 + 1) (lt_next (k + 1)))
      clear hgk
      generalize v (k + 1) = x at *
      generalize hlw : lesW lo x = lw at *
      generalize hgw : grtW hi x = gw at *
      have LE2 := Lib.hid (fun w => hlw ▸ LE.out lo x w)
      have GE2 := Lib.hid (fun w => hgw ▸ GE.out hi x w)
      clear hlw hgw
      go_wp2_with (first
        | (go_at_call 138; refine (LE2.out _).mono ?_; rintro e w3 ⟨rfl, rfl⟩)
        | (go_at_call 82; refine (GE2.out _).mono ?_; rintro e w3 ⟨rfl, rfl⟩))
      exact ⟨⟨k + 1, lw, gw, by omega, by go_num, rfl, rfl, LN.out, HN.out, HB.out⟩, by simp [intOf]; omega⟩
    · obtain rfl : n = k + 1 := by omega
      go_wp2
      go_ret3
      exact ⟨lo, hi, rfl, LO.out, HI.out, HB.out⟩
end Go.Proofs.Ytkcehbnmcdppkaa

/- Contracts: slices.Min, slices.Max of singles. -/
namespace Go.Proofs.Ytkcehbnmcdppkaa
open Go.RowKit Fl
set_option linter.unusedVariables false

set_option maxHeartbeats 2000000 in
set_option maxRecDepth 100000 in
theorem slMin_any (b off n cap : Nat) (v : Nat → Nat) (w : World) (hn : 0 < n) (hn2 : n ≤ 65536) (hc : FlAt w b off n v) (hh : allB n (fun i => hgtB (v i)) = true) :
    Calls Try.prog 33 #[.slice (some ⟨b, off, none⟩) n cap] w fun e w' => ∃ x, e = .returned (.float .f32 x) ∧ LoIn v (fun i => i < n) x ∧ w = w' := by
  have HC := Lib.hid hc
  have HG := Lib.hid (allB_iff.1 hh)
  have HL := Lib.hid ((LoIn.one (v := v) (HG.out 0 hn)).congr (lt_one))
  have c0 := hc 0 hn
  have c0' := c0
  rw [Nat.add_zero] at c0'
  have nc : ¬ ((n : Int) < 1) := by omega
  clear hc hh
  go_enter Try.func33, Try.ntmps33
  go_wp2
  go_loopw [3, 4] (fun s3 s4 wr => ∃ (k x : Nat), k + 1 ≤ n ∧ s4 = .int .i64 ((k : Int) + 1) ∧ s3 = .float .f32 x ∧ LoIn v (fun i => i < k + 1) x ∧ wr = w) (fun _ s4 _ => n - (intOf s4).toNat)
  case atStart => exact ⟨0, v 0, by omega, rfl, rfl, HL.out, rfl⟩
  case round =>
    obtain ⟨k, x, hk, rfl, rfl, hlo, rfl⟩ := hrel
    have LO := Lib.hid hlo
    clear hlo
    by_cases hlt : k + 1 < n
    · have cc := HC.out (k + 1) hlt
      have hgk := HG.out (k + 1) hlt
      obtain ⟨A, hA⟩ := LO.out.val
      obtain ⟨B, hB, -⟩ := hgt_val hgk
      obtain ⟨r, hr, hv⟩ := run_min_two #[22, 22] 22 hA hB
      have LN := Lib.hid ((LO.out.min hgk (fun a b ha hb => by rw [hA] at ha; rw [hB] at hb; cases ha; cases hb; exact hv)).congr (Q := fun i => i < k + 1 + 1) (lt_next (k + 1)))
      clear hgk hA hB hv
      generalize v (k + 1) = y at *
      go_wp2
      exact ⟨⟨k + 1, r, by omega, by go_num, rfl, LN.out, trivial⟩, by simp [intOf]; omega⟩
    · obtain rfl : n = k + 1 := by omega
      go_wp2
      go_ret
      exact ⟨x, rfl, LO.out, rfl⟩

set_option maxHeartbeats 2000000 in
set_option maxRecDepth 100000 in
theorem slMax_any (b off n cap : Nat) (v : Nat → Nat) (w : World) (hn : 0 < n) (hn2 : n ≤ 65536) (hc : FlAt w b off n v) (hh : allB n (fun i => hgtB (v i)) = true) :
    Calls Try.prog 34 #[.slice (some ⟨b, off, none⟩) n cap] w fun e w' => ∃ x, e = .returned (.float .f32 x) ∧ HiIn v (fun i => i < n) x ∧ w = w' := by
  have HC := Lib.hid hc
  have HG := Lib.hid (allB_iff.1 hh)
  have HL := Lib.hid ((HiIn.one (v := v) (HG.out 0 hn)).congr (lt_one))
  have c0 := hc 0 hn
  have c0' := c0
  rw [Nat.add_zero] at c0'
  have nc : ¬ ((n : Int) < 1) := by omega
  clear hc hh
  go_enter Try.func34, Try.ntmps34
  go_wp2
  go_loopw [3, 4] (fun s3 s4 wr => ∃ (k x : Nat), k + 1 ≤ n ∧ s4 = .int .i64 ((k : Int) + 1) ∧ s3 = .float .f32 x ∧ HiIn v (fun i => i < k + 1) x ∧ wr = w) (fun _ s4 _ => n - (intOf s4).toNat)
  case atStart => exact ⟨0, v 0, by omega, rfl, rfl, HL.out, rfl⟩
  case round =>
    obtain ⟨k, x, hk, rfl, rfl, hlo, rfl⟩ := hrel
    have LO := Lib.hid hlo
    clear hlo
    by_cases hlt : k + 1 < n
    · have cc := HC.out (k + 1) hlt
      have hgk := HG.out (k + 1) hlt
      obtain ⟨A, hA⟩ := LO.out.val
      obtain ⟨B, hB, -⟩ := hgt_val hgk
      obtain ⟨r, hr, hv, -⟩ := run_max_two #[22, 22] 22 hA hB
      have LN := Lib.hid ((LO.out.max hgk (fun a b ha hb => by rw [hA] at ha; rw [hB] at hb; cases ha; cases hb; exact hv)).congr (Q := fun i => i < k + 1 + 1) (lt_next (k + 1)))
      clear hgk hA hB hv
      generalize v (k + 1) = y at *
      go_wp2
      exact ⟨⟨k + 1, r, by omega, by go_num, rfl, LN.out, trivial⟩, by simp [intOf]; omega⟩
    · obtain rfl : n = k + 1 := by omega
      go_wp2
      go_ret
      exact ⟨x, rfl, LO.out, rfl⟩
end Go.Proofs.Ytkcehbnmcdppkaa

/- Contracts: Fit; the step of a scaling. -/
namespace Go.Proofs.Ytkcehbnmcdppkaa
open Go.RowKit Fl
set_option linter.unusedVariables false

/-- The quotient by what is at least 1. -/
theorem div_one {x y k : Nat} {b : Int} (hx : Bd k x) (hy : vS y = some b) (hb : (one : Int) ≤ b) (hk : k ≤ 120) : Same2 .quo k x y := by
  obtain ⟨s, m, p, r1, b1⟩ := hx
  obtain ⟨t, n, q, r2, rfl⟩ := vS_some hy
  rw [vOf_mag] at hb
  have p2 := one_pos
  obtain ⟨J, hJ⟩ : ∃ J : Nat, J = 1074 := ⟨_, rfl⟩
  have hn : one ≤ n * 2 ^ (q + 1074).toNat := by
    generalize n * 2 ^ (q + 1074).toNat = N at *
    cases t with
    | true => simp only [if_true] at hb; omega
    | false => simp only [Bool.false_eq_true, if_false] at hb; omega
  have hn0 : 0 < n := by
    rcases Nat.eq_zero_or_pos n with z | z
    · subst z; rw [Nat.zero_mul] at hn; omega
    · exact z
  refine div_same hk r1 r2 hn0 (Nat.le_trans b1 ?_)
  rw [← hJ, Nat.pow_add, ← one_pow hJ]
  exact Nat.mul_le_mul_right _ hn
theorem quo_nil {x y q : Nat} {b : Int} (h : Go.floatBits .quo .f32 x y = some q) (hx : vS x = some 0) (hy : vS y = some b) (b0 : 0 < b) : vS q = some 0 := by
  obtain ⟨s, m, i, e1, ea⟩ := vS_some hx
  obtain ⟨t, n, j, e2, rfl⟩ := vS_some hy
  rw [vOf_mag] at ea b0
  have hm : m = 0 := by
    have p := Nat.two_pow_pos (i + 1074).toNat
    have e : ((m * 2 ^ (i + 1074).toNat : Nat) : Int) = 0 := by cases s <;> simp only [Bool.false_eq_true, if_false, if_true] at ea <;> omega
    have e' : m * 2 ^ (i + 1074).toNat = 0 := by omega
    rcases Nat.mul_eq_zero.1 e' with z | z
    · exact z
    · omega
  have hn : n ≠ 0 := by
    intro z; subst z; rw [Nat.zero_mul] at b0; cases t <;> simp at b0
  subst hm
  have h' : ((Ieee.single.read x).quotient (Ieee.single.fractionBits + 2) (Ieee.single.read y)).map Ieee.single.write = some q := h
  rw [e1, e2] at h'
  unfold Ieee.Datum.quotient at h'
  simp only [if_neg hn, Nat.zero_shiftLeft, Nat.zero_div, Nat.zero_mod] at h'
  have h2 : Ieee.single.nearest (s ^^ t) 0 (i - j - ((Ieee.single.fractionBits + 2 + n.log2 - Nat.log2 0 : Nat) : Int) - 1) = q := by
    simpa [Ieee.Format.write] using h'
  unfold Ieee.Format.nearest at h2
  rw [if_pos rfl] at h2
  rw [← h2]
  cases (s ^^ t)
  · exact vS_zero
  · decide

/-- What a step is reckoned from. -/
structure StP (lo hi : Nat) (mo : Int) (d q : Nat) : Prop where
  e1 : floatBits .sub .f32 hi lo = some d
  e2 : floatBits .quo .f32 d (floatOfInt .f32 mo) = some q
  b1 : Bd 21 d
  b2 : Bd 21 q
theorem stp {lo hi : Nat} {mo : Int} (h1 : hgtB lo = true) (h2 : hgtB hi = true) (m1 : 1 ≤ mo) (m2 : mo < 16777216) : ∃ d q, StP lo hi mo d q := by
  obtain ⟨_, _, _, d, -, -, -, -, d1, d2⟩ := (sub_same (k := 20) (by omega) (hgt_bd h2) (hgt_bd h1)).ex
  obtain ⟨hv, _⟩ := int_val (n := mo) (by omega)
  have p := one_pos
  obtain ⟨_, _, _, q, -, -, -, -, q1, q2⟩ := (div_one (k := 21) d2 hv (by
    have := Int.mul_le_mul_of_nonneg_right m1 (show (0 : Int) ≤ (one : Int) by omega)
    omega) (by omega)).ex
  exact ⟨d, q, d1, q1, d2, q2⟩

theorem c20 : vS 897581056 = some ((rv 897581056 : Nat) : Int) := vS_pos (by omega)
theorem c20_pos : 0 < rv 897581056 := by
  have := rv_lt (show 0 < 897581056 by omega)
  omega

/-- Both sides' steps: the least and the greatest values are the same by value. -/
theorem step_same {lo hi lo' hi' d q d' q' : Nat} {mo A B : Int} (m1 : 1 ≤ mo) (m2 : mo < 16777216) (hlo : vS lo = some A) (hlo' : vS lo' = some A) (hhi : vS hi = some B) (hhi' : vS hi' = some B) (hb : hgtB lo = true) (hb2 : hgtB hi = true) (P : StP lo hi mo d q) (P' : StP lo' hi' mo d' q') :
    (if (FloatKind.f32.format.order q' 897581056 == some .lt) = true then 897581056 else q') = grtW q 897581056 := by
  obtain ⟨a, ha, ba⟩ := val_bd (hgt_bd hb)
  obtain ⟨b, hb', bb⟩ := val_bd (hgt_bd hb2)
  rw [hlo] at ha; cases ha
  rw [hhi] at hb'; cases hb'
  obtain ⟨J, hJ⟩ : ∃ J : Nat, J = 1074 := ⟨_, rfl⟩
  rw [← hJ] at ba bb
  have hlt : (B - A).natAbs < 2 ^ (J + 22) := by
    have e : 2 ^ (J + 22) = 4 * 2 ^ (J + 20) := by rw [show J + 22 = 2 + (J + 20) by omega, Nat.pow_add]
    have p := Nat.two_pow_pos (J + 20)
    omega
  have v1 := vS_sub P.e1 hhi hlo hlt (by omega)
  have v2 := vS_sub P'.e1 hhi' hlo' hlt (by omega)
  have hq : q' = q ∨ (vS q = some 0 ∧ vS q' = some 0) := by
    obtain ⟨hv, _⟩ := int_val (n := mo) (by omega)
    have p := one_pos
    have hp : 0 < mo * (one : Int) := Int.mul_pos (by omega) (by omega)
    by_cases z : rdS (B - A) = 0
    · rw [z] at v1 v2
      exact .inr ⟨quo_nil P.e2 v1 hv hp, quo_nil P'.e2 v2 hv hp⟩
    · left
      have : d' = d := word_inj (sub_lt P'.e1) (sub_lt P.e1) v2 v1 z
      subst this
      have := P'.e2.symm.trans P.e2
      exact Option.some.inj this
  unfold grtW
  rw [f32f]
  have cp := c20_pos
  rcases hq with rfl | ⟨z1, z2⟩
  · obtain ⟨x, hx, -⟩ := val_bd P.b2
    rw [lss_val hx c20, gtr_val c20 hx]
  · rw [lss_val z2 c20, gtr_val c20 z1]
    have : decide ((0 : Int) < ((rv 897581056 : Nat) : Int)) = true := by simp; omega
    rw [this]
    rfl

theorem at_worldS {P : Program} {F : Func} {Q : Ending → World → Prop} {x : Exit} {a : Act} {W : World} (C : World → Prop) (h : C W) (key : ∀ W4, C W4 → bodyPost P F Q x a W4) : bodyPost P F Q x a W := key W h
theorem scl_end {W : World} {b : Nat} {u v s x y z : Value} {T : TypeId} (h : W.heap[b]? = some (.cells #[u, v, s] T)) : (((W.setCell ⟨b, 0, none⟩ x).setCell ⟨b, 1, none⟩ y).setCell ⟨b, 2, none⟩ z).heap[b]? = some (.cells #[x, y, z] T) := by
  have h1 := heap_setCell_same W b 0 _ _ x h
  have h2 := heap_setCell_same _ b 1 _ _ y h1
  exact heap_setCell_same _ b 2 _ _ z h2

set_option maxHeartbeats 2000000 in
set_option maxRecDepth 100000 in
theorem fit_no1 (X Y W H : Int) (a : Option Addr) (n cap : Nat) (er bits : Int) (w : World) (hE : SlE w a n cap er) (h0 : fldChk X Y W H n er ≠ 0) :
    Calls Try.prog 31 #[fldV X Y W H (.slice a n cap), .int .i64 bits] w fun e w' => e = .returned (.tuple #[scV 0 0 0, .int .i64 (fldChk X Y W H n er)]) ∧ Below w.heap.size w w' := by
  have RA := Lib.hid (fun W' (hB : Below w.heap.size w W') => range_no X Y W H a n cap er W' (hE.stay hB) h0)
  have h1 : (fldChk X Y W H n er != 0) = true := by simpa using h0
  have RS := fun (w : World) (a : Addr) (m : Mode) k b => run_store_float (P := Try.prog) (w := w) (a := a) (m := m) k b
  generalize fldChk X Y W H n er = q at *
  clear hE h0
  go_enter Try.func31, Try.ntmps31
  go_wp2_with (go_at_call 81; go_loud ((with_reducible refine (RA.out _ (by repeat (first | exact Below.refl _ _ | refine Below.alloc ?_ (by first | omega | (simp; done) | (simp; omega)) _ | refine Below.setCell ?_ (by first | omega | (simp; done) | (simp; omega)) _ | refine Below.drew ?_))).mono ?_); rintro en w2 ⟨rfl, hb2⟩; have HZ2 := Lib.hid (blkStay (b := w.heap.size + 1) (o := .cells #[.float .f32 0, .float .f32 0, .int .i64 0] 36) (by (first | (rw [heap_alloc_get, if_pos rfl]; done) | ((simp only [heap_alloc_get, heap_size_alloc, if_true]) <;> ((repeat' split) <;> first | rfl | omega)))) hb2); have HB2 := Lib.hid (show Below w.heap.size w w2 from Below.trans (by repeat (first | exact Below.refl _ _ | refine Below.alloc ?_ (by first | omega | (simp; done) | (simp; omega)) _ | refine Below.setCell ?_ (by first | omega | (simp; done) | (simp; omega)) _ | refine Below.drew ?_)) (Below.mono hb2 (by first | omega | (simp; done) | (simp; omega)))); clear hb2; obtain ⟨cZ, fZ, zZ⟩ := blkC HZ2.out))
  have zB := HB2.out.size
  refine at_worldS (fun W4 => W4.heap[w.heap.size + 1]? = some (.cells #[.float .f32 0, .float .f32 0, .int .i64 0] 36) ∧ Below w.heap.size w W4) ⟨scl_end HZ2.out, (by repeat' (first | (with_reducible exact Below.refl _ _) | (with_reducible exact HB2.out) | (with_reducible refine Below.setCell ?_ ?_ _) | (with_reducible refine Below.trans ?_ (Below.mono (below_drewN _ _) ?_)) | (with_reducible refine Below.alloc ?_ ?_ _) | (with_reducible refine Below.drew ?_) | omega | (simp; done) | (simp; omega)))⟩ ?_
  rintro W4 ⟨hE, hB4⟩
  obtain ⟨cE, fE, zE⟩ := blkC hE
  clear cZ fZ zZ
  refine bodyPost_ret (v := .tuple #[scV 0 0 0, .int .i64 q]) (by simp [results, Try.results31, go_sem, cE]) rfl ⟨rfl, hB4⟩

set_option maxHeartbeats 2000000 in
set_option maxRecDepth 100000 in
theorem fit_no2 (X Y W H : Int) (b off n cap : Nat) (v : Nat → Nat) (er bits : Int) (w : World) (hE : SlE w (some ⟨b, off, none⟩) n cap er) (h0 : fldChk X Y W H n er = 0) (hn : 0 < n) (hn2 : n ≤ 65536) (hcap : n ≤ cap) (hc : FlAt w b off n v) (hh : allB n (fun i => hgtB (v i)) = true) (hb : withinB bits 1 24 = false) :
    Calls Try.prog 31 #[fldV X Y W H (.slice (some ⟨b, off, none⟩) n cap), .int .i64 bits] w fun e w' => e = .returned (.tuple #[scV 0 0 0, .int .i64 3]) ∧ Below w.heap.size w w' := by
  have zb : b < w.heap.size := World.block_lt_of_cell? w _ (hc 0 hn)
  have RA := Lib.hid (fun W' (hB : Below w.heap.size w W') => range_ok X Y W H b off n cap v er W' (hE.stay hB) h0 hn hn2 hcap (flAt_congr hc (hB.block b zb)) hh)
  have WI := Lib.hid (fun w => within_any bits 1 24 w)
  rw [hb] at WI
  have RS := fun (w : World) (a : Addr) (m : Mode) k b => run_store_float (P := Try.prog) (w := w) (a := a) (m := m) k b
  clear hE h0 hc hh hb zb
  go_enter Try.func31, Try.ntmps31
  go_wp2_with (first
    | (go_at_call 81; go_loud ((with_reducible refine (RA.out _ (by repeat (first | exact Below.refl _ _ | refine Below.alloc ?_ (by first | omega | (simp; done) | (simp; omega)) _ | refine Below.setCell ?_ (by first | omega | (simp; done) | (simp; omega)) _ | refine Below.drew ?_))).mono ?_); rintro en w2 ⟨lo, hi, rfl, -, -, hb2⟩; have HZ2 := Lib.hid (blkStay (b := w.heap.size + 1) (o := .cells #[.float .f32 0, .float .f32 0, .int .i64 0] 36) (by (first | (rw [heap_alloc_get, if_pos rfl]; done) | ((simp only [heap_alloc_get, heap_size_alloc, if_true]) <;> ((repeat' split) <;> first | rfl | omega)))) hb2); have HB2 := Lib.hid (show Below w.heap.size w w2 from Below.trans (by repeat (first | exact Below.refl _ _ | refine Below.alloc ?_ (by first | omega | (simp; done) | (simp; omega)) _ | refine Below.setCell ?_ (by first | omega | (simp; done) | (simp; omega)) _ | refine Below.drew ?_)) (Below.mono hb2 (by first | omega | (simp; done) | (simp; omega)))); clear hb2; obtain ⟨cZ, fZ, zZ⟩ := blkC HZ2.out))
    | (go_at_call 79; (with_reducible refine Calls.mono (WI.out _) ?_); rintro e w' ⟨rfl, rfl⟩))
  have zB := HB2.out.size
  refine at_worldS (fun W4 => W4.heap[w.heap.size + 1]? = some (.cells #[.float .f32 0, .float .f32 0, .int .i64 0] 36) ∧ Below w.heap.size w W4) ⟨scl_end HZ2.out, (by repeat' (first | (with_reducible exact Below.refl _ _) | (with_reducible exact HB2.out) | (with_reducible refine Below.setCell ?_ ?_ _) | (with_reducible refine Below.trans ?_ (Below.mono (below_drewN _ _) ?_)) | (with_reducible refine Below.alloc ?_ ?_ _) | (with_reducible refine Below.drew ?_) | omega | (simp; done) | (simp; omega)))⟩ ?_
  rintro W4 ⟨hE, hB4⟩
  obtain ⟨cE, fE, zE⟩ := blkC hE
  clear cZ fZ zZ
  refine bodyPost_ret (v := .tuple #[scV 0 0 0, .int .i64 3]) (by simp [results, Try.results31, go_sem, cE]) rfl ⟨rfl, hB4⟩

/-- What Fit answers for a right field and so many bits: the least value, a step, and the step's error. -/
def FitAns (w : World) (n : Nat) (v : Nat → Nat) (bits mo : Int) (e : Ending) (w' : World) : Prop :=
  ∃ lo hi d q er z1 z2 z3, e = .returned (.tuple #[scV z1 z2 z3, .int .i64 er]) ∧ er = fldE 1 (fun _ => grtW q 897581056) ∧ (er = 0 → z1 = lo ∧ z2 = grtW q 897581056 ∧ z3 = bits) ∧ (er ≠ 0 → z1 = 0 ∧ z2 = 0 ∧ z3 = 0) ∧ LoIn v (fun i => i < n) lo ∧ HiIn v (fun i => i < n) hi ∧ StP lo hi mo d q ∧ Below w.heap.size w w'

theorem LoIn.hgt {n : Nat} {v : Nat → Nat} {x : Nat} (h : LoIn v (fun i => i < n) x) (hh : allB n (fun i => hgtB (v i)) = true) : hgtB x = true := by
  obtain ⟨A, h1, ⟨i, p1, p2⟩, -⟩ := h
  have := allB_iff.1 hh i p1
  unfold hgtB at this ⊢
  rw [p2] at this
  rw [h1]
  exact this
theorem HiIn.hgt {n : Nat} {v : Nat → Nat} {x : Nat} (h : HiIn v (fun i => i < n) x) (hh : allB n (fun i => hgtB (v i)) = true) : hgtB x = true := by
  obtain ⟨A, h1, ⟨i, p1, p2⟩, -⟩ := h
  have := allB_iff.1 hh i p1
  unfold hgtB at this ⊢
  rw [p2] at this
  rw [h1]
  exact this

set_option maxHeartbeats 4000000 in
set_option maxRecDepth 100000 in
theorem fit_ok (X Y W H : Int) (b off n cap : Nat) (v : Nat → Nat) (er bits mo : Int) (w : World) (hE : SlE w (some ⟨b, off, none⟩) n cap er) (h0 : fldChk X Y W H n er = 0) (hn : 0 < n) (hn2 : n ≤ 65536) (hcap : n ≤ cap) (hc : FlAt w b off n v) (hh : allB n (fun i => hgtB (v i)) = true) (P : Pw bits mo) :
    Calls Try.prog 31 #[fldV X Y W H (.slice (some ⟨b, off, none⟩) n cap), .int .i64 bits] w (FitAns w n v bits mo) := by
  have zb : b < w.heap.size := World.block_lt_of_cell? w _ (hc 0 hn)
  have RA := Lib.hid (fun W' (hB : Below w.heap.size w W') => range_ok X Y W H b off n cap v er W' (hE.stay hB) h0 hn hn2 hcap (flAt_congr hc (hB.block b zb)) hh)
  have WI := Lib.hid (fun w => within_any bits 1 24 w)
  rw [withinB_iff.2 ⟨P.1, P.2.1⟩] at WI
  have GR := Lib.hid (fun w => greatest_any P w)
  have GE := Lib.hid (fun x y w => greater_any x y w)
  have PB := Lib.hid P.bd
  have HH := Lib.hid hh
  have RS := fun (w : World) (a : Addr) (m : Mode) k b => run_store_float (P := Try.prog) (w := w) (a := a) (m := m) k b
  clear hE h0 hc hh zb P
  unfold FitAns
  go_enter Try.func31, Try.ntmps31
  go_upto_region 6 with (first
    | (go_at_call 81; go_loud ((with_reducible refine (RA.out _ (by repeat (first | exact Below.refl _ _ | refine Below.alloc ?_ (by first | omega | (simp; done) | (simp; omega)) _ | refine Below.setCell ?_ (by first | omega | (simp; done) | (simp; omega)) _ | refine Below.drew ?_))).mono ?_); rintro en w2 ⟨lo, hi, rfl, hlo, hhi, hb2⟩; have HLO := Lib.hid hlo; have HHI := Lib.hid hhi; clear hlo hhi; have HZ2 := Lib.hid (blkStay (b := w.heap.size + 1) (o := .cells #[.float .f32 0, .float .f32 0, .int .i64 0] 36) (by (first | (rw [heap_alloc_get, if_pos rfl]; done) | ((simp only [heap_alloc_get, heap_size_alloc, if_true]) <;> ((repeat' split) <;> first | rfl | omega)))) hb2); have HB2 := Lib.hid (show Below w.heap.size w w2 from Below.trans (by repeat (first | exact Below.refl _ _ | refine Below.alloc ?_ (by first | omega | (simp; done) | (simp; omega)) _ | refine Below.setCell ?_ (by first | omega | (simp; done) | (simp; omega)) _ | refine Below.drew ?_)) (Below.mono hb2 (by first | omega | (simp; done) | (simp; omega)))); clear hb2; obtain ⟨cZ, fZ, zZ⟩ := blkC HZ2.out))
    | (go_at_call 79; (with_reducible refine Calls.mono (WI.out _) ?_); rintro e w' ⟨rfl, rfl⟩))
  obtain ⟨d, q, sp⟩ := stp (HLO.out.hgt HH.out) (HHI.out.hgt HH.out) PB.out.1 PB.out.2
  have SP := Lib.hid sp
  have a1 := fun (W : World) => run_float_arith (P := Try.prog) W .sub 22 .f32 _ _ _ sp.e1
  have a2 := fun (W : World) => run_float_arith (P := Try.prog) W .quo 22 .f32 _ _ _ sp.e2
  clear sp
  generalize hst : grtW q 897581056 = st at *
  have GE2 := Lib.hid (fun w => hst ▸ GE.out q 897581056 w)
  have HST := Lib.hid hst
  clear hst GE
  have CH := Lib.hid (fun p w (hh : w.heap[p]? = some (flObj st)) => CheckHeights_row p 0 1 1 (fun _ => st) (by omega) w (flAt_one_of hh))
  have zw := HB2.out.size
  have fin : ∀ (er : Int) (z1 z2 : Nat) (z3 : Int), er = fldE 1 (fun _ => st) → (er = 0 → z1 = lo ∧ z2 = st ∧ z3 = bits) → (er ≠ 0 → z1 = 0 ∧ z2 = 0 ∧ z3 = 0) → ∀ W4, Below w.heap.size w W4 → ∃ lo hi d q er' y1 y2 y3, Ending.returned (.tuple #[scV z1 z2 z3, .int .i64 er]) = .returned (.tuple #[scV y1 y2 y3, .int .i64 er']) ∧ er' = fldE 1 (fun _ => grtW q 897581056) ∧ (er' = 0 → y1 = lo ∧ y2 = grtW q 897581056 ∧ y3 = bits) ∧ (er' ≠ 0 → y1 = 0 ∧ y2 = 0 ∧ y3 = 0) ∧ LoIn v (fun i => i < n) lo ∧ HiIn v (fun i => i < n) hi ∧ StP lo hi mo d q ∧ Below w.heap.size w W4 := fun er z1 z2 z3 h1 h2 h3 W4 hb => ⟨lo, hi, d, q, er, z1, z2, z3, rfl, HST.out ▸ h1, fun h => HST.out ▸ h2 h, h3, HLO.out, HHI.out, SP.out, hb⟩
  have FIN := Lib.hid fin
  clear fin SP HLO HHI HST
  by_cases z : fldE 1 (fun _ => st) = 0
  · have F0 := Lib.hid (FIN.out 0 lo st bits z.symm (fun _ => ⟨rfl, rfl, rfl⟩) (fun h => absurd rfl h))
    rw [z] at CH
    clear z FIN
    go_wp2_with (first
      | (go_at_call 78; (with_reducible refine Calls.mono (GR.out _) ?_); rintro e w' ⟨rfl, rfl⟩)
      | (go_at_call 82; (with_reducible refine (GE2.out _).mono ?_); rintro e w3 ⟨rfl, rfl⟩)
      | (go_at_call 76; go_loud (refine (CH.out _ _ (by (first | (rw [heap_alloc_get, if_pos rfl]; done) | ((simp only [heap_alloc_get, heap_size_alloc, if_true]) <;> ((repeat' split) <;> first | rfl | omega))))).mono ?_; rintro e w3 ⟨rfl, rfl⟩)))
    refine at_worldS (fun W4 => W4.heap[w.heap.size + 1]? = some (.cells #[.float .f32 lo, .float .f32 st, .int .i64 bits] 36) ∧ Below w.heap.size w W4) ⟨(by (repeat (first | (with_reducible refine (heap_alloc_old _ _ (by first | omega | (simp; omega))).trans ?_) | (rw [heap_drewN]))); exact scl_end HZ2.out), (by repeat' (first | (with_reducible exact Below.refl _ _) | (with_reducible exact HB2.out) | (with_reducible refine Below.setCell ?_ ?_ _) | (with_reducible refine Below.trans ?_ (Below.mono (below_drewN _ _) ?_)) | (with_reducible refine Below.alloc ?_ ?_ _) | (with_reducible refine Below.drew ?_) | omega | (simp; done) | (simp; omega)))⟩ ?_
    rintro W4 ⟨hE, hB4⟩
    obtain ⟨cE, fE, zE⟩ := blkC hE
    clear cZ fZ zZ
    exact bodyPost_ret (v := .tuple #[scV lo st bits, .int .i64 0]) (by simp [results, Try.results31, go_sem, cE]) rfl (F0.out W4 hB4)
  · have z1 : (fldE 1 (fun _ => st) != 0) = true := by simpa using z
    have F0 := Lib.hid (FIN.out (fldE 1 (fun _ => st)) 0 0 0 rfl (fun h => absurd h z) (fun _ => ⟨rfl, rfl, rfl⟩))
    generalize fldE 1 (fun _ => st) = qe at *
    clear z FIN
    go_wp2_with (first
      | (go_at_call 78; (with_reducible refine Calls.mono (GR.out _) ?_); rintro e w' ⟨rfl, rfl⟩)
      | (go_at_call 82; (with_reducible refine (GE2.out _).mono ?_); rintro e w3 ⟨rfl, rfl⟩)
      | (go_at_call 76; go_loud (refine (CH.out _ _ (by (first | (rw [heap_alloc_get, if_pos rfl]; done) | ((simp only [heap_alloc_get, heap_size_alloc, if_true]) <;> ((repeat' split) <;> first | rfl | omega))))).mono ?_; rintro e w3 ⟨rfl, rfl⟩)))
    refine at_worldS (fun W4 => W4.heap[w.heap.size + 1]? = some (.cells #[.float .f32 0, .float .f32 0, .int .i64 0] 36) ∧ Below w.heap.size w W4) ⟨(by (repeat (first | (with_reducible refine (heap_alloc_old _ _ (by first | omega | (simp; omega))).trans ?_) | (rw [heap_drewN]))); exact scl_end HZ2.out), (by repeat' (first | (with_reducible exact Below.refl _ _) | (with_reducible exact HB2.out) | (with_reducible refine Below.setCell ?_ ?_ _) | (with_reducible refine Below.trans ?_ (Below.mono (below_drewN _ _) ?_)) | (with_reducible refine Below.alloc ?_ ?_ _) | (with_reducible refine Below.drew ?_) | omega | (simp; done) | (simp; omega)))⟩ ?_
    rintro W4 ⟨hE, hB4⟩
    obtain ⟨cE, fE, zE⟩ := blkC hE
    clear cZ fZ zZ
    exact bodyPost_ret (v := .tuple #[scV 0 0 0, .int .i64 qe]) (by simp [results, Try.results31, go_sem, cE]) rfl (F0.out W4 hB4)
end Go.Proofs.Ytkcehbnmcdppkaa

/- The sum of the bytes of a text: both sides. -/
namespace Go.Proofs.Ytkcehbnmcdppkaa
open Go.RowKit Fl
set_option linter.unusedVariables false

/-- The byte number k. -/
def chI (s : ByteArray) (k : Nat) : Int := (((s.data[k]?).getD 0).toNat : Int)
theorem chI_in (s : ByteArray) (k : Nat) : 0 ≤ chI s k ∧ chI s k < 256 := by
  unfold chI
  have := ((s.data[k]?).getD 0).toNat_lt
  omega
theorem index_ch (s : ByteArray) (k : Nat) (hk : k < s.size) (w : World) : (Instr.index 9 (.string s) (.int .i64 (k : Int))).run Try.prog w = .ok (.int .u8 (chI s k)) w := by
  rw [run_index_string (w := w) 9 _ _ _ Try.underlying9, dif_pos (by omega)]
  congr 3
  simp only [Int.toNat_natCast]
  rw [Array.getElem?_eq_getElem (by exact hk)]
  rfl

/-- Both sums behind k bytes. -/
def smI (s : ByteArray) : Nat → Int × Int
  | 0 => (1, 0)
  | k + 1 => (((smI s k).1 + chI s k) % 65521, ((smI s k).2 + ((smI s k).1 + chI s k) % 65521) % 65521)
theorem smI_in (s : ByteArray) : ∀ k, 0 ≤ (smI s k).1 ∧ (smI s k).1 < 65521 ∧ 0 ≤ (smI s k).2 ∧ (smI s k).2 < 65521
  | 0 => by show (0 : Int) ≤ 1 ∧ (1 : Int) < 65521 ∧ (0 : Int) ≤ 0 ∧ (0 : Int) < 65521; omega
  | k + 1 => by show 0 ≤ _ % _ ∧ _ % _ < _ ∧ 0 ≤ _ % _ ∧ _ % _ < _; omega
/-- The sum of a text. -/
def sumI (s : ByteArray) : Int := (smI s s.size).2 * 65536 + (smI s s.size).1
theorem sumI_in (s : ByteArray) : 0 ≤ sumI s ∧ sumI s < 4294967296 := by
  have := smI_in s s.size
  unfold sumI; omega

set_option maxHeartbeats 1000000 in
theorem sum_any (s : ByteArray) (w : World) (hs : s.size ≤ 9223372036854775807) :
    Calls Try.prog 131 #[.string s] w fun e w' => e = .returned (.int .i64 (sumI s)) ∧ w = w' := by
  go_enter Try.func131, Try.ntmps131
  go_wp2
  go_loop [3, 4, 8] (fun a b i => ∃ k : Nat, k ≤ s.size ∧ a = .int .i64 (smI s k).1 ∧ b = .int .i64 (smI s k).2 ∧ i = .int .i64 k) (fun _ _ i => s.size - (intOf i).toNat)
  case atStart => exact ⟨0, Nat.zero_le _, rfl, rfl, rfl⟩
  case round =>
    obtain ⟨k, hk, rfl, rfl, rfl⟩ := hrel
    by_cases hlt : k < s.size
    · have hx := fun w => index_ch s k hlt w
      obtain ⟨b1, b2⟩ := chI_in s k
      obtain ⟨d1, d2, d3, d4⟩ := smI_in s k
      have H1 := Lib.hid (show ((smI s k).1 + chI s k) % 65521 = (smI s (k + 1)).1 from rfl)
      have H2 := Lib.hid (show ((smI s k).2 + ((smI s k).1 + chI s k) % 65521) % 65521 = (smI s (k + 1)).2 from rfl)
      generalize chI s k = c at *
      generalize (smI s k).1 = p at *
      generalize (smI s k).2 = q at *
      go_wp2
      go_round
      case rel => exact ⟨k + 1, by omega, by rw [H1.out], by rw [H2.out], by go_num⟩
      case measure => simp [intOf]; omega
    · obtain rfl : k = s.size := by omega
      obtain ⟨d1, d2, d3, d4⟩ := smI_in s s.size
      have H1 := Lib.hid (show (smI s s.size).2 * 65536 + (smI s s.size).1 = sumI s from rfl)
      generalize (smI s s.size).1 = p at *
      generalize (smI s s.size).2 = q at *
      go_wp2
      go_ret
      exact ⟨ret_int (by rw [← H1.out]; try omega), rfl⟩

end Go.Proofs.Ytkcehbnmcdppkaa

/- Contract: Encode in the format of whole singles; the law's writes. -/
namespace Go.Proofs.Ytkcehbnmcdppkaa
open Go.RowKit Fl Go.Maps Go.ChangeMaps
set_option linter.unusedVariables false

/-- Bytes as a text. -/
def txB (L : List Int) : ByteArray := ⟨(L.map fun x => UInt8.ofNat x.toNat).toArray⟩
theorem txB_size (L : List Int) : (txB L).size = L.length := by simp [txB, ByteArray.size]
def isB (L : List Int) : Prop := ∀ x ∈ L, 0 ≤ x ∧ x < 256
theorem byteL_isB (n : Nat) : ∀ k, isB (byteL n k)
  | 0 => fun x hx => by cases hx
  | k + 1 => fun x hx => by
    rcases List.mem_cons.1 hx with rfl | hx
    · omega
    · exact byteL_isB n k x hx
theorem fullL_isB (v : Nat → Nat) : ∀ k, isB (fullL v k)
  | 0 => fun x hx => by cases hx
  | k + 1 => fun x hx => by
    rcases List.mem_append.1 hx with hx | hx
    · exact fullL_isB v k x hx
    · exact byteL_isB _ _ x hx
theorem isB_app {L M : List Int} (h : isB L) (h2 : isB M) : isB (L ++ M) := fun x hx => by
  rcases List.mem_append.1 hx with hx | hx
  · exact h x hx
  · exact h2 x hx

/-- The text of bytes of one's own. -/
theorem text_of {w : World} {base g cap : Nat} {L : List Int} (h : w.ownsRow base 5 1 (.slice (some ⟨g, 0, none⟩) L.length cap) L.length (btL L)) (hB : isB L) :
    (convert 153 9 (.slice (some ⟨g, 0, none⟩) L.length cap)).run Try.prog w = .ok (.string (txB L)) w := by
  have hc := h.cells (g := g) rfl
  have := run_convert_bytes_back (P := Try.prog) w 153 9 5 ⟨g, 0, none⟩ cap (L.map fun x => UInt8.ofNat x.toNat) Try.underlying153 Try.underlying5 Try.underlying9 (fun j hj => by
    rw [List.length_map] at hj
    refine hc j _ ?_
    have hm := hB L[j] (List.getElem_mem hj)
    simp [btL, List.getElem?_eq_getElem hj]
    omega)
  rw [List.length_map] at this
  exact this

/-- A number modulo 2 ^ 32. -/
def u32N (x : Int) : Nat := (x % 4294967296).toNat
theorem u32N_lt (x : Int) : u32N x < 4294967296 := by unfold u32N; omega
theorem u32N_eq (x : Int) : (u32N x : Int) = x % 4294967296 := by unfold u32N; omega

/-- The four numbers of a region. -/
def rgI (X Y W H : Int) (k : Nat) : Int := if k = 0 then X else if k = 1 then Y else if k = 2 then W else H
/-- What stands ahead of the values, when k numbers are written. -/
def headL (fmt X Y W H : Int) : Nat → List Int
  | 0 => [84, 65, 82, 78, fmt]
  | k + 1 => headL fmt X Y W H k ++ byteL (u32N (rgI X Y W H k)) 4
theorem headL_len (fmt X Y W H : Int) : ∀ k, (headL fmt X Y W H k).length = 5 + 4 * k
  | 0 => rfl
  | k + 1 => by simp [headL, headL_len fmt X Y W H k, byteL_len]; omega

/-- The text of a field in whole singles. -/
def encL (X Y W H : Int) (v : Nat → Nat) (n : Nat) : List Int := headL 1 X Y W H 4 ++ fullL v n
def encT (X Y W H : Int) (v : Nat → Nat) (n : Nat) : ByteArray := txB (encL X Y W H v n ++ byteL (u32N (sumI (txB (encL X Y W H v n)))) 4)

theorem headL_isB (fmt X Y W H : Int) (hf : 0 ≤ fmt ∧ fmt < 256) : ∀ k, isB (headL fmt X Y W H k)
  | 0 => fun x hx => by
    have : x = 84 ∨ x = 65 ∨ x = 82 ∨ x = 78 ∨ x = fmt := by simpa [headL] using hx
    omega
  | k + 1 => isB_app (headL_isB fmt X Y W H hf k) (byteL_isB _ 4)
theorem encL_isB (X Y W H : Int) (v : Nat → Nat) (n : Nat) : isB (encL X Y W H v n) := isB_app (headL_isB 1 X Y W H (by omega) 4) (fullL_isB v n)
theorem tx_of {w : World} {base g cap : Nat} {L M : List Int} (h : w.ownsRow base 5 1 (.slice (some ⟨g, 0, none⟩) (L.length + M.length) cap) (L ++ M).length (btL (L ++ M))) (h1 : isB L) (h2 : isB M) :
    (convert 153 9 (.slice (some ⟨g, 0, none⟩) (L.length + M.length) cap)).run Try.prog w = .ok (.string (txB (L ++ M))) w := by
  have := text_of (L := L ++ M) (w := w) (base := base) (g := g) (cap := cap) (by have h' := h; rw [List.length_append] at h' ⊢; exact h') (isB_app h1 h2)
  rwa [List.length_append] at this

set_option maxHeartbeats 400000 in
set_option maxRecDepth 100000 in
theorem checkScale_full (w : World) (p q r : Nat) :
    Calls Try.prog 129 #[.agg #[.bool false, .func (.func 178) #[] #[pt p, pt q, pt r], .func (.func 179) #[] #[pt p, pt r]], scV 0 0 0] w fun e w' => e = .returned (.int .i64 0) ∧ Below w.heap.size w w' := by
  have NE : ∀ W : World, (binOp .neq 36 (scV 0 0 0) (scV 0 0 0)).run Try.prog W = .ok (.bool false) W := fun W => by kernel_rfl
  go_enter Try.func129, Try.ntmps129
  go_wp2
  go_ret
  exact ⟨rfl, (by repeat (first | exact Below.refl _ _ | refine Below.alloc ?_ (by first | omega | (simp; done) | (simp; omega)) _ | refine Below.setCell ?_ (by first | omega | (simp; done) | (simp; omega)) _ | refine Below.drew ?_))⟩

theorem check_okay (X Y : Int) (W H n b off cap : Nat) (v : Nat → Nat) (w : World) (hr : FlAt w b off n v) (hh : ∀ i, i < n → hgtB (v i) = true) (h0 : checkR X Y W H = 0) (hn : n = W * H) :
    Calls Try.prog 87 #[fldV X Y W H (.slice (some ⟨b, off, none⟩) n cap)] w fun e w' => e = .returned (.int .i64 0) ∧ Below w.heap.size w w' := by
  obtain ⟨b1, b2, b3, b4, b5, _⟩ := checkR_zero h0
  have hn2 : (n : Int) = W * H := by rw [hn]; simp
  have e0 : fldE n v = 0 := fldE_zero.2 (allB_iff.2 hh)
  have := checkA_any X Y W H (some ⟨b, off, none⟩) n cap 0 w (fun W' hb => by
    have := CheckHeights_row b off cap n v (by omega) W' (flAt_stay hr hb)
    rwa [e0] at this)
  rwa [show fldChk X Y W H n 0 = 0 by unfold fldChk; rw [if_neg (by simp [h0]), if_neg (by simp [hn2])]] at this

theorem BtAt.on {w0 wr w6 : World} {base g' cap' : Nat} {o0 : Option Nat} {L : List Int} {ov : Value} {B : List Int} (h : BtAt w0 base o0 L ov wr)
    (hgrow : wr.grownBy w6 ov.ownBlock) (hat : ov.ownBlock = some g' ∨ g' = wr.heap.size) (hown : w6.ownsRow base 5 1 (.slice (some ⟨g', 0, none⟩) (L.length + B.length) cap') (L.length + B.length) (btL L ++ btL B)) :
    BtAt w0 base o0 (L ++ B) (.slice (some ⟨g', 0, none⟩) (L.length + B.length) cap') w6 := by
  refine ⟨?_, ?_, ?_, ?_⟩
  · rw [List.length_append, btL_app]; exact hown
  · cases hv : ov.ownBlock with
    | none =>
      rw [hv] at hgrow
      exact ⟨hgrow.os.trans h.gr.os, hgrow.tape.trans h.gr.tape, hgrow.output.trans h.gr.output, Nat.le_trans h.gr.size hgrow.size, fun i hi hne => (hgrow.block i (Nat.lt_of_lt_of_le hi h.gr.size) (by simp)).trans (h.gr.block i hi hne)⟩
    | some g =>
      rw [hv] at hgrow
      refine grownBy_on h.gr ?_ hgrow
      rcases h.seat with e | ⟨q, e, hq⟩
      · exact .inl (e.symm.trans hv)
      · rw [hv] at e; have := Option.some.inj e; exact .inr (by omega)
  · rcases hat with e | e
    · rcases h.seat with s | ⟨q, s, hq⟩
      · exact .inl (by rw [← s, e]; rfl)
      · exact .inr ⟨g', rfl, by rw [e] at s; have := Option.some.inj s; omega⟩
    · exact .inr ⟨g', rfl, by have := h.gr.size; omega⟩
  · have := hgrow.size
    have := h.size
    omega

theorem ownsRow_base {w : World} {b B : Nat} {e : TypeId} {size : Nat} {v : Value} {n : Nat} {xs : List Value} (h : w.ownsRow B e size v n xs) (hb : b ≤ B) : w.ownsRow b e size v n xs := by
  rcases h.2 with h2 | ⟨g, cap, cur, h2, h3, h4⟩
  · exact ⟨h.1, .inl h2⟩
  · exact ⟨h.1, .inr ⟨g, cap, cur, h2, Nat.le_trans hb h3, h4⟩⟩
/-- The mark's block: it is no longer to be written. -/
abbrev tarnO : Obj := .cells #[.int .u8 84, .int .u8 65, .int .u8 82, .int .u8 78] 5 (4, 5)
theorem tarn_cells (w : World) (o : Obj) (j : Nat) (u : Value) (h : (btL [84, 65, 82, 78])[j]? = some u) : ((w.alloc tarnO).alloc o).cell? ((⟨w.heap.size, 0, none⟩ : Addr).add j) = some u := by
  rw [Go.WideShapes.add_plain]
  have hb : ((w.alloc tarnO).alloc o).heap[w.heap.size]? = some tarnO := by (first | (rw [heap_alloc_get, if_pos rfl]; done) | ((simp only [heap_alloc_get, heap_size_alloc, if_true]) <;> ((repeat' split) <;> first | rfl | omega)))
  simp only [World.cell?, hb, Nat.zero_add]
  rw [if_neg (by simp), show (#[.int .u8 84, .int .u8 65, .int .u8 82, .int .u8 78] : Array Value) = (btL [84, 65, 82, 78]).toArray from rfl, List.getElem?_toArray]
  exact h
theorem index_rg (X Y W H : Int) (k : Nat) (hk : k < 4) (w : World) : (Instr.index 155 (.agg #[.int .i64 X, .int .i64 Y, .int .i64 W, .int .i64 H]) (.int .i64 (k : Int))).run Try.prog w = .ok (.int .i64 (rgI X Y W H k)) w := by
  have : k = 0 ∨ k = 1 ∨ k = 2 ∨ k = 3 := by omega
  rcases this with rfl | rfl | rfl | rfl
  · show _ = Result.ok (Value.int .i64 X) w; kernel_rfl
  · show _ = Result.ok (Value.int .i64 Y) w; kernel_rfl
  · show _ = Result.ok (Value.int .i64 W) w; kernel_rfl
  · show _ = Result.ok (Value.int .i64 H) w; kernel_rfl
theorem start_at {w5 w6 w7 : World} {v : Value} {L : List Int} (h : w7.ownsRow w6.heap.size 5 1 v L.length (btL L)) (hz : w5.heap.size ≤ w6.heap.size) (hg : w6.grownBy w7 none) : BtAt w7 w5.heap.size v.ownBlock L v w7 :=
  ⟨ownsRow_base h hz, ⟨rfl, rfl, rfl, Nat.le_refl _, fun _ _ _ => rfl⟩, .inl rfl, Nat.le_trans hz hg.size⟩

set_option maxHeartbeats 4000000 in
set_option maxRecDepth 100000 in
theorem encFull_any (X Y : Int) (W H n b off cap : Nat) (v : Nat → Nat) (w : World) (hr : FlAt w b off n v) (hw : wf32 n v) (hh : ∀ i, i < n → hgtB (v i) = true) (h0 : checkR X Y W H = 0) (hn : n = W * H) :
    Calls Try.prog 69 #[fldV X Y W H (.slice (some ⟨b, off, none⟩) n cap), .int .i64 1, scV 0 0 0] w fun e w' => e = .returned (.tuple #[.string (encT X Y W H v n), .int .i64 0]) ∧ Below w.heap.size w w' := by
  obtain ⟨b1, b2, b3, b4, b5, b6, b7, b8, b9⟩ := checkR_zero h0
  have n1 : 1 ≤ n := by rw [hn]; exact Nat.mul_pos (by omega) (by omega)
  have n2 : n ≤ 65536 := by have : (n : Int) = W * H := by rw [hn]; simp
                            omega
  have CK := Lib.hid (fun W' (hB : Below w.heap.size w W') => check_okay X Y W H n b off cap v W' (flAt_stay hr hB) hh h0 hn)
  have LY := Lib.hid layouts_any
  have CD := Lib.hid (fun (p q r : Nat) (V : Value) W' (hV : CodV W' 4 163 164 V p q r) (hB : Below w.heap.size w W') => codes_any b off n cap v 0 0 0 p q r V W' hV (flAt_stay hr hB) hw (fun i hi => hgt_fin (hh i hi)) n1 n2)
  have CS := Lib.hid checkScale_full
  have B1 := Lib.hid (show Below w.heap.size w ((w.alloc (fldO X Y W H (.slice (some ⟨b, off, none⟩) n cap))).alloc (.cells #[.float .f32 0, .float .f32 0, .int .i64 0] 36)) from (by repeat (first | exact Below.refl _ _ | refine Below.alloc ?_ (by first | omega | (simp; done) | (simp; omega)) _ | refine Below.setCell ?_ (by first | omega | (simp; done) | (simp; omega)) _ | refine Below.drew ?_)))
  have HF1 := Lib.hid (show ((w.alloc (fldO X Y W H (.slice (some ⟨b, off, none⟩) n cap))).alloc (.cells #[.float .f32 0, .float .f32 0, .int .i64 0] 36)).heap[w.heap.size]? = some (fldO X Y W H (.slice (some ⟨b, off, none⟩) n cap)) by (first | (rw [heap_alloc_get, if_pos rfl]; done) | ((simp only [heap_alloc_get, heap_size_alloc, if_true]) <;> ((repeat' split) <;> first | rfl | omega))))
  have HS1 := Lib.hid (show ((w.alloc (fldO X Y W H (.slice (some ⟨b, off, none⟩) n cap))).alloc (.cells #[.float .f32 0, .float .f32 0, .int .i64 0] 36)).heap[w.heap.size + 1]? = some (.cells #[.float .f32 0, .float .f32 0, .int .i64 0] 36) by (first | (rw [heap_alloc_get, if_pos rfl]; done) | ((simp only [heap_alloc_get, heap_size_alloc, if_true]) <;> ((repeat' split) <;> first | rfl | omega))))
  have N1 := Lib.hid n1
  have N2 := Lib.hid n2
  clear hr hw hh h0 hn b1 b2 b3 b4 b5 b6 b7 b8 b9 n1 n2
  have hinfo : (Try.prog.info? 5).map (fun i => (i.zero, i.size, i.bytes)) = some (some (.int .u8 0), 1, 1) := by kernel_rfl
  obtain ⟨ti, hi, hz0, hz1, hz2⟩ := info_parts hinfo
  have HTI := Lib.hid hi
  clear hinfo hi
  have RS := fun (w : World) (a : Addr) (m : Mode) f x y => run_store_func (P := Try.prog) (w := w) (a := a) (m := m) f x y
  have KC := fun (w : World) (C : Array Value) (n c : Nat) => Lib.run_convert_bytes_const (P := Try.prog) w 153 5 C n c Try.underlying153 Try.underlying5
  go_enter Try.func69, Try.ntmps69
  go_upto_region 1 with fail
  generalize (w.alloc (fldO X Y W H (.slice (some ⟨b, off, none⟩) n cap))).alloc (.cells #[.float .f32 0, .float .f32 0, .int .i64 0] 36) = w1 at *
  obtain ⟨cF, fF, zF⟩ := blkC HF1.out
  go_wp2_with (first
    | (go_at_call 87; refine (CK.out _ B1.out).mono ?_; rintro e w2 ⟨rfl, hb2⟩; have B2 := Lib.hid (B1.out.trans (hb2.mono B1.out.size)); have HF2 := Lib.hid (blkStay HF1.out hb2); have HS2 := Lib.hid (blkStay HS1.out hb2); clear hb2 cF fF zF)
    | (go_at_call 128; refine (LY.out _).mono ?_; rintro e w3 ⟨mb, V, p, q, r, rfl, hV, hp, hq, hr, hb3, LK⟩; obtain rfl := hV.val; have HV := Lib.hid hV; have B3 := Lib.hid (B2.out.trans (hb3.mono B2.out.size)); have HF3 := Lib.hid (blkStay HF2.out hb3); have HS3 := Lib.hid (blkStay HS2.out hb3); clear hV hp hq hr hb3; obtain ⟨cS, fS, zS⟩ := blkC HS3.out)
    | (go_at_call 129; (with_reducible refine (CS.out _ p q r).mono ?_); rintro e w4 ⟨rfl, hb4⟩; clear cS fS zS LK; have HL4 := Lib.hid (blkStay (b := w3.heap.size) (o := .cells #[.bool false, .func (.func 178) #[] #[pt p, pt q, pt r], .func (.func 179) #[] #[pt p, pt r]] 149) (by (first | (rw [heap_alloc_get, if_pos rfl]; done) | ((simp only [heap_alloc_get, heap_size_alloc, if_true]) <;> ((repeat' split) <;> first | rfl | omega)))) hb4); have hb4' : Below w3.heap.size w3 w4 := (((Below.refl _ _).alloc (Nat.le_refl _) _).trans (hb4.mono (by simp))); have B4 := Lib.hid (B3.out.trans (hb4'.mono B3.out.size)); have HF4 := Lib.hid (blkStay HF3.out hb4'); have HS4 := Lib.hid (blkStay HS3.out hb4'); have HV4 := Lib.hid (HV.out.stay hb4'); clear hb4 hb4'; obtain ⟨cS, fS, zS⟩ := blkC HS4.out; obtain ⟨cF, fF, zF⟩ := blkC HF4.out; obtain ⟨cL, fL, zL⟩ := blkC HL4.out)
    | (go_at_call 178; (with_reducible refine (CD.out p q r _ _ HV4.out B4.out).mono ?_); rintro e w5 ⟨ov, rfl, own5, hb5⟩; clear cF fF zF cS fS zS cL fL zL; have OW5 := Lib.hid own5; have HF5 := Lib.hid (blkStay HF4.out hb5); have B5 := Lib.hid (B4.out.trans (hb5.mono B4.out.size)); have B45 := Lib.hid hb5; obtain ⟨cF, fF, zF⟩ := blkC HF5.out; clear own5 hb5; obtain ⟨gv, cv, rfl, _, _⟩ := OW5.out.form (by rw [fullL_len]; have := N1.out; omega); have hi := HTI.out)
    | (at_builtin; go_loud (refine wpList_append_grows _ rfl _ _ _ rfl 5 ti _ 1 1 Try.underlying153 hi hz0 hz1 hz2 rfl (by omega) (some ⟨w5.heap.size, 0, none⟩) 4 4 (btL [84, 65, 82, 78]) (by rfl) (by simp) (by rfl) (fun b hb j u hu => by cases hb; exact tarn_cells w5 _ j u hu) ⟨w5.heap.size + 1, 0, none⟩ 1 1 [.int .u8 1] (by rfl) (by rfl) (World.news_of_block (cs := #[.int .u8 1]) (t := 5) (fr := (0, 0)) (by (first | (rw [heap_alloc_get, if_pos rfl]; done) | ((simp only [heap_alloc_get, heap_size_alloc, if_true]) <;> ((repeat' split) <;> first | rfl | omega))))) (by simp [Value.oneCell']) (by omega) (by unfold maxLen; omega) (by omega) ?_; intro v7 w7 hown7 hgrow; have A7 := Lib.hid (start_at (w5 := w5) (L := [84, 65, 82, 78, 1]) hown7 (by simp; omega) hgrow); have B57 := Lib.hid (show Below w5.heap.size w5 w7 from (((Below.refl _ _).alloc (Nat.le_refl _) _).alloc (by simp) _).trans ⟨hgrow.os, hgrow.tape, hgrow.output, hgrow.size, fun j hj => hgrow.block j (by simp; omega) (by simp)⟩); have HF7 := Lib.hid (blkStay HF5.out B57.out); have OW7 := Lib.hid (ownsRow_below OW5.out B57.out); obtain ⟨g7, c7, rfl, hg7, _⟩ := hown7.form (by omega); clear hown7 hgrow hi cF fF zF; obtain ⟨cF, fF, zF⟩ := blkC HF7.out)))
  have HG7 := Lib.hid (show w5.heap.size ≤ g7 by simp at hg7; omega)
  have B7 := Lib.hid (B5.out.trans (B57.out.mono B5.out.size))
  clear hg7 cF fF zF
  have IX := Lib.hid (fun (k : Nat) (hk : k < 4) (w : World) => index_rg X Y W H k hk w)
  have HN := Lib.hid (show 0 < (fullL v n).length ∧ (fullL v n).length ≤ 262144 by rw [fullL_len]; have := N1.out; have := N2.out; omega)
  go_loopw [14, 66] (fun t i wr => ∃ k : Nat, k ≤ 4 ∧ i = .int .i64 k ∧ BtAt w7 w5.heap.size (some g7) (headL 1 X Y W H k) t wr) (fun _ i _ => 4 - (intOf i).toNat)
  case atStart => exact ⟨0, by omega, rfl, A7.out⟩
  case round =>
    obtain ⟨k, hk, rfl, hA⟩ := hrel
    have HA := Lib.hid hA
    clear hA
    by_cases hlt : k < 4
    · have ix := IX.out k hlt
      have AB := Lib.hid (fun t wr h => appendBytes_any w7 w5.heap.size (some g7) (headL 1 X Y W H k) t (u32N (rgI X Y W H k)) 4 wr h (u32N_lt _) (by omega) (by rw [headL_len]; omega))
      rw [u32N_eq] at AB
      have HE := Lib.hid (show headL 1 X Y W H (k + 1) = headL 1 X Y W H k ++ byteL (u32N (rgI X Y W H k)) 4 from rfl)
      generalize rgI X Y W H k = x at *
      go_wp2_with (go_at_call 130; refine (AB.out _ _ HA.out).mono ?_; rintro e w8 ⟨ov', rfl, hA8⟩; have HA8 := Lib.hid hA8; clear hA8)
      go_roundw
      case rel => exact ⟨k + 1, by omega, by go_num, by rw [HE.out]; exact HA8.out⟩
      case measure => simp [intOf]; omega
    · obtain rfl : k = 4 := by omega
      have hi := HTI.out
      have OWr := Lib.hid (OW7.out.kept HA.out.gr (.inr (by have := OW5.out.lt gv rfl; have := HG7.out; simp [Value.ownBlock]; omega)))
      obtain ⟨l1, l2⟩ := HN.out
      have HC := Lib.hid (OWr.out.cells (g := gv) rfl)
      have HL1 := Lib.hid (btL_len (fullL v n))
      have hL5 := headL_len 1 X Y W H 4
      have SM := Lib.hid (fun w => sum_any (txB (encL X Y W H v n)) w (by rw [txB_size]; unfold encL; rw [List.length_append, fullL_len]; have := N2.out; omega))
      have AB := Lib.hid (fun t wr h => appendBytes_any w7 w5.heap.size (some g7) (encL X Y W H v n) t (u32N (sumI (txB (encL X Y W H v n)))) 4 wr h (u32N_lt _) (by omega) (by unfold encL; rw [List.length_append, fullL_len]; have := N2.out; omega))
      have HT := Lib.hid (show encT X Y W H v n = txB (encL X Y W H v n ++ byteL (u32N (sumI (txB (encL X Y W H v n)))) 4) from rfl)
      obtain ⟨s1, s2⟩ := sumI_in (txB (encL X Y W H v n))
      rw [u32N_eq, Int.emod_eq_of_lt s1 s2, show ((4 : Nat) : Int) = 4 from rfl] at AB
      go_wp2_with (first
        | (at_builtin; go_loud (refine wpList_append_lies _ rfl _ _ _ rfl w5.heap.size 5 ti _ 1 1 Try.underlying153 hi hz0 hz1 hz2 rfl (by omega) u14 (headL 1 X Y W H 4).length (btL (headL 1 X Y W H 4)) (by rfl) HA.out.own ⟨gv, 0, none⟩ (fullL v n).length cv (btL (fullL v n)) (by rfl) (by rw [btL_len]; omega) HC.out (by simp [btL, Value.oneCell']) l1 (by unfold maxLen; omega) (by omega) HA.out.size wr.heap.size rfl ?_; intro g8 c8 w8 hown8 hgrow hat hlt8; have A8 := Lib.hid (BtAt.on (B := fullL v n) HA.out hgrow hat hown8); have A8' := Lib.hid (show BtAt w7 w5.heap.size (some g7) (encL X Y W H v n) _ w8 from A8.out); have TX := tx_of A8.out.own (headL_isB 1 X Y W H (by omega) 4) (fullL_isB v n); rw [show headL 1 X Y W H 4 ++ fullL v n = encL X Y W H v n from rfl] at TX; clear hown8 hgrow hat hlt8 hi l1 l2 hL5))
        | (go_at_call 131; (with_reducible refine (SM.out _).mono ?_); rintro e w' ⟨rfl, rfl⟩)
        | (go_at_call 130; (with_reducible refine (AB.out _ _ A8'.out).mono ?_); rintro e w9 ⟨ov', rfl, hA9⟩; obtain ⟨g9, c9, rfl, _, _⟩ := hA9.own.form (by simp [byteL_len]); have HA9 := Lib.hid hA9; have TX2 := text_of hA9.own (isB_app (encL_isB X Y W H v n) (byteL_isB _ 4)); generalize (encL X Y W H v n ++ byteL (u32N (sumI (txB (encL X Y W H v n)))) 4).length = N9 at TX2 ⊢; rw [← HT.out] at TX2; clear hA9 TX))
      go_ret2
      exact ⟨rfl, B7.out.trans (grownBy_far HA9.out.gr (by have := HG7.out; have := B5.out.size; omega) B7.out.size)⟩
end Go.Proofs.Ytkcehbnmcdppkaa

/- Contract: the law's writes. -/
namespace Go.Proofs.Ytkcehbnmcdppkaa
open Go.RowKit Fl
set_option linter.unusedVariables false

theorem encT_size (X Y W H : Int) (v : Nat → Nat) (n : Nat) : (encT X Y W H v n).size = 25 + 4 * n := by
  unfold encT; rw [txB_size, List.length_append, byteL_len]; unfold encL; rw [List.length_append, headL_len, fullL_len]; omega

set_option maxHeartbeats 1000000 in
set_option maxRecDepth 100000 in
theorem writes_any (w : World) : Calls Try.prog 15 #[] w fun e w' => e = .returned (.bool true) ∧ Below w.heap.size w w' := by
  have EN := Lib.hid (fun (b : Nat) (W : World) (hb : W.heap[b]? = some (.cells #[.float .f32 1065353216] 22)) => encFull_any 0 0 1 1 1 b 0 1 (fun _ => 1065353216) W (flAt_one_of hb) (fun _ _ => by show 1065353216 < 4294967296; omega) (fun _ _ => by show hgtB 1065353216 = true; kernel_rfl) (by decide) rfl)
  have HS := Lib.hid (encT_size 0 0 (1 : Nat) (1 : Nat) (fun _ => 1065353216) 1)
  generalize encT 0 0 (1 : Nat) (1 : Nat) (fun _ => 1065353216) 1 = s at *
  go_enter Try.func15, Try.ntmps15
  go_wp2_with (go_at_call 69; go_loud (refine (EN.out _ _ (by (first | (rw [heap_alloc_get, if_pos rfl]; done) | ((simp only [heap_alloc_get, heap_size_alloc, if_true]) <;> ((repeat' split) <;> first | rfl | omega))))).mono ?_; rintro e w2 ⟨rfl, hb2⟩; have B2 := Lib.hid (show Below w.heap.size w w2 from ((Below.refl _ _).alloc (Nat.le_refl _) _).trans (hb2.mono (by simp))); clear hb2; have hs := HS.out))
  go_ret
  exact ⟨rfl, B2.out⟩
end Go.Proofs.Ytkcehbnmcdppkaa

/- ScalingsMatch, walked. -/
namespace Go.Proofs.Ytkcehbnmcdppkaa
open Go.RowKit Fl
set_option linter.unusedVariables false

abbrev sclO (lo st : Nat) (bi : Int) : Obj := .cells #[.float .f32 lo, .float .f32 st, .int .i64 bi] 36
abbrev fldS (X Y W H : Int) (s : Value) : Obj := .cells #[.int .i64 X, .int .i64 Y, .int .i64 W, .int .i64 H, s] 41
/-- The scaling and the field of the law, in a world behind. -/
structure SkAt (w wx : World) (lo st : Nat) (bi X Y W H : Int) (s : Value) : Prop where
  a : wx.heap[w.heap.size]? = some (sclO lo st bi)
  b : wx.heap[w.heap.size + 1]? = some (fldS X Y W H s)
  h : Below w.heap.size w wx
section
variable {w wx wy : World} {lo st : Nat} {bi X Y W H : Int} {s : Value}
theorem SkAt.stay (h : SkAt w wx lo st bi X Y W H s) (hb : Below wx.heap.size wx wy) : SkAt w wy lo st bi X Y W H s :=
  ⟨blkStay h.a hb, blkStay h.b hb, h.h.trans (hb.mono h.h.size)⟩
theorem SkAt.grow (h : SkAt w wx lo st bi X Y W H s) (o : Obj) : SkAt w (wx.alloc o) lo st bi X Y W H s :=
  h.stay ((Below.refl _ _).alloc (Nat.le_refl _) _)
theorem SkAt.drawn (h : SkAt w wx lo st bi X Y W H s) : SkAt w wx.drew lo st bi X Y W H s := h.stay (Below.refl _ _).drew
theorem bit_selfS (x : Nat) (w : World) : Calls Try.prog 18 #[.float .f32 x, .float .f32 x] w fun e w' => e = .returned (.bool true) ∧ w = w' := by
  have h1 := f32bits
  go_enter Try.func18, Try.ntmps18
  go_wp2
  go_ret
  exact ⟨rfl, rfl⟩
end

theorem fin_out3 {a k : Nat} (h : Bd k a) (h2 : fldE 1 (fun _ => a) ≠ 0) : fldE 1 (fun _ => a) = 3 := by
  unfold fldE hgtE at *
  have f : finB a = true := by
    obtain ⟨v, hv, _⟩ := val_bd h
    unfold finB; rw [hv]; rfl
  rw [if_pos (allB_iff.2 fun _ _ => f)] at h2 ⊢
  split at h2
  · exact absurd rfl h2
  · rename_i q; rw [if_neg q]
theorem c20_le : rv 897581056 ≤ 2 ^ (1074 + 21) := by
  obtain ⟨j, hj⟩ : ∃ j : Nat, j = 1031 := ⟨_, rfl⟩
  obtain ⟨k, hk⟩ : ∃ k : Nat, k = 1074 := ⟨_, rfl⟩
  unfold rv
  rw [show rgM 897581056 = 2 ^ 23 by decide, show rgE 897581056 = j by rw [hj]; decide, ← Nat.pow_add, ← hk]
  exact Nat.pow_le_pow_right (by omega) (by omega)

theorem scl_eqz (W : World) : (binOp .eql 36 (.agg #[.float .f32 0, .float .f32 0, .int .i64 0]) (.agg #[.float .f32 0, .float .f32 0, .int .i64 0])).run Try.prog W = .ok (.bool true) W := by kernel_rfl

/-- What Fit, FieldError, slices.Min and slices.Max answer for the law's field. -/
def ScFit (w : World) (X Y W H : Int) (s : Value) (bt : Int) : Prop :=
  ∃ fE : Int, (∀ W', Below w.heap.size w W' → Calls Try.prog 32 #[fldV X Y W H s] W' fun e w' => e = .returned (.int .i64 fE) ∧ Below W'.heap.size W' w') ∧
    (firstE fE (whenE (!withinB bt 1 24) 3) ≠ 0 → ∀ W', Below w.heap.size w W' → Calls Try.prog 31 #[fldV X Y W H s, .int .i64 bt] W' fun e w' => e = .returned (.tuple #[scV 0 0 0, .int .i64 (firstE fE (whenE (!withinB bt 1 24) 3))]) ∧ Below W'.heap.size W' w') ∧
    (firstE fE (whenE (!withinB bt 1 24) 3) = 0 → ∃ (m : Nat) (c : Nat → Nat) (mo : Int), Pw bt mo ∧ allB m (fun i => hgtB (c i)) = true ∧ (∀ W', Below w.heap.size w W' → Calls Try.prog 31 #[fldV X Y W H s, .int .i64 bt] W' (FitAns W' m c bt mo)) ∧
      (∀ W', Below w.heap.size w W' → Calls Try.prog 33 #[s] W' fun e w' => ∃ y, e = .returned (.float .f32 y) ∧ LoIn c (fun i => i < m) y ∧ W' = w') ∧
      (∀ W', Below w.heap.size w W' → Calls Try.prog 34 #[s] W' fun e w' => ∃ y, e = .returned (.float .f32 y) ∧ HiIn c (fun i => i < m) y ∧ W' = w'))

set_option maxHeartbeats 4000000 in
set_option maxRecDepth 100000 in
theorem scalLaw_any (lo st v : Nat) (bi n bt : Int) (X Y W H : Int) (s : Value) (w : World)
    (k1 : Int) (b1 : Bool) (S1 N1 E1 : Int) (hS : sclE lo st bi = S1) (hN : fldE 1 (fun _ => v) = N1) (hE1 : firstE S1 N1 = E1)
    (hLV : ∀ w, Calls Try.prog 21 #[scV lo st bi, .float .f32 v] w fun e w' => e = .returned (.tuple #[.int .i64 k1, .bool b1, .int .i64 E1]) ∧ Below w.heap.size w w')
    (hz1 : E1 ≠ 0 → k1 = 0 ∧ b1 = false)
    (hLO : E1 = 0 → ∀ w, Calls Try.prog 26 #[scV lo st bi, .float .f32 v] w fun e w' => e = .returned (.tuple #[.int .i64 k1, .bool b1]) ∧ Below w.heap.size w w')
    (z2 x : Nat) (mo M2 E2 : Int)
    (hVL : ∀ w, Calls Try.prog 27 #[scV lo st bi, .int .i64 n] w fun e w' => e = .returned (.tuple #[.float .f32 z2, .int .i64 E2]) ∧ Below w.heap.size w w')
    (hM2 : S1 ≠ 0 → M2 = S1) (hP : S1 = 0 → Pw bi mo ∧ M2 = whenE (!withinB n 0 mo) 3)
    (hVO : M2 = 0 → ∀ w, Calls Try.prog 30 #[scV lo st bi, .int .i64 n] w fun e w' => e = .returned (.float .f32 x) ∧ Below w.heap.size w w')
    (hE2 : (M2 ≠ 0 → E2 = M2) ∧ (M2 = 0 → E2 = whenE (fldE 1 (fun _ => x) != 0) 3)) (hz2 : (E2 ≠ 0 → z2 = 0) ∧ (E2 = 0 → z2 = x))
    (hF : ScFit w X Y W H s bt) :
    Calls Try.prog 5 #[scV lo st bi, .float .f32 v, .int .i64 n, fldV X Y W H s, .int .i64 bt] w fun e w' => e = .returned (.bool true) ∧ Below w.heap.size w w' := by
  have LV := Lib.hid hLV
  have LO := Lib.hid hLO
  have Z1 := Lib.hid hz1
  have SE := Lib.hid (fun w => hS ▸ scaleError_any lo st bi w)
  have CS := Lib.hid (fun w => hS ▸ checkScale_any lo st bi w)
  have NE := Lib.hid (fun p w (hh : w.heap[p]? = some (flObj v)) => hN ▸ qNumberError_row p 0 1 1 (fun _ => v) (by omega) w (flAt_one_of hh))
  have FI := Lib.hid (fun a b p w h => first2_any a b p w h)
  have WR := Lib.hid writes_any
  have HE1 := Lib.hid hE1
  have SK0 := Lib.hid (show SkAt w ((w.alloc (sclO lo st bi)).alloc (fldS X Y W H s)) lo st bi X Y W H s from ⟨by rw [heap_alloc_old _ _ (by simp)]; exact heap_alloc_new _ _, by have := heap_alloc_new (w.alloc (sclO lo st bi)) (fldS X Y W H s); rwa [heap_size_alloc] at this, by exact (by repeat (first | exact Below.refl _ _ | refine Below.alloc ?_ (by first | omega | (simp; done) | (simp; omega)) _ | refine Below.setCell ?_ (by first | omega | (simp; done) | (simp; omega)) _ | refine Below.drew ?_))⟩)
  have VL := Lib.hid hVL
  have VO := Lib.hid hVO
  have HM := Lib.hid hM2
  have HP := Lib.hid hP
  have HE2 := Lib.hid hE2
  have HZ2 := Lib.hid hz2
  have HF := Lib.hid hF
  have WN := Lib.hid when_any
  have WI := Lib.hid mWithin_any
  have NEX := Lib.hid (fun p w (hh : w.heap[p]? = some (flObj x)) => qNumberError_row p 0 1 1 (fun _ => x) (by omega) w (flAt_one_of hh))
  have BS := Lib.hid bit_selfS
  clear hLV hLO hz1 hS hN hE1 hVL hVO hM2 hP hE2 hz2 hF
  go_enter Try.func5, Try.ntmps5
  go_upto_region 1 with fail
  generalize (w.alloc _).alloc _ = w0 at *
  obtain ⟨cS, fS, zS⟩ := blkC SK0.out.a
  go_upto_region 3 with (first
    | (go_at_call 21; (with_reducible refine (LV.out _).mono ?_); rintro en w1 ⟨rfl, hb1⟩; have SK1 := Lib.hid (SK0.out.stay hb1); clear hb1 cS fS zS; obtain ⟨cS, fS, zS⟩ := blkC SK1.out.a)
    | (go_at_call 23; (with_reducible refine (SE.out _).mono ?_); rintro en w2 ⟨rfl, hb2⟩; have SK2 := Lib.hid (SK1.out.stay hb2); have SK3 := Lib.hid (SK2.out.grow (flObj v)); have HV3 := Lib.hid (heap_alloc_new w2 (flObj v)); clear hb2 cS fS zS)
    | (go_at_call 24; (with_reducible refine (NE.out _ _ HV3.out).mono ?_); rintro en w' ⟨rfl, rfl⟩)
    | (go_at_call 22; (with_reducible refine (FI.out _ _ _ _ (by (first | (rw [heap_alloc_get, if_pos rfl]; done) | ((simp only [heap_alloc_get, heap_size_alloc, if_true]) <;> ((repeat' split) <;> first | rfl | omega))))).mono ?_); rintro en w' ⟨rfl, rfl⟩; rw [HE1.out]))
  have SK4 := Lib.hid (SK3.out.grow (.cells #[.int .i64 S1, .int .i64 N1] 25))
  clear HV3 SK1 SK2 SK3
  unfold flObj at SK4
  generalize (w2.alloc _).alloc _ = w3 at *
  clear SK0
  go_cut [63] from 39 to 63 (fun s63 wx => s63 = .bool false ∧ SkAt w wx lo st bi X Y W H s)
  case first =>
    by_cases hE : E1 = 0
    · subst hE
      obtain ⟨cS, fS, zS⟩ := blkC SK4.out.a
      go_wp2_with fail
      refine wp_region_held_drew (S := (fun w' => (∀ o, w'.cell? ⟨w.heap.size, o, none⟩ = #[.float .f32 lo, .float .f32 st, .int .i64 bi][o]?) ∧ Below w3.heap.size w3 w')) (by kernel_rfl) ?_ (fun hHeld => ?_)
      · try dsimp only
        exact (fun K => ⟨(blkC (blkStay SK4.out.a K)).1, K⟩) (by repeat (first | exact hb9 | exact Below.refl _ _ | refine Below.drew ?_ | refine Below.alloc ?_ (by first | exact Nat.le_refl _ | exact hb9.size | (simp; done) | (have := hb9.size; simp; omega) | (simp; omega)) _))
      refine wpAnyH_ready (rs := [0]) (by kernel_rfl) (by simp) ?_; refine AllReadyH.cons rfl (fun K hK => ?_) AllReadyH.nil; go_simp
      (with_reducible refine Calls.mono (WR.out _) ?_); rintro e w' ⟨rfl, hb7⟩; have hb9 : Below w3.heap.size w3 w' := Below.trans (by repeat (first | exact hb9 | exact Below.refl _ _ | refine Below.drew ?_)) (Below.mono hb7 (by first | exact Nat.le_refl _ | exact hb9.size | (simp; done) | (simp; omega)))
      try go_wp2_with fail
      refine hK.out _ _ ?_ (fun hHeld => ?_)
      · try dsimp only
        exact (fun K => ⟨(blkC (blkStay SK4.out.a K)).1, K⟩) (by repeat (first | exact hb9 | exact Below.refl _ _ | refine Below.drew ?_ | refine Below.alloc ?_ (by first | exact Nat.le_refl _ | exact hb9.size | (simp; done) | (have := hb9.size; simp; omega) | (simp; omega)) _))
      clear hK K; try simp only [Act.put, List.setIfInBounds_toArray, List.set_cons_zero, List.set_cons_succ]
      refine wpAnyH_take (i := 1) (v := ?hv3) rfl (by kernel_rfl) (by kernel_rfl) (by kernel_rfl) (fun _ _ _ h => h) (Or.inl ⟨by rfl, ?hy3⟩) (by assumption) ?hr3; (case hy3 => ((intro w hSw; (try dsimp only at hSw); go_simp) <;> with_reducible rfl)); try simp only [Act.put]
      refine wpAnyH_take (i := 2) (v := ?hv4) rfl (by kernel_rfl) (by kernel_rfl) (by kernel_rfl) (fun _ _ _ h => h) (Or.inl ⟨by rfl, ?hy4⟩) (by assumption) ?hr4; (case hy4 => ((intro w hSw; (try dsimp only at hSw); go_simp) <;> with_reducible rfl)); try simp only [Act.put]
      refine wpAnyH_take (i := 3) (v := ?hv5) rfl (by kernel_rfl) (by kernel_rfl) (by kernel_rfl) (fun _ _ _ h => h) (Or.inl ⟨by rfl, ?hy5⟩) (by assumption) ?hr5; (case hy5 => ((intro w hSw; (try dsimp only at hSw); go_simp) <;> with_reducible rfl)); try simp only [Act.put]
      refine wpAnyH_take (i := 5) (v := ?hv6) rfl (by kernel_rfl) (by kernel_rfl) (by kernel_rfl) (fun _ _ _ h => h) (Or.inl ⟨by rfl, ?hy6⟩) (by assumption) ?hr6; (case hy6 => ((intro w hSw; (try dsimp only at hSw); go_simp) <;> with_reducible rfl)); try simp only [Act.put]
      refine wpAnyH_ready (rs := [4]) (by kernel_rfl) (by simp) ?_; refine AllReadyH.cons rfl (fun K hK => ?_) AllReadyH.nil; go_simp
      (with_reducible refine Calls.mono (CS.out _) ?_); rintro e w' ⟨rfl, hb7⟩; have hb9 : Below w3.heap.size w3 w' := Below.trans (by repeat (first | exact hb9 | exact Below.refl _ _ | refine Below.drew ?_)) (Below.mono hb7 (by first | exact Nat.le_refl _ | exact hb9.size | (simp; done) | (simp; omega)))
      try go_wp2_with fail
      refine hK.out _ _ ?_ (fun hHeld => ?_)
      · try dsimp only
        exact (fun K => ⟨(blkC (blkStay SK4.out.a K)).1, K⟩) (by repeat (first | exact hb9 | exact Below.refl _ _ | refine Below.drew ?_ | refine Below.alloc ?_ (by first | exact Nat.le_refl _ | exact hb9.size | (simp; done) | (have := hb9.size; simp; omega) | (simp; omega)) _))
      clear hK K; try simp only [Act.put, List.setIfInBounds_toArray, List.set_cons_zero, List.set_cons_succ]
      refine wpAnyH_ready (rs := [6]) (by kernel_rfl) (by simp) ?_; refine AllReadyH.cons rfl (fun K hK => ?_) AllReadyH.nil; go_simp
      (with_reducible refine Calls.mono (SE.out _) ?_); rintro e w' ⟨rfl, hb7⟩; have hb9 : Below w3.heap.size w3 w' := Below.trans (by repeat (first | exact hb9 | exact Below.refl _ _ | refine Below.drew ?_)) (Below.mono hb7 (by first | exact Nat.le_refl _ | exact hb9.size | (simp; done) | (simp; omega)))
      try go_wp2_with fail
      refine hK.out _ _ ?_ (fun hHeld => ?_)
      · try dsimp only
        exact (fun K => ⟨(blkC (blkStay SK4.out.a K)).1, K⟩) (by repeat (first | exact hb9 | exact Below.refl _ _ | refine Below.drew ?_ | refine Below.alloc ?_ (by first | exact Nat.le_refl _ | exact hb9.size | (simp; done) | (have := hb9.size; simp; omega) | (simp; omega)) _))
      clear hK K; try simp only [Act.put, List.setIfInBounds_toArray, List.set_cons_zero, List.set_cons_succ]
      refine wpAnyH_take (i := 7) (v := ?hv1) rfl (by kernel_rfl) (by kernel_rfl) (by kernel_rfl) (fun _ _ _ h => h) (Or.inl ⟨by rfl, ?hy1⟩) (by assumption) ?hr1; (case hy1 => ((intro w hSw; (try dsimp only at hSw); go_simp) <;> with_reducible rfl)); try simp only [Act.put, List.setIfInBounds_toArray]
      refine wpAnyH_take (i := 8) (v := ?hv7) rfl (by kernel_rfl) (by kernel_rfl) (by kernel_rfl) (fun _ _ _ h => h) (Or.inl ⟨by rfl, ?hy7⟩) (by assumption) ?hr7; (case hy7 => ((intro w hSw; (try dsimp only at hSw); go_simp) <;> with_reducible rfl)); try simp only [Act.put]
      refine wpAnyH_take (i := 9) (v := ?hv8) rfl (by kernel_rfl) (by kernel_rfl) (by kernel_rfl) (fun _ _ _ h => h) (Or.inl ⟨by rfl, ?hy8⟩) (by assumption) ?hr8; (case hy8 => ((intro w hSw; (try dsimp only at hSw); go_simp) <;> with_reducible rfl)); try simp only [Act.put]
      refine wpAnyH_take (i := 10) (v := ?hv9) rfl (by kernel_rfl) (by kernel_rfl) (by kernel_rfl) (fun _ _ _ h => h) (Or.inl ⟨by rfl, ?hy9⟩) (by assumption) ?hr9; (case hy9 => ((intro w hSw; (try dsimp only at hSw); go_simp) <;> with_reducible rfl)); try simp only [Act.put]
      refine wpAnyH_take (i := 11) (v := ?hv10) rfl (by kernel_rfl) (by kernel_rfl) (by kernel_rfl) (fun _ _ _ h => h) (Or.inl ⟨by rfl, ?hy10⟩) (by assumption) ?hr10; (case hy10 => ((intro w hSw; (try dsimp only at hSw); go_simp) <;> with_reducible rfl)); try simp only [Act.put]
      refine wpAnyH_take (i := 12) (v := ?hv11) rfl (by kernel_rfl) (by kernel_rfl) (by kernel_rfl) (fun _ _ _ h => h) (Or.inl ⟨by rfl, ?hy11⟩) (by assumption) ?hr11; (case hy11 => ((intro w hSw; (try dsimp only at hSw); go_simp) <;> with_reducible rfl)); try simp only [Act.put]
      refine wpAnyH_take (i := 13) (v := undef) rfl (by kernel_rfl) (by kernel_rfl) (by kernel_rfl) (fun _ _ _ h => h) (Or.inr ⟨by kernel_rfl, rfl⟩) (by assumption) ?_; try simp only [Act.put]
      refine wpAnyH_take (i := 14) (v := undef) rfl (by kernel_rfl) (by kernel_rfl) (by kernel_rfl) (fun _ _ _ h => h) (Or.inr ⟨by kernel_rfl, rfl⟩) (by assumption) ?_; try simp only [Act.put]
      refine wpAnyH_take (i := 15) (v := undef) rfl (by kernel_rfl) (by kernel_rfl) (by kernel_rfl) (fun _ _ _ h => h) (Or.inr ⟨by kernel_rfl, rfl⟩) (by assumption) ?_; try simp only [Act.put]
      refine wpAnyH_take (i := 16) (v := undef) rfl (by kernel_rfl) (by kernel_rfl) (by kernel_rfl) (fun _ _ _ h => h) (Or.inr ⟨by kernel_rfl, rfl⟩) (by assumption) ?_; try simp only [Act.put]
      refine wpAnyH_take (i := 17) (v := undef) rfl (by kernel_rfl) (by kernel_rfl) (by kernel_rfl) (fun _ _ _ h => h) (Or.inr ⟨by kernel_rfl, rfl⟩) (by assumption) ?_; try simp only [Act.put]
      refine wpAnyH_take (i := 18) (v := undef) rfl (by kernel_rfl) (by kernel_rfl) (by kernel_rfl) (fun _ _ _ h => h) (Or.inr ⟨by kernel_rfl, rfl⟩) (by assumption) ?_; try simp only [Act.put]
      refine wpAnyH_take (i := 19) (v := undef) rfl (by kernel_rfl) (by kernel_rfl) (by kernel_rfl) (fun _ _ _ h => h) (Or.inr ⟨by kernel_rfl, rfl⟩) (by assumption) ?_; try simp only [Act.put]
      refine wpAnyH_take (i := 20) (v := undef) rfl (by kernel_rfl) (by kernel_rfl) (by kernel_rfl) (fun _ _ _ h => h) (Or.inr ⟨by kernel_rfl, rfl⟩) (by assumption) ?_; try simp only [Act.put]
      refine wpAnyH_take (i := 21) (v := undef) rfl (by kernel_rfl) (by kernel_rfl) (by kernel_rfl) (fun _ _ _ h => h) (Or.inr ⟨by kernel_rfl, rfl⟩) (by assumption) ?_; try simp only [Act.put]
      refine wpAnyH_take (i := 22) (v := undef) rfl (by kernel_rfl) (by kernel_rfl) (by kernel_rfl) (fun _ _ _ h => h) (Or.inr ⟨by kernel_rfl, rfl⟩) (by assumption) ?_; try simp only [Act.put]
      refine wpAnyH_take (i := 23) (v := ?hv23) rfl (by kernel_rfl) (by kernel_rfl) (by kernel_rfl) (fun _ _ _ h => h) (Or.inl ⟨by kernel_rfl, ?hy23⟩) (by assumption) ?hr23; (case hy23 => ((intro w hSw; (try dsimp only at hSw); go_simp) <;> with_reducible rfl)); try simp only [Act.put]
      refine wpAnyH_take (i := 24) (v := ?hv12) rfl (by kernel_rfl) (by kernel_rfl) (by kernel_rfl) (fun _ _ _ h => h) (Or.inl ⟨by rfl, ?hy12⟩) (by assumption) ?hr12; (case hy12 => ((intro w hSw; (try dsimp only at hSw); go_simp) <;> with_reducible rfl)); try simp only [Act.put]
      refine wpAnyH_done (by kernel_rfl) ?_ _
      go_wp2_with fail
      rename_i o1 d1 i1 o2 d2 i2
      obtain rfl := Option.some.inj i1
      obtain rfl := Option.some.inj i2
      clear i1 i2
      simp only [List.set_cons_zero, List.set_cons_succ]
      go_meet
      case rel => exact ⟨rfl, SK4.out.stay (by first | exact hHeld.2 | exact hHeld.2.drew)⟩
    · obtain ⟨rfl, rfl⟩ := Z1.out hE
      have hE1 : (E1 != 0) = true := by simpa using hE
      obtain ⟨cS, fS, zS⟩ := blkC SK4.out.a
      go_wp2_with fail
      refine wp_region_held_drew (S := (fun w' => (∀ o, w'.cell? ⟨w.heap.size, o, none⟩ = #[.float .f32 lo, .float .f32 st, .int .i64 bi][o]?) ∧ Below w3.heap.size w3 w')) (by kernel_rfl) ?_ (fun hHeld => ?_)
      · try dsimp only
        exact (fun K => ⟨(blkC (blkStay SK4.out.a K)).1, K⟩) (by repeat (first | exact hb9 | exact Below.refl _ _ | refine Below.drew ?_ | refine Below.alloc ?_ (by first | exact Nat.le_refl _ | exact hb9.size | (simp; done) | (have := hb9.size; simp; omega) | (simp; omega)) _))
      refine wpAnyH_ready (rs := [0]) (by kernel_rfl) (by simp) ?_; refine AllReadyH.cons rfl (fun K hK => ?_) AllReadyH.nil; go_simp
      (with_reducible refine Calls.mono (WR.out _) ?_); rintro e w' ⟨rfl, hb7⟩; have hb9 : Below w3.heap.size w3 w' := Below.trans (by repeat (first | exact hb9 | exact Below.refl _ _ | refine Below.drew ?_)) (Below.mono hb7 (by first | exact Nat.le_refl _ | exact hb9.size | (simp; done) | (simp; omega)))
      try go_wp2_with fail
      refine hK.out _ _ ?_ (fun hHeld => ?_)
      · try dsimp only
        exact (fun K => ⟨(blkC (blkStay SK4.out.a K)).1, K⟩) (by repeat (first | exact hb9 | exact Below.refl _ _ | refine Below.drew ?_ | refine Below.alloc ?_ (by first | exact Nat.le_refl _ | exact hb9.size | (simp; done) | (have := hb9.size; simp; omega) | (simp; omega)) _))
      clear hK K; try simp only [Act.put, List.setIfInBounds_toArray, List.set_cons_zero, List.set_cons_succ]
      refine wpAnyH_take (i := 1) (v := ?hv13) rfl (by kernel_rfl) (by kernel_rfl) (by kernel_rfl) (fun _ _ _ h => h) (Or.inl ⟨by rfl, ?hy13⟩) (by assumption) ?hr13; (case hy13 => ((intro w hSw; (try dsimp only at hSw); go_simp) <;> with_reducible rfl)); try simp only [Act.put]
      refine wpAnyH_take (i := 2) (v := ?hv14) rfl (by kernel_rfl) (by kernel_rfl) (by kernel_rfl) (fun _ _ _ h => h) (Or.inl ⟨by rfl, ?hy14⟩) (by assumption) ?hr14; (case hy14 => ((intro w hSw; (try dsimp only at hSw); go_simp) <;> with_reducible rfl)); try simp only [Act.put]
      refine wpAnyH_take (i := 3) (v := ?hv15) rfl (by kernel_rfl) (by kernel_rfl) (by kernel_rfl) (fun _ _ _ h => h) (Or.inl ⟨by rfl, ?hy15⟩) (by assumption) ?hr15; (case hy15 => ((intro w hSw; (try dsimp only at hSw); go_simp) <;> with_reducible rfl)); try simp only [Act.put]
      refine wpAnyH_take (i := 5) (v := ?hv16) rfl (by kernel_rfl) (by kernel_rfl) (by kernel_rfl) (fun _ _ _ h => h) (Or.inl ⟨by rfl, ?hy16⟩) (by assumption) ?hr16; (case hy16 => ((intro w hSw; (try dsimp only at hSw); go_simp) <;> with_reducible rfl)); try simp only [Act.put]
      refine wpAnyH_ready (rs := [4]) (by kernel_rfl) (by simp) ?_; refine AllReadyH.cons rfl (fun K hK => ?_) AllReadyH.nil; go_simp
      (with_reducible refine Calls.mono (CS.out _) ?_); rintro e w' ⟨rfl, hb7⟩; have hb9 : Below w3.heap.size w3 w' := Below.trans (by repeat (first | exact hb9 | exact Below.refl _ _ | refine Below.drew ?_)) (Below.mono hb7 (by first | exact Nat.le_refl _ | exact hb9.size | (simp; done) | (simp; omega)))
      try go_wp2_with fail
      refine hK.out _ _ ?_ (fun hHeld => ?_)
      · try dsimp only
        exact (fun K => ⟨(blkC (blkStay SK4.out.a K)).1, K⟩) (by repeat (first | exact hb9 | exact Below.refl _ _ | refine Below.drew ?_ | refine Below.alloc ?_ (by first | exact Nat.le_refl _ | exact hb9.size | (simp; done) | (have := hb9.size; simp; omega) | (simp; omega)) _))
      clear hK K; try simp only [Act.put, List.setIfInBounds_toArray, List.set_cons_zero, List.set_cons_succ]
      refine wpAnyH_ready (rs := [6]) (by kernel_rfl) (by simp) ?_; refine AllReadyH.cons rfl (fun K hK => ?_) AllReadyH.nil; go_simp
      (with_reducible refine Calls.mono (SE.out _) ?_); rintro e w' ⟨rfl, hb7⟩; have hb9 : Below w3.heap.size w3 w' := Below.trans (by repeat (first | exact hb9 | exact Below.refl _ _ | refine Below.drew ?_)) (Below.mono hb7 (by first | exact Nat.le_refl _ | exact hb9.size | (simp; done) | (simp; omega)))
      try go_wp2_with fail
      refine hK.out _ _ ?_ (fun hHeld => ?_)
      · try dsimp only
        exact (fun K => ⟨(blkC (blkStay SK4.out.a K)).1, K⟩) (by repeat (first | exact hb9 | exact Below.refl _ _ | refine Below.drew ?_ | refine Below.alloc ?_ (by first | exact Nat.le_refl _ | exact hb9.size | (simp; done) | (have := hb9.size; simp; omega) | (simp; omega)) _))
      clear hK K; try simp only [Act.put, List.setIfInBounds_toArray, List.set_cons_zero, List.set_cons_succ]
      refine wpAnyH_take (i := 7) (v := ?hv2) rfl (by kernel_rfl) (by kernel_rfl) (by kernel_rfl) (fun _ _ _ h => h) (Or.inl ⟨by rfl, ?hy2⟩) (by assumption) ?hr2; (case hy2 => ((intro w hSw; (try dsimp only at hSw); go_simp) <;> with_reducible rfl)); try simp only [Act.put, List.setIfInBounds_toArray]
      refine wpAnyH_take (i := 8) (v := ?hv17) rfl (by kernel_rfl) (by kernel_rfl) (by kernel_rfl) (fun _ _ _ h => h) (Or.inl ⟨by rfl, ?hy17⟩) (by assumption) ?hr17; (case hy17 => ((intro w hSw; (try dsimp only at hSw); go_simp) <;> with_reducible rfl)); try simp only [Act.put]
      refine wpAnyH_take (i := 9) (v := ?hv18) rfl (by kernel_rfl) (by kernel_rfl) (by kernel_rfl) (fun _ _ _ h => h) (Or.inl ⟨by rfl, ?hy18⟩) (by assumption) ?hr18; (case hy18 => ((intro w hSw; (try dsimp only at hSw); go_simp) <;> with_reducible rfl)); try simp only [Act.put]
      refine wpAnyH_take (i := 10) (v := ?hv19) rfl (by kernel_rfl) (by kernel_rfl) (by kernel_rfl) (fun _ _ _ h => h) (Or.inl ⟨by rfl, ?hy19⟩) (by assumption) ?hr19; (case hy19 => ((intro w hSw; (try dsimp only at hSw); go_simp) <;> with_reducible rfl)); try simp only [Act.put]
      refine wpAnyH_take (i := 11) (v := ?hv20) rfl (by kernel_rfl) (by kernel_rfl) (by kernel_rfl) (fun _ _ _ h => h) (Or.inl ⟨by rfl, ?hy20⟩) (by assumption) ?hr20; (case hy20 => ((intro w hSw; (try dsimp only at hSw); go_simp) <;> with_reducible rfl)); try simp only [Act.put]
      refine wpAnyH_take (i := 12) (v := ?hv21) rfl (by kernel_rfl) (by kernel_rfl) (by kernel_rfl) (fun _ _ _ h => h) (Or.inl ⟨by rfl, ?hy21⟩) (by assumption) ?hr21; (case hy21 => ((intro w hSw; (try dsimp only at hSw); go_simp) <;> with_reducible rfl)); try simp only [Act.put]
      refine wpAnyH_take (i := 13) (v := ?hv24) rfl (by kernel_rfl) (by kernel_rfl) (by kernel_rfl) (fun _ _ _ h => h) (Or.inl ⟨by kernel_rfl, ?hy24⟩) (by assumption) ?hr24; (case hy24 => ((intro w hSw; (try dsimp only at hSw); go_simp) <;> with_reducible rfl)); try simp only [Act.put]
      refine wpAnyH_take (i := 14) (v := ?hv25) rfl (by kernel_rfl) (by kernel_rfl) (by kernel_rfl) (fun _ _ _ h => h) (Or.inl ⟨by kernel_rfl, ?hy25⟩) (by assumption) ?hr25; (case hy25 => ((intro w hSw; (try dsimp only at hSw); go_simp) <;> with_reducible rfl)); try simp only [Act.put]
      refine wpAnyH_take (i := 15) (v := ?hv26) rfl (by kernel_rfl) (by kernel_rfl) (by kernel_rfl) (fun _ _ _ h => h) (Or.inl ⟨by kernel_rfl, ?hy26⟩) (by assumption) ?hr26; (case hy26 => ((intro w hSw; (try dsimp only at hSw); go_simp) <;> with_reducible rfl)); try simp only [Act.put]
      refine wpAnyH_take (i := 16) (v := ?hv27) rfl (by kernel_rfl) (by kernel_rfl) (by kernel_rfl) (fun _ _ _ h => h) (Or.inl ⟨by kernel_rfl, ?hy27⟩) (by assumption) ?hr27; (case hy27 => ((intro w hSw; (try dsimp only at hSw); go_simp) <;> with_reducible rfl)); try simp only [Act.put]
      refine wpAnyH_take (i := 17) (v := ?hv28) rfl (by kernel_rfl) (by kernel_rfl) (by kernel_rfl) (fun _ _ _ h => h) (Or.inl ⟨by kernel_rfl, ?hy28⟩) (by assumption) ?hr28; (case hy28 => ((intro w hSw; (try dsimp only at hSw); go_simp) <;> with_reducible rfl)); try simp only [Act.put]
      refine wpAnyH_take (i := 18) (v := ?hv29) rfl (by kernel_rfl) (by kernel_rfl) (by kernel_rfl) (fun _ _ _ h => h) (Or.inl ⟨by kernel_rfl, ?hy29⟩) (by assumption) ?hr29; (case hy29 => ((intro w hSw; (try dsimp only at hSw); go_simp) <;> with_reducible rfl)); try simp only [Act.put]
      refine wpAnyH_take (i := 19) (v := ?hv30) rfl (by kernel_rfl) (by kernel_rfl) (by kernel_rfl) (fun _ _ _ h => h) (Or.inl ⟨by kernel_rfl, ?hy30⟩) (by assumption) ?hr30; (case hy30 => ((intro w hSw; (try dsimp only at hSw); go_simp) <;> with_reducible rfl)); try simp only [Act.put]
      refine wpAnyH_take (i := 20) (v := ?hv31) rfl (by kernel_rfl) (by kernel_rfl) (by kernel_rfl) (fun _ _ _ h => h) (Or.inl ⟨by kernel_rfl, ?hy31⟩) (by assumption) ?hr31; (case hy31 => ((intro w hSw; (try dsimp only at hSw); go_simp) <;> with_reducible rfl)); try simp only [Act.put]
      refine wpAnyH_take (i := 21) (v := ?hv32) rfl (by kernel_rfl) (by kernel_rfl) (by kernel_rfl) (fun _ _ _ h => h) (Or.inl ⟨by kernel_rfl, ?hy32⟩) (by assumption) ?hr32; (case hy32 => ((intro w hSw; (try dsimp only at hSw); go_simp) <;> with_reducible rfl)); try simp only [Act.put]
      refine wpAnyH_take (i := 22) (v := ?hv33) rfl (by kernel_rfl) (by kernel_rfl) (by kernel_rfl) (fun _ _ _ h => h) (Or.inl ⟨by kernel_rfl, ?hy33⟩) (by assumption) ?hr33; (case hy33 => ((intro w hSw; (try dsimp only at hSw); go_simp) <;> with_reducible rfl)); try simp only [Act.put]
      refine wpAnyH_take (i := 23) (v := ?hv34) rfl (by kernel_rfl) (by kernel_rfl) (by kernel_rfl) (fun _ _ _ h => h) (Or.inl ⟨by kernel_rfl, ?hy34⟩) (by assumption) ?hr34; (case hy34 => ((intro w hSw; (try dsimp only at hSw); go_simp) <;> with_reducible rfl)); try simp only [Act.put]
      refine wpAnyH_take (i := 24) (v := ?hv22) rfl (by kernel_rfl) (by kernel_rfl) (by kernel_rfl) (fun _ _ _ h => h) (Or.inl ⟨by rfl, ?hy22⟩) (by assumption) ?hr22; (case hy22 => ((intro w hSw; (try dsimp only at hSw); go_simp) <;> with_reducible rfl)); try simp only [Act.put]
      refine wpAnyH_done (by kernel_rfl) ?_ _
      go_wp2_with fail
      rename_i o1 d1 i1 o2 d2 i2
      obtain rfl := Option.some.inj i1
      obtain rfl := Option.some.inj i2
      clear i1 i2
      simp only [List.set_cons_zero, List.set_cons_succ]
      go_meet
      case rel => exact ⟨rfl, SK4.out.stay (by first | exact hHeld.2 | exact hHeld.2.drew)⟩
  case rest =>
    obtain ⟨rfl, hcut⟩ := hcut
    have SK5 := Lib.hid hcut
    clear hcut SK4
    generalize wc = w5 at *
    go_upto_if 65 with fail
    go_cut [15, 16] from 66 to 83 (fun _ _ wx => SkAt w wx lo st bi X Y W H s)
    case first =>
      obtain ⟨cS, fS, zS⟩ := blkC SK5.out.a
      by_cases hE : E1 = 0
      · subst hE
        have LO2 := Lib.hid (LO.out rfl)
        go_wp2_with (go_at_call 26; (with_reducible refine (LO2.out _).mono ?_); rintro en w6 ⟨rfl, hb6⟩; have SK6 := Lib.hid (SK5.out.stay hb6); clear hb6 cS fS zS; obtain ⟨cS, fS, zS⟩ := blkC SK6.out.a)
        go_meet
        case rel => exact SK6.out
      · have hE1 : (E1 == 0) = false := by simpa using hE
        go_wp2_with fail
        go_meet
        case rel => exact SK5.out
    case rest =>
      have SK7 := Lib.hid hcut
      clear hcut SK5
      generalize wc = w7 at *
      obtain ⟨cS, fS, zS⟩ := blkC SK7.out.a
      go_upto_if 93 with (first
        | (go_at_call 27; (with_reducible refine (VL.out _).mono ?_); rintro en w8 ⟨rfl, hb8⟩; have SK8 := Lib.hid (SK7.out.stay hb8); clear hb8 cS fS zS; obtain ⟨cS, fS, zS⟩ := blkC SK8.out.a)
        | (go_at_call 23; (with_reducible refine (SE.out _).mono ?_); rintro en w9 ⟨rfl, hb9⟩; have SK9 := Lib.hid (SK8.out.stay hb9); clear hb9 cS fS zS; obtain ⟨cS, fS, zS⟩ := blkC SK9.out.a))
      clear SK7 SK8
      go_cut [14] from 94 to 101 (fun s14 wx => s14 = .int .i64 M2 ∧ SkAt w wx lo st bi X Y W H s)
      case first =>
        by_cases hE : S1 = 0
        · subst hE
          obtain ⟨P, hM⟩ := HP.out rfl
          have HMM := Lib.hid hM
          have bb := P.bd
          have s1 := fun W => run_shl_one P W
          clear P hM
          go_wp2_with (first
            | (go_at_call 29; (with_reducible refine Calls.mono (WI.out _ _ _ _) ?_); rintro e w' ⟨rfl, rfl⟩)
            | (go_at_call 28; (with_reducible refine Calls.mono (WN.out _ _ _) ?_); rintro e w' ⟨rfl, rfl⟩))
          go_meet
          case rel => exact ⟨by rw [HMM.out], SK9.out⟩
        · have hE1 : (S1 == 0) = false := by simpa using hE
          have HMM := Lib.hid (HM.out hE)
          go_wp2_with fail
          go_meet
          case rel => exact ⟨by rw [HMM.out], SK9.out⟩
      case rest =>
        obtain ⟨rfl, hcut⟩ := hcut
        have SK10 := Lib.hid hcut
        clear hcut SK9 cS fS zS
        generalize wc = w10 at *
        go_upto_if 103 with fail
        go_cut [14] from 104 to 110 (fun s14 wx => s14 = .int .i64 E2 ∧ SkAt w wx lo st bi X Y W H s)
        case first =>
          obtain ⟨cS, fS, zS⟩ := blkC SK10.out.a
          by_cases hE : M2 = 0
          · have VO2 := Lib.hid (VO.out hE)
            have HMM := Lib.hid (HE2.out.2 hE)
            subst hE
            generalize fldE 1 (fun _ => x) = q at *
            go_wp2_with (first
              | (go_at_call 30; (with_reducible refine (VO2.out _).mono ?_); rintro en w11 ⟨rfl, hb11⟩; have SK11 := Lib.hid (SK10.out.stay hb11); have SK12 := Lib.hid (SK11.out.grow (flObj x)); clear hb11 cS fS zS)
              | (go_at_call 24; (with_reducible refine (NEX.out _ _ (by (first | (rw [heap_alloc_get, if_pos rfl]; done) | ((simp only [heap_alloc_get, heap_size_alloc, if_true]) <;> ((repeat' split) <;> first | rfl | omega))))).mono ?_); rintro en w' ⟨rfl, rfl⟩)
              | (go_at_call 28; (with_reducible refine Calls.mono (WN.out _ _ _) ?_); rintro e w' ⟨rfl, rfl⟩))
            all_goals go_meet
            all_goals (case rel => exact ⟨by rw [HMM.out], SK12.out⟩)
          · have hE1 : (M2 == 0) = false := by simpa using hE
            have HMM := Lib.hid (HE2.out.1 hE)
            go_wp2_with fail
            go_meet
            case rel => exact ⟨by rw [HMM.out], SK10.out⟩
        case rest =>
          obtain ⟨rfl, hcut⟩ := hcut
          have SK13 := Lib.hid hcut
          clear hcut SK10
          generalize wc = w13 at *
          go_upto_region 15 with fail
          go_cut [137] from 111 to 137 (fun s137 wx => s137 = .bool false ∧ SkAt w wx lo st bi X Y W H s)
          case first =>
            obtain ⟨cS, fS, zS⟩ := blkC SK13.out.a
            by_cases hE : E2 = 0
            · have hM : M2 = 0 := by
                by_cases q : M2 = 0
                · exact q
                · rw [← HE2.out.1 q]; exact hE
              have VO2 := Lib.hid (VO.out hM)
              have hz := HZ2.out.2 hE
              clear hM
              subst hE hz
              go_wp2_with (first
                | (go_at_call 30; (with_reducible refine (VO2.out _).mono ?_); rintro en w14 ⟨rfl, hb14⟩; have SK14 := Lib.hid (SK13.out.stay hb14); clear hb14 cS fS zS)
                | (go_at_call 18; (with_reducible refine Calls.mono (BS.out _ _) ?_); rintro e w' ⟨rfl, rfl⟩))
              go_meet
              case rel => exact ⟨rfl, SK14.out⟩
            · have hE1 : (E2 != 0) = true := by simpa using hE
              have hE3 : (E2 == 0) = false := by simpa using hE
              have hz := HZ2.out.1 hE
              subst hz
              have hz0 : (FloatKind.f32.format.order 0 0 == some .eq) = true := by decide
              go_wp2_with fail
              go_meet
              case rel => exact ⟨rfl, SK13.out⟩
          case rest =>
            obtain ⟨rfl, hcut⟩ := hcut
            have SK15 := Lib.hid hcut
            clear hcut SK13
            generalize wc = w15 at *
            clear LV LO Z1 SE CS NE HE1 VL VO HM HP HE2 HZ2 WR
            obtain ⟨fE, hFE, hF1, hF2⟩ := HF.out
            have FE := Lib.hid hFE
            have F1 := Lib.hid hF1
            have F2 := Lib.hid hF2
            clear HF hFE hF1 hF2
            generalize hW3 : firstE fE (whenE (!withinB bt 1 24) 3) = W3 at *
            have HW3 := Lib.hid hW3
            clear hW3
            have RS := fun (w : World) (a : Addr) (m : Mode) k b => run_store_float (P := Try.prog) (w := w) (a := a) (m := m) k b
            have EQZ := scl_eqz
            obtain ⟨cS, fS, zS⟩ := blkC SK15.out.a
            obtain ⟨cF, fF, zF⟩ := blkC SK15.out.b
            by_cases hW : W3 = 0
            · subst hW
              obtain ⟨m, c, mo2, P, hg, fF2, fMin, fMax⟩ := F2.out rfl
              have FT := Lib.hid fF2
              have MI := Lib.hid fMin
              have MA := Lib.hid fMax
              have HG := Lib.hid hg
              have HPW := Lib.hid P
              clear F1 F2 fF2 fMin fMax hg P
              go_upto_region 21 with (first
                | (go_at_call 31; (with_reducible refine (FT.out _ SK15.out.h).mono ?_); rintro en w16 ⟨lo2, hi2, d2, q2, er, y1, y2, y3, rfl, her, h0, h1, hlo, hhi, hst, hb16⟩; have HER := Lib.hid her; have H0 := Lib.hid h0; have H1 := Lib.hid h1; have HLO := Lib.hid hlo; have HHI := Lib.hid hhi; have HST := Lib.hid hst; clear her h0 h1 hlo hhi hst; have SK16 := Lib.hid (SK15.out.stay hb16); have SK17 := Lib.hid (SK16.out.grow (sclO y1 y2 y3)); have HX17 := Lib.hid (heap_alloc_new w16 (sclO y1 y2 y3)); clear hb16 cS fS zS cF fF zF; obtain ⟨cS, fS, zS⟩ := blkC SK17.out.a; obtain ⟨cF, fF, zF⟩ := blkC SK17.out.b)
                | (go_at_call 32; (with_reducible refine (FE.out _ SK17.out.h).mono ?_); rintro en w18 ⟨rfl, hb18⟩; have SK18 := Lib.hid (SK17.out.stay hb18); have HX18 := Lib.hid (blkStay HX17.out hb18); clear hb18 cS fS zS cF fF zF)
                | (go_at_call 29; (with_reducible refine Calls.mono (WI.out _ _ _ _) ?_); rintro e w' ⟨rfl, rfl⟩)
                | (go_at_call 28; (with_reducible refine Calls.mono (WN.out _ _ _) ?_); rintro e w' ⟨rfl, rfl⟩)
                | (go_at_call 22; (with_reducible refine (FI.out _ _ _ _ (by (first | (rw [heap_alloc_get, if_pos rfl]; done) | ((simp only [heap_alloc_get, heap_size_alloc, if_true]) <;> ((repeat' split) <;> first | rfl | omega))))).mono ?_); rintro en w' ⟨rfl, rfl⟩; rw [HW3.out]))
              have SK19 := Lib.hid (SK18.out.grow (.cells #[.int .i64 fE, .int .i64 (whenE (!withinB bt 1 24) 3)] 25))
              have HX19 := Lib.hid ((heap_alloc_old w18 (.cells #[.int .i64 fE, .int .i64 (whenE (!withinB bt 1 24) 3)] 25) (blkC HX18.out).2.2).trans HX18.out)
              clear SK17 SK18 HX17 HX18
              generalize w18.alloc _ = w19 at *
              obtain ⟨cF, fF, zF⟩ := blkC SK19.out.b
              go_region_held3 (fun w' => (∀ o, w'.cell? ⟨w.heap.size + 1, o, none⟩ = #[.int .i64 X, .int .i64 Y, .int .i64 W, .int .i64 H, s][o]?) ∧ Below w19.heap.size w19 w')
                (first | exact ⟨cF, Below.refl _ _⟩ | exact ⟨cF, (by repeat (first | exact Below.refl _ _ | refine Below.alloc ?_ (by first | omega | (simp; done) | (simp; omega)) _ | refine Below.setCell ?_ (by first | omega | (simp; done) | (simp; omega)) _ | refine Below.drew ?_))⟩)
                (first
                  | (go_at_call 33; (with_reducible refine (MI.out _ (by first | exact SK19.out.h | exact SK19.out.h.drew | exact SK19.out.h.drew.drew)).mono ?_); rintro e w' ⟨ya, rfl, hya, rfl⟩; have HYA := Lib.hid hya; clear hya)
                  | (go_at_call 34; (with_reducible refine (MA.out _ (by first | exact SK19.out.h | exact SK19.out.h.drew | exact SK19.out.h.drew.drew)).mono ?_); rintro e w' ⟨yb, rfl, hyb, rfl⟩; have HYB := Lib.hid hyb; clear hyb))
              rename_i hHeld
              have SK20 := Lib.hid (SK19.out.stay hHeld.2)
              have HX20 := Lib.hid (blkStay HX19.out hHeld.2)
              clear hHeld cF fF zF SK19 HX19
              generalize w19.drew = wh at *
              obtain ⟨dd, qq, sp⟩ := stp (HYA.out.hgt HG.out) (HYB.out.hgt HG.out) HPW.out.bd.1 HPW.out.bd.2
              obtain ⟨A, hA1, hA2⟩ := HLO.out.same HYA.out
              obtain ⟨B, hB1, hB2⟩ := HHI.out.same HYB.out
              have hst := step_same HPW.out.bd.1 HPW.out.bd.2 hA1 hA2 hB1 hB2 (HLO.out.hgt HG.out) (HHI.out.hgt HG.out) HST.out sp
              have hlow : (FloatKind.f32.format.order lo2 ya == some .eq) = true := by rw [f32f, eql_val hA1 hA2]; simp
              have hbd : Bd 21 (grtW q2 897581056) := by
                unfold grtW
                split
                · exact bd_val c20 (by rw [Int.natAbs_natCast]; exact c20_le)
                · exact HST.out.b2
              have a1 := fun (W : World) => run_float_arith (P := Try.prog) W .sub 22 .f32 _ _ _ sp.e1
              have a2 := fun (W : World) => run_float_arith (P := Try.prog) W .quo 22 .f32 _ _ _ sp.e2
              have s1 := fun W => run_shl_one HPW.out W
              have bb := HPW.out.bd
              clear hA1 hA2 hB1 hB2 sp HLO HHI HST HYA HYB HG HPW FT MI MA
              generalize grtW q2 897581056 = st2 at *
              have NES := Lib.hid (fun p w (hh : w.heap[p]? = some (flObj st2)) => qNumberError_row p 0 1 1 (fun _ => st2) (by omega) w (flAt_one_of hh))
              rw [← HER.out] at NES
              have her3 : er ≠ 0 → er = 3 := fun h => by rw [HER.out]; exact fin_out3 hbd (HER.out ▸ h)
              have HER3 := Lib.hid her3
              have HST2 := Lib.hid hst
              obtain ⟨cX, fX, zX⟩ := blkC HX20.out
              clear hbd her3 hst HER
              have HXA := Lib.hid ((heap_alloc_old wh (flObj st2) (blkC HX20.out).2.2).trans HX20.out)
              obtain ⟨cXA, fXA, zXA⟩ := blkC HXA.out
              unfold flObj at cXA fXA zXA
              cases hc : (FloatKind.f32.format.order qq 897581056 == some .lt)
              all_goals
                have hs2 := HST2.out
                rw [hc] at hs2
                simp only [if_true, if_false, Bool.false_eq_true] at hs2
                subst hs2
                by_cases he : er = 0
                · obtain ⟨rfl, rfl, rfl⟩ := H0.out he
                  subst he
                  clear H0 H1 HER3 HST2
                  go_wp2_with (first
                    | (go_at_call 24; go_loud ((with_reducible refine (NES.out _ _ (by (first | (rw [heap_alloc_get, if_pos rfl]; done) | ((simp only [heap_alloc_get, heap_size_alloc, if_true]) <;> ((repeat' split) <;> first | rfl | omega))))).mono ?_); rintro en w' ⟨rfl, rfl⟩))
                    | (go_at_call 18; (with_reducible refine Calls.mono (BS.out _ _) ?_); rintro e w' ⟨rfl, rfl⟩))
                  go_ret
                  exact ⟨rfl, (SK20.out.grow _).h⟩
                · have he3 := HER3.out he
                  obtain ⟨rfl, rfl, rfl⟩ := H1.out he
                  subst he3
                  clear H0 H1 HER3 HST2 he
                  go_wp2_with (first
                    | (go_at_call 24; go_loud ((with_reducible refine (NES.out _ _ (by (first | (rw [heap_alloc_get, if_pos rfl]; done) | ((simp only [heap_alloc_get, heap_size_alloc, if_true]) <;> ((repeat' split) <;> first | rfl | omega))))).mono ?_); rintro en w' ⟨rfl, rfl⟩)))
                  go_ret
                  exact ⟨rfl, (SK20.out.grow _).h⟩
            · have hW0 : (W3 != 0) = true := by simpa using hW
              have FT := Lib.hid (F1.out hW)
              clear F1 F2 hW
              go_wp2_with (first
                | (go_at_call 31; (with_reducible refine (FT.out _ SK15.out.h).mono ?_); rintro en w16 ⟨rfl, hb16⟩; have SK16 := Lib.hid (SK15.out.stay hb16); have SK17 := Lib.hid (SK16.out.grow (sclO 0 0 0)); have HX17 := Lib.hid (heap_alloc_new w16 (sclO 0 0 0)); clear hb16 cS fS zS cF fF zF; obtain ⟨cS, fS, zS⟩ := blkC SK17.out.a; obtain ⟨cF, fF, zF⟩ := blkC SK17.out.b)
                | (go_at_call 32; (with_reducible refine (FE.out _ SK17.out.h).mono ?_); rintro en w18 ⟨rfl, hb18⟩; have SK18 := Lib.hid (SK17.out.stay hb18); have HX18 := Lib.hid (blkStay HX17.out hb18); clear hb18 cS fS zS cF fF zF; obtain ⟨cX, fX, zX⟩ := blkC HX18.out)
                | (go_at_call 29; (with_reducible refine Calls.mono (WI.out _ _ _ _) ?_); rintro e w' ⟨rfl, rfl⟩)
                | (go_at_call 28; (with_reducible refine Calls.mono (WN.out _ _ _) ?_); rintro e w' ⟨rfl, rfl⟩)
                | (go_at_call 22; (with_reducible refine (FI.out _ _ _ _ (by (first | (rw [heap_alloc_get, if_pos rfl]; done) | ((simp only [heap_alloc_get, heap_size_alloc, if_true]) <;> ((repeat' split) <;> first | rfl | omega))))).mono ?_); rintro en w' ⟨rfl, rfl⟩; rw [HW3.out]))
              go_ret
              exact ⟨rfl, (SK18.out.grow _).h⟩
end Go.Proofs.Ytkcehbnmcdppkaa

/- A field that came in, opened: four integers, and a slice of singles that is empty or known cell by cell. -/
namespace Go.Proofs.Ytkcehbnmcdppkaa
open Go.ChangeShapes Go.WideShapes Go.ChangeAt Go.RowKit Go.Joins Fl

section
variable {H : Type} {enc : TypeId × Value → H} {w : World} {base : Nat} {spare : Nat → Bool} {held : Bool}

theorem trod_f32 {P : Program} {t : TypeId} {fuel : Nat} {v : Value} {y : DataW H × List MemPlace} (ht : P.underlying t = some (.float .f32)) (h : DataW.trod enc P w base spare held fuel t [v] = some y) : ∃ b, v = .float .f32 b ∧ b < 4294967296 := by
  cases fuel with
  | zero => simp [DataW.trod] at h
  | succ n =>
    unfold DataW.trod at h
    rw [ht] at h
    cases v <;> simp at h
    rename_i k b
    obtain ⟨⟨rfl, hw⟩, _⟩ := h
    exact ⟨b, rfl, by simpa [Lit.wf] using hw⟩

theorem array5 {α : Type} {cs : Array α} (h : cs.size = 5) : ∃ c0 c1 c2 c3 c4, cs = #[c0, c1, c2, c3, c4] := by
  obtain ⟨l⟩ := cs
  match l, h with
  | [c0, c1, c2, c3, c4], _ => exact ⟨c0, c1, c2, c3, c4, rfl⟩

theorem flAt_congr' {w w' : World} {b off n : Nat} {f : Nat → Nat} (h : FlAt w b off n f) (e : w'.heap[b]? = w.heap[b]?) : FlAt w' b off n f := fun i hi => by
  rw [← h i hi]; exact World.cell?_of_block (w := w) (a := ⟨b, off + i, none⟩) e

/-- What a slice of singles is: empty, or known cell by cell. -/
def SlF (w : World) (s : Value) : Prop :=
  (∃ a cap, s = .slice a 0 cap) ∨ ∃ b off len cap x, s = .slice (some ⟨b, off, none⟩) len cap ∧ 0 < len ∧ len ≤ 9223372036854775807 ∧ FlAt w b off len x ∧ wf32 len x

theorem open_singles {t e : TypeId} {fuel : Nat} {cs : List Value} {y : DataW H × List MemPlace} (ht : Try.prog.underlying t = some (.slice e)) (he : Try.prog.underlying e = some (.float .f32)) (hc : Try.prog.cellsOf e = 1)
    (h : DataW.trod enc Try.prog w base spare held fuel t cs = some y) : ∃ s, cs = [s] ∧ SlF w s := by
  rcases Go.Deep.open_slice1 ht hc h with ⟨rfl, _⟩ | ⟨a, len, cap, m, n, V, D, Pl, rfl, hb, hl, hm, hmm, _, hx⟩
  · exact ⟨_, rfl, .inl ⟨none, 0, rfl⟩⟩
  · refine ⟨_, rfl, ?_⟩
    rcases Nat.eq_zero_or_pos len with z | z
    · subst z; exact .inl ⟨_, _, rfl⟩
    · have hlm : len ≤ m := by rw [hmm]; split <;> omega
      have h0 := (hx 0 (by omega)).1
      obtain ⟨b, off, spot⟩ := a
      have hspot : spot = none := by simpa [Addr.add] using World.cell?_spot h0
      subst hspot
      have hv : ∀ i, i < len → ∃ x, V i = .float .f32 x ∧ x < 4294967296 := fun i hi => trod_f32 he (hx i (by omega)).2
      refine .inr ⟨b, off, len, cap, fun i => match V i with | .float _ x => x | _ => 0, rfl, z, ?_, fun i hi => ?_, fun i hi => ?_⟩
      · exact Nat.le_trans hl (Nat.le_trans hm (by decide))
      · have h1 := (hx i (by omega)).1
        obtain ⟨x, e1, _⟩ := hv i hi
        rw [← Go.WideShapes.add_plain, h1]
        simp only [e1]
      · obtain ⟨x, e1, e2⟩ := hv i hi
        simp only [e1]; exact e2

theorem cellsF : Try.prog.cellsOf 41 = 5 := by kernel_rfl
theorem cellsR : Try.prog.cellsOf 38 = 4 := by kernel_rfl
theorem cellsS : Try.prog.cellsOf 39 = 1 := by kernel_rfl
theorem cells1 : Try.prog.cellsOf 22 = 1 := by kernel_rfl
theorem cellsI : Try.prog.cellsOf 3 = 1 := by kernel_rfl

set_option maxRecDepth 100000 in
theorem open_field {r : Reach} {b0 : Nat} {v : Value} {d : DataW H} {p : List MemPlace} (hv : Value.okWide Try.prog w r b0 41 v) (h : DataW.Trod enc Try.prog w base spare held 41 v d p) :
    ∃ X Y W' H' : Int, ∃ s, v = fldV X Y W' H' s ∧ SlF w s := by
  obtain ⟨cs, rfl, hsz⟩ := okWide_struct Try.underlying41 hv
  obtain ⟨c0, c1, c2, c3, c4, rfl⟩ := array5 (hsz.trans cellsF)
  obtain ⟨fuel, hf⟩ := h
  obtain ⟨y0, y1, n, _, _, h0, h1⟩ := trod_struct2 Try.underlying41 hf
  rw [cellsR] at h0
  rw [cellsS] at h1
  obtain ⟨s, e4, hs⟩ := open_singles Try.underlying39 Try.underlying22 cells1 h1
  obtain ⟨z0, z1, z2, z3, n2, _, _, g0, g1, g2, g3⟩ := trod_struct4 Try.underlying38 h0
  rw [cellsI] at g0 g1 g2 g3
  obtain ⟨x0, e0, _, _⟩ := DataW.trod_int Try.underlying3 g0
  obtain ⟨x1, e1, _, _⟩ := DataW.trod_int Try.underlying3 g1
  obtain ⟨x2, e2, _, _⟩ := DataW.trod_int Try.underlying3 g2
  obtain ⟨x3, e3, _, _⟩ := DataW.trod_int Try.underlying3 g3
  simp [Value.cells] at e0 e1 e2 e3 e4
  subst e0 e1 e2 e3 e4
  exact ⟨x0, x1, x2, x3, _, rfl, hs⟩
end

theorem SlF.stay {w w' : World} {s : Value} (h : SlF w s) (hb : Below w.heap.size w w') : SlF w' s := by
  rcases h with h | ⟨b, off, len, cap, x, rfl, h1, h2, h3, h4⟩
  · exact .inl h
  · exact .inr ⟨b, off, len, cap, x, rfl, h1, h2, flAt_congr' h3 (hb.block _ (World.block_lt_of_cell? w _ (h3 0 h1))), h4⟩

/-- fit, of whatever slice. -/
theorem fit_any {X Y W H : Int} {s : Value} {w : World} (h : SlF w s) : Calls Try.prog 36 #[fldV X Y W H s] w (FitPost w) := by
  rcases h with ⟨a, cap, rfl⟩ | ⟨b, off, len, cap, x, rfl, h1, h2, h3, h4⟩
  · exact fit_none X Y W H a cap w
  · exact fit_some X Y W H b off len cap x w h1 h2 h3 h4

theorem laidOut : laidOutB Try.prog = true := by kernel_rfl
end Go.Proofs.Ytkcehbnmcdppkaa

/- A field that came in, opened, with its capacity. -/
namespace Go.Proofs.Ytkcehbnmcdppkaa
open Go.ChangeShapes Go.WideShapes Go.ChangeAt Go.RowKit Go.Joins Fl

section
variable {H : Type} {enc : TypeId × Value → H} {w : World} {base : Nat} {spare : Nat → Bool} {held : Bool}

/-- What a slice of singles is: empty, or known cell by cell. -/
def SlF2 (w : World) (s : Value) : Prop :=
  (∃ a cap, s = .slice a 0 cap) ∨ ∃ b off len cap x, s = .slice (some ⟨b, off, none⟩) len cap ∧ 0 < len ∧ len ≤ cap ∧ len ≤ 9223372036854775807 ∧ FlAt w b off len x ∧ wf32 len x

theorem open_singles2 {t e : TypeId} {fuel : Nat} {cs : List Value} {y : DataW H × List MemPlace} (ht : Try.prog.underlying t = some (.slice e)) (he : Try.prog.underlying e = some (.float .f32)) (hc : Try.prog.cellsOf e = 1)
    (h : DataW.trod enc Try.prog w base spare held fuel t cs = some y) : ∃ s, cs = [s] ∧ SlF2 w s := by
  rcases Go.Deep.open_slice1 ht hc h with ⟨rfl, _⟩ | ⟨a, len, cap, m, n, V, D, Pl, rfl, hb, hl, hm, hmm, _, hx⟩
  · exact ⟨_, rfl, .inl ⟨none, 0, rfl⟩⟩
  · refine ⟨_, rfl, ?_⟩
    rcases Nat.eq_zero_or_pos len with z | z
    · subst z; exact .inl ⟨_, _, rfl⟩
    · have hlm : len ≤ m := by rw [hmm]; split <;> omega
      have h0 := (hx 0 (by omega)).1
      obtain ⟨b, off, spot⟩ := a
      have hspot : spot = none := by simpa [Addr.add] using World.cell?_spot h0
      subst hspot
      have hv : ∀ i, i < len → ∃ x, V i = .float .f32 x ∧ x < 4294967296 := fun i hi => trod_f32 he (hx i (by omega)).2
      refine .inr ⟨b, off, len, cap, fun i => match V i with | .float _ x => x | _ => 0, rfl, z, hl, ?_, fun i hi => ?_, fun i hi => ?_⟩
      · exact Nat.le_trans hl (Nat.le_trans hm (by decide))
      · have h1 := (hx i (by omega)).1
        obtain ⟨x, e1, _⟩ := hv i hi
        rw [← Go.WideShapes.add_plain, h1]
        simp only [e1]
      · obtain ⟨x, e1, e2⟩ := hv i hi
        simp only [e1]; exact e2

set_option maxRecDepth 100000 in
theorem open_field2 {r : Reach} {b0 : Nat} {v : Value} {d : DataW H} {p : List MemPlace} (hv : Value.okWide Try.prog w r b0 41 v) (h : DataW.Trod enc Try.prog w base spare held 41 v d p) :
    ∃ X Y W' H' : Int, ∃ s, v = fldV X Y W' H' s ∧ SlF2 w s := by
  obtain ⟨cs, rfl, hsz⟩ := okWide_struct Try.underlying41 hv
  obtain ⟨c0, c1, c2, c3, c4, rfl⟩ := array5 (hsz.trans cellsF)
  obtain ⟨fuel, hf⟩ := h
  obtain ⟨y0, y1, n, _, _, h0, h1⟩ := trod_struct2 Try.underlying41 hf
  rw [cellsR] at h0
  rw [cellsS] at h1
  obtain ⟨s, e4, hs⟩ := open_singles2 Try.underlying39 Try.underlying22 cells1 h1
  obtain ⟨z0, z1, z2, z3, n2, _, _, g0, g1, g2, g3⟩ := trod_struct4 Try.underlying38 h0
  rw [cellsI] at g0 g1 g2 g3
  obtain ⟨x0, e0, _, _⟩ := DataW.trod_int Try.underlying3 g0
  obtain ⟨x1, e1, _, _⟩ := DataW.trod_int Try.underlying3 g1
  obtain ⟨x2, e2, _, _⟩ := DataW.trod_int Try.underlying3 g2
  obtain ⟨x3, e3, _, _⟩ := DataW.trod_int Try.underlying3 g3
  simp [Value.cells] at e0 e1 e2 e3 e4
  subst e0 e1 e2 e3 e4
  exact ⟨x0, x1, x2, x3, _, rfl, hs⟩
end

theorem SlF2.stay {w w' : World} {s : Value} (h : SlF2 w s) (hb : Below w.heap.size w w') : SlF2 w' s := by
  rcases h with h | ⟨b, off, len, cap, x, rfl, h1, h0, h2, h3, h4⟩
  · exact .inl h
  · exact .inr ⟨b, off, len, cap, x, rfl, h1, h0, h2, flAt_congr' h3 (hb.block _ (World.block_lt_of_cell? w _ (h3 0 h1))), h4⟩

end Go.Proofs.Ytkcehbnmcdppkaa

/- ScalingsMatch: its premises hold, whatever the scaling, the height, the level, the field and the bits. -/
namespace Go.Proofs.Ytkcehbnmcdppkaa
open Go.RowKit Fl
set_option linter.unusedVariables false

theorem firstE_nil {a b : Int} (h : firstE a b = 0) : a = 0 ∧ b = 0 := by
  unfold firstE at h
  by_cases c : a = 0
  · rw [if_pos c] at h; exact ⟨c, h⟩
  · rw [if_neg c] at h; exact absurd h c
theorem hgt_one {v : Nat} (h : fldE 1 (fun _ => v) = 0) : hgtB v = true := allB_iff.1 (fldE_zero.1 h) 0 (by omega)

theorem lev_ex (lo st v : Nat) (bi : Int) : ∃ (k1 : Int) (b1 : Bool),
    (∀ w, Calls Try.prog 21 #[scV lo st bi, .float .f32 v] w fun e w' => e = .returned (.tuple #[.int .i64 k1, .bool b1, .int .i64 (firstE (sclE lo st bi) (fldE 1 (fun _ => v)))]) ∧ Below w.heap.size w w') ∧
    (firstE (sclE lo st bi) (fldE 1 (fun _ => v)) ≠ 0 → k1 = 0 ∧ b1 = false) ∧
    (firstE (sclE lo st bi) (fldE 1 (fun _ => v)) = 0 → ∀ w, Calls Try.prog 26 #[scV lo st bi, .float .f32 v] w fun e w' => e = .returned (.tuple #[.int .i64 k1, .bool b1]) ∧ Below w.heap.size w w') := by
  by_cases h : firstE (sclE lo st bi) (fldE 1 (fun _ => v)) = 0
  · obtain ⟨hS, hN⟩ := firstE_nil h
    obtain ⟨g1, g2, ⟨a, ha, ha0⟩, b1, b2⟩ := sclE_zero hS
    obtain ⟨mo, P⟩ := pw_of b1 b2
    obtain ⟨c, hc, -⟩ := hgt_val g1
    obtain ⟨f, hf, -⟩ := hgt_val (hgt_one hN)
    obtain ⟨d, q, x, V, hx⟩ := lvp hc ha hf ha0
    obtain ⟨m1, m2⟩ := P.bd
    obtain ⟨X, F, r, n, hh, k, L⟩ := lvd hx (by omega) m2
    refine ⟨lvK n hh mo k, lvB n hh, fun w => ?_, fun q => absurd h q, fun _ w => levelOf_any V P L w⟩
    rw [h]
    exact level_ok hS hN V P L w
  · exact ⟨0, false, fun w => level_no rfl h w, fun _ => ⟨rfl, rfl⟩, fun q => absurd q h⟩

theorem val_ex (lo st : Nat) (bi n : Int) : ∃ (z2 x : Nat) (mo M2 E2 : Int),
    (∀ w, Calls Try.prog 27 #[scV lo st bi, .int .i64 n] w fun e w' => e = .returned (.tuple #[.float .f32 z2, .int .i64 E2]) ∧ Below w.heap.size w w') ∧
    (sclE lo st bi ≠ 0 → M2 = sclE lo st bi) ∧ (sclE lo st bi = 0 → Pw bi mo ∧ M2 = whenE (!withinB n 0 mo) 3) ∧
    (M2 = 0 → ∀ w, Calls Try.prog 30 #[scV lo st bi, .int .i64 n] w fun e w' => e = .returned (.float .f32 x) ∧ Below w.heap.size w w') ∧
    ((M2 ≠ 0 → E2 = M2) ∧ (M2 = 0 → E2 = whenE (fldE 1 (fun _ => x) != 0) 3)) ∧ ((E2 ≠ 0 → z2 = 0) ∧ (E2 = 0 → z2 = x)) := by
  by_cases hS : sclE lo st bi = 0
  · obtain ⟨g1, g2, ⟨a, ha, ha0⟩, b1, b2⟩ := sclE_zero hS
    obtain ⟨mo, P⟩ := pw_of b1 b2
    obtain ⟨m1, m2⟩ := P.bd
    cases hn : withinB n 0 mo with
    | false => exact ⟨0, 0, mo, 3, 3, fun w => value_far hS P hn w, fun q => absurd hS q, fun _ => ⟨P, by simp [whenE, hn]⟩, fun q => by omega, ⟨fun _ => rfl, fun q => by omega⟩, fun _ => rfl, fun q => by omega⟩
    | true =>
      obtain ⟨n1, n2⟩ := withinB_iff.1 hn
      obtain ⟨p, x, V⟩ := vlp g1 g2 n1 (show n < 16777216 by omega)
      refine ⟨if fldE 1 (fun _ => x) = 0 then x else 0, x, mo, 0, fldE 1 (fun _ => x), fun w => value_in hS P hn V _ _ rfl rfl w, fun q => absurd hS q, fun _ => ⟨P, by simp [whenE, hn]⟩, fun _ w => valueOf_any V w, ⟨fun q => by omega, fun _ => ?_⟩, fun q => by rw [if_neg q], fun q => by rw [if_pos q]⟩
      by_cases z : fldE 1 (fun _ => x) = 0
      · rw [z]; rfl
      · rw [fin_out3 V.bd z]; rfl
  · exact ⟨0, 0, 0, sclE lo st bi, sclE lo st bi, fun w => value_no hS w, fun _ => rfl, fun q => absurd q hS, fun q => absurd q hS, ⟨fun _ => rfl, fun q => absurd q hS⟩, fun _ => rfl, fun q => absurd q hS⟩

theorem whenE_not (b : Bool) : whenE (!b) 3 = if b = true then 0 else 3 := by cases b <;> rfl

theorem fit_ex (w : World) (X Y W H : Int) (s : Value) (bt : Int) (hs : SlF2 w s) : ScFit w X Y W H s bt := by
  have key : ∃ a len cap er, s = .slice a len cap ∧ SlE w a len cap er ∧ (fldChk X Y W H len er = 0 → 0 < len ∧ len ≤ 65536 ∧ ∃ b off c, a = some ⟨b, off, none⟩ ∧ len ≤ cap ∧ FlAt w b off len c ∧ allB len (fun i => hgtB (c i)) = true) := by
    rcases hs with ⟨a, cap, rfl⟩ | ⟨b, off, len, cap, c, rfl, h1, hcap, h2, h3, h4⟩
    · refine ⟨a, 0, cap, 0, rfl, slE_nil w a cap, fun h => ?_⟩
      exfalso
      unfold fldChk at h
      split at h
      · rename_i q; exact q h
      · rename_i q
        have q' : checkR X Y W H = 0 := by simpa using q
        obtain ⟨b1, b2, b3, b4, -⟩ := checkR_zero q'
        have : 1 * 1 ≤ W * H := Int.mul_le_mul b1 b3 (by omega) (by omega)
        rw [if_pos (by omega)] at h
        omega
    · refine ⟨_, len, cap, fldE len c, rfl, slE_row h1 h2 h3, fun h => ?_⟩
      unfold fldChk at h
      split at h
      · rename_i q; exact absurd h q
      · rename_i q
        have q' : checkR X Y W H = 0 := by simpa using q
        obtain ⟨b1, b2, b3, b4, b5, -⟩ := checkR_zero q'
        split at h
        · omega
        · rename_i q2
          have : (len : Int) = W * H := by simpa using q2
          exact ⟨h1, by omega, b, off, c, rfl, hcap, h3, fldE_zero.1 h⟩
  obtain ⟨a, len, cap, er, rfl, hE, hk⟩ := key
  refine ⟨fldChk X Y W H len er, fun W' hb => qFieldError_any X Y W H a len cap er W' (fun W2 h2 => hE.2 W2 (hb.trans (h2.mono hb.size))), fun hne W' hb => ?_, fun h0 => ?_⟩
  · by_cases z : fldChk X Y W H len er = 0
    · obtain ⟨k1, k2, b, off, c, rfl, k3, k4, k5⟩ := hk z
      have hw : withinB bt 1 24 = false := by
        cases q : withinB bt 1 24 with
        | false => rfl
        | true => exfalso; apply hne; rw [z, q]; rfl
      rw [z, hw]
      have zb : b < w.heap.size := World.block_lt_of_cell? w _ (k4 0 k1)
      exact fit_no2 X Y W H b off len cap c er bt W' (hE.stay hb) z k1 k2 k3 (flAt_congr k4 (hb.block b zb)) k5 hw
    · rw [show firstE (fldChk X Y W H len er) (whenE (!withinB bt 1 24) 3) = fldChk X Y W H len er by unfold firstE; rw [if_neg z]]
      exact fit_no1 X Y W H a len cap er bt W' (hE.stay hb) z
  · obtain ⟨z, hw0⟩ := firstE_nil h0
    obtain ⟨k1, k2, b, off, c, rfl, k3, k4, k5⟩ := hk z
    have hw : withinB bt 1 24 = true := by
      cases q : withinB bt 1 24 with
      | true => rfl
      | false => rw [q] at hw0; cases hw0
    obtain ⟨b1, b2⟩ := withinB_iff.1 hw
    obtain ⟨mo, P⟩ := pw_of b1 b2
    have zb : b < w.heap.size := World.block_lt_of_cell? w _ (k4 0 k1)
    refine ⟨len, c, mo, P, k5, fun W' hb => fit_ok X Y W H b off len cap c er bt mo W' (hE.stay hb) z k1 k2 k3 (flAt_congr k4 (hb.block b zb)) k5 P, fun W' hb => slMin_any b off len cap c W' k1 k2 (flAt_congr k4 (hb.block b zb)) k5, fun W' hb => slMax_any b off len cap c W' k1 k2 (flAt_congr k4 (hb.block b zb)) k5⟩

theorem scalingsLaw_any (lo st v : Nat) (bi n bt : Int) (X Y W H : Int) (s : Value) (w : World) (hs : SlF2 w s) :
    Calls Try.prog 5 #[scV lo st bi, .float .f32 v, .int .i64 n, fldV X Y W H s, .int .i64 bt] w fun e w' => e = .returned (.bool true) ∧ Below w.heap.size w w' := by
  obtain ⟨k1, b1, h1, h2, h3⟩ := lev_ex lo st v bi
  obtain ⟨z2, x, mo, M2, E2, g1, g2, g3, g4, g5, g6⟩ := val_ex lo st bi n
  exact scalLaw_any lo st v bi n bt X Y W H s w k1 b1 _ _ _ rfl rfl rfl h1 h2 h3 z2 x mo M2 E2 g1 g2 g3 g4 g5 g6 (fit_ex w X Y W H s bt hs)
end Go.Proofs.Ytkcehbnmcdppkaa

/- A kind of plants: its cells, its error; CheckKind, on both sides. -/
namespace Go.Proofs.Ytkcehbnmcdppkaa
open Go.RowKit Fl
set_option linter.unusedVariables false

/-- The fields of a kind. -/
structure Knd where
  name : ByteArray
  lo : Nat
  hi : Nat
  so : Nat
  st : Nat
  dr : Nat
  da : Nat
  tp : Nat
  pa : Nat
  sh : Nat
  ba : Nat
  sp : Int
  th : Int
def kndZ : Knd := ⟨ByteArray.empty, 0, 0, 0, 0, 0, 0, 0, 0, 0, 0, 0, 0⟩
abbrev Knd.cells (k : Knd) : Array Value := #[.string k.name, .float .f32 k.lo, .float .f32 k.hi, .float .f32 k.so, .float .f32 k.st, .float .f32 k.dr, .float .f32 k.da, .float .f32 k.tp, .float .f32 k.pa, .float .f32 k.sh, .float .f32 k.ba, .int .i64 k.sp, .int .i64 k.th]
abbrev kndV (k : Knd) : Value := .agg k.cells
/-- Its singles, in order. -/
def Knd.f (k : Knd) (i : Nat) : Nat := match i with | 0 => k.lo | 1 => k.hi | 2 => k.so | 3 => k.st | 4 => k.dr | 5 => k.da | 6 => k.tp | 7 => k.pa | 8 => k.sh | _ => k.ba
abbrev tenO (k : Knd) : Obj := .cells #[.float .f32 k.lo, .float .f32 k.hi, .float .f32 k.so, .float .f32 k.st, .float .f32 k.dr, .float .f32 k.da, .float .f32 k.tp, .float .f32 k.pa, .float .f32 k.sh, .float .f32 k.ba] 22
theorem flAt_ten {w : World} {p : Nat} {k : Knd} (h : w.heap[p]? = some (tenO k)) : FlAt w p 0 10 k.f := by
  intro i hi
  rw [Nat.zero_add, (blkC h).1 i]
  have : i = 0 ∨ i = 1 ∨ i = 2 ∨ i = 3 ∨ i = 4 ∨ i = 5 ∨ i = 6 ∨ i = 7 ∨ i = 8 ∨ i = 9 := by omega
  rcases this with rfl | rfl | rfl | rfl | rfl | rfl | rfl | rfl | rfl | rfl <;> rfl

/-- A byte of a text, as a number. -/
def byt (s : ByteArray) (i : Nat) : Int := ((s[i]?.getD 0).toNat : Int)
/-- Whether all bytes of a text are small letters. -/
def ltrB (s : ByteArray) : Bool := allB s.size fun i => decide (97 ≤ byt s i ∧ byt s i ≤ 122)
/-- Whether a text is a name of a kind. -/
def namB (s : ByteArray) : Bool := ltrB s && withinB s.size 1 20

/-- Whether a kind's numbers are in order. -/
def Knd.rng (k : Knd) : Bool := !(ltB k.so 0 || ltB k.st 0 || ltB k.dr 0 || ltB k.tp 0 || ltB k.pa 0 || ltB k.sh 0 || FloatKind.f32.format.order k.sh 1065353216 == some .gt || ltB k.ba 0 || FloatKind.f32.format.order k.ba 1065353216 == some .gt)
/-- A kind's error. -/
def Knd.err (k : Knd) : Int :=
  if namB k.name = false then 6 else if fldE 10 k.f ≠ 0 then fldE 10 k.f else if ltB k.hi k.lo = true ∨ ltB k.da k.dr = true then 8 else if k.rng = false then 3
  else if withinB k.sp 0 32 = false ∨ withinB k.th 0 32 = false then 3 else 0

theorem byt_at {s : ByteArray} {i : Nat} (h : i < s.size) : ((s[i]'h).toNat : Int) = byt s i := by
  unfold byt
  rw [ByteArray.getElem?_lt' s i h]; rfl

end Go.Proofs.Ytkcehbnmcdppkaa

/- CheckKind of the program, KindError of the reference: a kind's error. -/
namespace Go.Proofs.Ytkcehbnmcdppkaa
open Go.RowKit Fl
set_option linter.unusedVariables false

theorem fld_ten {k : Knd} (h : fldE 10 k.f = 0) : hgtB k.lo = true ∧ hgtB k.hi = true ∧ hgtB k.so = true ∧ hgtB k.st = true ∧ hgtB k.dr = true ∧ hgtB k.da = true ∧ hgtB k.tp = true ∧ hgtB k.pa = true ∧ hgtB k.sh = true ∧ hgtB k.ba = true := by
  have := allB_iff.1 (fldE_zero.1 h)
  exact ⟨this 0 (by omega), this 1 (by omega), this 2 (by omega), this 3 (by omega), this 4 (by omega), this 5 (by omega), this 6 (by omega), this 7 (by omega), this 8 (by omega), this 9 (by omega)⟩

theorem err_name {k : Knd} (h : namB k.name = false) : k.err = 6 := by unfold Knd.err; rw [if_pos h]
theorem err_fld {k : Knd} (n : namB k.name = true) (h : fldE 10 k.f ≠ 0) : k.err = fldE 10 k.f := by unfold Knd.err; rw [if_neg (by simp [n]), if_pos h]
theorem err_ord {k : Knd} (n : namB k.name = true) (h : fldE 10 k.f = 0) (o : ltB k.hi k.lo = true ∨ ltB k.da k.dr = true) : k.err = 8 := by unfold Knd.err; rw [if_neg (by simp [n]), if_neg (by simp [h]), if_pos o]
theorem err_rest {k : Knd} (n : namB k.name = true) (h : fldE 10 k.f = 0) (o1 : ltB k.hi k.lo = false) (o2 : ltB k.da k.dr = false) : k.err = if k.rng = false then 3 else if withinB k.sp 0 32 = false ∨ withinB k.th 0 32 = false then 3 else 0 := by
  unfold Knd.err; rw [if_neg (by simp [n]), if_neg (by simp [h]), if_neg (by simp [o1, o2])]

end Go.Proofs.Ytkcehbnmcdppkaa

/- A list of kinds: named, CheckKinds of the program. -/
namespace Go.Proofs.Ytkcehbnmcdppkaa
open Go.RowKit Fl
set_option linter.unusedVariables false

/-- The kinds lie in a block, one after the other. -/
def KndsAt (w : World) (b off n : Nat) (K : Nat → Knd) : Prop := ∀ i, i < n → ∀ j, j < 13 → w.cell? ⟨b, off + i * 13 + j, none⟩ = (K i).cells[j]?
/-- .. or there is none. -/
def KndL (w : World) (a : Option Addr) (n : Nat) (K : Nat → Knd) : Prop := n = 0 ∨ ∃ b off, a = some ⟨b, off, none⟩ ∧ KndsAt w b off n K
theorem cells_get (k : Knd) (j : Nat) (hj : j < 13) : ∃ v, k.cells[j]? = some v := by
  have : j < k.cells.size := hj
  exact ⟨k.cells[j], Array.getElem?_eq_getElem this⟩
theorem KndsAt.stay {w w' : World} {b off n : Nat} {K : Nat → Knd} (L : KndsAt w b off n K) (hb : Below w.heap.size w w') : KndsAt w' b off n K := fun i hi j hj => by
  obtain ⟨v, hv⟩ := cells_get (K i) j hj
  have h := L i hi j hj
  rw [hv] at h
  have hlt := World.block_lt_of_cell? w _ h
  rw [hv, ← h]
  exact Below.cell hb hlt
theorem KndL.stay {w w' : World} {a : Option Addr} {n : Nat} {K : Nat → Knd} (L : KndL w a n K) (hb : Below w.heap.size w w') : KndL w' a n K :=
  L.imp_right fun ⟨b, off, e, h⟩ => ⟨b, off, e, h.stay hb⟩
structure KndAt (w : World) (b o : Nat) (k : Knd) : Prop where
  c0 : w.cell? ⟨b, o, none⟩ = some (.string k.name)
  c1 : w.cell? ⟨b, o + 1, none⟩ = some (.float .f32 k.lo)
  c2 : w.cell? ⟨b, o + 2, none⟩ = some (.float .f32 k.hi)
  c3 : w.cell? ⟨b, o + 3, none⟩ = some (.float .f32 k.so)
  c4 : w.cell? ⟨b, o + 4, none⟩ = some (.float .f32 k.st)
  c5 : w.cell? ⟨b, o + 5, none⟩ = some (.float .f32 k.dr)
  c6 : w.cell? ⟨b, o + 6, none⟩ = some (.float .f32 k.da)
  c7 : w.cell? ⟨b, o + 7, none⟩ = some (.float .f32 k.tp)
  c8 : w.cell? ⟨b, o + 8, none⟩ = some (.float .f32 k.pa)
  c9 : w.cell? ⟨b, o + 9, none⟩ = some (.float .f32 k.sh)
  c10 : w.cell? ⟨b, o + 10, none⟩ = some (.float .f32 k.ba)
  c11 : w.cell? ⟨b, o + 11, none⟩ = some (.int .i64 k.sp)
  c12 : w.cell? ⟨b, o + 12, none⟩ = some (.int .i64 k.th)
theorem KndsAt.at {w : World} {b off n : Nat} {K : Nat → Knd} (L : KndsAt w b off n K) {i : Nat} (hi : i < n) : KndAt w b (off + i * 13) (K i) :=
  ⟨L i hi 0 (by omega), L i hi 1 (by omega), L i hi 2 (by omega), L i hi 3 (by omega), L i hi 4 (by omega), L i hi 5 (by omega), L i hi 6 (by omega), L i hi 7 (by omega), L i hi 8 (by omega), L i hi 9 (by omega), L i hi 10 (by omega), L i hi 11 (by omega), L i hi 12 (by omega)⟩

/-- Whether two texts are the same. -/
def eqN (a b : ByteArray) : Bool := a.toList == b.toList
/-- The number of the first kind of that name, or -1. -/
def NamAt (n : Nat) (K : Nat → Knd) (s : ByteArray) (r : Int) : Prop := (r = -1 ∧ ∀ i, i < n → eqN (K i).name s = false) ∨ ∃ i : Nat, r = i ∧ i < n ∧ eqN (K i).name s = true ∧ ∀ j, j < i → eqN (K j).name s = false

end Go.Proofs.Ytkcehbnmcdppkaa

/- Kinds that came in, opened: one, and a list. -/
namespace Go.Proofs.Ytkcehbnmcdppkaa
open Go.ChangeShapes Go.WideShapes Go.ChangeAt Go.RowKit Go.Joins Go.Deep Fl

section
variable {H : Type} {enc : TypeId × Value → H} {w : World} {base : Nat} {spare : Nat → Bool} {held : Bool}

theorem cellsStr : Try.prog.cellsOf 9 = 1 := by kernel_rfl
theorem trod_fieldAt {P : Program} {t : TypeId} {fs : Array Go.Field} {fuel : Nat} {cs : List Value} {x : DataW H × List MemPlace} (ht : P.underlying t = some (.struct fs)) (h : DataW.trod enc P w base spare held fuel t cs = some x) :
    ∃ n, ∀ (i : Nat) (ty : TypeId) (off : Nat), (fs[i]?).map (fun (f : Go.Field) => (f.type, f.offset)) = some (ty, off) → ∃ y, DataW.trod enc P w base spare held n ty ((cs.drop off).take (P.cellsOf ty)) = some y := by
  obtain ⟨xs, n, _, rfl, _, hlen, hf⟩ := DataW.trod_struct ht h
  refine ⟨n, fun i ty off e => ?_⟩
  cases hfi : fs[i]? with
  | none => rw [hfi] at e; cases e
  | some f =>
    rw [hfi] at e
    simp only [Option.map_some, Option.some.injEq, Prod.mk.injEq] at e
    obtain ⟨rfl, rfl⟩ := e
    have hi : i < fs.size := by rw [Array.getElem?_eq_some_iff] at hfi; exact hfi.1
    have hx : i < xs.length := by omega
    exact ⟨xs[i], by rw [hf i f hfi, List.getElem?_eq_getElem hx]⟩
theorem trod_f32at {fuel i : Nat} {cs : List Value} {v : Value} {y : DataW H × List MemPlace} (h : DataW.trod enc Try.prog w base spare held fuel 22 ((cs.drop i).take 1) = some y) (hv : cs[i]? = some v) : ∃ s, v = .float .f32 s ∧ s < 4294967296 := by
  have e : (cs.drop i).take 1 = [v] := by
    have hi : i < cs.length := by rw [List.getElem?_eq_some_iff] at hv; exact hv.1
    rw [List.drop_eq_getElem_cons hi]
    rw [List.getElem?_eq_getElem hi] at hv
    simp only [List.take_succ_cons, List.take_zero, Option.some.inj hv]
  rw [e] at h
  exact trod_f32 Try.underlying22 h
theorem take_at {α : Type} {cs : List α} {i : Nat} {v : α} (hv : cs[i]? = some v) : (cs.drop i).take 1 = [v] := by
  have hi : i < cs.length := by rw [List.getElem?_eq_some_iff] at hv; exact hv.1
  rw [List.drop_eq_getElem_cons hi]
  rw [List.getElem?_eq_getElem hi] at hv
  simp only [List.take_succ_cons, List.take_zero, Option.some.inj hv]

/-- A right kind: its name is a text of the machine, its singles are words. -/
structure KndWf (k : Knd) : Prop where
  name : k.name.size ≤ 9223372036854775807
  f : wf32 10 k.f

end
end Go.Proofs.Ytkcehbnmcdppkaa

/- ScalingsMatch, for every scaling, height, level, field and number of bits: CheckScale, Level, Value and Fit answer as the reference does. No condition. -/
namespace Go.Proofs.Ytkcehbnmcdppkaa.scalingsMatch
open Go.ChangeShapes Go.WideShapes Go.ChangeAt Go.RowKit Go.Joins
set_option linter.unusedVariables false

section
variable {H : Type} {enc : TypeId × Value → H} {w : World} {base : Nat} {spare : Nat → Bool} {held : Bool}
theorem cells3 : Try.prog.cellsOf 36 = 3 := by kernel_rfl
set_option maxRecDepth 100000 in
theorem open_scaling {r : Reach} {b0 : Nat} {v : Value} {d : DataW H} {p : List MemPlace} (hv : Value.okWide Try.prog w r b0 36 v) (h : DataW.Trod enc Try.prog w base spare held 36 v d p) :
    ∃ (lo st : Nat) (bi : Int), v = scV lo st bi := by
  obtain ⟨cs, rfl, hsz⟩ := okWide_struct Try.underlying36 hv
  have h3 : cs.size = 3 := hsz.trans cells3
  obtain ⟨c0, c1, c2, rfl⟩ : ∃ c0 c1 c2, cs = #[c0, c1, c2] := by
    obtain ⟨l⟩ := cs
    match l, h3 with
    | [c0, c1, c2], _ => exact ⟨c0, c1, c2, rfl⟩
  obtain ⟨fuel, hf⟩ := h
  obtain ⟨n, G⟩ := trod_fieldAt Try.underlying36 hf
  obtain ⟨y0, g0⟩ := G 0 22 0 rfl
  obtain ⟨y1, g1⟩ := G 1 22 1 rfl
  obtain ⟨y2, g2⟩ := G 2 3 2 rfl
  rw [cells1] at g0 g1
  rw [cellsI] at g2
  rw [show (List.drop 0 (Value.agg #[c0, c1, c2]).cells.toList).take 1 = [c0] by simp [Value.cells]] at g0
  rw [show (List.drop 1 (Value.agg #[c0, c1, c2]).cells.toList).take 1 = [c1] by simp [Value.cells]] at g1
  rw [show (List.drop 2 (Value.agg #[c0, c1, c2]).cells.toList).take 1 = [c2] by simp [Value.cells]] at g2
  obtain ⟨a0, rfl, _⟩ := trod_f32 Try.underlying22 g0
  obtain ⟨a1, rfl, _⟩ := trod_f32 Try.underlying22 g1
  obtain ⟨a2, e2, _, _⟩ := DataW.trod_int Try.underlying3 g2
  simp at e2
  subst e2
  exact ⟨a0, a1, a2, rfl⟩
end

theorem own : ownKnob Try.prog.godebug = none := by kernel_rfl

set_option maxRecDepth 100000 in
theorem lifted (os : Os) (started : os.Started) (H : Type) (enc : TypeId × Value → H) :
    ReturnsInHanded {} Try.checked os 5 .any (Rows.scalingsMatchSpec.pre6 enc Try.prog Try.f5 Rows.scalingsMatchRow.domain false) (Rows.scalingsMatchSpec.post enc Try.prog Try.f5 false true false false) := by
  refine returnsInHanded_of_change (C := Try.checked) own started (by kernel_rfl) Try.func5
    (ChangeSpec.witness6 (enc := enc) (C := Try.checked) false ⟨#[], #[.agg #[.float .f32 0, .float .f32 0, .int .i64 0], .float .f32 0, .int .i64 0, .agg #[.int .i64 0, .int .i64 0, .int .i64 0, .int .i64 0, .slice none 0 0], .int .i64 0], []⟩ 8 (by kernel_rfl) (by kernel_rfl) (by kernel_rfl) (by kernel_rfl)) ?_
  intro W base args ds gs before hval0 hW hcnd _
  have hval : ∀ (j : Nat) t v, Try.f5.params[j]? = some t → args[j]? = some v → Value.okWide Try.prog W .any base t v := hval0
  have hW' := hW
  have hplt : ∀ x ∈ before, x.block < W.heap.size := fun x hx => by simpa using hW'.lt x hx
  obtain ⟨p, q, hA0, hV, rfl, hfz, hnd⟩ := hW
  have hA : DataW.TrodAll enc Try.prog W 0 (fun _ => true) true Try.f5.params.toList args.toList ds p := hA0
  rw [Try.params5] at hA hval
  obtain ⟨v0, vs0, d0, ds0, p0, q0, hargs, rfl, rfl, h0, r0⟩ := trodAll_cons hA
  obtain ⟨v1, vs1, d1, ds1, p1, q1, rfl, rfl, rfl, h1, r1⟩ := trodAll_cons r0
  obtain ⟨v2, vs2, d2, ds2, p2, q2, rfl, rfl, rfl, h2, r2⟩ := trodAll_cons r1
  obtain ⟨v3, vs3, d3, ds3, p3, q3, rfl, rfl, rfl, h3, r3⟩ := trodAll_cons r2
  obtain ⟨v4, vs4, d4, ds4, p4, q4, rfl, rfl, rfl, h4, r4⟩ := trodAll_cons r3
  obtain ⟨rfl, rfl, rfl⟩ := trodAll_nil r4
  obtain rfl : args = #[v0, v1, v2, v3, v4] := by cases args; simp_all
  obtain ⟨rfl, rfl⟩ := trodVars_none hV
  obtain ⟨lo, st, bi, rfl⟩ := open_scaling (hval 0 36 v0 rfl rfl) h0
  obtain ⟨v, rfl, rfl, rfl, w1⟩ := open_float Try.underlying22 (hval 1 22 v1 rfl rfl) h1
  obtain ⟨n, rfl, rfl, rfl, w2⟩ := open_int Try.underlying3 (hval 2 3 v2 rfl rfl) h2
  obtain ⟨X, Y, W2, H2, s, rfl, hs⟩ := open_field2 (hval 3 41 v3 rfl rfl) h3
  obtain ⟨bt, rfl, rfl, rfl, w4⟩ := open_int Try.underlying3 (hval 4 3 v4 rfl rfl) h4
  have hlt0 : ∀ x ∈ p0, x.block < W.heap.size := fun x hx => hplt x (by simp [hx])
  have hlt3 : ∀ x ∈ p3, x.block < W.heap.size := fun x hx => hplt x (by simp [hx])
  clear hA0 hval0 hplt
  simp only [List.append_nil] at hW'
  refine (scalingsLaw_any lo st v bi n bt X Y W2 H2 s W hs).mono fun e W' ⟨he, hb⟩ => ?_
  subst he
  exact ⟨_, rfl, _, _, _, [], _, [], hW', trodAll_cons_mk (shut_bool Try.underlying4 _) trodAll_mk0, trodAll_cons_mk (Below.trod laidOut (by kernel_rfl) (of_decide_eq_true (by kernel_rfl)) h0 hb hlt0) (trodAll_cons_mk (shut_float Try.underlying22 w1) (trodAll_cons_mk (shut_int Try.underlying3 w2) (trodAll_cons_mk (Below.trod laidOut (by kernel_rfl) (of_decide_eq_true (by kernel_rfl)) h3 hb hlt3) (trodAll_cons_mk (shut_int Try.underlying3 w4) trodAll_mk0)))), rfl, hb.frame _, fun h => by cases h⟩

theorem over : Rows.scalingsMatchRow.holds Try.pinned (OpenSpec.ofChange Rows.scalingsMatchSpec) :=
  OpenClaim.holds_of_wide 5 Try.f5 rfl rfl rfl rfl rfl rfl rfl ⟨rfl, rfl, rfl, rfl, rfl⟩ rfl rfl rfl rfl rfl (by kernel_rfl) Try.func5 (by kernel_rfl)
    (of_decide_eq_true (by kernel_rfl)) (by unfold Func.isWrapper; rw [if_neg (of_decide_eq_false (by kernel_rfl))]; exact ⟨rfl, rfl⟩)
    (fun os started H enc _ => lifted os started H enc)

theorem proved : Rows.ScalingsMatchSaid :=
  over
#print axioms proved
end Go.Proofs.Ytkcehbnmcdppkaa.scalingsMatch
