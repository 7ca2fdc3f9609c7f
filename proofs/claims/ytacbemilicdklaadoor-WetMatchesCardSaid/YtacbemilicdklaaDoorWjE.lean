/- WetMatches, for every field and every list of amounts, the list of directions being what the program's text lays: the tied card. No condition. -/
import Derived.Test.YtacbemilicdklaaDoorWjD
import Derived.ProofKit
import Derived.OpenShut
import Derived.Lib.SmallJoins
import Derived.Laws.Cover2
import Derived.Deep.Slices
import Derived.Test.YtacbemilicdklaaDoorTie
import Derived.Test.YtacbemilicdklaaDoorCards
import Derived.LaidMore
import Derived.LaidLaws
import Derived.LaidHandle
import Derived.Stop.Joined
import Derived.SevenTiedAt

/- Contracts: Depth; the first of three errors; the law. -/
namespace Go.Proofs.YtacbemilicdklaaDoor
open Go.RowKit Fl Go.Shelf
set_option linter.unusedVariables false

theorem flAt_h1 {w : World} {p a : Nat} (h : w.heap[p]? = some (.cells #[.float .f32 a] 27)) : FlAt w p 0 1 (fun _ => a) := by
  intro i hi
  have : i = 0 := by omega
  subst this
  exact (blkC h).1 0
theorem bd_up {k l x : Nat} (h : Bd k x) (hl : k ≤ l) : Bd l x := by
  obtain ⟨s, m, p, e, b⟩ := h
  exact ⟨s, m, p, e, Nat.le_trans b (Nat.pow_le_pow_right (by omega) (by omega))⟩

/-- The error of Depth. -/
def depE (rate least most : Nat) (steps amount : Int) (drop : Nat) : Int :=
  firstE (firstE (carE rate least most steps) (fldE 1 (fun _ => drop))) (whenE (!withinB amount 0 1099511627776) 3)

theorem firstE_zero {a b : Int} (h : firstE a b = 0) : a = 0 ∧ b = 0 := by
  unfold firstE at h
  by_cases q : a = 0
  · rw [if_pos q] at h; exact ⟨q, h⟩
  · rw [if_neg q] at h; exact absurd h q
theorem whenE_zero {c : Bool} {k : Int} (hk : k ≠ 0) (h : whenE c k = 0) : c = false := by
  unfold whenE at h
  cases c with
  | false => rfl
  | true => rw [if_pos rfl] at h; exact absurd h hk
theorem carE_zero {rate least most : Nat} {steps : Int} (h : carE rate least most steps = 0) : hgtB rate = true ∧ hgtB least = true ∧ hgtB most = true ∧ 0 ≤ steps ∧ steps ≤ 50 := by
  unfold carE at h
  by_cases q : fldE 3 (three rate least most) = 0
  · rw [if_pos q] at h
    obtain ⟨a, b, c⟩ := three_hgt q
    unfold carE2 at h
    split at h
    · cases h
    · split at h
      · cases h
      · split at h
        · rename_i w; exact ⟨a, b, c, (withinB_iff.1 w).1, (withinB_iff.1 w).2⟩
        · cases h
  · rw [if_neg q] at h; exact absurd h q
theorem one_hgt {a : Nat} (h : fldE 1 (fun _ => a) = 0) : hgtB a = true := allB_iff.1 (fldE_zero.1 h) 0 (by omega)

set_option maxHeartbeats 1000000 in
theorem depth_no (rate least most : Nat) (steps amount : Int) (drop : Nat) (er : Int) (w : World) (he : depE rate least most steps amount drop = er) (hz : er ≠ 0) :
    Calls Tryd.prog 43 #[carV rate least most steps, .int .i64 amount, .float .f32 drop] w fun e w' => e = .returned (.tuple #[.float .f32 0, .int .i64 er]) ∧ Below w.heap.size w w' := by
  have CC := Lib.hid (fun w => checkCarving_any rate least most steps w)
  have CH := Lib.hid (fun p w (h : w.heap[p]? = some (.cells #[.float .f32 drop] 27)) => CheckHeights_row p 0 1 1 (fun _ => drop) (by omega) w (flAt_h1 h))
  have WI := Lib.hid (fun w => within_any amount 0 1099511627776 w)
  unfold depE at he
  generalize carE rate least most steps = r1 at *
  generalize fldE 1 (fun _ => drop) = r2 at *
  generalize withinB amount 0 1099511627776 = wb at *
  unfold firstE at he
  by_cases h1 : r1 = 0
  · subst h1
    by_cases h2 : r2 = 0
    · subst h2
      rw [if_pos (by rfl)] at he
      cases wb with
      | true => exact absurd he.symm hz
      | false =>
        have he' : (3 : Int) = er := he
        subst he'
        clear hz he
        go_enter Tryd.func43, Tryd.ntmps43
        go_wp2_with (first | (go_at_call 45; refine (CC.out _).mono ?_; rintro e w2 ⟨rfl, hb2⟩; obtain ⟨cF, fF, zF⟩ := blkC (blkStay (b := w.heap.size) (o := carO rate least most steps) (by (first | (rw [heap_alloc_get, if_pos rfl]; done) | ((simp only [heap_alloc_get, heap_size_alloc, if_true]) <;> ((repeat' split) <;> first | rfl | omega)))) hb2); have hB2 : Below w.heap.size w w2 := Below.trans (by repeat (first | exact Below.refl _ _ | refine Below.alloc ?_ (by first | omega | (simp; done) | (simp; omega)) _ | refine Below.setCell ?_ (by first | omega | (simp; done) | (simp; omega)) _ | refine Below.drew ?_)) (Below.mono hb2 (by first | omega | (simp; done) | (simp; omega))); clear hb2) | (go_at_call 93; refine (CH.out _ _ (by (first | (rw [heap_alloc_get, if_pos rfl]; done) | ((simp only [heap_alloc_get, heap_size_alloc, if_true]) <;> ((repeat' split) <;> first | rfl | omega))))).mono ?_; rintro e w' ⟨rfl, rfl⟩) | (go_at_call 94; refine (WI.out _).mono ?_; rintro e w' ⟨rfl, rfl⟩))
        go_ret2
        exact ⟨rfl, hB2.alloc hB2.size _⟩
    · rw [if_pos rfl, if_neg h2] at he
      subst he
      have h3 : (r2 != 0) = true := by simpa using h2
      clear h2 hz WI
      go_enter Tryd.func43, Tryd.ntmps43
      go_wp2_with (first | (go_at_call 45; refine (CC.out _).mono ?_; rintro e w2 ⟨rfl, hb2⟩; obtain ⟨cF, fF, zF⟩ := blkC (blkStay (b := w.heap.size) (o := carO rate least most steps) (by (first | (rw [heap_alloc_get, if_pos rfl]; done) | ((simp only [heap_alloc_get, heap_size_alloc, if_true]) <;> ((repeat' split) <;> first | rfl | omega)))) hb2); have hB2 : Below w.heap.size w w2 := Below.trans (by repeat (first | exact Below.refl _ _ | refine Below.alloc ?_ (by first | omega | (simp; done) | (simp; omega)) _ | refine Below.setCell ?_ (by first | omega | (simp; done) | (simp; omega)) _ | refine Below.drew ?_)) (Below.mono hb2 (by first | omega | (simp; done) | (simp; omega))); clear hb2) | (go_at_call 93; refine (CH.out _ _ (by (first | (rw [heap_alloc_get, if_pos rfl]; done) | ((simp only [heap_alloc_get, heap_size_alloc, if_true]) <;> ((repeat' split) <;> first | rfl | omega))))).mono ?_; rintro e w' ⟨rfl, rfl⟩))
      go_ret2
      exact ⟨rfl, hB2.alloc hB2.size _⟩
  · rw [if_neg h1, if_neg h1] at he
    subst he
    have h3 : (r1 != 0) = true := by simpa using h1
    clear h1 hz WI CH
    go_enter Tryd.func43, Tryd.ntmps43
    go_wp2_with (go_at_call 45; refine (CC.out _).mono ?_; rintro e w2 ⟨rfl, hb2⟩; obtain ⟨cF, fF, zF⟩ := blkC (blkStay (b := w.heap.size) (o := carO rate least most steps) (by (first | (rw [heap_alloc_get, if_pos rfl]; done) | ((simp only [heap_alloc_get, heap_size_alloc, if_true]) <;> ((repeat' split) <;> first | rfl | omega)))) hb2); have hB2 : Below w.heap.size w w2 := Below.trans (by repeat (first | exact Below.refl _ _ | refine Below.alloc ?_ (by first | omega | (simp; done) | (simp; omega)) _ | refine Below.setCell ?_ (by first | omega | (simp; done) | (simp; omega)) _ | refine Below.drew ?_)) (Below.mono hb2 (by first | omega | (simp; done) | (simp; omega))); clear hb2)
    go_ret2
    exact ⟨rfl, hB2⟩

set_option maxHeartbeats 1000000 in
theorem depth_ok (rate least most : Nat) (steps amount : Int) (drop : Nat) (w : World) (he : depE rate least most steps amount drop = 0) :
    Calls Tryd.prog 43 #[carV rate least most steps, .int .i64 amount, .float .f32 drop] w fun e w' => e = .returned (.tuple #[.float .f32 (depW rate least most amount drop), .int .i64 0]) ∧ Below w.heap.size w w' := by
  have CC := Lib.hid (fun w => checkCarving_any rate least most steps w)
  have CH := Lib.hid (fun p w (h : w.heap[p]? = some (.cells #[.float .f32 drop] 27)) => CheckHeights_row p 0 1 1 (fun _ => drop) (by omega) w (flAt_h1 h))
  have WI := Lib.hid (fun w => within_any amount 0 1099511627776 w)
  obtain ⟨h12, h3⟩ := firstE_zero he
  obtain ⟨h1, h2⟩ := firstE_zero h12
  have h3' := whenE_zero (by omega) h3
  rw [Bool.not_eq_false'] at h3'
  obtain ⟨a0, a1⟩ := withinB_iff.1 h3'
  have hr := hgt_bd (carE_zero h1).1
  have hd := one_hgt h2
  obtain ⟨d, vd, _⟩ := hgt_vT hd
  have DE := Lib.hid (fun w => deep_any rate least most steps amount drop d w hr (bd_up (hgt_bd hd) (by omega)) vd a0 a1)
  rw [h1] at CC
  rw [h2] at CH
  rw [h3'] at WI
  clear h1 h2 h3 h3' h12 he a0 a1 hr hd vd
  go_enter Tryd.func43, Tryd.ntmps43
  go_wp2_with (first | (go_at_call 45; refine (CC.out _).mono ?_; rintro e w2 ⟨rfl, hb2⟩; obtain ⟨cF, fF, zF⟩ := blkC (blkStay (b := w.heap.size) (o := carO rate least most steps) (by (first | (rw [heap_alloc_get, if_pos rfl]; done) | ((simp only [heap_alloc_get, heap_size_alloc, if_true]) <;> ((repeat' split) <;> first | rfl | omega)))) hb2); have hB2 : Below w.heap.size w w2 := Below.trans (by repeat (first | exact Below.refl _ _ | refine Below.alloc ?_ (by first | omega | (simp; done) | (simp; omega)) _ | refine Below.setCell ?_ (by first | omega | (simp; done) | (simp; omega)) _ | refine Below.drew ?_)) (Below.mono hb2 (by first | omega | (simp; done) | (simp; omega))); clear hb2) | (go_at_call 93; refine (CH.out _ _ (by (first | (rw [heap_alloc_get, if_pos rfl]; done) | ((simp only [heap_alloc_get, heap_size_alloc, if_true]) <;> ((repeat' split) <;> first | rfl | omega))))).mono ?_; rintro e w' ⟨rfl, rfl⟩) | (go_at_call 94; refine (WI.out _).mono ?_; rintro e w' ⟨rfl, rfl⟩) | (go_at_call 95; refine (DE.out _).mono ?_; rintro e w3 ⟨rfl, hb3⟩; have hB3 : Below w.heap.size w w3 := (hB2.alloc hB2.size _).trans (hb3.mono (by have := hB2.size; simp; omega)); clear hb3))
  go_ret2
  exact ⟨rfl, hB3⟩

inductive First3At (a b c : Int) : Value → Prop where
  | z : First3At a b c (.int .i64 0)
  | a (h : a = 0) : First3At a b c (.int .i64 1)
  | b (h : a = 0) (h' : b = 0) : First3At a b c (.int .i64 2)
  | c (h : a = 0) (h' : b = 0) (h'' : c = 0) : First3At a b c (.int .i64 3)
set_option maxHeartbeats 1000000 in
theorem first3_any (a b c : Int) (p : Nat) (w : World) (h : w.heap[p]? = some (.cells #[.int .i64 a, .int .i64 b, .int .i64 c] 28)) :
    Calls Tryd.prog 16 #[.slice (some ⟨p, 0, none⟩) 3 3] w fun e w' => e = .returned (.int .i64 (firstE (firstE a b) c)) ∧ w = w' := by
  unfold firstE
  obtain ⟨cc, f, z⟩ := blkC h
  clear h
  go_enter Tryd.func16, Tryd.ntmps16
  go_wp2
  go_loop [7] (fun i => First3At a b c i) (fun i => 3 - (intOf i).toNat)
  case atStart => exact .z
  case round =>
    rcases hrel with _ | ha | ⟨ha, hb⟩ | ⟨ha, hb, hc⟩
    · by_cases h0 : a = 0
      · subst h0
        go_wp2
        go_round
        case rel => exact .a rfl
        case measure => simp [intOf]
      · go_wp2
        go_ret
        exact ⟨by first | (simp; done) | simp [h0], rfl⟩
    · subst ha
      by_cases h0 : b = 0
      · subst h0
        go_wp2
        go_round
        case rel => exact .b rfl rfl
        case measure => simp [intOf]
      · go_wp2
        go_ret
        exact ⟨by first | (simp; done) | simp [h0], rfl⟩
    · subst ha hb
      by_cases h0 : c = 0
      · subst h0
        go_wp2
        go_round
        case rel => exact .c rfl rfl rfl
        case measure => simp [intOf]
      · go_wp2
        go_ret
        exact ⟨by first | (simp; done) | simp [h0], rfl⟩
    · subst ha hb hc
      go_wp2
      go_ret
      exact ⟨rfl, rfl⟩
end Go.Proofs.YtacbemilicdklaaDoor

/- The error of a single that should lie between two others, by the tests of the reference. -/
namespace Go.Proofs.YtacbemilicdklaaDoor
open Go.RowKit Fl
set_option linter.unusedVariables false

/-- The error of a single that should be from lo to hi, told by the reference's tests. -/
def WithinCases (st lo hi : Nat) : Prop :=
    ((fldE 1 (fun _ => st) = 2 ∨ fldE 1 (fun _ => st) = 3) ∧ wiE st lo hi = fldE 1 (fun _ => st)) ∨
    (fldE 1 (fun _ => st) = 0 ∧ wiE st lo hi = 3 ∧ (FloatKind.f32.format.order st lo == some .lt) = true) ∨
    (fldE 1 (fun _ => st) = 0 ∧ wiE st lo hi = 3 ∧ (FloatKind.f32.format.order st lo == some .lt) = false ∧ (FloatKind.f32.format.order st hi == some .gt) = true) ∨
    (fldE 1 (fun _ => st) = 0 ∧ wiE st lo hi = 0 ∧ (FloatKind.f32.format.order st lo == some .lt) = false ∧ (FloatKind.f32.format.order st hi == some .gt) = false)
theorem within_cases {st lo hi : Nat} {l h : Int} (hl : vS lo = some l) (hh : vS hi = some h) (l1 : -vTop ≤ l) (h1 : h ≤ vTop) : WithinCases st lo hi := by
  unfold WithinCases
  cases hf : finB st with
  | false =>
    have e : fldE 1 (fun _ => st) = 2 := by simp [fldE, allB, List.range_succ, hf]
    exact .inl ⟨.inl e, by rw [e]; unfold wiE; rw [if_pos hf]⟩
  | true =>
    obtain ⟨a, ha⟩ := Option.isSome_iff_exists.1 (show (vS st).isSome = true from hf)
    have l0 := lss_val ha hl
    have g1 := gtr_val ha hh
    rw [← f32f] at l0 g1
    have hw : ((FloatKind.f32.format.order st lo == some .lt) = true ∨ (FloatKind.f32.format.order st hi == some .gt) = true) → wiE st lo hi = 3 := fun c => by
      unfold wiE; rw [if_neg (by rw [hf]; simp), if_pos c]
    cases hgt : hgtB st with
    | false =>
      have e : fldE 1 (fun _ => st) = 3 := by simp [fldE, hgtE, allB, List.range_succ, hf, hgt]
      refine .inl ⟨.inr e, ?_⟩
      rw [e]
      refine hw ?_
      unfold hgtB at hgt
      rw [ha] at hgt
      rw [l0, g1]
      simp at hgt ⊢
      omega
    | true =>
      have e : fldE 1 (fun _ => st) = 0 := fldE_one_ok hgt
      cases c1 : (FloatKind.f32.format.order st lo == some .lt) with
      | true => exact .inr (.inl ⟨e, hw (.inl c1), rfl⟩)
      | false =>
        cases c2 : (FloatKind.f32.format.order st hi == some .gt) with
        | true => exact .inr (.inr (.inl ⟨e, hw (.inr c2), rfl, rfl⟩))
        | false => exact .inr (.inr (.inr ⟨e, by unfold wiE; rw [if_neg (by rw [hf]; simp), if_neg (by rw [c1, c2]; simp)], rfl, rfl⟩))

theorem vTop_one : vTop = 1048576 * (one : Int) := by
  obtain ⟨J, hJ⟩ : ∃ J : Nat, J = 1074 := ⟨_, rfl⟩
  unfold vTop
  rw [one_pow hJ, Nat.one_mul, show ((20 : Int) + 1074).toNat = 20 + J by omega, Nat.pow_add, Int.natCast_mul]; rfl
theorem step_cases (st : Nat) : WithinCases st 981467136 1149239296 := by
  obtain ⟨j, hj⟩ : ∃ j : Nat, j = 1064 := ⟨_, rfl⟩
  have hj' : j + 20 = 1084 := by omega
  have e1 : one = 1024 * 2 ^ j := by rw [one_split (a := 10) (j := j) (by omega)]
  have e2 : 2 ^ (j + 20) = 1048576 * 2 ^ j := by rw [Nat.pow_add, Nat.mul_comm]
  have hp := Nat.two_pow_pos j
  exact within_cases (st := st) (vS_lo hj) (vS_hi hj') (by rw [vTop_one, e1]; generalize 2 ^ j = U at *; omega) (by rw [vTop_one, e1, e2]; generalize 2 ^ j = U at *; omega)

theorem flAt_one_of {w : World} {b x : Nat} (h : w.heap[b]? = some (flObj x)) : FlAt w b 0 1 (fun _ => x) := by
  intro i hi
  have : i = 0 := by omega
  subst this
  exact (blkC h).1 0
end Go.Proofs.YtacbemilicdklaaDoor

/- FilledIsLeast, walked. -/
namespace Go.Proofs.YtacbemilicdklaaDoor
open Go.RowKit Fl Go.Shelf
set_option linter.unusedVariables false

set_option maxHeartbeats 400000 in
theorem qNumberError_nil (a : Option Addr) (cap : Nat) (w : World) :
    Calls Tryd.prog 18 #[.slice a 0 cap] w fun e w' => e = .returned (.int .i64 0) ∧ w = w' := by
  go_enter Tryd.func18, Tryd.ntmps18
  go_wp2
  go_loop [9] (fun i => i = .int .i64 0) (fun _ => 0)
  case atStart => rfl
  case round =>
    subst hrel
    go_wp2
    go_loop [27] (fun i => i = .int .i64 0) (fun _ => 0)
    case atStart => rfl
    case round =>
      subst hrel
      go_wp2
      go_ret
      exact ⟨rfl, rfl⟩

/-- The error of a slice of singles, as both sides ask it, in whatever world behind. -/
def SlE (w : World) (a : Option Addr) (n cap : Nat) (er : Int) : Prop :=
  (∀ W', Below w.heap.size w W' → Calls Tryd.prog 93 #[.slice a n cap] W' fun e w' => e = .returned (.int .i64 er) ∧ W' = w') ∧
  (∀ W', Below w.heap.size w W' → Calls Tryd.prog 18 #[.slice a n cap] W' fun e w' => e = .returned (.int .i64 er) ∧ W' = w')
theorem SlE.stay {w w' : World} {a : Option Addr} {n cap : Nat} {er : Int} (h : SlE w a n cap er) (hb : Below w.heap.size w w') : SlE w' a n cap er :=
  ⟨fun W' hB => h.1 W' (hb.trans (hB.mono hb.size)), fun W' hB => h.2 W' (hb.trans (hB.mono hb.size))⟩
theorem slE_nil (w : World) (a : Option Addr) (cap : Nat) : SlE w a 0 cap 0 := ⟨fun W' _ => CheckHeights_nil a cap W', fun W' _ => qNumberError_nil a cap W'⟩
theorem slE_row {w : World} {b off n cap : Nat} {v : Nat → Nat} (h1 : 0 < n) (hl : n ≤ 9223372036854775807) (hc : FlAt w b off n v) : SlE w (some ⟨b, off, none⟩) n cap (fldE n v) := by
  have z : b < w.heap.size := World.block_lt_of_cell? w _ (hc 0 h1)
  exact ⟨fun W' hB => CheckHeights_row b off cap n v hl W' (flAt_congr hc (hB.block _ z)), fun W' hB => qNumberError_row b off cap n v hl W' (flAt_congr hc (hB.block _ z))⟩

set_option maxHeartbeats 1000000 in
theorem filled_no (X Y W H : Int) (a : Option Addr) (n cap : Nat) (er : Int) (sl : Nat) (re : Int) (w : World) (hE : SlE w a n cap er) (he : firstE (fldChk X Y W H n er) (wiE sl 0 1149239296) = re) (hz : re ≠ 0) :
    Calls Tryd.prog 15 #[fldV X Y W H (.slice a n cap), .float .f32 sl] w fun e w' => e = .returned (.tuple #[fldV 0 0 0 0 (.slice none 0 0), .int .i64 re]) ∧ Below w.heap.size w w' := by
  have CK := Lib.hid (fun W' (hB : Below w.heap.size w W') => checkA_any X Y W H a n cap er W' (hE.stay hB).1)
  have CW := Lib.hid (fun w => checkWithin_any sl 0 1149239296 w)
  generalize fldChk X Y W H n er = r1 at *
  generalize wiE sl 0 1149239296 = r2 at *
  unfold firstE at he
  by_cases h1 : r1 = 0
  · subst h1
    rw [if_pos rfl] at he
    subst he
    have h2 : (r2 != 0) = true := by simpa using hz
    clear hz hE
    go_enter Tryd.func15, Tryd.ntmps15
    go_wp2_with (first | (go_at_call 66; refine (CK.out _ (by repeat (first | exact Below.refl _ _ | refine Below.alloc ?_ (by first | omega | (simp; done) | (simp; omega)) _ | refine Below.setCell ?_ (by first | omega | (simp; done) | (simp; omega)) _ | refine Below.drew ?_))).mono ?_; rintro e w2 ⟨rfl, hb2⟩; obtain ⟨cR, fR, zR⟩ := blkC (blkStay (b := w.heap.size + 1) (o := fldO 0 0 0 0 (.slice none 0 0)) (by (first | (rw [heap_alloc_get, if_pos rfl]; done) | ((simp only [heap_alloc_get, heap_size_alloc, if_true]) <;> ((repeat' split) <;> first | rfl | omega)))) hb2); have hB2 : Below w.heap.size w w2 := Below.trans (by repeat (first | exact Below.refl _ _ | refine Below.alloc ?_ (by first | omega | (simp; done) | (simp; omega)) _ | refine Below.setCell ?_ (by first | omega | (simp; done) | (simp; omega)) _ | refine Below.drew ?_)) (Below.mono hb2 (by first | omega | (simp; done) | (simp; omega))); clear hb2) | (go_at_call 67; refine (CW.out _).mono ?_; rintro e w' ⟨rfl, rfl⟩))
    refine bodyPost_ret (v := .tuple #[fldV 0 0 0 0 (.slice none 0 0), .int .i64 r2]) (by simp [results, Tryd.results15, go_sem, cR]) rfl ?_
    exact ⟨rfl, by repeat (first | exact hB2 | refine Below.setCell ?_ (by first | omega | (simp; done) | (simp; omega)) _)⟩
  · rw [if_neg h1] at he
    subst he
    have h2 : (r1 != 0) = true := by simpa using hz
    clear hz hE h1 CW
    go_enter Tryd.func15, Tryd.ntmps15
    go_wp2_with (first | (go_at_call 66; refine (CK.out _ (by repeat (first | exact Below.refl _ _ | refine Below.alloc ?_ (by first | omega | (simp; done) | (simp; omega)) _ | refine Below.setCell ?_ (by first | omega | (simp; done) | (simp; omega)) _ | refine Below.drew ?_))).mono ?_; rintro e w2 ⟨rfl, hb2⟩; obtain ⟨cR, fR, zR⟩ := blkC (blkStay (b := w.heap.size + 1) (o := fldO 0 0 0 0 (.slice none 0 0)) (by (first | (rw [heap_alloc_get, if_pos rfl]; done) | ((simp only [heap_alloc_get, heap_size_alloc, if_true]) <;> ((repeat' split) <;> first | rfl | omega)))) hb2); have hB2 : Below w.heap.size w w2 := Below.trans (by repeat (first | exact Below.refl _ _ | refine Below.alloc ?_ (by first | omega | (simp; done) | (simp; omega)) _ | refine Below.setCell ?_ (by first | omega | (simp; done) | (simp; omega)) _ | refine Below.drew ?_)) (Below.mono hb2 (by first | omega | (simp; done) | (simp; omega))); clear hb2))
    refine bodyPost_ret (v := .tuple #[fldV 0 0 0 0 (.slice none 0 0), .int .i64 r1]) (by simp [results, Tryd.results15, go_sem, cR]) rfl ?_
    exact ⟨rfl, by repeat (first | exact hB2 | refine Below.setCell ?_ (by first | omega | (simp; done) | (simp; omega)) _)⟩

/-- The errors of the slope, as the law reckons them. -/
theorem slope_first (r1 : Int) (sl : Nat) : firstE (firstE r1 (fldE 1 (fun _ => sl))) (whenE ((FloatKind.f32.format.order sl 0 == some .lt) || (FloatKind.f32.format.order sl 1149239296 == some .gt)) 3) = firstE r1 (wiE sl 0 1149239296) := by
  by_cases h1 : r1 = 0
  · subst h1
    have hc : WithinCases sl 0 1149239296 := by
      obtain ⟨j, hj⟩ : ∃ j : Nat, j + 20 = 1084 + 20 - 20 := ⟨1064, rfl⟩
      exact within_cases (l := 0) (h := 1024 * (one : Int)) vS_zero (by
        have h : Ieee.single.read 1149239296 = .number false 8388608 (-13) := by decide
        obtain ⟨J, hJ⟩ : ∃ J : Nat, J = 1074 := ⟨_, rfl⟩
        rw [vS_lit (t := 1024) (k := 13) (j := J) h (by decide) (by rw [hJ]; decide), one_pow hJ]; simp) (by rw [vTop_one]; have := Int.natCast_nonneg one; omega) (by rw [vTop_one]; have := Int.natCast_nonneg one; omega)
    unfold WithinCases at hc
    generalize fldE 1 (fun _ => sl) = fe at *
    generalize wiE sl 0 1149239296 = we at *
    rcases hc with ⟨hf, e⟩ | ⟨e1, e2, e3⟩ | ⟨e1, e2, e3, e4⟩ | ⟨e1, e2, e3, e4⟩
    · subst e
      rcases hf with rfl | rfl <;> rfl
    · rw [e1, e2, e3]; rfl
    · rw [e1, e2, e3, e4]; rfl
    · rw [e1, e2, e3, e4]; rfl
  · unfold firstE
    rw [if_neg h1, if_neg h1, if_neg h1]
end Go.Proofs.YtacbemilicdklaaDoor

/- FilledIsLeast, walked. -/
namespace Go.Proofs.YtacbemilicdklaaDoor
open Go.RowKit Fl Go.Shelf
set_option linter.unusedVariables false

set_option maxHeartbeats 400000 in
theorem small_any (X Y W H : Int) (a : Option Addr) (n cap : Nat) (w : World) : Calls Tryd.prog 22 #[fldV X Y W H (.slice a n cap)] w fun e w' => e = .returned (.bool (decide (n ≤ 200))) ∧ Below w.heap.size w w' := by
  go_enter Tryd.func22, Tryd.ntmps22
  go_wp2
  go_ret
  exact ⟨ret_bool (by rw [Bool.eq_iff_iff]; simp; omega), (by repeat (first | exact Below.refl _ _ | refine Below.alloc ?_ (by first | omega | (simp; done) | (simp; omega)) _ | refine Below.setCell ?_ (by first | omega | (simp; done) | (simp; omega)) _ | refine Below.drew ?_))⟩

set_option maxHeartbeats 1000000 in
theorem equalF_any (b b' off off' cap cap' n : Nat) (c d : Nat → Nat) (hl : n ≤ 65536) (w : World) (hc : FlAt w b off n c) (hc' : FlAt w b' off' n d) (he : ∀ i, i < n → ∃ x, vS (c i) = some x ∧ vS (d i) = some x) :
    Calls Tryd.prog 24 #[.slice (some ⟨b, off, none⟩) n cap, .slice (some ⟨b', off', none⟩) n cap'] w fun e w' => e = .returned (.bool true) ∧ Below w.heap.size w w' := by
  have HC := Lib.hid hc
  have HC' := Lib.hid hc'
  have HE := Lib.hid he
  clear hc hc' he
  go_enter Tryd.func24, Tryd.ntmps24
  go_wp2
  go_loopw [13] (fun i wr => ∃ k : Nat, k ≤ n ∧ i = .int .i64 k ∧ (∀ p : Addr, p.block < w.heap.size → wr.cell? p = w.cell? p) ∧ Below w.heap.size w wr) (fun i _ => n - (intOf i).toNat)
  case atStart => exact ⟨0, Nat.zero_le _, rfl, fun _ _ => rfl, Below.refl _ _⟩
  case round =>
    obtain ⟨k, hk, rfl, hs, hb⟩ := hrel
    have HB := Lib.hid hb
    have HS := Lib.hid hs
    by_cases hlt : k < n
    · have z1 := World.block_lt_of_cell? w _ (HC.out k hlt)
      have z2 := World.block_lt_of_cell? w _ (HC'.out k hlt)
      have d1 := (hs ⟨b, off + k, none⟩ z1).trans (HC.out k hlt)
      have d2 := (hs ⟨b', off' + k, none⟩ z2).trans (HC'.out k hlt)
      obtain ⟨x, x1, x2⟩ := HE.out k hlt
      have t1 := eql_val x1 x2
      rw [← f32f, decide_eq_true rfl] at t1
      have t2 : (FloatKind.f32.format.order (c k) (d k) != some .eq) = false := by rw [bne, t1]; rfl
      have k1 : (k : Int) < (n : Int) := by omega
      have k2 : (0 : Int) ≤ (k : Int) := by omega
      clear hs hb x1 x2
      go_wp2
      go_region
      all_goals go_wp2
      all_goals go_roundw
      case rel => exact ⟨k + 1, by omega, by go_num, fun p hp => HS.out p hp, HB.out.drew⟩
      case measure => simp [intOf]; omega
    · clear hs hb
      go_wp2
      go_ret
      exact ⟨rfl, HB.out⟩

set_option maxHeartbeats 1000000 in
set_option maxRecDepth 100000 in
theorem filLaw_no (X Y W H : Int) (a : Option Addr) (n cap : Nat) (er : Int) (sl : Nat) (re : Int) (p q : Bool) (w : World) (hE : SlE w a n cap er) (he : firstE (fldChk X Y W H n er) (wiE sl 0 1149239296) = re) (hz : re ≠ 0)
    (hp : (FloatKind.f32.format.order sl 0 == some .lt) = p) (hq : (FloatKind.f32.format.order sl 1149239296 == some .gt) = q) (hD : DirsAt w) :
    Calls Tryd.prog 3 #[fldV X Y W H (.slice a n cap), .float .f32 sl] w fun e w' => e = .returned (.bool true) ∧ Below w.heap.size w w' := by
  have FN := Lib.hid (fun W' (hB : Below w.heap.size w W') => filled_no X Y W H a n cap er sl re W' (hE.stay hB) he hz)
  have FE := Lib.hid (fun W' (hB : Below w.heap.size w W') => qFieldError_any X Y W H a n cap er W' (hE.stay hB).2)
  have NE := Lib.hid (fun p w (h : w.heap[p]? = some (.cells #[.float .f32 sl] 27)) => qNumberError_row p 0 1 1 (fun _ => sl) (by omega) w (flAt_h1 h))
  have WH := Lib.hid (fun c w => when_any c 3 w)
  have sf := slope_first (fldChk X Y W H n er) sl
  rw [hp, hq, he] at sf
  have FI := Lib.hid (fun x (hx : x = (p || q)) pp w (h : w.heap[pp]? = some (.cells #[.int .i64 (fldChk X Y W H n er), .int .i64 (fldE 1 (fun _ => sl)), .int .i64 (whenE x 3)] 28)) => show Calls Tryd.prog 16 #[.slice (some ⟨pp, 0, none⟩) 3 3] w fun e w' => e = .returned (.int .i64 re) ∧ w = w' by rw [← sf, ← hx]; exact first3_any _ _ _ pp w h)
  have FL := Lib.hid (fun W' (hB : Below w.heap.size w W') => flows_any W' (hD.stay hB))
  have EM := Lib.hid (fun w => empty_no w)
  have h1 : (re != 0) = true := by simpa using hz
  clear hE he hz hD sf
  generalize fldChk X Y W H n er = r1 at *
  generalize fldE 1 (fun _ => sl) = r2 at *
  cases p <;> cases q
  all_goals
    go_enter Tryd.func3, Tryd.ntmps3
    go_wp2_with (first | (go_at_call 15; refine (FN.out _ (by repeat (first | exact Below.refl _ _ | refine Below.alloc ?_ (by first | omega | (simp; done) | (simp; omega)) _ | refine Below.setCell ?_ (by first | omega | (simp; done) | (simp; omega)) _ | refine Below.drew ?_))).mono ?_; rintro e w2 ⟨rfl, hb2⟩; have HF2 := Lib.hid (blkStay (b := w.heap.size) (o := fldO X Y W H (.slice a n cap)) (by (first | (rw [heap_alloc_get, if_pos rfl]; done) | ((simp only [heap_alloc_get, heap_size_alloc, if_true]) <;> ((repeat' split) <;> first | rfl | omega)))) hb2); obtain ⟨cF, fF, zF⟩ := blkC HF2.out; have HB2 : Below w.heap.size w w2 := Below.trans (by repeat (first | exact Below.refl _ _ | refine Below.alloc ?_ (by first | omega | (simp; done) | (simp; omega)) _ | refine Below.setCell ?_ (by first | omega | (simp; done) | (simp; omega)) _ | refine Below.drew ?_)) (Below.mono hb2 (by first | omega | (simp; done) | (simp; omega))); clear hb2) | (go_at_call 17; refine (FE.out _ (HB2.alloc HB2.size _)).mono ?_; rintro e w3 ⟨rfl, hb3⟩; have HG3 := Lib.hid (blkStay (b := w2.heap.size) (o := fldO 0 0 0 0 (.slice none 0 0)) (by (first | (rw [heap_alloc_get, if_pos rfl]; done) | ((simp only [heap_alloc_get, heap_size_alloc, if_true]) <;> ((repeat' split) <;> first | rfl | omega)))) hb3); have HB3 : Below w.heap.size w w3 := (HB2.alloc HB2.size _).trans (hb3.mono (by have := HB2.size; simp; omega)); have zG3 := (blkC HG3.out).2.2; clear hb3 cF fF zF) | (go_at_call 18; refine (NE.out _ _ (by (first | (rw [heap_alloc_get, if_pos rfl]; done) | ((simp only [heap_alloc_get, heap_size_alloc, if_true]) <;> ((repeat' split) <;> first | rfl | omega))))).mono ?_; rintro e w' ⟨rfl, rfl⟩) | (go_at_call 19; refine (WH.out _ _).mono ?_; rintro e w' ⟨rfl, rfl⟩) | (go_at_call 16; (first | refine (FI.out true rfl _ _ (by (first | (rw [heap_alloc_get, if_pos rfl]; done) | ((simp only [heap_alloc_get, heap_size_alloc, if_true]) <;> ((repeat' split) <;> first | rfl | omega))))).mono ?_ | refine (FI.out false rfl _ _ (by (first | (rw [heap_alloc_get, if_pos rfl]; done) | ((simp only [heap_alloc_get, heap_size_alloc, if_true]) <;> ((repeat' split) <;> first | rfl | omega))))).mono ?_); rintro e w' ⟨rfl, rfl⟩) | (go_at_call 20; refine (FL.out _ HB5).mono ?_; rintro e w6 ⟨rfl, hb6⟩; clear cG fG zG; have HG6 := Lib.hid (blkStay HG5.out hb6); obtain ⟨cG, fG, zG⟩ := blkC HG6.out; have HB6 := HB5.trans (hb6.mono HB5.size); clear hb6) | (go_at_call 20; refine (FL.out _ ((HB3.alloc HB3.size _).alloc (by have := HB3.size; simp; omega) _)).mono ?_; rintro e w5 ⟨rfl, hb5⟩; have h35 : Below w3.heap.size w3 w5 := Below.trans (by repeat (first | exact Below.refl _ _ | refine Below.alloc ?_ (by first | omega | (simp; done) | (simp; omega)) _ | refine Below.setCell ?_ (by first | omega | (simp; done) | (simp; omega)) _ | refine Below.drew ?_)) (Below.mono hb5 (by simp; omega)); have HG5 := Lib.hid (blkStay HG3.out h35); obtain ⟨cG, fG, zG⟩ := blkC HG5.out; have HB5 := HB3.trans (h35.mono HB3.size); clear hb5 h35) | (go_at_call 21; refine (EM.out _).mono ?_; rintro e w7 ⟨rfl, hb7⟩; have HB7 := HB6.trans (hb7.mono HB6.size); clear hb7))
    go_ret
    exact ⟨rfl, HB7⟩
end Go.Proofs.YtacbemilicdklaaDoor

/- FilledIsLeast, walked: where the field and the slope are right. -/
namespace Go.Proofs.YtacbemilicdklaaDoor
open Go.RowKit Fl Go.Shelf
set_option linter.unusedVariables false

theorem hgtB_of {x : Nat} {a : Int} (h : vS x = some a) : hgtB x = (decide (-vTop ≤ a) && decide (a ≤ vTop)) := by unfold hgtB; rw [h]
/-- Values that agree are heights alike. -/
theorem bel_fld {n : Nat} {s c : Nat → Nat} (h : ∀ k, k < n → OkW 65536 (c k) ∧ vI (c k) = vI (s k)) (hs : ∀ k, k < n → OkW 65536 (s k)) : fldE n c = if allB n (fun i => hgtB (s i)) = true then 0 else 3 := by
  have e : allB n (fun i => hgtB (c i)) = allB n (fun i => hgtB (s i)) := by
    rw [Bool.eq_iff_iff, allB_iff, allB_iff]
    constructor
    · intro q i hi; have := q i hi; rw [hgtB_of (hs i hi).val]; rw [hgtB_of (h i hi).1.val, (h i hi).2] at this; exact this
    · intro q i hi; have := q i hi; rw [hgtB_of (h i hi).1.val, (h i hi).2]; rw [hgtB_of (hs i hi).val] at this; exact this
  have f : allB n (fun i => finB (c i)) = true := allB_iff.2 fun i hi => by unfold finB; rw [(h i hi).1.val]; rfl
  unfold fldE hgtE
  rw [if_pos f, e]
theorem bel_eq {n : Nat} {s c : Nat → Nat} (h : ∀ k, k < n → OkW 65536 (c k) ∧ vI (c k) = vI (s k)) (hs : ∀ k, k < n → OkW 65536 (s k)) : ∀ i, i < n → ∃ x, vS (s i) = some x ∧ vS (c i) = some x :=
  fun i hi => ⟨vI (s i), (hs i hi).val, by rw [← (h i hi).2]; exact (h i hi).1.val⟩

theorem wi_slope {sl : Nat} (h : wiE sl 0 1149239296 = 0) : SlW sl ∧ (FloatKind.f32.format.order sl 0 == some .lt) = false ∧ (FloatKind.f32.format.order sl 1149239296 == some .gt) = false ∧ hgtB sl = true := by
  have v1 : vS 1149239296 = some (1024 * (one : Int)) := by
    have h : Ieee.single.read 1149239296 = .number false 8388608 (-13) := by decide
    obtain ⟨J, hJ⟩ : ∃ J : Nat, J = 1074 := ⟨_, rfl⟩
    rw [vS_lit (t := 1024) (k := 13) (j := J) h (by decide) (by rw [hJ]; decide), one_pow hJ]; simp
  unfold wiE at h
  cases hf : finB sl with
  | false => rw [if_pos hf] at h; cases h
  | true =>
    rw [if_neg (by rw [hf]; simp)] at h
    split at h
    · cases h
    · rename_i q
      obtain ⟨a, ha⟩ := Option.isSome_iff_exists.1 (show (vS sl).isSome = true from hf)
      have l := lss_val ha vS_zero
      have g := gtr_val ha v1
      rw [← f32f] at l g
      have l' : (FloatKind.f32.format.order sl 0 == some .lt) = false := by
        cases c : (FloatKind.f32.format.order sl 0 == some .lt) with
        | false => rfl
        | true => exact absurd (.inl c) q
      have g' : (FloatKind.f32.format.order sl 1149239296 == some .gt) = false := by
        cases c : (FloatKind.f32.format.order sl 1149239296 == some .gt) with
        | false => rfl
        | true => exact absurd (.inr c) q
      have l2 : 0 ≤ a := by rw [l'] at l; have := of_decide_eq_false l.symm; omega
      have g2 : a ≤ 1024 * (one : Int) := by rw [g'] at g; have := of_decide_eq_false g.symm; omega
      have on := Int.natCast_nonneg one
      exact ⟨⟨a, ha, l2, g2⟩, l', g', by rw [hgtB_of ha, top_one]; simp; omega⟩

set_option maxHeartbeats 4000000 in
set_option maxRecDepth 100000 in
theorem filLaw_ok (X Y : Int) (W H n b off cap : Nat) (v : Nat → Nat) (sl : Nat) (w : World) (h0 : checkR X Y W H = 0) (hn : n = W * H) (hc : FlAt w b off n v) (hh : allB n (fun i => hgtB (v i)) = true) (hw : wiE sl 0 1149239296 = 0) (hD : DirsAt w) :
    Calls Tryd.prog 3 #[fldV X Y W H (.slice (some ⟨b, off, none⟩) n cap), .float .f32 sl] w fun e w' => e = .returned (.bool true) ∧ Below w.heap.size w w' := by
  obtain ⟨b1, b2, b3, b4, b5, _⟩ := checkR_zero h0
  have en : ((W : Int) * (H : Int)) = (n : Int) := by rw [hn]; simp
  have hn2 : n ≤ 65536 := by omega
  have hn1 : 1 ≤ n := by rw [hn]; exact Nat.mul_pos (by omega) (by omega)
  have zb : b < w.heap.size := World.block_lt_of_cell? w _ (hc 0 hn1)
  obtain ⟨hs, hp, hq, hg⟩ := wi_slope hw
  have FD := Lib.hid (fun W' (hB : Below w.heap.size w W') => filled_any X Y W H n b off cap v sl W' h0 hn (flAt_congr hc (hB.block _ zb)) hh hs hw (hD.stay hB))
  have ck : fldChk X Y W H n 0 = 0 := by unfold fldChk; rw [if_neg (by rw [h0]; simp), if_neg (by rw [en]; simp)]
  have FE := Lib.hid (fun W' (hB : Below w.heap.size w W') => qFieldError_any X Y W H (some ⟨b, off, none⟩) n cap 0 W' (by have q := ((slE_row (cap := cap) (by omega) (by omega) hc).stay hB).2; rw [fldE_zero.2 hh] at q; exact q))
  rw [ck] at FE
  have NE := Lib.hid (fun p w (h : w.heap[p]? = some (.cells #[.float .f32 sl] 27)) => qNumberError_row p 0 1 1 (fun _ => sl) (by omega) w (flAt_h1 h))
  rw [fldE_one_ok hg] at NE
  have WH := Lib.hid (fun c w => when_any c 3 w)
  have FI := Lib.hid (fun pp w (h : w.heap[pp]? = some (.cells #[.int .i64 0, .int .i64 0, .int .i64 (whenE false 3)] 28)) => show Calls Tryd.prog 16 #[.slice (some ⟨pp, 0, none⟩) 3 3] w fun e w' => e = .returned (.int .i64 0) ∧ w = w' from first3_any 0 0 0 pp w h)
  have FL := Lib.hid (fun W' (hB : Below w.heap.size w W') => flows_any W' (hD.stay hB))
  have EM := Lib.hid (fun w => empty_no w)
  have SM := Lib.hid (fun w => small_any X Y W H (some ⟨b, off, none⟩) n cap w)
  have FO := Lib.hid (fun s (S : Spills (gndOf W H v sl) s) W' (hB : Below w.heap.size w W') => filledOf_any X Y W H n b off cap v sl s W' h0 hn (flAt_congr hc (hB.block _ zb)) hh hs S)
  have NV := Lib.hid (fun sb c w hc => qNumberError_row sb 0 n n c (by omega) w hc)
  have EQ := Lib.hid (fun b' sb cap' s c w hc hd he => equalF_any b' sb 0 0 cap' n n s c hn2 w hc hd he)
  have GN := Lib.hid (show (gndOf W H v sl).n = n from hn.symm)
  clear h0 hn hc hh hw hD b1 b2 b3 b4 b5 en hn2 zb hs hg ck
  have HN1 := Lib.hid hn1
  clear hn1
  by_cases h200 : n ≤ 200
  · rw [decide_eq_true h200] at SM
    clear h200
    go_enter Tryd.func3, Tryd.ntmps3
    go_wp2_with fail
    refine (FD.out _ (by repeat (first | exact Below.refl _ _ | refine Below.alloc ?_ (by first | omega | (simp; done) | (simp; omega)) _ | refine Below.setCell ?_ (by first | omega | (simp; done) | (simp; omega)) _ | refine Below.drew ?_))).mono ?_
    rintro e w2 ⟨s, S, ⟨hall, b', cap', rfl, hb', hlt', hrow, hb2⟩ | ⟨hall, rfl, hb2⟩⟩
    · have HF2 := Lib.hid (blkStay (b := w.heap.size) (o := fldO X Y W H (.slice (some ⟨b, off, none⟩) n cap)) (by (first | (rw [heap_alloc_get, if_pos rfl]; done) | ((simp only [heap_alloc_get, heap_size_alloc, if_true]) <;> ((repeat' split) <;> first | rfl | omega)))) hb2)
      have HB2 : Below w.heap.size w w2 := Below.trans (by repeat (first | exact Below.refl _ _ | refine Below.alloc ?_ (by first | omega | (simp; done) | (simp; omega)) _ | refine Below.setCell ?_ (by first | omega | (simp; done) | (simp; omega)) _ | refine Below.drew ?_)) (Below.mono hb2 (by first | omega | (simp; done) | (simp; omega)))
      obtain ⟨cF, fF, zF⟩ := blkC HF2.out
      have SP := Lib.hid S
      have AL := Lib.hid hall
      have RW := Lib.hid hrow
      have ZB := Lib.hid hlt'
      clear S hall hrow hlt' hb' hb2
      go_wp2_with (first | (go_at_call 17; refine (FE.out _ (HB2.alloc HB2.size _)).mono ?_; rintro e w3 ⟨rfl, hb3⟩; have h23 : Below w2.heap.size w2 w3 := Below.trans (by repeat (first | exact Below.refl _ _ | refine Below.alloc ?_ (by first | omega | (simp; done) | (simp; omega)) _ | refine Below.setCell ?_ (by first | omega | (simp; done) | (simp; omega)) _ | refine Below.drew ?_)) (Below.mono hb3 (by simp)); have HF3 := Lib.hid (blkStay HF2.out h23); have HG3 := Lib.hid (blkStay (b := w2.heap.size) (o := fldO X Y W H (.slice (some ⟨b', 0, none⟩) n cap')) (by (first | (rw [heap_alloc_get, if_pos rfl]; done) | ((simp only [heap_alloc_get, heap_size_alloc, if_true]) <;> ((repeat' split) <;> first | rfl | omega)))) hb3); have RW3 := Lib.hid (flAt_congr RW.out (h23.block _ ZB.out)); have ZB3 := Lib.hid (Nat.lt_of_lt_of_le ZB.out h23.size); have HB3 := HB2.trans (h23.mono HB2.size); clear hb3 h23 cF fF zF; obtain ⟨cF, fF, zF⟩ := blkC HF3.out; obtain ⟨cG, fG, zG⟩ := blkC HG3.out) | (go_at_call 18; (with_reducible refine (NE.out _ _ ?hg).mono ?_); (case hg => (first | (rw [heap_alloc_get, if_pos rfl]; done) | ((simp only [heap_alloc_get, heap_size_alloc, if_true]) <;> ((repeat' split) <;> first | rfl | omega)))); rintro e w' ⟨rfl, rfl⟩) | (go_at_call 19; refine (WH.out _ _).mono ?_; rintro e w' ⟨rfl, rfl⟩) | (go_at_call 16; refine (FI.out _ _ (by (first | (rw [heap_alloc_get, if_pos rfl]; done) | ((simp only [heap_alloc_get, heap_size_alloc, if_true]) <;> ((repeat' split) <;> first | rfl | omega))))).mono ?_; rintro e w' ⟨rfl, rfl⟩) | (go_at_call 20; refine (FL.out _ ((HB3.alloc HB3.size _).alloc (by have := HB3.size; simp; omega) _)).mono ?_; rintro e w5 ⟨rfl, hb5⟩; have h35 : Below w3.heap.size w3 w5 := Below.trans (by repeat (first | exact Below.refl _ _ | refine Below.alloc ?_ (by first | omega | (simp; done) | (simp; omega)) _ | refine Below.setCell ?_ (by first | omega | (simp; done) | (simp; omega)) _ | refine Below.drew ?_)) (Below.mono hb5 (by simp; omega)); clear cF fF zF cG fG zG; have HF5 := Lib.hid (blkStay HF3.out h35); have HG5 := Lib.hid (blkStay HG3.out h35); have RW5 := Lib.hid (flAt_congr RW3.out (h35.block _ ZB3.out)); have ZB5 := Lib.hid (Nat.lt_of_lt_of_le ZB3.out h35.size); obtain ⟨cF, fF, zF⟩ := blkC HF5.out; obtain ⟨cG, fG, zG⟩ := blkC HG5.out; have HB5 := HB3.trans (h35.mono HB3.size); clear hb5 h35) | (go_at_call 22; refine (SM.out _).mono ?_; rintro e w6 ⟨rfl, hb6⟩; clear cF fF zF cG fG zG; have HF6 := Lib.hid (blkStay HF5.out hb6); have HG6 := Lib.hid (blkStay HG5.out hb6); have RW6 := Lib.hid (flAt_congr RW5.out (hb6.block _ ZB5.out)); have ZB6 := Lib.hid (Nat.lt_of_lt_of_le ZB5.out hb6.size); obtain ⟨cF, fF, zF⟩ := blkC HF6.out; obtain ⟨cG, fG, zG⟩ := blkC HG6.out; have HB6 := HB5.trans (hb6.mono HB5.size); clear hb6) | (go_at_call 23; refine (FO.out s SP.out _ HB6).mono ?_; rintro e w7 ⟨sb, c, rfl, z1, z2, c7, v7, hb7⟩; clear cF fF zF cG fG zG; have HF7 := Lib.hid (blkStay HF6.out hb7); have HG7 := Lib.hid (blkStay HG6.out hb7); have RW7 := Lib.hid (flAt_congr RW6.out (hb7.block _ ZB6.out)); obtain ⟨cF, fF, zF⟩ := blkC HF7.out; obtain ⟨cG, fG, zG⟩ := blkC HG7.out; have HB7 := HB6.trans (hb7.mono HB6.size); have C7 := Lib.hid c7; have NC := Lib.hid (NV.out sb c w7 c7); rw [bel_fld v7 (fun k hk => SP.out.fin k (by rw [GN.out]; exact hk)), if_pos AL.out] at NC; have QC := Lib.hid (bel_eq v7 (fun k hk => SP.out.fin k (by rw [GN.out]; exact hk))); clear hb7 z1 z2 c7 v7) | (go_at_call 18; refine NC.out.mono ?_; rintro e w' ⟨rfl, rfl⟩) | (go_at_call 24; refine (EQ.out _ _ _ s c _ RW7.out C7.out QC.out).mono ?_; rintro e w8 ⟨rfl, hb8⟩; have HB8 := HB7.trans (hb8.mono HB7.size); clear hb8))
      go_ret
      exact ⟨rfl, HB8⟩
    · have HF2 := Lib.hid (blkStay (b := w.heap.size) (o := fldO X Y W H (.slice (some ⟨b, off, none⟩) n cap)) (by (first | (rw [heap_alloc_get, if_pos rfl]; done) | ((simp only [heap_alloc_get, heap_size_alloc, if_true]) <;> ((repeat' split) <;> first | rfl | omega)))) hb2)
      have HB2 : Below w.heap.size w w2 := Below.trans (by repeat (first | exact Below.refl _ _ | refine Below.alloc ?_ (by first | omega | (simp; done) | (simp; omega)) _ | refine Below.setCell ?_ (by first | omega | (simp; done) | (simp; omega)) _ | refine Below.drew ?_)) (Below.mono hb2 (by first | omega | (simp; done) | (simp; omega)))
      obtain ⟨cF, fF, zF⟩ := blkC HF2.out
      have SP := Lib.hid S
      have AL := Lib.hid hall
      clear S hall hb2
      go_wp2_with (first | (go_at_call 17; refine (FE.out _ (HB2.alloc HB2.size _)).mono ?_; rintro e w3 ⟨rfl, hb3⟩; have h23 : Below w2.heap.size w2 w3 := Below.trans (by repeat (first | exact Below.refl _ _ | refine Below.alloc ?_ (by first | omega | (simp; done) | (simp; omega)) _ | refine Below.setCell ?_ (by first | omega | (simp; done) | (simp; omega)) _ | refine Below.drew ?_)) (Below.mono hb3 (by simp)); have HF3 := Lib.hid (blkStay HF2.out h23); have HG3 := Lib.hid (blkStay (b := w2.heap.size) (o := fldO 0 0 0 0 (.slice none 0 0)) (by (first | (rw [heap_alloc_get, if_pos rfl]; done) | ((simp only [heap_alloc_get, heap_size_alloc, if_true]) <;> ((repeat' split) <;> first | rfl | omega)))) hb3); have HB3 := HB2.trans (h23.mono HB2.size); clear hb3 h23 cF fF zF; obtain ⟨cF, fF, zF⟩ := blkC HF3.out; obtain ⟨cG, fG, zG⟩ := blkC HG3.out) | (go_at_call 18; (with_reducible refine (NE.out _ _ ?hg).mono ?_); (case hg => (first | (rw [heap_alloc_get, if_pos rfl]; done) | ((simp only [heap_alloc_get, heap_size_alloc, if_true]) <;> ((repeat' split) <;> first | rfl | omega)))); rintro e w' ⟨rfl, rfl⟩) | (go_at_call 19; refine (WH.out _ _).mono ?_; rintro e w' ⟨rfl, rfl⟩) | (go_at_call 16; refine (FI.out _ _ (by (first | (rw [heap_alloc_get, if_pos rfl]; done) | ((simp only [heap_alloc_get, heap_size_alloc, if_true]) <;> ((repeat' split) <;> first | rfl | omega))))).mono ?_; rintro e w' ⟨rfl, rfl⟩) | (go_at_call 20; refine (FL.out _ ((HB3.alloc HB3.size _).alloc (by have := HB3.size; simp; omega) _)).mono ?_; rintro e w5 ⟨rfl, hb5⟩; have h35 : Below w3.heap.size w3 w5 := Below.trans (by repeat (first | exact Below.refl _ _ | refine Below.alloc ?_ (by first | omega | (simp; done) | (simp; omega)) _ | refine Below.setCell ?_ (by first | omega | (simp; done) | (simp; omega)) _ | refine Below.drew ?_)) (Below.mono hb5 (by simp; omega)); clear cF fF zF cG fG zG; have HF5 := Lib.hid (blkStay HF3.out h35); have HG5 := Lib.hid (blkStay HG3.out h35); obtain ⟨cF, fF, zF⟩ := blkC HF5.out; obtain ⟨cG, fG, zG⟩ := blkC HG5.out; have HB5 := HB3.trans (h35.mono HB3.size); clear hb5 h35) | (go_at_call 22; refine (SM.out _).mono ?_; rintro e w6 ⟨rfl, hb6⟩; clear cF fF zF cG fG zG; have HF6 := Lib.hid (blkStay HF5.out hb6); have HG6 := Lib.hid (blkStay HG5.out hb6); obtain ⟨cF, fF, zF⟩ := blkC HF6.out; obtain ⟨cG, fG, zG⟩ := blkC HG6.out; have HB6 := HB5.trans (hb6.mono HB5.size); clear hb6) | (go_at_call 23; refine (FO.out s SP.out _ HB6).mono ?_; rintro e w7 ⟨sb, c, rfl, z1, z2, c7, v7, hb7⟩; clear cF fF zF cG fG zG; have HG7 := Lib.hid (blkStay HG6.out hb7); obtain ⟨cG, fG, zG⟩ := blkC HG7.out; have HB7 := HB6.trans (hb7.mono HB6.size); have NC := Lib.hid (NV.out sb c w7 c7); rw [bel_fld v7 (fun k hk => SP.out.fin k (by rw [GN.out]; exact hk)), AL.out, if_neg (by simp)] at NC; clear hb7 z1 z2 c7 v7) | (go_at_call 18; refine NC.out.mono ?_; rintro e w' ⟨rfl, rfl⟩) | (go_at_call 21; refine (EM.out _).mono ?_; rintro e w8 ⟨rfl, hb8⟩; have HB8 := HB7.trans (hb8.mono HB7.size); clear hb8))
      go_ret
      exact ⟨rfl, HB8⟩
  · rw [decide_eq_false h200] at SM
    clear h200
    go_enter Tryd.func3, Tryd.ntmps3
    go_wp2_with fail
    refine (FD.out _ (by repeat (first | exact Below.refl _ _ | refine Below.alloc ?_ (by first | omega | (simp; done) | (simp; omega)) _ | refine Below.setCell ?_ (by first | omega | (simp; done) | (simp; omega)) _ | refine Below.drew ?_))).mono ?_
    have key : ∀ e w2, FilledPost ((w.alloc (fldO X Y W H (.slice (some ⟨b, off, none⟩) n cap)))) X Y W H n v sl e w2 → ∃ (x y u hh : Int) (sa : Option Addr) (sl' sc : Nat) (k : Int), e = .returned (.tuple #[fldV x y u hh (.slice sa sl' sc), .int .i64 k]) ∧ Below (w.alloc (fldO X Y W H (.slice (some ⟨b, off, none⟩) n cap))).heap.size (w.alloc (fldO X Y W H (.slice (some ⟨b, off, none⟩) n cap))) w2 := by
      rintro e w2 ⟨s, S, ⟨hall, b', cap', rfl, hb', hlt', hrow, hb2⟩ | ⟨hall, rfl, hb2⟩⟩
      · exact ⟨_, _, _, _, _, _, _, _, rfl, hb2⟩
      · exact ⟨_, _, _, _, _, _, _, _, rfl, hb2⟩
    intro e w2 hpost
    obtain ⟨x, y, u, hh, sa, sl', sc, k, rfl, hb2⟩ := key e w2 hpost
    have HF2 := Lib.hid (blkStay (b := w.heap.size) (o := fldO X Y W H (.slice (some ⟨b, off, none⟩) n cap)) (by (first | (rw [heap_alloc_get, if_pos rfl]; done) | ((simp only [heap_alloc_get, heap_size_alloc, if_true]) <;> ((repeat' split) <;> first | rfl | omega)))) hb2)
    have HB2 : Below w.heap.size w w2 := Below.trans (by repeat (first | exact Below.refl _ _ | refine Below.alloc ?_ (by first | omega | (simp; done) | (simp; omega)) _ | refine Below.setCell ?_ (by first | omega | (simp; done) | (simp; omega)) _ | refine Below.drew ?_)) (Below.mono hb2 (by first | omega | (simp; done) | (simp; omega)))
    obtain ⟨cF, fF, zF⟩ := blkC HF2.out
    clear key hpost hb2
    go_wp2_with (first | (go_at_call 17; refine (FE.out _ (HB2.alloc HB2.size _)).mono ?_; rintro e w3 ⟨rfl, hb3⟩; have h23 : Below w2.heap.size w2 w3 := Below.trans (by repeat (first | exact Below.refl _ _ | refine Below.alloc ?_ (by first | omega | (simp; done) | (simp; omega)) _ | refine Below.setCell ?_ (by first | omega | (simp; done) | (simp; omega)) _ | refine Below.drew ?_)) (Below.mono hb3 (by simp)); have HF3 := Lib.hid (blkStay HF2.out h23); have HB3 := HB2.trans (h23.mono HB2.size); clear hb3 h23 cF fF zF; obtain ⟨cF, fF, zF⟩ := blkC HF3.out) | (go_at_call 18; (with_reducible refine (NE.out _ _ ?hg).mono ?_); (case hg => (first | (rw [heap_alloc_get, if_pos rfl]; done) | ((simp only [heap_alloc_get, heap_size_alloc, if_true]) <;> ((repeat' split) <;> first | rfl | omega)))); rintro e w' ⟨rfl, rfl⟩) | (go_at_call 19; refine (WH.out _ _).mono ?_; rintro e w' ⟨rfl, rfl⟩) | (go_at_call 16; refine (FI.out _ _ (by (first | (rw [heap_alloc_get, if_pos rfl]; done) | ((simp only [heap_alloc_get, heap_size_alloc, if_true]) <;> ((repeat' split) <;> first | rfl | omega))))).mono ?_; rintro e w' ⟨rfl, rfl⟩) | (go_at_call 20; refine (FL.out _ ((HB3.alloc HB3.size _).alloc (by have := HB3.size; simp; omega) _)).mono ?_; rintro e w5 ⟨rfl, hb5⟩; have h35 : Below w3.heap.size w3 w5 := Below.trans (by repeat (first | exact Below.refl _ _ | refine Below.alloc ?_ (by first | omega | (simp; done) | (simp; omega)) _ | refine Below.setCell ?_ (by first | omega | (simp; done) | (simp; omega)) _ | refine Below.drew ?_)) (Below.mono hb5 (by simp; omega)); clear cF fF zF; have HF5 := Lib.hid (blkStay HF3.out h35); obtain ⟨cF, fF, zF⟩ := blkC HF5.out; have HB5 := HB3.trans (h35.mono HB3.size); clear hb5 h35) | (go_at_call 22; refine (SM.out _).mono ?_; rintro e w6 ⟨rfl, hb6⟩; have HB6 := HB5.trans (hb6.mono HB5.size); clear hb6))
    go_ret
    exact ⟨rfl, HB6⟩

/-- FilledIsLeast, whatever comes in. -/
theorem filLaw_any {X Y W H : Int} {sv : Value} (sl : Nat) {w : World} (h : (∃ a cap, sv = .slice a 0 cap) ∨ ∃ b off len cap x, sv = .slice (some ⟨b, off, none⟩) len cap ∧ 0 < len ∧ len ≤ 9223372036854775807 ∧ FlAt w b off len x) (hD : DirsAt w) :
    Calls Tryd.prog 3 #[fldV X Y W H sv, .float .f32 sl] w fun e w' => e = .returned (.bool true) ∧ Below w.heap.size w w' := by
  rcases h with ⟨a, cap, rfl⟩ | ⟨b, off, len, cap, x, rfl, h1, h2, h3⟩
  · refine filLaw_no X Y W H a 0 cap 0 sl _ _ _ w (slE_nil w a cap) rfl ?_ rfl rfl hD
    unfold firstE fldChk
    by_cases q : checkR X Y W H ≠ 0
    · rw [if_pos q, if_neg q]; exact q
    · have q' : checkR X Y W H = 0 := by simpa using q
      obtain ⟨b1, b2, b3, b4, b5, _⟩ := checkR_zero q'
      have p := (mul_side b1 b2 b3 b4).1
      rw [if_neg q, if_pos (show ((0 : Nat) : Int) ≠ W * H by omega), if_neg (by decide)]
      decide
  · by_cases q : firstE (fldChk X Y W H len (fldE len x)) (wiE sl 0 1149239296) = 0
    · obtain ⟨q1, q2⟩ := firstE_zero q
      unfold fldChk at q1
      by_cases r1 : checkR X Y W H ≠ 0
      · rw [if_pos r1] at q1; exact absurd q1 r1
      · rw [if_neg r1] at q1
        by_cases r2 : (len : Int) ≠ W * H
        · rw [if_pos r2] at q1; cases q1
        · rw [if_neg r2] at q1
          have r1' : checkR X Y W H = 0 := by simpa using r1
          have r2' : (len : Int) = W * H := by simpa using r2
          obtain ⟨b1, b2, b3, b4, b5, _⟩ := checkR_zero r1'
          obtain ⟨W', rfl⟩ : ∃ W' : Nat, W = W' := ⟨W.toNat, by omega⟩
          obtain ⟨H', rfl⟩ : ∃ H' : Nat, H = H' := ⟨H.toNat, by omega⟩
          exact filLaw_ok X Y W' H' len b off cap x sl w r1' (by have : ((W' * H' : Nat) : Int) = W' * H' := by simp
                                                                 omega) h3 (fldE_zero.1 q1) q2 hD
    · exact filLaw_no X Y W H _ len cap (fldE len x) sl _ _ _ w (slE_row h1 h2 h3) rfl q rfl rfl hD
end Go.Proofs.YtacbemilicdklaaDoor

/- Contracts: Same$1, EqualFunc, Same, same. -/
namespace Go.Proofs.YtacbemilicdklaaDoor
open Go.RowKit Fl
set_option linter.unusedVariables false

end Go.Proofs.YtacbemilicdklaaDoor

/- What the two sides answer, told alike: so the law's walk has one way. -/
namespace Go.Proofs.YtacbemilicdklaaDoor
open Go.RowKit Fl
set_option linter.unusedVariables false

/-- A result (the field x y u h s, the error k) of a function that makes f over a region, behind the error er. -/
def Res (lo : Nat) (w : World) (X Y W H : Int) (n : Nat) (f : Nat → Nat) (er : Int) (x y u h : Int) (s : Value) (k : Int) : Prop :=
  (er ≠ 0 ∧ x = 0 ∧ y = 0 ∧ u = 0 ∧ h = 0 ∧ s = .slice none 0 0 ∧ k = er) ∨
  (er = 0 ∧ allB n (fun i => hgtB (f i)) = true ∧ x = X ∧ y = Y ∧ u = W ∧ h = H ∧ (∃ b cap, s = .slice (some ⟨b, 0, none⟩) n cap ∧ lo ≤ b ∧ b < w.heap.size ∧ FlAt w b 0 n f) ∧ k = 0) ∨
  (er = 0 ∧ allB n (fun i => hgtB (f i)) = false ∧ x = 0 ∧ y = 0 ∧ u = 0 ∧ h = 0 ∧ s = .slice none 0 0 ∧ k = 3)
theorem Res.stay {lo : Nat} {w w' : World} {X Y W H : Int} {n : Nat} {f : Nat → Nat} {er x y u h : Int} {s : Value} {k : Int} (r : Res lo w X Y W H n f er x y u h s k) (hb : Below w.heap.size w w') : Res lo w' X Y W H n f er x y u h s k := by
  rcases r with r | ⟨r1, r2, r3, r4, r5, r6, ⟨b, cap, r7, r0, r8, r9⟩, r10⟩ | r
  · exact .inl r
  · exact .inr (.inl ⟨r1, r2, r3, r4, r5, r6, ⟨b, cap, r7, r0, Nat.lt_of_lt_of_le r8 hb.size, flAt_congr r9 (hb.block _ r8)⟩, r10⟩)
  · exact .inr (.inr r)
theorem Res.heap {lo : Nat} {w w' : World} {X Y W H : Int} {n : Nat} {f : Nat → Nat} {er x y u h : Int} {s : Value} {k : Int} (r : Res lo w X Y W H n f er x y u h s k) {p : Nat} (hz : w.heap.size ≤ w'.heap.size) (hne : p < lo) (hb : ∀ b, b ≠ p → b < w.heap.size → w'.heap[b]? = w.heap[b]?) : Res lo w' X Y W H n f er x y u h s k := by
  rcases r with r | ⟨r1, r2, r3, r4, r5, r6, ⟨b, cap, r7, r0, r8, r9⟩, r10⟩ | r
  · exact .inl r
  · exact .inr (.inl ⟨r1, r2, r3, r4, r5, r6, ⟨b, cap, r7, r0, Nat.lt_of_lt_of_le r8 hz, flAt_congr r9 (hb _ (by omega) r8)⟩, r10⟩)
  · exact .inr (.inr r)

theorem made_res {w w' : World} {X Y W H : Int} {n : Nat} {f : Nat → Nat} {er : Int} {e : Ending} (h : ScPost w X Y W H n f er e w') :
    ∃ x y u hh : Int, ∃ a : Option Addr, ∃ l cp : Nat, ∃ k : Int, e = .returned (.tuple #[fldV x y u hh (.slice a l cp), .int .i64 k]) ∧ Res w.heap.size w' X Y W H n f er x y u hh (.slice a l cp) k ∧ Below w.heap.size w w' := by
  rcases h with ⟨h1, h2, h3⟩ | ⟨h1, ⟨h2, b, cap, h3, h4, h5, h6, h7⟩ | ⟨h2, h3, h4⟩⟩
  · exact ⟨_, _, _, _, _, _, _, _, h2, .inl ⟨h1, rfl, rfl, rfl, rfl, rfl, rfl⟩, h3⟩
  · exact ⟨_, _, _, _, _, _, _, _, h3, .inr (.inl ⟨h1, h2, rfl, rfl, rfl, rfl, ⟨b, cap, rfl, h4, h5, h6⟩, rfl⟩), h7⟩
  · exact ⟨_, _, _, _, _, _, _, _, h3, .inr (.inr ⟨h1, h2, rfl, rfl, rfl, rfl, rfl, rfl⟩), h4⟩

theorem set5_self {wr : World} {b : Nat} {a1 a2 a3 a4 a5 : Value} {t : TypeId} (u1 u2 u3 u4 u5 : Value) (h : wr.heap[b]? = some (.cells #[a1, a2, a3, a4, a5] t (0, 0))) :
    (set5 wr b u1 u2 u3 u4 u5).heap[b]? = some (.cells #[u1, u2, u3, u4, u5] t (0, 0)) := by
  have h1 := heap_setCell_same wr b 0 _ _ u1 h
  have h2 := heap_setCell_same _ b 1 _ _ u2 h1
  have h3 := heap_setCell_same _ b 2 _ _ u3 h2
  have h4 := heap_setCell_same _ b 3 _ _ u4 h3
  have h5 := heap_setCell_same _ b 4 _ _ u5 h4
  exact h5
/-- A field stored into a block of its own: what stands elsewhere stays. -/
theorem box_old (wr : World) (o : Obj) (u1 u2 u3 u4 u5 : Value) {k : Nat} (h : k < wr.heap.size) : (set5 (wr.alloc o) wr.heap.size u1 u2 u3 u4 u5).heap[k]? = wr.heap[k]? := by
  rw [set5_heap _ _ _ _ _ _ _ _ (by omega), heap_alloc_old _ _ h]
theorem box_below (wr : World) (o : Obj) (u1 u2 u3 u4 u5 : Value) : Below wr.heap.size wr (set5 (wr.alloc o) wr.heap.size u1 u2 u3 u4 u5) :=
  set5_below ((Below.refl _ _).alloc (Nat.le_refl _) o) _ _ _ _ _ _ (Nat.le_refl _)

/-- What a fit field is, its singles by a function. -/
theorem fit_fn {w : World} {b n : Nat} (h : FitRow w b n n) : ∃ v : Nat → Nat, FlAt w b 0 n v ∧ wf32 n v ∧ allB n (fun i => hgtB (v i)) = true ∧ b < w.heap.size := by
  obtain ⟨cs, h1, h2, h3⟩ := h
  refine ⟨fun j => if hj : j < n then (h3 j hj).choose else 0, fun i hi => ?_, fun i hi => ?_, allB_iff.2 fun i hi => ?_, (blkC h1).2.2⟩
  · rw [Nat.zero_add, (blkC h1).1 i]; simp only [dif_pos hi]; exact (h3 i hi).choose_spec.1
  · simp only [dif_pos hi]; exact (h3 i hi).choose_spec.2.1
  · simp only [dif_pos hi]; exact (h3 i hi).choose_spec.2.2 hi
theorem fit_check {X Y : Int} {W H n : Nat} (x1 : -5000 ≤ X) (x2 : X ≤ 5000) (y1 : -5000 ≤ Y) (y2 : Y ≤ 5000) (w1 : (1 : Int) ≤ W) (w2 : (W : Int) ≤ 16) (h1 : (1 : Int) ≤ H) (h2 : (H : Int) ≤ 16) (hn : (n : Int) = W * H) (hn2 : n ≤ 256) : checkR X Y W H = 0 := by
  unfold checkR
  rw [if_neg (by omega), if_neg (by rw [← hn]; omega), if_neg (by omega)]

end Go.Proofs.YtacbemilicdklaaDoor

/- Contracts: the law's bits, result; Wet where it is an error. -/
namespace Go.Proofs.YtacbemilicdklaaDoor
open Go.RowKit Fl Go.Shelf
set_option linter.unusedVariables false

theorem enters_bits1 : Enters 92 := by intro args W; simp [callFunc, Tryd.func92, Tryd.f92]

set_option maxHeartbeats 400000 in
theorem bits1_self (x : Nat) (w : World) :
    Calls Tryd.prog 92 #[.float .f32 x, .float .f32 x] w fun e w' => e = .returned (.bool true) ∧ w = w' := by
  have h1 := f32bits
  go_enter Tryd.func92, Tryd.ntmps92
  go_wp2
  go_ret
  exact ⟨rfl, rfl⟩

set_option maxHeartbeats 1000000 in
theorem equalFuncB_row (b b' cap cap' n : Nat) (v : Nat → Nat) (hl : n ≤ 9223372036854775807) (w : World) (hc : FlAt w b 0 n v) (hc' : FlAt w b' 0 n v) :
    Calls Tryd.prog 91 #[.slice (some ⟨b, 0, none⟩) n cap, .slice (some ⟨b', 0, none⟩) n cap', .func (.func 92) #[] #[]] w fun e w' => e = .returned (.bool true) ∧ w = w' := by
  have hcall := enters_bits1
  unfold Enters at hcall
  go_enter Tryd.func91, Tryd.ntmps91
  go_wp2
  go_loop [17] (fun i => ∃ k : Nat, k ≤ n ∧ i = .int .i64 k) (fun i => n - (intOf i).toNat)
  case atStart => exact ⟨0, Nat.zero_le _, rfl⟩
  case round =>
    obtain ⟨k, hk, rfl⟩ := hrel
    by_cases hlt : k < n
    · have hcell := hc k hlt
      have hcell' := hc' k hlt
      rw [Nat.zero_add] at hcell hcell'
      have IH := Lib.hid (fun w => bits1_self (v k) w)
      go_wp2_with fail
      refine (IH.out _).mono ?_
      rintro e w' ⟨rfl, rfl⟩
      go_wp2
      go_round
      case rel => exact ⟨k + 1, by omega, by go_num⟩
      case measure => simp [intOf]; omega
    · go_wp2
      go_ret
      exact ⟨rfl, rfl⟩

set_option maxHeartbeats 1000000 in
theorem bits_any (b b' cap cap' n : Nat) (v : Nat → Nat) (hl : n ≤ 9223372036854775807) (w : World) (hc : FlAt w b 0 n v) (hc' : FlAt w b' 0 n v) :
    Calls Tryd.prog 42 #[.slice (some ⟨b, 0, none⟩) n cap, .slice (some ⟨b', 0, none⟩) n cap'] w fun e w' => e = .returned (.bool true) ∧ w = w' := by
  have EF := Lib.hid (equalFuncB_row b b' cap cap' n v hl w hc hc')
  clear hc hc'
  go_enter Tryd.func42, Tryd.ntmps42
  go_wp2_with (go_at_call 91; refine EF.out.mono ?_; rintro e w' ⟨rfl, rfl⟩)
  go_ret
  exact ⟨rfl, rfl⟩

/-- Finite numbers: heights, or out of range. -/
theorem fin_fld {n : Nat} {c : Nat → Nat} (hf : ∀ i, i < n → finB (c i) = true) : fldE n c = if allB n (fun i => hgtB (c i)) = true then 0 else 3 := by
  unfold fldE hgtE
  rw [if_pos (allB_iff.2 hf)]

set_option maxHeartbeats 1000000 in
theorem result_any {lo : Nat} {w : World} {X Y W H : Int} {n : Nat} {f : Nat → Nat} {x y u hh : Int} {s : Value} {k : Int} (vb cap : Nat) (hn1 : 1 ≤ n) (hl : n ≤ 9223372036854775807) (r : Res lo w X Y W H n f 0 x y u hh s k) (hv : FlAt w vb 0 n f) (hf : ∀ i, i < n → finB (f i) = true) :
    Calls Tryd.prog 51 #[fldV x y u hh s, .int .i64 k, reg X Y W H, .slice (some ⟨vb, 0, none⟩) n cap] w fun e w' => e = .returned (.bool true) ∧ Below w.heap.size w w' := by
  have zv : vb < w.heap.size := World.block_lt_of_cell? w _ (hv 0 hn1)
  have NV := Lib.hid (fun W' (hB : Below w.heap.size w W') => qNumberError_row vb 0 cap n f (by omega) W' (flAt_congr hv (hB.block _ zv)))
  rw [fin_fld hf] at NV
  rcases r with ⟨a1, _⟩ | ⟨a1, a2, rfl, rfl, rfl, rfl, ⟨b, gcap, rfl, _, zb, c⟩, rfl⟩ | ⟨a1, a2, rfl, rfl, rfl, rfl, rfl, rfl⟩
  · exact absurd rfl a1
  · rw [if_pos a2] at NV
    have BI := Lib.hid (fun W' (hB : Below w.heap.size w W') => bits_any b vb gcap cap n f hl W' (flAt_congr c (hB.block _ zb)) (flAt_congr hv (hB.block _ zv)))
    clear hv hf c a2 a1 hn1
    go_enter Tryd.func51, Tryd.ntmps51
    go_wp2_with (first | (go_at_call 18; refine (NV.out _ (by repeat (first | exact Below.refl _ _ | refine Below.alloc ?_ (by first | omega | (simp; done) | (simp; omega)) _ | refine Below.setCell ?_ (by first | omega | (simp; done) | (simp; omega)) _ | refine Below.drew ?_))).mono ?_; rintro e w' ⟨rfl, rfl⟩) | (go_at_call 42; refine (BI.out _ (by repeat (first | exact Below.refl _ _ | refine Below.alloc ?_ (by first | omega | (simp; done) | (simp; omega)) _ | refine Below.setCell ?_ (by first | omega | (simp; done) | (simp; omega)) _ | refine Below.drew ?_))).mono ?_; rintro e w' ⟨rfl, rfl⟩))
    go_ret
    exact ⟨rfl, (by repeat (first | exact Below.refl _ _ | refine Below.alloc ?_ (by first | omega | (simp; done) | (simp; omega)) _ | refine Below.setCell ?_ (by first | omega | (simp; done) | (simp; omega)) _ | refine Below.drew ?_))⟩
  · rw [a2, if_neg (by simp)] at NV
    have EM := Lib.hid (fun w => empty_no w)
    clear hv hf a2 a1 hn1
    go_enter Tryd.func51, Tryd.ntmps51
    go_wp2_with (first | (go_at_call 18; refine (NV.out _ (by repeat (first | exact Below.refl _ _ | refine Below.alloc ?_ (by first | omega | (simp; done) | (simp; omega)) _ | refine Below.setCell ?_ (by first | omega | (simp; done) | (simp; omega)) _ | refine Below.drew ?_))).mono ?_; rintro e w' ⟨rfl, rfl⟩) | (go_at_call 21; refine (EM.out _).mono ?_; rintro e w7 ⟨rfl, hb7⟩; have HB7 : Below w.heap.size w w7 := Below.trans (by repeat (first | exact Below.refl _ _ | refine Below.alloc ?_ (by first | omega | (simp; done) | (simp; omega)) _ | refine Below.setCell ?_ (by first | omega | (simp; done) | (simp; omega)) _ | refine Below.drew ?_)) (Below.mono hb7 (by simp; try omega)); clear hb7))
    go_ret
    exact ⟨rfl, HB7⟩

set_option maxHeartbeats 1000000 in
theorem wet_no (X Y W H : Int) (a : Option Addr) (n cap : Nat) (er : Int) (a2 : Option Addr) (n2 cap2 : Nat) (c : Nat → Int) (re : Int) (w : World) (hE : SlE w a n cap er) (hL : LsAt w a2 n2 c) (hl2 : n2 ≤ 9223372036854775807)
    (he : firstE (fldChk X Y W H n er) (lstE n n2 c 1099511627776) = re) (hz : re ≠ 0) :
    Calls Tryd.prog 54 #[fldV X Y W H (.slice a n cap), .slice a2 n2 cap2] w fun e w' => e = .returned (.tuple #[fldV 0 0 0 0 (.slice none 0 0), .int .i64 re]) ∧ Below w.heap.size w w' := by
  have CK := Lib.hid (fun W' (hB : Below w.heap.size w W') => checkA_any X Y W H a n cap er W' (hE.stay hB).1)
  by_cases h1 : fldChk X Y W H n er = 0
  · have q1 := h1
    unfold fldChk at q1
    have r1 : checkR X Y W H = 0 := by
      by_cases q : checkR X Y W H ≠ 0
      · rw [if_pos q] at q1; exact absurd q1 q
      · simpa using q
    rw [if_neg (by rw [r1]; simp)] at q1
    have r2 : (n : Int) = W * H := by
      by_cases q : (n : Int) ≠ W * H
      · rw [if_pos q] at q1; cases q1
      · simpa using q
    obtain ⟨b1, b2, b3, b4, b5, _⟩ := checkR_zero r1
    obtain ⟨W', rfl⟩ : ∃ W' : Nat, W = W' := ⟨W.toNat, by omega⟩
    obtain ⟨H', rfl⟩ : ∃ H' : Nat, H = H' := ⟨H.toNat, by omega⟩
    have hnm : n = W' * H' := by have : ((W' * H' : Nat) : Int) = W' * H' := by simp
                                 omega
    have CL := Lib.hid (fun W'' (hB : Below w.heap.size w W'') => checkList_any X Y W' H' n n2 cap2 a2 c 1099511627776 W'' hnm (by omega) (hL.stay hB) hl2)
    rw [h1] at CK he
    have he2 : lstE n n2 c 1099511627776 = re := he
    rw [he2] at CL
    have h2 : (re != 0) = true := by simpa using hz
    clear hz hE hL he he2 h1 q1 r1 r2 b1 b2 b3 b4 b5 hnm hl2
    go_enter Tryd.func54, Tryd.ntmps54
    go_wp2_with (first | (go_at_call 66; refine (CK.out _ (by repeat (first | exact Below.refl _ _ | refine Below.alloc ?_ (by first | omega | (simp; done) | (simp; omega)) _ | refine Below.setCell ?_ (by first | omega | (simp; done) | (simp; omega)) _ | refine Below.drew ?_))).mono ?_; rintro e w2 ⟨rfl, hb2⟩; have HF2 := Lib.hid (blkStay (b := w.heap.size) (o := fldO X Y W' H' (.slice a n cap)) (by (first | (rw [heap_alloc_get, if_pos rfl]; done) | ((simp only [heap_alloc_get, heap_size_alloc, if_true]) <;> ((repeat' split) <;> first | rfl | omega)))) hb2); have HA2 := Lib.hid (blkStay (b := w.heap.size + 1) (o := .cells #[.slice a2 n2 cap2] 40) (by (first | (rw [heap_alloc_get, if_pos rfl]; done) | ((simp only [heap_alloc_get, heap_size_alloc, if_true]) <;> ((repeat' split) <;> first | rfl | omega)))) hb2); have HL2 := Lib.hid (blkStay (b := w.heap.size + 1 + 1) (o := fldO 0 0 0 0 (.slice none 0 0)) (by (first | (rw [heap_alloc_get, if_pos rfl]; done) | ((simp only [heap_alloc_get, heap_size_alloc, if_true]) <;> ((repeat' split) <;> first | rfl | omega)))) hb2); have hB2 : Below w.heap.size w w2 := Below.trans (by repeat (first | exact Below.refl _ _ | refine Below.alloc ?_ (by first | omega | (simp; done) | (simp; omega)) _ | refine Below.setCell ?_ (by first | omega | (simp; done) | (simp; omega)) _ | refine Below.drew ?_)) (Below.mono hb2 (by first | omega | (simp; done) | (simp; omega))); obtain ⟨cF, fF, zF⟩ := blkC HF2.out; obtain ⟨cA, fA, zA⟩ := blkC HA2.out; clear hb2) | (go_at_call 80; refine (CL.out _ hB2).mono ?_; rintro e w3 ⟨rfl, hb3⟩; clear cF fF zF cA fA zA; obtain ⟨cR, fR, zR⟩ := blkC (blkStay HL2.out hb3); have hB3 := hB2.trans (hb3.mono hB2.size); clear hb3))
    refine bodyPost_ret (v := .tuple #[fldV 0 0 0 0 (.slice none 0 0), .int .i64 re]) (by simp [results, Tryd.results54, go_sem, cR]) rfl ?_
    exact ⟨rfl, by repeat (first | exact hB3 | refine Below.setCell ?_ (by first | omega | (simp; done) | (simp; omega)) _)⟩
  · unfold firstE at he
    rw [if_neg h1] at he
    rw [he] at CK
    have h2 : (re != 0) = true := by simpa using hz
    clear hz hE hL he h1 hl2
    go_enter Tryd.func54, Tryd.ntmps54
    go_wp2_with (first | (go_at_call 66; refine (CK.out _ (by repeat (first | exact Below.refl _ _ | refine Below.alloc ?_ (by first | omega | (simp; done) | (simp; omega)) _ | refine Below.setCell ?_ (by first | omega | (simp; done) | (simp; omega)) _ | refine Below.drew ?_))).mono ?_; rintro e w2 ⟨rfl, hb2⟩; obtain ⟨cR, fR, zR⟩ := blkC (blkStay (b := w.heap.size + 1 + 1) (o := fldO 0 0 0 0 (.slice none 0 0)) (by (first | (rw [heap_alloc_get, if_pos rfl]; done) | ((simp only [heap_alloc_get, heap_size_alloc, if_true]) <;> ((repeat' split) <;> first | rfl | omega)))) hb2); have hB2 : Below w.heap.size w w2 := Below.trans (by repeat (first | exact Below.refl _ _ | refine Below.alloc ?_ (by first | omega | (simp; done) | (simp; omega)) _ | refine Below.setCell ?_ (by first | omega | (simp; done) | (simp; omega)) _ | refine Below.drew ?_)) (Below.mono hb2 (by first | omega | (simp; done) | (simp; omega))); clear hb2))
    refine bodyPost_ret (v := .tuple #[fldV 0 0 0 0 (.slice none 0 0), .int .i64 re]) (by simp [results, Tryd.results54, go_sem, cR]) rfl ?_
    exact ⟨rfl, by repeat (first | exact hB2 | refine Below.setCell ?_ (by first | omega | (simp; done) | (simp; omega)) _)⟩
end Go.Proofs.YtacbemilicdklaaDoor

/- Contracts: the reference's Long, Drop, SteepOf. -/
namespace Go.Proofs.YtacbemilicdklaaDoor
open Go.RowKit Fl Go.Shelf
set_option linter.unusedVariables false

/-- A block of whole numbers, of whatever sign. -/
def IntZAt (w : World) (b n : Nat) (c : Nat → Int) : Prop := ∃ cs : Array Value, w.heap[b]? = some (.cells cs 3 (0, 0)) ∧ cs.size = n ∧ ∀ i, i < n → cs[i]? = some (.int .i64 (c i))
def updZ (s : Nat → Int) (k : Nat) (x : Int) : Nat → Int := fun i => if i = k then x else s i
theorem updZ_same (s : Nat → Int) (k : Nat) (x : Int) : updZ s k x k = x := by unfold updZ; rw [if_pos rfl]
theorem updZ_other (s : Nat → Int) {i k : Nat} {x : Int} (h : i ≠ k) : updZ s k x i = s i := by unfold updZ; rw [if_neg h]
theorem IntZAt.congr {w w' : World} {b n : Nat} {c : Nat → Int} (h : IntZAt w b n c) (e : w'.heap[b]? = w.heap[b]?) : IntZAt w' b n c := by
  obtain ⟨cs, h1, h2⟩ := h
  exact ⟨cs, e.trans h1, h2⟩
theorem IntZAt.cell {w : World} {b n : Nat} {c : Nat → Int} (h : IntZAt w b n c) {i : Nat} (hi : i < n) : w.cell? ⟨b, i, none⟩ = some (.int .i64 (c i)) ∧ w.frozen? ⟨b, i, none⟩ = false ∧ b < w.heap.size := by
  obtain ⟨cs, h1, h2, h3⟩ := h
  obtain ⟨c, f, z⟩ := blkC h1
  exact ⟨(c i).trans (h3 i hi), f i, z⟩
theorem IntZAt.put {w : World} {b n : Nat} {c : Nat → Int} (h : IntZAt w b n c) {k : Nat} (x : Int) (hk : k < n) : IntZAt (w.setCell ⟨b, k, none⟩ (.int .i64 x)) b n (updZ c k x) := by
  obtain ⟨cs, h1, h2, h3⟩ := h
  refine ⟨_, heap_setCell_same w b k _ _ _ h1, by simpa using h2, fun i hi => ?_⟩
  rw [Array.getElem?_setIfInBounds]
  by_cases e : k = i
  · subst e; rw [if_pos rfl, if_pos (by omega), updZ_same]
  · rw [if_neg e, updZ_other c (by omega)]; exact h3 i hi
theorem IntZAt.lt {w : World} {b n : Nat} {c : Nat → Int} (h : IntZAt w b n c) : b < w.heap.size := by
  obtain ⟨cs, h1, _⟩ := h
  exact (blkC h1).2.2
theorem IntZAt.as {w : World} {b n : Nat} {c c' : Nat → Int} (h : IntZAt w b n c) (e : ∀ i, i < n → c i = c' i) : IntZAt w b n c' := by
  obtain ⟨cs, h1, h2, h3⟩ := h
  exact ⟨cs, h1, h2, fun i hi => by rw [← e i hi]; exact h3 i hi⟩
theorem SingAt.as {w : World} {b n : Nat} {c c' : Nat → Nat} (h : SingAt w b n c) (e : ∀ i, i < n → c i = c' i) : SingAt w b n c' := by
  obtain ⟨cs, h1, h2, h3⟩ := h
  exact ⟨cs, h1, h2, fun i hi => by rw [← e i hi]; exact h3 i hi⟩

theorem root_two : rootW 1073741824 = 1068827891 := by kernel_rfl

set_option maxHeartbeats 1000000 in
theorem qLong_any (d : Nat) (hd : d < 8) (w : World) : Calls Tryd.prog 90 #[.int .i64 d] w fun e w' => e = .returned (.float .f32 (dirW d)) ∧ w = w' := by
  have b2 : Bd 1 1073741824 := by
    obtain ⟨j, hj⟩ : ∃ j : Nat, j = 1074 := ⟨_, rfl⟩
    exact bd_val' (j := 1 + j) vS_two (by omega) (by rw [Nat.pow_add, ← one_pow hj]; omega)
  obtain ⟨X, Z, c, R⟩ := root_parts vS_two (by have := Int.natCast_nonneg one; omega) b2 (by omega)
  have RO := Lib.hid (fun w => qRoot_any R w)
  rw [root_two] at RO
  clear R b2
  have : d = 0 ∨ d = 1 ∨ d = 2 ∨ d = 3 ∨ d = 4 ∨ d = 5 ∨ d = 6 ∨ d = 7 := by omega
  rcases this with rfl | rfl | rfl | rfl | rfl | rfl | rfl | rfl
  all_goals
    clear hd
    go_enter Tryd.func90, Tryd.ntmps90
    go_wp2_with (go_at_call 55; refine (RO.out _).mono ?_; rintro e w' ⟨rfl, rfl⟩)
    go_ret
    exact ⟨rfl, rfl⟩

/-- What Drop answers. -/
def DropPost (W H k d : Nat) (v : Nat → Nat) (w : World) (e : Ending) (w' : World) : Prop :=
  Below w.heap.size w w' ∧ ((nbI W H k d = none ∧ e = .returned (.tuple #[.float .f32 0, .bool false])) ∨ ∃ m, nbI W H k d = some m ∧ e = .returned (.tuple #[.float .f32 (dropW (v k) (v m) d), .bool true]))

set_option maxHeartbeats 2000000 in
theorem qDrop_any (X Y : Int) (W H n b off cap k d : Nat) (v : Nat → Nat) (w : World) (h0 : checkR X Y W H = 0) (hn : n = W * H) (hc : FlAt w b off n v) (hh : allB n (fun i => hgtB (v i)) = true) (hk : k < n) (hd : d < 8) :
    Calls Tryd.prog 75 #[reg X Y W H, .slice (some ⟨b, off, none⟩) n cap, .int .i64 k, .int .i64 d] w (DropPost W H k d v w) := by
  obtain ⟨b1, b2, b3, b4, b5, b6, b7, b8, b9⟩ := checkR_zero h0
  have hn2 : n ≤ 65536 := by
    have : ((W : Int) * (H : Int)) = (n : Int) := by rw [hn]; simp
    omega
  have zb : b < w.heap.size := World.block_lt_of_cell? w _ (hc 0 (by omega))
  have NB := Lib.hid (fun w => qNeighbour_any X Y W H k d w (by omega) (by omega) (by omega) (by omega) (by omega) (by omega) (by omega) (by omega) (by omega) hd)
  have LO := Lib.hid (fun w => qLong_any d hd w)
  have HC := Lib.hid (fun W' (hB : Below w.heap.size w W') => flAt_congr hc (hB.block _ zb))
  unfold DropPost
  cases hnb : nbI W H k d with
  | none =>
    rw [nbZ_none hnb] at NB
    clear hnb h0 hn hc hh hk hd b1 b2 b3 b4 b5 b6 b7 b8 b9 hn2 zb
    go_enter Tryd.func75, Tryd.ntmps75
    go_wp2_with (go_at_call 72; refine (NB.out _).mono ?_; rintro e w2 ⟨rfl, hb2⟩; have hB2 : Below w.heap.size w w2 := Below.trans (by repeat (first | exact Below.refl _ _ | refine Below.alloc ?_ (by first | omega | (simp; done) | (simp; omega)) _ | refine Below.setCell ?_ (by first | omega | (simp; done) | (simp; omega)) _ | refine Below.drew ?_)) (Below.mono hb2 (by first | omega | (simp; done) | (simp; omega))); clear hb2)
    go_ret2
    exact ⟨hB2, .inl ⟨trivial, rfl⟩⟩
  | some m =>
    have hm : m < n := by rw [hn]; exact nbI_lt hnb
    rw [nbZ_some hnb] at NB
    obtain ⟨s, q, D⟩ := drop_parts d (allB_iff.1 hh k hk) (allB_iff.1 hh m hm)
    have a1 := fun (W : World) => run_float_arith (P := Tryd.prog) W .sub 27 .f32 (v k) (v m) s D.s1
    have a2 := fun (W : World) => run_float_arith (P := Tryd.prog) W .quo 27 .f32 s (dirW d) q D.q1
    have EW := Lib.hid D.w
    have CE := Lib.hid (fun W' (hB : Below w.heap.size w W') => And.intro (HC.out W' hB k hk) (HC.out W' hB m hm))
    have k1 : (k : Int) < (n : Int) := by omega
    have m1 : (m : Int) < (n : Int) := by omega
    have k0 : (0 : Int) ≤ (k : Int) := by omega
    have m0 : (0 : Int) ≤ (m : Int) := by omega
    have m2 : ¬ ((m : Int) < 0) := by omega
    clear hnb h0 hn hc hh hk hd b1 b2 b3 b4 b5 b6 b7 b8 b9 hn2 zb D hm
    go_enter Tryd.func75, Tryd.ntmps75
    go_wp2_with (go_at_call 72; refine (NB.out _).mono ?_; rintro e w2 ⟨rfl, hb2⟩; have hB2 : Below w.heap.size w w2 := Below.trans (by repeat (first | exact Below.refl _ _ | refine Below.alloc ?_ (by first | omega | (simp; done) | (simp; omega)) _ | refine Below.setCell ?_ (by first | omega | (simp; done) | (simp; omega)) _ | refine Below.drew ?_)) (Below.mono hb2 (by first | omega | (simp; done) | (simp; omega))); obtain ⟨c1, c2⟩ := CE.out w2 hB2; have z1 := World.block_lt_of_cell? w2 _ c1; clear hb2)
    go_quiet ((go_at_call 90; exact Calls.quiet_of_same ((LO.out _).mono fun _ _ h => ⟨h.1, h.2.symm⟩)))
    go_wp2
    go_ret2
    exact ⟨hB2.trans ((below_drewN _ _).mono hB2.size), .inr ⟨m, rfl, by rw [EW.out]; rfl⟩⟩
end Go.Proofs.YtacbemilicdklaaDoor

/- Contract: the reference's SteepOf. -/
namespace Go.Proofs.YtacbemilicdklaaDoor
open Go.RowKit Fl Go.Shelf
set_option linter.unusedVariables false

/-- What SteepOf holds: the region's box, the directions, the drops. -/
structure SOAt (w0 w : World) (X Y W H : Int) (n lb db : Nat) (l : Nat → Int) (dr : Nat → Nat) : Prop where
  reg : w.heap[w0.heap.size]? = some (regObj X Y W H)
  ls : IntZAt w lb n l
  ds : SingAt w db n dr
  bel : Below w0.heap.size w0 w
  nl : w0.heap.size < lb
  nd : w0.heap.size < db
  ne : lb ≠ db
theorem SOAt.below {w0 w w' : World} {X Y W H : Int} {n lb db : Nat} {l : Nat → Int} {dr : Nat → Nat} (h : SOAt w0 w X Y W H n lb db l dr) (hB : Below w.heap.size w w') : SOAt w0 w' X Y W H n lb db l dr :=
  ⟨blkStay h.reg hB, h.ls.congr (hB.block _ h.ls.lt), h.ds.congr (hB.block _ h.ds.lt), h.bel.trans (hB.mono h.bel.size), h.nl, h.nd, h.ne⟩
theorem SOAt.putL {w0 w : World} {X Y W H : Int} {n lb db k : Nat} {l : Nat → Int} {dr : Nat → Nat} (h : SOAt w0 w X Y W H n lb db l dr) (x : Int) (hk : k < n) : SOAt w0 (w.setCell ⟨lb, k, none⟩ (.int .i64 x)) X Y W H n lb db (updZ l k x) dr := by
  have o : ∀ j, j ≠ lb → (w.setCell ⟨lb, k, none⟩ (.int .i64 x)).heap[j]? = w.heap[j]? := fun j hj => heap_setCell_other _ _ j _ hj
  have := h.nl
  exact ⟨(o _ (by omega)).trans h.reg, h.ls.put x hk, h.ds.congr (o _ (Ne.symm h.ne)), h.bel.setCell (by show w0.heap.size ≤ lb; omega) _, h.nl, h.nd, h.ne⟩
theorem SOAt.putD {w0 w : World} {X Y W H : Int} {n lb db k : Nat} {l : Nat → Int} {dr : Nat → Nat} (h : SOAt w0 w X Y W H n lb db l dr) (x : Nat) (hk : k < n) : SOAt w0 (w.setCell ⟨db, k, none⟩ (.float .f32 x)) X Y W H n lb db l (updW dr k x) := by
  have o : ∀ j, j ≠ db → (w.setCell ⟨db, k, none⟩ (.float .f32 x)).heap[j]? = w.heap[j]? := fun j hj => heap_setCell_other _ _ j _ hj
  have := h.nd
  exact ⟨(o _ (by omega)).trans h.reg, h.ls.congr (o _ h.ne), h.ds.put x hk, h.bel.setCell (by show w0.heap.size ≤ db; omega) _, h.nl, h.nd, h.ne⟩

theorem SOAt.drew {w0 w : World} {X Y W H : Int} {n lb db : Nat} {l : Nat → Int} {dr : Nat → Nat} (h : SOAt w0 w X Y W H n lb db l dr) : SOAt w0 w.drew X Y W H n lb db l dr := ⟨h.reg, h.ls, h.ds, h.bel.drew, h.nl, h.nd, h.ne⟩

/-- The cells below k are done. -/
def SODone (W H : Nat) (v : Nat → Nat) (n k : Nat) (l : Nat → Int) (dr : Nat → Nat) : Prop := (∀ i, i < k → l i = (stp v i (nbrs W H i 8)).1 ∧ dr i = (stp v i (nbrs W H i 8)).2) ∧ ∀ i, k ≤ i → i < n → dr i = 0
/-- Of the cell k the directions below d are done. -/
def SODir (W H : Nat) (v : Nat → Nat) (n k d : Nat) (l : Nat → Int) (dr : Nat → Nat) : Prop := (∀ i, i < k → l i = (stp v i (nbrs W H i 8)).1 ∧ dr i = (stp v i (nbrs W H i 8)).2) ∧ (∀ i, k < i → i < n → dr i = 0) ∧ l k = (stp v k (nbrs W H k d)).1 ∧ dr k = (stp v k (nbrs W H k d)).2
theorem SODone.enter {W H : Nat} {v : Nat → Nat} {n k : Nat} {l : Nat → Int} {dr : Nat → Nat} (h : SODone W H v n k l dr) (hk : k < n) : SODir W H v n k 0 (updZ l k (-1)) dr :=
  ⟨fun i hi => by rw [updZ_other l (by omega)]; exact h.1 i hi, fun i hi hn => h.2 i (by omega) hn, by rw [updZ_same]; rfl, h.2 k (Nat.le_refl _) hk⟩
theorem SODir.leave {W H : Nat} {v : Nat → Nat} {n k : Nat} {l : Nat → Int} {dr : Nat → Nat} (h : SODir W H v n k 8 l dr) : SODone W H v n (k + 1) l dr :=
  ⟨fun i hi => by rcases Nat.lt_or_ge i k with c | c; exact h.1 i c; rw [show i = k by omega]; exact h.2.2, fun i hi hn => h.2.1 i (by omega) hn⟩
theorem SODir.skip {W H : Nat} {v : Nat → Nat} {n k d : Nat} {l : Nat → Int} {dr : Nat → Nat} (h : SODir W H v n k d l dr) (hs : stp v k (nbrs W H k (d + 1)) = stp v k (nbrs W H k d)) : SODir W H v n k (d + 1) l dr :=
  ⟨h.1, h.2.1, by rw [hs]; exact h.2.2.1, by rw [hs]; exact h.2.2.2⟩
theorem SODir.take {W H : Nat} {v : Nat → Nat} {n k d x : Nat} {l : Nat → Int} {dr : Nat → Nat} (h : SODir W H v n k d l dr) (hs : stp v k (nbrs W H k (d + 1)) = ((d : Int), x)) : SODir W H v n k (d + 1) (updZ l k (d : Int)) (updW dr k x) :=
  ⟨fun i hi => by rw [updZ_other l (by omega), updW_other dr (by omega)]; exact h.1 i hi, fun i hi hn => by rw [updW_other dr (by omega)]; exact h.2.1 i hi hn, by rw [hs, updZ_same], by rw [hs, updW_same]⟩

/-- What SteepOf answers. -/
def SteepPost (W H n : Nat) (v : Nat → Nat) (w : World) (e : Ending) (w' : World) : Prop :=
  ∃ lb db, e = .returned (.tuple #[.slice (some ⟨lb, 0, none⟩) n n, .slice (some ⟨db, 0, none⟩) n n]) ∧ w.heap.size ≤ lb ∧ w.heap.size ≤ db ∧ IntZAt w' lb n (fun i => (stp v i (nbrs W H i 8)).1) ∧ SingAt w' db n (fun i => (stp v i (nbrs W H i 8)).2) ∧ Below w.heap.size w w'

set_option maxRecDepth 100000 in
set_option maxHeartbeats 4000000 in
theorem steepOf_any (X Y : Int) (W H n b off cap : Nat) (v : Nat → Nat) (w : World) (h0 : checkR X Y W H = 0) (hn : n = W * H) (hc : FlAt w b off n v) (hh : allB n (fun i => hgtB (v i)) = true) :
    Calls Tryd.prog 27 #[reg X Y W H, .slice (some ⟨b, off, none⟩) n cap] w (SteepPost W H n v w) := by
  obtain ⟨b1, b2, b3, b4, b5, b6, b7, b8, b9⟩ := checkR_zero h0
  have hn2 : n ≤ 65536 := by
    have : ((W : Int) * (H : Int)) = (n : Int) := by rw [hn]; simp
    omega
  have hn1 : 1 ≤ n := by rw [hn]; exact Nat.mul_pos (by omega) (by omega)
  have zb : b < w.heap.size := World.block_lt_of_cell? w _ (hc 0 (by omega))
  have DR := Lib.hid (fun W' (hB : Below w.heap.size w W') k (hk : k < n) d (hd : d < 8) => qDrop_any X Y W H n b off cap k d v W' h0 hn (flAt_congr hc (hB.block _ zb)) hh hk hd)
  have mk1 := make_f32 n hn2
  have mk2 := make_int n hn2
  have hsf := fun (w : World) (a : Addr) (m : Mode) (k : FloatKind) (b : Nat) => run_store_float (P := Tryd.prog) (w := w) (a := a) (m := m) k b
  clear h0 hn hc hh zb b1 b2 b3 b4 b5 b6 b7 b8 b9
  go_enter Tryd.func27, Tryd.ntmps27
  go_wp2
  go_region
  · have ST := Lib.hid (show SOAt w (((w.alloc (regObj X Y W H)).alloc (.cells (madeCells #[Value.int .i64 0] n) 3)).alloc (.cells (madeCells #[Value.float .f32 0] n) 27)) X Y W H n (w.heap.size + 1) (w.heap.size + 1 + 1) (fun _ => 0) (fun _ => 0) from ⟨by (first | (rw [heap_alloc_get, if_pos rfl]; done) | ((simp only [heap_alloc_get, heap_size_alloc, if_true]) <;> ((repeat' split) <;> first | rfl | omega))), ⟨_, by (first | (rw [heap_alloc_get, if_pos rfl]; done) | ((simp only [heap_alloc_get, heap_size_alloc, if_true]) <;> ((repeat' split) <;> first | rfl | omega))), by simp [madeCells], fun i hi => by simp [madeCells, hi, Nat.mod_one]⟩, ⟨_, by (first | (rw [heap_alloc_get, if_pos rfl]; done) | ((simp only [heap_alloc_get, heap_size_alloc, if_true]) <;> ((repeat' split) <;> first | rfl | omega))), by simp [madeCells], fun i hi => by simp [madeCells, hi, Nat.mod_one]⟩, (by repeat (first | exact Below.refl _ _ | refine Below.alloc ?_ (by first | omega | (simp; done) | (simp; omega)) _ | refine Below.setCell ?_ (by first | omega | (simp; done) | (simp; omega)) _ | refine Below.drew ?_)), by omega, by omega, by omega⟩)
    clear mk1 mk2
    go_wp2
    go_loopw [20] (fun s20 wr => ∃ (k : Nat) (l : Nat → Int) (dr : Nat → Nat), k ≤ n ∧ s20 = .int .i64 k ∧ SOAt w wr X Y W H n (w.heap.size + 1) (w.heap.size + 1 + 1) l dr ∧ SODone W H v n k l dr) (fun s20 _ => n - (intOf s20).toNat)
    case atStart => exact ⟨0, _, _, Nat.zero_le _, rfl, ST.out.drew, fun i hi => by omega, fun _ _ _ => rfl⟩
    case round =>
      obtain ⟨k, l, dr, hk, rfl, hso, hdo⟩ := hrel
      have SO := Lib.hid hso
      have DO := Lib.hid hdo
      clear hso hdo
      by_cases hlt : k < n
      · obtain ⟨c1, f1, z1⟩ := SO.out.ls.cell hlt
        have k1 : (k : Int) < (n : Int) := by omega
        have S1 := Lib.hid (SO.out.putL (-1) hlt)
        have E1 := Lib.hid (DO.out.enter hlt)
        go_wp2
        clear c1 f1 z1
        go_loopw [26] (fun s26 wr => ∃ (d : Nat) (l : Nat → Int) (dr : Nat → Nat), d ≤ 8 ∧ s26 = .int .i64 d ∧ SOAt w wr X Y W H n (w.heap.size + 1) (w.heap.size + 1 + 1) l dr ∧ SODir W H v n k d l dr) (fun s26 _ => 8 - (intOf s26).toNat)
        case atStart => exact ⟨0, _, _, Nat.zero_le _, rfl, S1.out, E1.out⟩
        case round =>
          obtain ⟨d, l2, dr2, hd, rfl, hso, hdi⟩ := hrel
          have SO2 := Lib.hid hso
          have DI := Lib.hid hdi
          obtain ⟨cR, fR, zR⟩ := blkC hso.reg
          clear hso hdi
          by_cases hd8 : d < 8
          · have DK := Lib.hid (fun W' hB => DR.out W' hB k hlt d hd8)
            cases hnb : nbI W H k d with
            | none =>
              have SK := Lib.hid (DI.out.skip (by rw [nbrs_none hnb]))
              have DN := Lib.hid (fun W' hB => show Calls Tryd.prog 75 #[reg X Y W H, .slice (some ⟨b, off, none⟩) n cap, .int .i64 k, .int .i64 d] W' fun e w' => e = .returned (.tuple #[.float .f32 0, .bool false]) ∧ Below W'.heap.size W' w' from (DK.out W' hB).mono fun e w' h => by
                rcases h with ⟨q1, ⟨_, q2⟩ | ⟨m, q2, _⟩⟩
                · exact ⟨q2, q1⟩
                · rw [hnb] at q2; cases q2)
              clear hnb
              go_wp2_with (go_at_call 75; refine (DN.out _ SO2.out.bel).mono ?_; rintro e w6 ⟨rfl, hb6⟩; have S6 := Lib.hid (SO2.out.below hb6); clear hb6 cR fR zR)
              go_roundw
              case rel => exact ⟨d + 1, _, _, by omega, by go_num, S6.out, SK.out⟩
              case measure => simp [intOf]; omega
            | some m =>
              have SE := Lib.hid (show stp v k (nbrs W H k (d + 1)) = stp1 v k (stp v k (nbrs W H k d)) (d, m) by rw [nbrs_some hnb, stp_snoc])
              have DN := Lib.hid (fun W' hB => show Calls Tryd.prog 75 #[reg X Y W H, .slice (some ⟨b, off, none⟩) n cap, .int .i64 k, .int .i64 d] W' fun e w' => e = .returned (.tuple #[.float .f32 (dropW (v k) (v m) d), .bool true]) ∧ Below W'.heap.size W' w' from (DK.out W' hB).mono fun e w' h => by
                rcases h with ⟨q1, ⟨q2, _⟩ | ⟨m', q2, q3⟩⟩
                · rw [hnb] at q2; cases q2
                · rw [hnb] at q2; cases q2; exact ⟨q3, q1⟩)
              clear hnb
              unfold stp1 at SE
              rw [← DI.out.2.2.2] at SE
              dsimp only at SE
              generalize dropW (v k) (v m) d = x at *
              cases hg : (FloatKind.f32.format.order x (dr2 k) == some .gt) with
              | true =>
                rw [hg, if_pos rfl] at SE
                have SK := Lib.hid (DI.out.take SE.out)
                go_wp2_with (go_at_call 75; refine (DN.out _ SO2.out.bel).mono ?_; rintro e w6 ⟨rfl, hb6⟩; have S6 := Lib.hid (SO2.out.below hb6); clear hb6 cR fR zR; obtain ⟨c1, f1, z1⟩ := S6.out.ls.cell hlt; obtain ⟨c2, f2, z2⟩ := S6.out.ds.cell hlt)
                go_roundw
                case rel => exact ⟨d + 1, _, _, by omega, by go_num, (S6.out.putL (d : Int) hlt).putD x hlt, SK.out⟩
                case measure => simp [intOf]; omega
              | false =>
                rw [hg, if_neg (by simp)] at SE
                have SK := Lib.hid (DI.out.skip (by rw [SE.out]))
                go_wp2_with (go_at_call 75; refine (DN.out _ SO2.out.bel).mono ?_; rintro e w6 ⟨rfl, hb6⟩; have S6 := Lib.hid (SO2.out.below hb6); clear hb6 cR fR zR; obtain ⟨c2, f2, z2⟩ := S6.out.ds.cell hlt)
                go_roundw
                case rel => exact ⟨d + 1, _, _, by omega, by go_num, S6.out, SK.out⟩
                case measure => simp [intOf]; omega
          · have hd9 : d = 8 := by omega
            subst hd9
            have SL := Lib.hid DI.out.leave
            clear cR fR zR
            go_wp2
            go_roundw
            case rel => exact ⟨k + 1, _, _, by omega, by go_num, SO2.out, SL.out⟩
            case measure => simp [intOf]; omega
      · have hkn : k = n := by omega
        subst hkn
        go_wp2
        go_ret2
        exact ⟨w.heap.size + 1, w.heap.size + 1 + 1, rfl, by omega, by omega, SO.out.ls.as fun i hi => (DO.out.1 i hi).1, SO.out.ds.as fun i hi => (DO.out.1 i hi).2, SO.out.bel⟩
  · have ST := Lib.hid (show SOAt w (((w.alloc (regObj X Y W H)).alloc (.cells (madeCells #[Value.float .f32 0] n) 27)).alloc (.cells (madeCells #[Value.int .i64 0] n) 3)) X Y W H n (w.heap.size + 1 + 1) (w.heap.size + 1) (fun _ => 0) (fun _ => 0) from ⟨by (first | (rw [heap_alloc_get, if_pos rfl]; done) | ((simp only [heap_alloc_get, heap_size_alloc, if_true]) <;> ((repeat' split) <;> first | rfl | omega))), ⟨_, by (first | (rw [heap_alloc_get, if_pos rfl]; done) | ((simp only [heap_alloc_get, heap_size_alloc, if_true]) <;> ((repeat' split) <;> first | rfl | omega))), by simp [madeCells], fun i hi => by simp [madeCells, hi, Nat.mod_one]⟩, ⟨_, by (first | (rw [heap_alloc_get, if_pos rfl]; done) | ((simp only [heap_alloc_get, heap_size_alloc, if_true]) <;> ((repeat' split) <;> first | rfl | omega))), by simp [madeCells], fun i hi => by simp [madeCells, hi, Nat.mod_one]⟩, (by repeat (first | exact Below.refl _ _ | refine Below.alloc ?_ (by first | omega | (simp; done) | (simp; omega)) _ | refine Below.setCell ?_ (by first | omega | (simp; done) | (simp; omega)) _ | refine Below.drew ?_)), by omega, by omega, by omega⟩)
    clear mk1 mk2
    go_wp2
    go_loopw [20] (fun s20 wr => ∃ (k : Nat) (l : Nat → Int) (dr : Nat → Nat), k ≤ n ∧ s20 = .int .i64 k ∧ SOAt w wr X Y W H n (w.heap.size + 1 + 1) (w.heap.size + 1) l dr ∧ SODone W H v n k l dr) (fun s20 _ => n - (intOf s20).toNat)
    case atStart => exact ⟨0, _, _, Nat.zero_le _, rfl, ST.out.drew, fun i hi => by omega, fun _ _ _ => rfl⟩
    case round =>
      obtain ⟨k, l, dr, hk, rfl, hso, hdo⟩ := hrel
      have SO := Lib.hid hso
      have DO := Lib.hid hdo
      clear hso hdo
      by_cases hlt : k < n
      · obtain ⟨c1, f1, z1⟩ := SO.out.ls.cell hlt
        have k1 : (k : Int) < (n : Int) := by omega
        have S1 := Lib.hid (SO.out.putL (-1) hlt)
        have E1 := Lib.hid (DO.out.enter hlt)
        go_wp2
        clear c1 f1 z1
        go_loopw [26] (fun s26 wr => ∃ (d : Nat) (l : Nat → Int) (dr : Nat → Nat), d ≤ 8 ∧ s26 = .int .i64 d ∧ SOAt w wr X Y W H n (w.heap.size + 1 + 1) (w.heap.size + 1) l dr ∧ SODir W H v n k d l dr) (fun s26 _ => 8 - (intOf s26).toNat)
        case atStart => exact ⟨0, _, _, Nat.zero_le _, rfl, S1.out, E1.out⟩
        case round =>
          obtain ⟨d, l2, dr2, hd, rfl, hso, hdi⟩ := hrel
          have SO2 := Lib.hid hso
          have DI := Lib.hid hdi
          obtain ⟨cR, fR, zR⟩ := blkC hso.reg
          clear hso hdi
          by_cases hd8 : d < 8
          · have DK := Lib.hid (fun W' hB => DR.out W' hB k hlt d hd8)
            cases hnb : nbI W H k d with
            | none =>
              have SK := Lib.hid (DI.out.skip (by rw [nbrs_none hnb]))
              have DN := Lib.hid (fun W' hB => show Calls Tryd.prog 75 #[reg X Y W H, .slice (some ⟨b, off, none⟩) n cap, .int .i64 k, .int .i64 d] W' fun e w' => e = .returned (.tuple #[.float .f32 0, .bool false]) ∧ Below W'.heap.size W' w' from (DK.out W' hB).mono fun e w' h => by
                rcases h with ⟨q1, ⟨_, q2⟩ | ⟨m, q2, _⟩⟩
                · exact ⟨q2, q1⟩
                · rw [hnb] at q2; cases q2)
              clear hnb
              go_wp2_with (go_at_call 75; refine (DN.out _ SO2.out.bel).mono ?_; rintro e w6 ⟨rfl, hb6⟩; have S6 := Lib.hid (SO2.out.below hb6); clear hb6 cR fR zR)
              go_roundw
              case rel => exact ⟨d + 1, _, _, by omega, by go_num, S6.out, SK.out⟩
              case measure => simp [intOf]; omega
            | some m =>
              have SE := Lib.hid (show stp v k (nbrs W H k (d + 1)) = stp1 v k (stp v k (nbrs W H k d)) (d, m) by rw [nbrs_some hnb, stp_snoc])
              have DN := Lib.hid (fun W' hB => show Calls Tryd.prog 75 #[reg X Y W H, .slice (some ⟨b, off, none⟩) n cap, .int .i64 k, .int .i64 d] W' fun e w' => e = .returned (.tuple #[.float .f32 (dropW (v k) (v m) d), .bool true]) ∧ Below W'.heap.size W' w' from (DK.out W' hB).mono fun e w' h => by
                rcases h with ⟨q1, ⟨q2, _⟩ | ⟨m', q2, q3⟩⟩
                · rw [hnb] at q2; cases q2
                · rw [hnb] at q2; cases q2; exact ⟨q3, q1⟩)
              clear hnb
              unfold stp1 at SE
              rw [← DI.out.2.2.2] at SE
              dsimp only at SE
              generalize dropW (v k) (v m) d = x at *
              cases hg : (FloatKind.f32.format.order x (dr2 k) == some .gt) with
              | true =>
                rw [hg, if_pos rfl] at SE
                have SK := Lib.hid (DI.out.take SE.out)
                go_wp2_with (go_at_call 75; refine (DN.out _ SO2.out.bel).mono ?_; rintro e w6 ⟨rfl, hb6⟩; have S6 := Lib.hid (SO2.out.below hb6); clear hb6 cR fR zR; obtain ⟨c1, f1, z1⟩ := S6.out.ls.cell hlt; obtain ⟨c2, f2, z2⟩ := S6.out.ds.cell hlt)
                go_roundw
                case rel => exact ⟨d + 1, _, _, by omega, by go_num, (S6.out.putL (d : Int) hlt).putD x hlt, SK.out⟩
                case measure => simp [intOf]; omega
              | false =>
                rw [hg, if_neg (by simp)] at SE
                have SK := Lib.hid (DI.out.skip (by rw [SE.out]))
                go_wp2_with (go_at_call 75; refine (DN.out _ SO2.out.bel).mono ?_; rintro e w6 ⟨rfl, hb6⟩; have S6 := Lib.hid (SO2.out.below hb6); clear hb6 cR fR zR; obtain ⟨c2, f2, z2⟩ := S6.out.ds.cell hlt)
                go_roundw
                case rel => exact ⟨d + 1, _, _, by omega, by go_num, S6.out, SK.out⟩
                case measure => simp [intOf]; omega
          · have hd9 : d = 8 := by omega
            subst hd9
            have SL := Lib.hid DI.out.leave
            clear cR fR zR
            go_wp2
            go_roundw
            case rel => exact ⟨k + 1, _, _, by omega, by go_num, SO2.out, SL.out⟩
            case measure => simp [intOf]; omega
      · have hkn : k = n := by omega
        subst hkn
        go_wp2
        go_ret2
        exact ⟨w.heap.size + 1 + 1, w.heap.size + 1, rfl, by omega, by omega, SO.out.ls.as fun i hi => (DO.out.1 i hi).1, SO.out.ds.as fun i hi => (DO.out.1 i hi).2, SO.out.bel⟩
end Go.Proofs.YtacbemilicdklaaDoor

/- WetMatches, walked: where it is an error. -/
namespace Go.Proofs.YtacbemilicdklaaDoor
open Go.RowKit Fl Go.Shelf
set_option linter.unusedVariables false

theorem firstE_z (x : Int) : firstE x 0 = x := by unfold firstE; split <;> simp_all
/-- The error that the law wants when k amounts have been looked at. -/
def wantK (fe : Int) (d : Bool) (c : Nat → Int) (k : Nat) : Int := firstE (firstE fe (whenE d 2)) (if allB k (fun i => withinB (c i) 0 1099511627776) = true then 0 else 3)
theorem wantK_zero (fe : Int) (d : Bool) (c : Nat → Int) : wantK fe d c 0 = firstE fe (whenE d 2) := by
  unfold wantK
  rw [if_pos (show allB 0 _ = true from rfl), firstE_z]
theorem wantK_succ (fe : Int) (d : Bool) (c : Nat → Int) (k : Nat) : firstE (wantK fe d c k) (whenE (!withinB (c k) 0 1099511627776) 3) = wantK fe d c (k + 1) := by
  have key : allB (k + 1) (fun i => withinB (c i) 0 1099511627776) = (allB k (fun i => withinB (c i) 0 1099511627776) && withinB (c k) 0 1099511627776) := by
    unfold allB; rw [List.range_succ, List.all_append]; simp
  unfold wantK
  rw [key]
  generalize firstE fe (whenE d 2) = z
  by_cases hz : z = 0
  · subst hz
    cases allB k (fun i => withinB (c i) 0 1099511627776) <;> cases withinB (c k) 0 1099511627776 <;> rfl
  · unfold firstE
    rw [if_neg hz, if_neg hz, if_neg hz]
theorem wantK_end (fe : Int) (n n2 : Nat) (c : Nat → Int) : wantK fe ((n2 : Int) != (n : Int)) c n2 = firstE fe (lstE n n2 c 1099511627776) := by
  unfold wantK lstE
  by_cases h : n2 = n
  · subst h
    rw [show ((n2 : Int) != (n2 : Int)) = false by simp, if_neg (show ¬ (n2 ≠ n2) by simp)]
    show firstE (firstE fe 0) _ = _
    rw [firstE_z]
  · rw [if_pos h, show ((n2 : Int) != (n : Int)) = true by rw [bne_iff_ne]; omega]
    show firstE (firstE fe 2) _ = _
    unfold firstE
    by_cases q : fe = 0
    · rw [if_pos q, if_neg (by decide)]
    · rw [if_neg q, if_neg q]

set_option maxHeartbeats 2000000 in
set_option maxRecDepth 100000 in
theorem wetLaw_no (X Y W H : Int) (a : Option Addr) (n cap : Nat) (er : Int) (a2 : Option Addr) (n2 cap2 : Nat) (c : Nat → Int) (re : Int) (w : World) (hE : SlE w a n cap er) (hL : LsAt w a2 n2 c) (hl2 : n2 ≤ 9223372036854775807)
    (he : firstE (fldChk X Y W H n er) (lstE n n2 c 1099511627776) = re) (hz : re ≠ 0) (hD : DirsAt w) :
    Calls Tryd.prog 9 #[fldV X Y W H (.slice a n cap), .slice a2 n2 cap2] w fun e w' => e = .returned (.bool true) ∧ Below w.heap.size w w' := by
  have FN := Lib.hid (fun W' (hB : Below w.heap.size w W') => wet_no X Y W H a n cap er a2 n2 cap2 c re W' (hE.stay hB) (hL.stay hB) hl2 he hz)
  have FE := Lib.hid (fun W' (hB : Below w.heap.size w W') => qFieldError_any X Y W H a n cap er W' (hE.stay hB).2)
  have WH := Lib.hid (fun c k w => when_any c k w)
  have FI := Lib.hid (fun p q pp w h => first2_any p q pp w h)
  have FL := Lib.hid (fun W' (hB : Below w.heap.size w W') => flows_any W' (hD.stay hB))
  have EM := Lib.hid (fun w => empty_no w)
  have WI := Lib.hid (fun k w => mWithin_any (c k) 0 1099511627776 w)
  have HL := Lib.hid (fun W' (hB : Below w.heap.size w W') => hL.stay hB)
  have h1 : (re != 0) = true := by simpa using hz
  have WE := Lib.hid (wantK_end (fldChk X Y W H n er) n n2 c)
  rw [he] at WE
  clear hE hL he hz hD
  generalize fldChk X Y W H n er = fe at *
  go_enter Tryd.func9, Tryd.ntmps9
  go_wp2_with (go_at_call 54; refine (FN.out _ (by repeat (first | exact Below.refl _ _ | refine Below.alloc ?_ (by first | omega | (simp; done) | (simp; omega)) _ | refine Below.setCell ?_ (by first | omega | (simp; done) | (simp; omega)) _ | refine Below.drew ?_))).mono ?_; rintro e w2 ⟨rfl, hb2⟩; have HF2 := Lib.hid (blkStay (b := w.heap.size) (o := fldO X Y W H (.slice a n cap)) (by (first | (rw [heap_alloc_get, if_pos rfl]; done) | ((simp only [heap_alloc_get, heap_size_alloc, if_true]) <;> ((repeat' split) <;> first | rfl | omega)))) hb2); obtain ⟨cF, fF, zF⟩ := blkC HF2.out; have HB2 : Below w.heap.size w w2 := Below.trans (by repeat (first | exact Below.refl _ _ | refine Below.alloc ?_ (by first | omega | (simp; done) | (simp; omega)) _ | refine Below.setCell ?_ (by first | omega | (simp; done) | (simp; omega)) _ | refine Below.drew ?_)) (Below.mono hb2 (by first | omega | (simp; done) | (simp; omega))); clear hb2)
  have HFW := Lib.hid (show (w2.alloc (fldO 0 0 0 0 (.slice none 0 0))).heap[w.heap.size]? = some (fldO X Y W H (.slice a n cap)) from (heap_alloc_old _ _ zF).trans HF2.out)
  have HGW := Lib.hid (show (w2.alloc (fldO 0 0 0 0 (.slice none 0 0))).heap[w2.heap.size]? = some (fldO 0 0 0 0 (.slice none 0 0)) from by (first | (rw [heap_alloc_get, if_pos rfl]; done) | ((simp only [heap_alloc_get, heap_size_alloc, if_true]) <;> ((repeat' split) <;> first | rfl | omega))))
  have HBW := Lib.hid (HB2.alloc HB2.size (fldO 0 0 0 0 (.slice none 0 0)))
  have zGW := (blkC HGW.out).2.2
  obtain ⟨gb, hgb⟩ : ∃ gb, gb = w2.heap.size := ⟨_, rfl⟩
  rw [← hgb] at HGW zGW ⊢
  clear cF fF zF HF2 HB2
  generalize (w2.alloc (fldO 0 0 0 0 (.slice none 0 0))) = W2 at *
  obtain ⟨cF, fF, zF⟩ := blkC HFW.out
  clear hgb
  go_region_held3 (fun w' => (∀ o, w'.cell? ⟨w.heap.size, o, none⟩ = #[.int .i64 X, .int .i64 Y, .int .i64 W, .int .i64 H, .slice a n cap][o]?) ∧ Below W2.heap.size W2 w') (first | exact ⟨(blkC (blkStay HFW.out hb9)).1, hb9⟩ | exact ⟨(blkC (blkStay HFW.out (hb9.alloc hb9.size _))).1, hb9.alloc hb9.size _⟩ | exact ⟨(blkC (blkStay HFW.out (by repeat (first | exact Below.refl _ _ | refine Below.alloc ?_ (by first | omega | (simp; done) | (simp; omega)) _ | refine Below.setCell ?_ (by first | omega | (simp; done) | (simp; omega)) _ | refine Below.drew ?_)))).1, (by repeat (first | exact Below.refl _ _ | refine Below.alloc ?_ (by first | omega | (simp; done) | (simp; omega)) _ | refine Below.setCell ?_ (by first | omega | (simp; done) | (simp; omega)) _ | refine Below.drew ?_))⟩)
    (first
      | (go_at_call 17; (with_reducible refine Calls.mono (FE.out _ ?_) ?_); exact HBW.out.trans (Below.mono (by repeat (first | exact Below.refl _ _ | refine Below.alloc ?_ (by first | omega | (simp; done) | (simp; omega)) _ | refine Below.setCell ?_ (by first | omega | (simp; done) | (simp; omega)) _ | refine Below.drew ?_)) HBW.out.size); rintro e w' ⟨rfl, hb8⟩; have hb9 : Below W2.heap.size W2 w' := Below.trans (by repeat (first | exact Below.refl _ _ | refine Below.alloc ?_ (by first | omega | (simp; done) | (simp; omega)) _ | refine Below.setCell ?_ (by first | omega | (simp; done) | (simp; omega)) _ | refine Below.drew ?_)) (Below.mono hb8 (by first | exact Nat.le_refl _ | (simp; done) | (simp; omega))); clear hb8)
      | (go_at_call 19; (with_reducible refine Calls.mono (WH.out _ _ _) ?_); rintro e w' ⟨rfl, rfl⟩)
      | (go_at_call 16; (with_reducible refine Calls.mono (FI.out fe (whenE ((n2 : Int) != (n : Int)) 2) _ _ ?_) ?_); ((simp only [heap_alloc_get, if_true]) <;> ((repeat' split) <;> first | rfl | omega)); rintro e w' ⟨rfl, rfl⟩))
  rename_i w9 hHeld
  have HB9 := Lib.hid hHeld.2
  have HB9w := Lib.hid (HBW.out.trans (hHeld.2.mono HBW.out.size))
  have ST := Lib.hid (wantK_zero fe ((n2 : Int) != (n : Int)) c)
  have SU := Lib.hid (wantK_succ fe ((n2 : Int) != (n : Int)) c)
  rw [← ST.out]
  generalize hwk : wantK fe ((n2 : Int) != (n : Int)) c = WK at *
  clear hHeld cF fF zF hwk
  go_wp2
  go_loopw [7, 34] (fun s7 s34 wr => ∃ k : Nat, k ≤ n2 ∧ s34 = .int .i64 k ∧ s7 = .int .i64 (WK k) ∧ Below W2.heap.size W2 wr) (fun _ s34 _ => n2 - (intOf s34).toNat)
  case atStart => exact ⟨0, Nat.zero_le _, rfl, rfl, HB9.out⟩
  case round =>
    obtain ⟨k, hk, rfl, rfl, hb⟩ := hrel
    have HB := Lib.hid hb
    clear hb
    by_cases hlt : k < n2
    · obtain ⟨b, off, ha, hcell⟩ : ∃ b off, a2 = some ⟨b, off, none⟩ ∧ NumAt wr b off n2 c := by
        rcases HL.out wr (HBW.out.trans (HB.out.mono HBW.out.size)) with z | h
        · omega
        · exact h
      subst ha
      have cc := hcell k hlt
      have WIK := Lib.hid (fun w => WI.out k w)
      clear hcell
      go_wp2_with (first | (go_at_call 46; refine (WIK.out _).mono ?_; rintro e w' ⟨rfl, rfl⟩) | (go_at_call 19; refine (WH.out _ _ _).mono ?_; rintro e w' ⟨rfl, rfl⟩) | (go_at_call 16; refine (FI.out (WK k) (whenE (!withinB (c k) 0 1099511627776) 3) _ _ (by (first | (rw [heap_alloc_get, if_pos rfl]; done) | ((simp only [heap_alloc_get, heap_size_alloc, if_true]) <;> ((repeat' split) <;> first | rfl | omega))))).mono ?_; rintro e w' ⟨rfl, rfl⟩))
      go_roundw
      case rel => exact ⟨k + 1, by omega, by go_num, by rw [SU.out], HB.out.alloc HB.out.size _⟩
      case measure => simp [intOf]; omega
    · have hkn : k = n2 := by omega
      subst hkn
      rw [WE.out]
      have HBw := Lib.hid (HBW.out.trans (HB.out.mono HBW.out.size))
      have HGr := Lib.hid (blkStay HGW.out HB.out)
      go_wp2_with (first
        | (go_at_call 20; refine (FL.out _ HBw.out).mono ?_; rintro e w10 ⟨rfl, hb10⟩; have HG10 := Lib.hid (blkStay HGr.out hb10); have HB10 := Lib.hid (HBw.out.trans (hb10.mono HBw.out.size)); obtain ⟨cG, fG, zG⟩ := blkC HG10.out; clear hb10 HBw)
        | (go_at_call 20; refine (FL.out _ HB10.out).mono ?_; rintro e w11 ⟨rfl, hb11⟩; clear cG fG zG; have HG11 := Lib.hid (blkStay HG10.out hb11); have HB11 := Lib.hid (HB10.out.trans (hb11.mono HB10.out.size)); obtain ⟨cG, fG, zG⟩ := blkC HG11.out; clear hb11)
        | (go_at_call 21; refine (EM.out _).mono ?_; rintro e w12 ⟨rfl, hb12⟩; have HB12 := HB11.out.trans (hb12.mono HB11.out.size); clear hb12))
      go_ret
      exact ⟨rfl, HB12⟩
end Go.Proofs.YtacbemilicdklaaDoor

/- WetMatches, walked: where the field and the amounts are right. -/
namespace Go.Proofs.YtacbemilicdklaaDoor
open Go.RowKit Fl Go.Shelf
set_option linter.unusedVariables false

/-- One single more in a list of the law's own. -/
theorem row_push {W5 wr w4 : World} {f : Nat → Nat} {k g' cap' base : Nat} {ov : Value} {o : Obj} (h : wr.ownsRow base 27 1 ov k (rowL f k)) (hb : Below W5.heap.size W5 wr) (hbase : base = W5.heap.size)
    (hgrow : (wr.alloc o).drew.grownBy w4 ov.ownBlock) (hown : w4.ownsRow base 27 1 (.slice (some ⟨g', 0, none⟩) (k + 1) cap') (k + 1) (rowL f k ++ [.float .f32 (f k)])) :
    w4.ownsRow base 27 1 (.slice (some ⟨g', 0, none⟩) (k + 1) cap') (k + 1) (rowL f (k + 1)) ∧ Below W5.heap.size W5 w4 := by
  refine ⟨by rw [rowL_succ]; exact hown, ?_⟩
  refine ((hb.alloc hb.size o).drew).grown hgrow (by show W5.heap.size ≤ (wr.alloc o).heap.size; rw [heap_size_alloc]; have := hb.size; omega) (fun b hb' => ?_)
  rcases h.2 with ⟨rfl, _⟩ | ⟨g, _, _, rfl, hg, _⟩
  · cases hb'
  · have : b = g := by simpa [Value.ownBlock] using hb'.symm
    omega

set_option maxHeartbeats 4000000 in
set_option maxRecDepth 100000 in
theorem wetLaw_ok (X Y : Int) (W H n b off cap b2 off2 cap2 : Nat) (v : Nat → Nat) (c : Nat → Int) (w : World) (h0 : checkR X Y W H = 0) (hn : n = W * H) (hc : FlAt w b off n v) (hh : allB n (fun i => hgtB (v i)) = true) (hc2 : NumAt w b2 off2 n c) (ha : allB n (fun i => withinB (c i) 0 1099511627776) = true) (hD : DirsAt w) :
    Calls Tryd.prog 9 #[fldV X Y W H (.slice (some ⟨b, off, none⟩) n cap), .slice (some ⟨b2, off2, none⟩) n cap2] w fun e w' => e = .returned (.bool true) ∧ Below w.heap.size w w' := by
  obtain ⟨b1, b2', b3, b4, b5, _⟩ := checkR_zero h0
  have en : ((W : Int) * (H : Int)) = (n : Int) := by rw [hn]; simp
  have hn2 : n ≤ 65536 := by omega
  have hn1 : 1 ≤ n := by rw [hn]; exact Nat.mul_pos (by omega) (by omega)
  have zb : b < w.heap.size := World.block_lt_of_cell? w _ (hc 0 hn1)
  have zb2 : b2 < w.heap.size := World.block_lt_of_cell? w _ (hc2 0 hn1)
  have WO := Lib.hid (fun W' (hB : Below w.heap.size w W') => wet_ok X Y W H n b off cap b2 off2 cap2 v c W' h0 hn (flAt_congr hc (hB.block b zb)) hh (numAt_congr hc2 (hB.block b2 zb2)) ha (hD.stay hB))
  have ck : fldChk X Y W H n 0 = 0 := by unfold fldChk; rw [if_neg (by rw [h0]; simp), if_neg (by rw [en]; simp)]
  have FE := Lib.hid (fun W' (hB : Below w.heap.size w W') => qFieldError_any X Y W H (some ⟨b, off, none⟩) n cap 0 W' (by have q := ((slE_row (cap := cap) (by omega) (by omega) hc).stay hB).2; rw [fldE_zero.2 hh] at q; exact q))
  rw [ck] at FE
  have WH := Lib.hid (fun k w => when_any false k w)
  have FI := Lib.hid (fun k pp w (h : w.heap[pp]? = some (.cells #[.int .i64 0, .int .i64 (whenE false k)] 28)) => show Calls Tryd.prog 16 #[.slice (some ⟨pp, 0, none⟩) 2 2] w fun e w' => e = .returned (.int .i64 0) ∧ w = w' from first2_any 0 (whenE false k) pp w h)
  have FL := Lib.hid (fun W' (hB : Below w.heap.size w W') => flows_any W' (hD.stay hB))
  have WI := Lib.hid (fun k (hk : k < n) w => show Calls Tryd.prog 46 #[.int .i64 (c k), .int .i64 0, .int .i64 1099511627776] w fun e w' => e = .returned (.bool true) ∧ w = w' from by have := mWithin_any (c k) 0 1099511627776 w; rwa [allB_iff.1 ha k hk] at this)
  have HC2 := Lib.hid (fun W' (hB : Below w.heap.size w W') => numAt_congr hc2 (hB.block b2 zb2))
  have SO := Lib.hid (fun W' (hB : Below w.heap.size w W') => steepOf_any X Y W H n b off cap v W' h0 hn (flAt_congr hc (hB.block b zb)) hh)
  have WP := Lib.hid (fun k (hk : k < n) => show ∃ s q, floatBits .add .f32 1065353216 (stp v k (nbrs W H k 8)).2 = some s ∧ floatBits .quo .f32 (rootW (floatOfInt .f32 (c k))) s = some q ∧ finB q = true ∧ wetF W H v c k = q from by
    obtain ⟨s, q, D⟩ := wet_parts (a := c k) (withinB_iff.1 (allB_iff.1 ha k hk)).1 (withinB_iff.1 (allB_iff.1 ha k hk)).2 (stp_nn hn hk (fun i hi => allB_iff.1 hh i hi) _ (fun x hx => by rw [hn]; exact nbrs_lt (j := 8) (k := k) x hx))
    exact ⟨s, q, D.s1, D.q1, D.fin, D.w⟩)
  have FB := Lib.hid (show ∀ i, i < n → finB (wetF W H v c i) = true from fun i hi => by obtain ⟨s, q, _, _, D, e⟩ := WP.out i hi; rw [e]; exact D)
  have RT := Lib.hid (fun k (hk : k < n) w => show Calls Tryd.prog 55 #[.float .f32 (floatOfInt .f32 (c k))] w fun e w' => e = .returned (.float .f32 (rootW (floatOfInt .f32 (c k)))) ∧ w = w' from by
    obtain ⟨ra, X', Z, rc, R, _⟩ := amt_root (withinB_iff.1 (allB_iff.1 ha k hk)).1 (withinB_iff.1 (allB_iff.1 ha k hk)).2
    exact qRoot_any R w)
  have hinfo : (Tryd.prog.info? 27).map (fun i => (i.zero, i.size, i.bytes)) = some (some (.float .f32 0), 1, 4) := by kernel_rfl
  obtain ⟨i0, hi, hz0, hz1, hz2⟩ := info_parts hinfo
  have HN2 := Lib.hid hn2
  have HN1 := Lib.hid hn1
  clear h0 hn hc hh hc2 ha hD b1 b2' b3 b4 b5 en zb zb2 ck hinfo hn1
  generalize wetF W H v c = f at *
  go_enter Tryd.func9, Tryd.ntmps9
  go_wp2_with fail
  refine (WO.out _ (by repeat (first | exact Below.refl _ _ | refine Below.alloc ?_ (by first | omega | (simp; done) | (simp; omega)) _ | refine Below.setCell ?_ (by first | omega | (simp; done) | (simp; omega)) _ | refine Below.drew ?_))).mono ?_
  intro e w2 hpost
  obtain ⟨x, y, u, hh, sa, sl, sc, ke, rfl, hres, hb2⟩ := made_res (er := 0) (.inr ⟨rfl, hpost⟩)
  have HF2 := Lib.hid (blkStay (b := w.heap.size) (o := fldO X Y W H (.slice (some ⟨b, off, none⟩) n cap)) (by (first | (rw [heap_alloc_get, if_pos rfl]; done) | ((simp only [heap_alloc_get, heap_size_alloc, if_true]) <;> ((repeat' split) <;> first | rfl | omega)))) hb2)
  have HB2 : Below w.heap.size w w2 := Below.trans (by repeat (first | exact Below.refl _ _ | refine Below.alloc ?_ (by first | omega | (simp; done) | (simp; omega)) _ | refine Below.setCell ?_ (by first | omega | (simp; done) | (simp; omega)) _ | refine Below.drew ?_)) (Below.mono hb2 (by first | omega | (simp; done) | (simp; omega)))
  obtain ⟨cF, fF, zF⟩ := blkC HF2.out
  have RS2 := Lib.hid hres
  clear hpost hres hb2
  go_wp2
  have HFW := Lib.hid (show (w2.alloc (fldO x y u hh (.slice sa sl sc))).heap[w.heap.size]? = some (fldO X Y W H (.slice (some ⟨b, off, none⟩) n cap)) from (heap_alloc_old _ _ zF).trans HF2.out)
  have HGW := Lib.hid (show (w2.alloc (fldO x y u hh (.slice sa sl sc))).heap[w2.heap.size]? = some (fldO x y u hh (.slice sa sl sc)) from by (first | (rw [heap_alloc_get, if_pos rfl]; done) | ((simp only [heap_alloc_get, heap_size_alloc, if_true]) <;> ((repeat' split) <;> first | rfl | omega))))
  have HBW := Lib.hid (HB2.alloc HB2.size (fldO x y u hh (.slice sa sl sc)))
  have RSW := Lib.hid (RS2.out.stay (w' := w2.alloc (fldO x y u hh (.slice sa sl sc))) (by repeat (first | exact Below.refl _ _ | refine Below.alloc ?_ (by first | omega | (simp; done) | (simp; omega)) _ | refine Below.setCell ?_ (by first | omega | (simp; done) | (simp; omega)) _ | refine Below.drew ?_)))
  have zGW := (blkC HGW.out).2.2
  obtain ⟨gb, hgb⟩ : ∃ gb, gb = w2.heap.size := ⟨_, rfl⟩
  rw [← hgb] at HGW zGW ⊢
  clear cF fF zF HF2 HB2 RS2
  generalize (w2.alloc (fldO x y u hh (.slice sa sl sc))) = W2 at *
  obtain ⟨cF, fF, zF⟩ := blkC HFW.out
  clear hgb
  go_region_held3 (fun w' => (∀ o, w'.cell? ⟨w.heap.size, o, none⟩ = #[.int .i64 X, .int .i64 Y, .int .i64 W, .int .i64 H, .slice (some ⟨b, off, none⟩) n cap][o]?) ∧ Below W2.heap.size W2 w') (first | exact ⟨(blkC (blkStay HFW.out hb9)).1, hb9⟩ | exact ⟨(blkC (blkStay HFW.out (hb9.alloc hb9.size _))).1, hb9.alloc hb9.size _⟩ | exact ⟨(blkC (blkStay HFW.out (by repeat (first | exact Below.refl _ _ | refine Below.alloc ?_ (by first | omega | (simp; done) | (simp; omega)) _ | refine Below.setCell ?_ (by first | omega | (simp; done) | (simp; omega)) _ | refine Below.drew ?_)))).1, (by repeat (first | exact Below.refl _ _ | refine Below.alloc ?_ (by first | omega | (simp; done) | (simp; omega)) _ | refine Below.setCell ?_ (by first | omega | (simp; done) | (simp; omega)) _ | refine Below.drew ?_))⟩)
    (first
      | (go_at_call 17; (with_reducible refine Calls.mono (FE.out _ ?_) ?_); exact HBW.out.trans (Below.mono (by repeat (first | exact Below.refl _ _ | refine Below.alloc ?_ (by first | omega | (simp; done) | (simp; omega)) _ | refine Below.setCell ?_ (by first | omega | (simp; done) | (simp; omega)) _ | refine Below.drew ?_)) HBW.out.size); rintro e w' ⟨rfl, hb8⟩; have hb9 : Below W2.heap.size W2 w' := Below.trans (by repeat (first | exact Below.refl _ _ | refine Below.alloc ?_ (by first | omega | (simp; done) | (simp; omega)) _ | refine Below.setCell ?_ (by first | omega | (simp; done) | (simp; omega)) _ | refine Below.drew ?_)) (Below.mono hb8 (by first | exact Nat.le_refl _ | (simp; done) | (simp; omega))); clear hb8)
      | (go_at_call 19; (with_reducible refine Calls.mono (WH.out _ _) ?_); rintro e w' ⟨rfl, rfl⟩)
      | (go_at_call 16; (with_reducible refine Calls.mono (FI.out 2 _ _ ?_) ?_); ((simp only [heap_alloc_get, if_true]) <;> ((repeat' split) <;> first | rfl | omega)); rintro e w' ⟨rfl, rfl⟩))
  rename_i w9 hHeld
  have HB9 := Lib.hid hHeld.2
  clear hHeld cF fF zF
  go_wp2
  go_loopw [7, 34] (fun s7 s34 wr => ∃ k : Nat, k ≤ n ∧ s34 = .int .i64 k ∧ s7 = .int .i64 0 ∧ Below W2.heap.size W2 wr) (fun _ s34 _ => n - (intOf s34).toNat)
  case atStart => exact ⟨0, Nat.zero_le _, rfl, rfl, HB9.out⟩
  case round =>
    obtain ⟨k, hk, rfl, rfl, hb⟩ := hrel
    have HB := Lib.hid hb
    clear hb
    by_cases hlt : k < n
    · have cc := HC2.out wr (HBW.out.trans (HB.out.mono HBW.out.size)) k hlt
      have WIK := Lib.hid (fun w => WI.out k hlt w)
      go_wp2_with (first | (go_at_call 46; refine (WIK.out _).mono ?_; rintro e w' ⟨rfl, rfl⟩) | (go_at_call 19; refine (WH.out _ _).mono ?_; rintro e w' ⟨rfl, rfl⟩) | (go_at_call 16; refine (FI.out 3 _ _ (by (first | (rw [heap_alloc_get, if_pos rfl]; done) | ((simp only [heap_alloc_get, heap_size_alloc, if_true]) <;> ((repeat' split) <;> first | rfl | omega))))).mono ?_; rintro e w' ⟨rfl, rfl⟩))
      go_roundw
      case rel => exact ⟨k + 1, by omega, by go_num, rfl, HB.out.alloc HB.out.size _⟩
      case measure => simp [intOf]; omega
    · have hkn : k = n := by omega
      subst hkn
      have HBw := Lib.hid (HBW.out.trans (HB.out.mono HBW.out.size))
      have HFr := Lib.hid (blkStay HFW.out HB.out)
      go_wp2_with (first
        | (go_at_call 20; refine (FL.out _ HBw.out).mono ?_; rintro e w10 ⟨rfl, hb10⟩; have HF10 := Lib.hid (blkStay HFr.out hb10); have HB10 := Lib.hid (HB.out.trans (hb10.mono HB.out.size)); have HB10w := Lib.hid (HBw.out.trans (hb10.mono HBw.out.size)); obtain ⟨cF, fF, zF⟩ := blkC HF10.out; clear hb10)
        | (go_at_call 27; refine (SO.out _ HB10w.out).mono ?_; rintro e w11 ⟨lb, db, rfl, hlb, hdb, hl11, hd11, hb11⟩; clear cF fF zF; have HD11 := Lib.hid hd11; have HB11 := Lib.hid (HB10.out.trans (hb11.mono HB10.out.size)); clear hb11 hl11 hd11 hlb hdb))
      obtain ⟨base, hbase⟩ : ∃ base, base = w11.heap.size := ⟨_, rfl⟩
      have HBA := Lib.hid hbase
      clear hbase
      go_loopw [12, 72] (fun s12 s72 wr => ∃ (i : Nat) (ov : Value), i ≤ k ∧ s72 = .int .i64 i ∧ ov = s12 ∧ wr.ownsRow base 27 1 ov i (rowL f i) ∧ Below w11.heap.size w11 wr) (fun _ s72 _ => k - (intOf s72).toNat)
      case atStart => exact ⟨0, _, Nat.zero_le _, rfl, rfl, World.ownsRow_nil _ _ _ _, Below.refl _ _⟩
      case round =>
        obtain ⟨i, ov, hik, rfl, rfl, hown, hbi⟩ := hrel
        have OW := Lib.hid hown
        have HBi := Lib.hid hbi
        have HBiw := Lib.hid (HBW.out.trans ((HB11.out.trans (hbi.mono HB11.out.size)).mono HBW.out.size))
        clear hown hbi
        by_cases hlt2 : i < k
        · have cc := HC2.out wr HBiw.out i hlt2
          obtain ⟨d1, d2, d3⟩ := (HD11.out.congr (HBi.out.block db HD11.out.lt)).cell hlt2
          obtain ⟨s, q, e1', e2', _, ef⟩ := WP.out i hlt2
          rw [← ef] at e2'
          have e1 := fun (ww : World) => run_float_arith (P := Tryd.prog) ww .add 27 .f32 1065353216 (stp v i (nbrs W H i 8)).2 s e1'
          have e2 := fun (ww : World) => run_float_arith (P := Tryd.prog) ww .quo 27 .f32 (rootW (floatOfInt .f32 (c i))) s (f i) e2'
          have RK := Lib.hid (fun w => RT.out i hlt2 w)
          have hb1 := Lib.hid (show i + 1 ≤ maxLen by have := HN2.out; unfold maxLen; omega)
          have hb2 := Lib.hid (show (i + 1) * 4 ≤ 140737488355328 by have := HN2.out; omega)
          have hbs := Lib.hid (show base ≤ wr.heap.size by have := HBi.out.size; have := HBA.out; omega)
          have i1 : (i : Int) < (k : Int) := by omega
          clear e1' e2' ef
          generalize (stp v i (nbrs W H i 8)).2 = sd at *
          generalize rootW (floatOfInt .f32 (c i)) = rr at *
          go_wp2
          go_region_law (first
            | (go_simp; (with_reducible refine (RK.out _).mono ?_); rintro e w' ⟨rfl, rfl⟩)
            | (refine step_append_lies _ (by rfl) _ _ _ (by rfl) base 27 i0 _ 1 4 Tryd.underlying24 hi hz0 hz1 hz2 rfl (by omega) ov i (rowL f i) (by rfl) (OW.out.alloc _) ⟨wr.heap.size, 0, none⟩ 1 1 [.float .f32 (f i)] (by rfl) (by rfl) (World.news_of_block (cs := #[.float .f32 (f i)]) (t := 27) (fr := (0, 0)) (heap_alloc_new wr _)) (by simp [Value.oneCell']) (by omega) hb1.out hb2.out (by have := hbs.out; simp; omega) (wr.heap.size + 1) (by simp) ?_; intro gg gcap w13 hown13 hgrow hat hlt13))
          all_goals
            have PU := Lib.hid (row_push OW.out HBi.out HBA.out hgrow hown13)
            clear hown13 hgrow hat hlt13
            go_wp2
            go_roundw
            case rel => exact ⟨i + 1, _, by omega, by go_num, rfl, PU.out.1, PU.out.2⟩
            case measure => simp [intOf]; omega
        · have hik2 : i = k := by omega
          subst hik2
          have HB2w := Lib.hid (HB11.out.trans (HBi.out.mono HB11.out.size))
          obtain ⟨g, gcap, rfl, _, _⟩ := OW.out.form (show 0 < i from HN1.out)
          obtain ⟨cF, fF, zF⟩ := blkC (blkStay HFW.out HB2w.out)
          obtain ⟨cG, fG, zG⟩ := blkC (blkStay HGW.out HB2w.out)
          have RE := Lib.hid (result_any g gcap HN1.out (by have := HN2.out; omega) (RSW.out.stay HB2w.out) (ownsRow_flAt OW.out HN1.out).1 FB.out)
          go_wp2_with (go_at_call 51; refine RE.out.mono ?_; rintro e w14 ⟨rfl, hb14⟩; have HB14 := Lib.hid (HBiw.out.trans (hb14.mono HBiw.out.size)); clear hb14)
          go_ret
          exact ⟨rfl, HB14.out⟩

/-- WetMatches, whatever comes in. -/
theorem wetLaw_any {X Y W H : Int} {sv : Value} {a2 : Option Addr} {n2 cap2 : Nat} {c : Nat → Int} {w : World} (h : (∃ a cap, sv = .slice a 0 cap) ∨ ∃ b off len cap x, sv = .slice (some ⟨b, off, none⟩) len cap ∧ 0 < len ∧ len ≤ 9223372036854775807 ∧ FlAt w b off len x)
    (hL : LsAt w a2 n2 c) (hl2 : n2 ≤ 9223372036854775807) (hD : DirsAt w) :
    Calls Tryd.prog 9 #[fldV X Y W H sv, .slice a2 n2 cap2] w fun e w' => e = .returned (.bool true) ∧ Below w.heap.size w w' := by
  rcases h with ⟨a, cap, rfl⟩ | ⟨b, off, len, cap, x, rfl, h1, h2, h3⟩
  · refine wetLaw_no X Y W H a 0 cap 0 a2 n2 cap2 c _ w (slE_nil w a cap) hL hl2 rfl ?_ hD
    unfold firstE fldChk
    by_cases q : checkR X Y W H ≠ 0
    · rw [if_pos q, if_neg q]; exact q
    · have q' : checkR X Y W H = 0 := by simpa using q
      obtain ⟨b1, b2, b3, b4, b5, _⟩ := checkR_zero q'
      have p := (mul_side b1 b2 b3 b4).1
      rw [if_neg q, if_pos (show ((0 : Nat) : Int) ≠ W * H by omega), if_neg (by decide)]
      decide
  · by_cases q : firstE (fldChk X Y W H len (fldE len x)) (lstE len n2 c 1099511627776) = 0
    · obtain ⟨q1, q2⟩ := firstE_zero q
      unfold fldChk at q1
      by_cases r1 : checkR X Y W H ≠ 0
      · rw [if_pos r1] at q1; exact absurd q1 r1
      · rw [if_neg r1] at q1
        by_cases r2 : (len : Int) ≠ W * H
        · rw [if_pos r2] at q1; cases q1
        · rw [if_neg r2] at q1
          have r1' : checkR X Y W H = 0 := by simpa using r1
          have r2' : (len : Int) = W * H := by simpa using r2
          obtain ⟨b1, b2, b3, b4, b5, _⟩ := checkR_zero r1'
          obtain ⟨W', rfl⟩ : ∃ W' : Nat, W = W' := ⟨W.toNat, by omega⟩
          obtain ⟨H', rfl⟩ : ∃ H' : Nat, H = H' := ⟨H.toNat, by omega⟩
          have hnm : len = W' * H' := by
            have : ((W' * H' : Nat) : Int) = W' * H' := by simp
            omega
          unfold lstE at q2
          by_cases r3 : n2 ≠ len
          · rw [if_pos r3] at q2; cases q2
          · rw [if_neg r3] at q2
            have r3' : n2 = len := by simpa using r3
            subst r3'
            have r4 : allB n2 (fun i => withinB (c i) 0 1099511627776) = true := by
              cases z : allB n2 (fun i => withinB (c i) 0 1099511627776) with
              | true => rfl
              | false => rw [z] at q2; cases q2
            rcases hL with z | ⟨b2, off2, rfl, hc2⟩
            · omega
            · exact wetLaw_ok X Y W' H' n2 b off cap b2 off2 cap2 x c w r1' hnm h3 (fldE_zero.1 q1) hc2 r4 hD
    · exact wetLaw_no X Y W H _ len cap (fldE len x) a2 n2 cap2 c _ w (slE_row h1 h2 h3) hL hl2 rfl q hD
end Go.Proofs.YtacbemilicdklaaDoor

/- A field that came in, opened: four integers, and a slice of singles that is empty or known cell by cell. -/
namespace Go.Proofs.YtacbemilicdklaaDoor
open Go.ChangeShapes Go.WideShapes Go.ChangeAt Go.RowKit Go.Joins Fl

section
variable {H : Type} {enc : TypeId × Value → H} {w : World} {base : Nat} {spare : Nat → Bool} {held : Bool}

theorem trod_f32 {P : Program} {t : TypeId} {fuel : Nat} {v : Value} {y : DataW H × List MemPlace} (ht : P.underlying t = some (.float .f32)) (h : DataW.trod enc P w base spare held fuel t [v] = some y) : ∃ b, v = .float .f32 b ∧ b < 4294967296 := by
  cases fuel with
  | zero => simp [DataW.trod] at h
  | succ n =>
    unfold DataW.trod at h
    rw [ht] at h
    cases v <;> simp at h
    rename_i k b
    obtain ⟨⟨rfl, hw⟩, _⟩ := h
    exact ⟨b, rfl, by simpa [Lit.wf] using hw⟩

theorem array5 {α : Type} {cs : Array α} (h : cs.size = 5) : ∃ c0 c1 c2 c3 c4, cs = #[c0, c1, c2, c3, c4] := by
  obtain ⟨l⟩ := cs
  match l, h with
  | [c0, c1, c2, c3, c4], _ => exact ⟨c0, c1, c2, c3, c4, rfl⟩

theorem flAt_congr' {w w' : World} {b off n : Nat} {f : Nat → Nat} (h : FlAt w b off n f) (e : w'.heap[b]? = w.heap[b]?) : FlAt w' b off n f := fun i hi => by
  rw [← h i hi]; exact World.cell?_of_block (w := w) (a := ⟨b, off + i, none⟩) e

/-- What a slice of singles is: empty, or known cell by cell. -/
def SlF (w : World) (s : Value) : Prop :=
  (∃ a cap, s = .slice a 0 cap) ∨ ∃ b off len cap x, s = .slice (some ⟨b, off, none⟩) len cap ∧ 0 < len ∧ len ≤ 9223372036854775807 ∧ FlAt w b off len x ∧ wf32 len x

theorem open_singles {t e : TypeId} {fuel : Nat} {cs : List Value} {y : DataW H × List MemPlace} (ht : Tryd.prog.underlying t = some (.slice e)) (he : Tryd.prog.underlying e = some (.float .f32)) (hc : Tryd.prog.cellsOf e = 1)
    (h : DataW.trod enc Tryd.prog w base spare held fuel t cs = some y) : ∃ s, cs = [s] ∧ SlF w s := by
  rcases Go.Deep.open_slice1 ht hc h with ⟨rfl, _⟩ | ⟨a, len, cap, m, n, V, D, Pl, rfl, hb, hl, hm, hmm, _, hx⟩
  · exact ⟨_, rfl, .inl ⟨none, 0, rfl⟩⟩
  · refine ⟨_, rfl, ?_⟩
    rcases Nat.eq_zero_or_pos len with z | z
    · subst z; exact .inl ⟨_, _, rfl⟩
    · have hlm : len ≤ m := by rw [hmm]; split <;> omega
      have h0 := (hx 0 (by omega)).1
      obtain ⟨b, off, spot⟩ := a
      have hspot : spot = none := by simpa [Addr.add] using World.cell?_spot h0
      subst hspot
      have hv : ∀ i, i < len → ∃ x, V i = .float .f32 x ∧ x < 4294967296 := fun i hi => trod_f32 he (hx i (by omega)).2
      refine .inr ⟨b, off, len, cap, fun i => match V i with | .float _ x => x | _ => 0, rfl, z, ?_, fun i hi => ?_, fun i hi => ?_⟩
      · exact Nat.le_trans hl (Nat.le_trans hm (by decide))
      · have h1 := (hx i (by omega)).1
        obtain ⟨x, e1, _⟩ := hv i hi
        rw [← Go.WideShapes.add_plain, h1]
        simp only [e1]
      · obtain ⟨x, e1, e2⟩ := hv i hi
        simp only [e1]; exact e2

theorem cellsF : Tryd.prog.cellsOf 26 = 5 := by kernel_rfl
theorem cellsR : Tryd.prog.cellsOf 23 = 4 := by kernel_rfl
theorem cellsS : Tryd.prog.cellsOf 24 = 1 := by kernel_rfl
theorem cells1 : Tryd.prog.cellsOf 27 = 1 := by kernel_rfl
theorem cellsI : Tryd.prog.cellsOf 3 = 1 := by kernel_rfl

set_option maxRecDepth 100000 in
theorem open_field {r : Reach} {b0 : Nat} {v : Value} {d : DataW H} {p : List MemPlace} (hv : Value.okWide Tryd.prog w r b0 26 v) (h : DataW.Trod enc Tryd.prog w base spare held 26 v d p) :
    ∃ X Y W' H' : Int, ∃ s, v = fldV X Y W' H' s ∧ SlF w s := by
  obtain ⟨cs, rfl, hsz⟩ := okWide_struct Tryd.underlying26 hv
  obtain ⟨c0, c1, c2, c3, c4, rfl⟩ := array5 (hsz.trans cellsF)
  obtain ⟨fuel, hf⟩ := h
  obtain ⟨y0, y1, n, _, _, h0, h1⟩ := trod_struct2 Tryd.underlying26 hf
  rw [cellsR] at h0
  rw [cellsS] at h1
  obtain ⟨s, e4, hs⟩ := open_singles Tryd.underlying24 Tryd.underlying27 cells1 h1
  obtain ⟨z0, z1, z2, z3, n2, _, _, g0, g1, g2, g3⟩ := trod_struct4 Tryd.underlying23 h0
  rw [cellsI] at g0 g1 g2 g3
  obtain ⟨x0, e0, _, _⟩ := DataW.trod_int Tryd.underlying3 g0
  obtain ⟨x1, e1, _, _⟩ := DataW.trod_int Tryd.underlying3 g1
  obtain ⟨x2, e2, _, _⟩ := DataW.trod_int Tryd.underlying3 g2
  obtain ⟨x3, e3, _, _⟩ := DataW.trod_int Tryd.underlying3 g3
  simp [Value.cells] at e0 e1 e2 e3 e4
  subst e0 e1 e2 e3 e4
  exact ⟨x0, x1, x2, x3, _, rfl, hs⟩
end

theorem SlF.stay {w w' : World} {s : Value} (h : SlF w s) (hb : Below w.heap.size w w') : SlF w' s := by
  rcases h with h | ⟨b, off, len, cap, x, rfl, h1, h2, h3, h4⟩
  · exact .inl h
  · exact .inr ⟨b, off, len, cap, x, rfl, h1, h2, flAt_congr' h3 (hb.block _ (World.block_lt_of_cell? w _ (h3 0 h1))), h4⟩

theorem laidOut : laidOutB Tryd.prog = true := by kernel_rfl
end Go.Proofs.YtacbemilicdklaaDoor

/- What the program's text lays of water's list of directions: for the tied cards. -/
namespace Go.Proofs.YtacbemilicdklaaDoor.door
open Go.ChangeShapes Go.WideShapes Go.ChangeAt Go.RowKit Go.Joins
set_option linter.unusedVariables false

theorem own : ownKnob Tryd.prog.godebug = none := by kernel_rfl
theorem gDirs : Tryd.prog.globalNamed "tarnfell/water.directions" = some 1 := by kernel_rfl
theorem tDirs : (Tryd.prog.globals[1]?).map (·.type) = some 164 := by kernel_rfl
theorem cellsP : Tryd.prog.cellsOf 48 = 2 := by kernel_rfl
theorem cellsI : Tryd.prog.cellsOf 3 = 1 := by kernel_rfl
theorem cellsD : Tryd.prog.cellsOf 164 = 16 := by kernel_rfl

/-- A listed variable's condition. -/
abbrev laidX : List (String × DataW Unit) := [("tarnfell/water.directions", Rows.laid_tarnfell_water_directions)]
theorem door_met (os : Os) (args : Array Value) : laidMetH Tryd.prog laidX ((World.doorLaid Tryd.prog 400 os).forCall (fun _ _ => 0) ⟨#[], args, []⟩).memory :=
  laidMetH_of_parts3 (fuel := 8) (laidMet_of_run' 8 (by kernel_rfl) (by kernel_rfl)) (by kernel_rfl) (by kernel_rfl)

/-- A place's two cells. -/
theorem point_cells {H : Type} {enc : TypeId × Value → H} {w : World} {base : Nat} {sp : Nat → Bool} {held : Bool} {fuel : Nat} {cs : List Value} {a b : Int} {x : DataW H × List MemPlace} (h : DataW.trod enc Tryd.prog w base sp held fuel 48 cs = some x) (hx : x.1 = .agg [.lit (.int .i64 a), .lit (.int .i64 b)]) : cs = [.int .i64 a, .int .i64 b] := by
  obtain ⟨y0, y1, n, rfl, hl, e0, e1⟩ := trod_struct2 Tryd.underlying48 h
  rw [cellsP] at hl
  rw [cellsI] at e0 e1
  obtain ⟨x0, f0, g0, _⟩ := DataW.trod_int Tryd.underlying3 e0
  obtain ⟨x1, f1, g1, _⟩ := DataW.trod_int Tryd.underlying3 e1
  rw [g0, g1] at hx
  simp only [DataW.agg.injEq, List.cons.injEq, DataW.lit.injEq, Lit.int.injEq, true_and, and_true] at hx
  obtain ⟨rfl, rfl⟩ := hx
  match cs, hl with
  | [c0, c1], _ =>
    simp at f0 f1
    subst f0 f1
    rfl

theorem dirs_of_laid {W : World} (h : laidMetH Tryd.prog laidX W) : DirsAt W := by
  rw [MakeChecks.laidMetH_plain _ _ _ (by kernel_rfl)] at h
  obtain ⟨ps, ⟨g0, t0, cs0, f0, p0, q0, hg0, ht0, hv0, hd0, _⟩, _, _⟩ := h
  obtain rfl := Option.some.inj (gDirs.symm.trans hg0)
  obtain rfl := Option.some.inj (tDirs.symm.trans ht0)
  obtain ⟨xs, m1, rfl, hx1, hlen, hn, hel⟩ := DataW.trod_array Tryd.underlying164 hd0
  simp only [Prod.mk.injEq] at hx1
  have hx2 := hx1.1
  have hc := fun o => World.var?_cell hg0 hv0 o
  intro d hd
  rw [cellsP] at hel
  have e := DataW.agg.inj (show DataW.agg _ = DataW.agg _ from hx2)
  have hm : (xs.map (·.1))[d]? = some (.agg [.lit (.int .i64 (dxI d)), .lit (.int .i64 (dyI d))]) := by
    rw [← e]
    have : d = 0 ∨ d = 1 ∨ d = 2 ∨ d = 3 ∨ d = 4 ∨ d = 5 ∨ d = 6 ∨ d = 7 := by omega
    rcases this with rfl | rfl | rfl | rfl | rfl | rfl | rfl | rfl <;> rfl
  rw [List.getElem?_map] at hm
  cases hq : xs[d]? with
  | none => rw [hq] at hm; cases hm
  | some x =>
    rw [hq] at hm
    have q := point_cells ((hel d hd).trans hq) (Option.some.inj hm)
    have a := congrArg (fun l => l[0]?) q
    have b := congrArg (fun l => l[1]?) q
    simp only [List.getElem?_take, List.getElem?_drop] at a b
    refine ⟨(hc _).trans ?_, (hc _).trans ?_⟩
    · rw [← Array.getElem?_toList]; simpa using a
    · rw [← Array.getElem?_toList]; simpa using b

end Go.Proofs.YtacbemilicdklaaDoor.door

/- WetMatches, for every field and every list of amounts, the list of directions being what the program's text lays: the tied card. No condition. -/
namespace Go.Proofs.YtacbemilicdklaaDoor.wetMatches
open Go.ChangeShapes Go.WideShapes Go.ChangeAt Go.RowKit Go.Joins door
set_option linter.unusedVariables false

set_option maxRecDepth 100000 in
theorem lifted (os : Os) (started : os.Started) (H : Type) (enc : TypeId × Value → H) :
    ReturnsInHanded {} Tryd.checked os 9 .any (fun w args => (Rows.wetMatchesSpec.pre enc Tryd.prog Tryd.f9 [] false w args ∧ laidMetH Tryd.prog laidX w) ∧ sizedMet enc Tryd.prog Tryd.f9 (OpenSpec.ofChange Rows.wetMatchesSpec) false w args)
      (Rows.wetMatchesSpec.post enc Tryd.prog Tryd.f9 false true false false) := by
  refine returnsInHanded_of_change_and (C := Tryd.checked) (X := fun w _ => laidMetH Tryd.prog laidX w) (fun _ _ _ hh h => h.of_heap hh) own started (by kernel_rfl) Tryd.func9
    (ChangeSpec.witness_shaped (enc := enc) (C := Tryd.checked) (os := os) (X := fun w _ => laidMetH Tryd.prog laidX w) false (World.doorLaid Tryd.prog 400 os) #[fldV 0 0 0 0 (.slice none 0 0), .slice none 0 0] 8 rfl (World.shaped_of_RefB (by kernel_rfl) (by kernel_rfl)) (by kernel_rfl) (by kernel_rfl) (by kernel_rfl) (door_met os _)) ?_
  intro W base args ds gs before hval0 hW _ _ hL _
  have hval : ∀ (j : Nat) t v, Tryd.f9.params[j]? = some t → args[j]? = some v → Value.okWide Tryd.prog W .any base t v := hval0
  have hW' := hW
  have hplt : ∀ x ∈ before, x.block < W.heap.size := fun x hx => by simpa using hW'.lt x hx
  obtain ⟨p, q, hA0, hV, rfl, hfz, hnd⟩ := hW
  have hA : DataW.TrodAll enc Tryd.prog W 0 (fun _ => true) true Tryd.f9.params.toList args.toList ds p := hA0
  rw [Tryd.params9] at hA hval
  obtain ⟨v0, vs0, d0, ds0, p0, q0, hargs, rfl, rfl, h0, r0⟩ := trodAll_cons hA
  obtain ⟨v1, vs1, d1, ds1, p1, q1, rfl, rfl, rfl, h1, r1⟩ := trodAll_cons r0
  obtain ⟨rfl, rfl, rfl⟩ := trodAll_nil r1
  obtain rfl : args = #[v0, v1] := by cases args; simp_all
  obtain ⟨rfl, rfl⟩ := trodVars_none hV
  obtain ⟨X, Y, W0, H0, s, rfl, hs⟩ := open_field (hval 0 26 v0 rfl rfl) h0
  obtain ⟨a2, len, cap, rfl⟩ := okWide_slice Tryd.underlying40 (hval 1 40 v1 rfl rfl)
  have h1' := h1
  obtain ⟨fuel, hf⟩ := h1'
  have hlt : ∀ x ∈ p0, x.block < W.heap.size := fun x hx => hplt x (by simp [hx])
  have hlt1 : ∀ x ∈ p1, x.block < W.heap.size := fun x hx => hplt x (by simp [hx])
  clear hA0 hval0 hplt
  simp only [List.append_nil] at hW'
  have main : Calls Tryd.prog 9 #[fldV X Y W0 H0 s, .slice a2 len cap] W fun e w' => e = .returned (.bool true) ∧ Below W.heap.size W w' := by
    have hs' : (∃ a cap, s = .slice a 0 cap) ∨ ∃ b off len cap x, s = .slice (some ⟨b, off, none⟩) len cap ∧ 0 < len ∧ len ≤ 9223372036854775807 ∧ FlAt W b off len x := hs.imp id fun ⟨b, off, len, cap, x, e, h1, h2, h3, _⟩ => ⟨b, off, len, cap, x, e, h1, h2, h3⟩
    rcases open_ints Tryd.underlying40 Tryd.underlying3 cellsI hf with ⟨hcs, _⟩ | ⟨a', len', cap', zs, hcs, _, hl, hm, hz, _, hcell, _⟩
    · cases hcs
      exact wetLaw_any (c := fun _ => 0) hs' (.inl rfl) (by omega) (dirs_of_laid hL)
    · cases hcs
      have hcap : cap ≤ 9223372036854775807 := Nat.le_trans hm (by decide)
      refine wetLaw_any (c := fun j => zs.getD j 0) hs' ?_ (by omega) (dirs_of_laid hL)
      rcases Nat.eq_zero_or_pos len with z | z
      · exact .inl z
      · have hzl : len ≤ zs.length := by rw [hz]; split <;> omega
        have h0 := hcell 0 (by omega)
        obtain ⟨b, off, spot⟩ := a'
        have hspot : spot = none := by simpa [Addr.add] using World.cell?_spot h0
        subst hspot
        exact .inr ⟨b, off, rfl, fun i hi => by rw [← Go.WideShapes.add_plain]; exact hcell i (by omega)⟩
  refine main.mono fun e W' ⟨he, hb⟩ => ?_
  subst he
  exact ⟨_, rfl, _, _, _, [], _, [], hW', trodAll_cons_mk (shut_bool Tryd.underlying4 _) trodAll_mk0, trodAll_cons_mk (Below.trod laidOut (by kernel_rfl) (of_decide_eq_true (by kernel_rfl)) h0 hb hlt) (trodAll_cons_mk (Below.trod laidOut (by kernel_rfl) (of_decide_eq_true (by kernel_rfl)) h1 hb hlt1) trodAll_mk0), rfl, hb.frame _, fun h => by cases h⟩

theorem over : Rows.WetMatchesSaid :=
  OpenClaim.holds_of_wide 9 Tryd.f9 rfl rfl rfl rfl rfl rfl rfl ⟨rfl, rfl, rfl, rfl, rfl⟩ rfl rfl rfl rfl rfl (by kernel_rfl) Tryd.func9 (by kernel_rfl)
    (of_decide_eq_true (by kernel_rfl)) (by unfold Func.isWrapper; rw [if_neg (of_decide_eq_false (by kernel_rfl))]; exact ⟨rfl, rfl⟩)
    (fun os started H enc _ => lifted os started H enc)

theorem proved : Rows.WetMatchesCardSaid :=
  Claim7.holds_tied_plain_at .later [] [.data] true (true, "6fdcf3f2f78e6d341d136240db9de05bdb82b17003d6628a22dbf52f7b54976f") true
    over (fun _ h => by cases h) (by kernel_rfl) (fun _ h => by cases h) wetMatches_row_tie rfl ⟨rfl, rfl⟩ (by kernel_rfl) rfl
    (fun f fn hf hfn => by
      obtain rfl : f = 9 := Option.some.inj ((show Tryd.prog.funcNamed "tarnfell/tarnlaw2.WetMatches" = some 9 by kernel_rfl).symm.trans hf) |>.symm
      obtain rfl : fn = Tryd.f9 := (Option.some.inj (Tryd.func9.symm.trans hfn)).symm
      exact ⟨by kernel_rfl, fun j t ht => by
        rw [Tryd.params9] at ht
        have hm : t ∈ [26, 40] := by simpa using Array.mem_of_getElem? ht
        have hall : ([26, 40].all fun u => !Tryd.prog.wantsStandIn u) = true := by kernel_rfl
        exact (show Tryd.prog.wantsStandIn t = false by simpa using List.all_eq_true.1 hall t hm)⟩)
    (by kernel_rfl)
#print axioms proved
end Go.Proofs.YtacbemilicdklaaDoor.wetMatches
