/- SuitsMatch, for every kind, every ground and every four singles: Slack and Suit answer as the references do. No condition. -/
import Derived.Test.YtkjpjppfmfifeaaSuiJB
import Derived.Deep.Light
import Derived.Deep.RegionHeld3
import Derived.ProofKit
import Derived.OpenShut
import Derived.Lib.SmallJoins
import Derived.Laws.Cover2
import Derived.Deep.Slices

/- CheckKind of the program, KindError of the reference: a kind's error. -/
namespace Go.Proofs.Ytkjpjppfmfifeaa
open Go.RowKit Fl
set_option linter.unusedVariables false

theorem fld_ten {k : Knd} (h : fldE 10 k.f = 0) : hgtB k.lo = true ∧ hgtB k.hi = true ∧ hgtB k.so = true ∧ hgtB k.st = true ∧ hgtB k.dr = true ∧ hgtB k.da = true ∧ hgtB k.tp = true ∧ hgtB k.pa = true ∧ hgtB k.sh = true ∧ hgtB k.ba = true := by
  have := allB_iff.1 (fldE_zero.1 h)
  exact ⟨this 0 (by omega), this 1 (by omega), this 2 (by omega), this 3 (by omega), this 4 (by omega), this 5 (by omega), this 6 (by omega), this 7 (by omega), this 8 (by omega), this 9 (by omega)⟩

theorem err_name {k : Knd} (h : namB k.name = false) : k.err = 6 := by unfold Knd.err; rw [if_pos h]
theorem err_fld {k : Knd} (n : namB k.name = true) (h : fldE 10 k.f ≠ 0) : k.err = fldE 10 k.f := by unfold Knd.err; rw [if_neg (by simp [n]), if_pos h]
theorem err_ord {k : Knd} (n : namB k.name = true) (h : fldE 10 k.f = 0) (o : ltB k.hi k.lo = true ∨ ltB k.da k.dr = true) : k.err = 8 := by unfold Knd.err; rw [if_neg (by simp [n]), if_neg (by simp [h]), if_pos o]
theorem err_rest {k : Knd} (n : namB k.name = true) (h : fldE 10 k.f = 0) (o1 : ltB k.hi k.lo = false) (o2 : ltB k.da k.dr = false) : k.err = if k.rng = false then 3 else if withinB k.sp 0 32 = false ∨ withinB k.th 0 32 = false then 3 else 0 := by
  unfold Knd.err; rw [if_neg (by simp [n]), if_neg (by simp [h]), if_neg (by simp [o1, o2])]

set_option maxHeartbeats 4000000 in
theorem checkKind_any (k : Knd) (hs : k.name.size ≤ 9223372036854775807) (w : World) : Calls Try.prog 39 #[kndV k] w fun e w' => e = .returned (.int .i64 k.err) ∧ Below w.heap.size w w' := by
  have NA := Lib.hid (fun w => isName_any k.name hs w)
  have CH := Lib.hid (fun p w (h : w.heap[p]? = some (tenO k)) => CheckHeights_row p 0 10 10 k.f (by omega) w (flAt_ten h))
  have WI := Lib.hid (fun n a b w => within_any n a b w)
  have EE := Lib.hid (show k.err = k.err from rfl)
  cases n : namB k.name with
  | false =>
    rw [n] at NA
    have E := Lib.hid (err_name n)
    clear n hs
    go_enter Try.func39, Try.ntmps39
    go_wp2_with (first | (go_at_call 98; refine (NA.out _).mono ?_; rintro e w' ⟨rfl, rfl⟩))
    go_ret
    exact ⟨ret_int E.out.symm, (by repeat (first | exact Below.refl _ _ | refine Below.alloc ?_ (by first | omega | (simp; done) | (simp; omega)) _ | refine Below.setCell ?_ (by first | omega | (simp; done) | (simp; omega)) _ | refine Below.drew ?_))⟩
  | true =>
    rw [n] at NA
    by_cases h : fldE 10 k.f = 0
    · have H := fld_ten h
      rw [h] at CH
      cases o1 : ltB k.hi k.lo with
      | true =>
        have E := Lib.hid (err_ord n h (.inl o1))
        unfold ltB at o1
        clear n h H hs
        go_enter Try.func39, Try.ntmps39
        go_wp2_with (first | (go_at_call 98; refine (NA.out _).mono ?_; rintro e w' ⟨rfl, rfl⟩) | (go_at_call 65; refine (CH.out _ _ (by ((simp only [heap_alloc_get, heap_size_alloc, if_true]) <;> ((repeat' split) <;> first | rfl | omega)))).mono ?_; rintro e w' ⟨rfl, rfl⟩))
        go_ret
        exact ⟨ret_int E.out.symm, (by repeat (first | exact Below.refl _ _ | refine Below.alloc ?_ (by first | omega | (simp; done) | (simp; omega)) _ | refine Below.setCell ?_ (by first | omega | (simp; done) | (simp; omega)) _ | refine Below.drew ?_))⟩
      | false =>
        cases o2 : ltB k.da k.dr with
        | true =>
          have E := Lib.hid (err_ord n h (.inr o2))
          unfold ltB at o1 o2
          clear n h H hs
          go_enter Try.func39, Try.ntmps39
          go_wp2_with (first | (go_at_call 98; refine (NA.out _).mono ?_; rintro e w' ⟨rfl, rfl⟩) | (go_at_call 65; refine (CH.out _ _ (by ((simp only [heap_alloc_get, heap_size_alloc, if_true]) <;> ((repeat' split) <;> first | rfl | omega)))).mono ?_; rintro e w' ⟨rfl, rfl⟩))
          go_ret
          exact ⟨ret_int E.out.symm, (by repeat (first | exact Below.refl _ _ | refine Below.alloc ?_ (by first | omega | (simp; done) | (simp; omega)) _ | refine Below.setCell ?_ (by first | omega | (simp; done) | (simp; omega)) _ | refine Below.drew ?_))⟩
        | false =>
          have E := Lib.hid (err_rest n h o1 o2)
          obtain ⟨_, _, h3, h4, h5, _, h7, h8, h9, h10⟩ := H
          obtain ⟨a3, v3, _⟩ := hgt_val h3
          obtain ⟨a4, v4, _⟩ := hgt_val h4
          obtain ⟨a5, v5, _⟩ := hgt_val h5
          obtain ⟨a7, v7, _⟩ := hgt_val h7
          obtain ⟨a8, v8, _⟩ := hgt_val h8
          obtain ⟨a9, v9, _⟩ := hgt_val h9
          obtain ⟨a10, v10, _⟩ := hgt_val h10
          obtain ⟨r, m, e1, vr, hm⟩ := run_min_seven #[] 0 v3 v4 v5 v7 v8 v9 v10
          have mn : ∀ (ts : Array TypeId) (t : TypeId) (w : World), (Builtin.min_ ts t #[.float .f32 k.so, .float .f32 k.st, .float .f32 k.dr, .float .f32 k.tp, .float .f32 k.pa, .float .f32 k.sh, .float .f32 k.ba]).run Try.prog w = .ok (.float .f32 r) w := fun _ _ w => e1 w
          obtain ⟨r', e2, vr', _⟩ := run_max_two #[] 0 v9 v10
          have mx : ∀ (ts : Array TypeId) (t : TypeId) (w : World), (Builtin.max_ ts t #[.float .f32 k.sh, .float .f32 k.ba]).run Try.prog w = .ok (.float .f32 r') w := fun _ _ w => e2 w
          obtain ⟨c1, hc1⟩ : ∃ c1, (FloatKind.f32.format.order r 0 == some .lt) = c1 := ⟨_, rfl⟩
          obtain ⟨c2, hc2⟩ : ∃ c2, (FloatKind.f32.format.order r' 1065353216 == some .gt) = c2 := ⟨_, rfl⟩
          have hr : k.rng = !(c1 || c2) := by
            unfold Knd.rng ltB
            rw [← hc1, ← hc2]
            simp only [f32fmt]
            rw [lss_val vr vS_zero, gtr_val vr' vS_one, lss_val v3 vS_zero, lss_val v4 vS_zero, lss_val v5 vS_zero, lss_val v7 vS_zero, lss_val v8 vS_zero, lss_val v9 vS_zero, lss_val v10 vS_zero, gtr_val v9 vS_one, gtr_val v10 vS_one]
            have hx : (one : Int) < (if a9 < a10 then a10 else a9) ↔ (one : Int) < a9 ∨ (one : Int) < a10 := by split <;> omega
            rw [Bool.eq_iff_iff]
            simp only [Bool.not_eq_true', Bool.or_eq_false_iff, decide_eq_false_iff_not, hm, hx]
            grind
          rw [hr] at E
          unfold ltB at o1 o2
          clear n h hs h3 h4 h5 h7 h8 h9 h10 v3 v4 v5 v7 v8 v9 v10 vr vr' hm e1 e2 hr
          cases c1 with
          | true =>
            go_enter Try.func39, Try.ntmps39
            go_wp2_with (first | (go_at_call 98; refine (NA.out _).mono ?_; rintro e w' ⟨rfl, rfl⟩) | (go_at_call 65; refine (CH.out _ _ (by ((simp only [heap_alloc_get, heap_size_alloc, if_true]) <;> ((repeat' split) <;> first | rfl | omega)))).mono ?_; rintro e w' ⟨rfl, rfl⟩))
            go_ret
            exact ⟨ret_int (by rw [E.out]; rfl), (by repeat (first | exact Below.refl _ _ | refine Below.alloc ?_ (by first | omega | (simp; done) | (simp; omega)) _ | refine Below.setCell ?_ (by first | omega | (simp; done) | (simp; omega)) _ | refine Below.drew ?_))⟩
          | false =>
            cases c2 with
            | true =>
              go_enter Try.func39, Try.ntmps39
              go_wp2_with (first | (go_at_call 98; refine (NA.out _).mono ?_; rintro e w' ⟨rfl, rfl⟩) | (go_at_call 65; refine (CH.out _ _ (by ((simp only [heap_alloc_get, heap_size_alloc, if_true]) <;> ((repeat' split) <;> first | rfl | omega)))).mono ?_; rintro e w' ⟨rfl, rfl⟩))
              go_ret
              exact ⟨ret_int (by rw [E.out]; rfl), (by repeat (first | exact Below.refl _ _ | refine Below.alloc ?_ (by first | omega | (simp; done) | (simp; omega)) _ | refine Below.setCell ?_ (by first | omega | (simp; done) | (simp; omega)) _ | refine Below.drew ?_))⟩
            | false =>
              obtain ⟨p1, hp1⟩ : ∃ p1, withinB k.sp 0 32 = p1 := ⟨_, rfl⟩
              obtain ⟨p2, hp2⟩ : ∃ p2, withinB k.th 0 32 = p2 := ⟨_, rfl⟩
              have W1 := Lib.hid (fun w => WI.out k.sp 0 32 w)
              have W2 := Lib.hid (fun w => WI.out k.th 0 32 w)
              rw [hp1] at W1 E
              rw [hp2] at W2 E
              clear hp1 hp2 WI
              cases p1 <;> cases p2
              all_goals
                go_enter Try.func39, Try.ntmps39
                go_wp2_with (first | (go_at_call 98; refine (NA.out _).mono ?_; rintro e w' ⟨rfl, rfl⟩) | (go_at_call 65; refine (CH.out _ _ (by ((simp only [heap_alloc_get, heap_size_alloc, if_true]) <;> ((repeat' split) <;> first | rfl | omega)))).mono ?_; rintro e w' ⟨rfl, rfl⟩) | (go_at_call 99; (with_reducible refine (W1.out _).mono ?_); rintro e w' ⟨rfl, rfl⟩) | (go_at_call 99; (with_reducible refine (W2.out _).mono ?_); rintro e w' ⟨rfl, rfl⟩))
                go_ret
                exact ⟨ret_int (by rw [E.out]; rfl), (by repeat (first | exact Below.refl _ _ | refine Below.alloc ?_ (by first | omega | (simp; done) | (simp; omega)) _ | refine Below.setCell ?_ (by first | omega | (simp; done) | (simp; omega)) _ | refine Below.drew ?_))⟩
    · have E := Lib.hid (err_fld n h)
      have h' : (fldE 10 k.f != 0) = true := by simp [h]
      clear n h hs
      generalize fldE 10 k.f = er at *
      go_enter Try.func39, Try.ntmps39
      go_wp2_with (first | (go_at_call 98; refine (NA.out _).mono ?_; rintro e w' ⟨rfl, rfl⟩) | (go_at_call 65; refine (CH.out _ _ (by ((simp only [heap_alloc_get, heap_size_alloc, if_true]) <;> ((repeat' split) <;> first | rfl | omega)))).mono ?_; rintro e w' ⟨rfl, rfl⟩))
      go_ret
      exact ⟨ret_int E.out.symm, (by repeat (first | exact Below.refl _ _ | refine Below.alloc ?_ (by first | omega | (simp; done) | (simp; omega)) _ | refine Below.setCell ?_ (by first | omega | (simp; done) | (simp; omega)) _ | refine Below.drew ?_))⟩
end Go.Proofs.Ytkjpjppfmfifeaa

/- KindError of the reference: a kind's error. -/
namespace Go.Proofs.Ytkjpjppfmfifeaa
open Go.RowKit Fl
set_option linter.unusedVariables false

theorem bytes_len (s : ByteArray) : s.toList.length = s.size := by
  rw [Go.ByteArray.toList_eq]; rfl
structure ErrOf (k : Knd) : Prop where
  fld : fldE 10 k.f ≠ 0 → k.err = fldE 10 k.f
  ord : fldE 10 k.f = 0 → FloatKind.f32.format.order k.hi k.lo = some .lt ∨ FloatKind.f32.format.order k.da k.dr = some .lt → k.err = 8
  rng : fldE 10 k.f = 0 → ¬ FloatKind.f32.format.order k.hi k.lo = some .lt → ¬ FloatKind.f32.format.order k.da k.dr = some .lt →
    FloatKind.f32.format.order k.so 0 = some .lt ∨ FloatKind.f32.format.order k.st 0 = some .lt ∨ FloatKind.f32.format.order k.dr 0 = some .lt ∨ FloatKind.f32.format.order k.tp 0 = some .lt ∨ FloatKind.f32.format.order k.pa 0 = some .lt ∨ FloatKind.f32.format.order k.sh 0 = some .lt ∨ FloatKind.f32.format.order k.sh 1065353216 = some .gt ∨ FloatKind.f32.format.order k.ba 0 = some .lt ∨ FloatKind.f32.format.order k.ba 1065353216 = some .gt → k.err = 3
  far : fldE 10 k.f = 0 → ¬ FloatKind.f32.format.order k.hi k.lo = some .lt → ¬ FloatKind.f32.format.order k.da k.dr = some .lt → k.sp < 0 ∨ 32 < k.sp ∨ k.th < 0 ∨ 32 < k.th → k.err = 3
  ok : fldE 10 k.f = 0 → ¬ FloatKind.f32.format.order k.hi k.lo = some .lt → ¬ FloatKind.f32.format.order k.da k.dr = some .lt →
    ¬ FloatKind.f32.format.order k.so 0 = some .lt → ¬ FloatKind.f32.format.order k.st 0 = some .lt → ¬ FloatKind.f32.format.order k.dr 0 = some .lt → ¬ FloatKind.f32.format.order k.tp 0 = some .lt → ¬ FloatKind.f32.format.order k.pa 0 = some .lt → ¬ FloatKind.f32.format.order k.sh 0 = some .lt → ¬ FloatKind.f32.format.order k.sh 1065353216 = some .gt → ¬ FloatKind.f32.format.order k.ba 0 = some .lt → ¬ FloatKind.f32.format.order k.ba 1065353216 = some .gt →
    0 ≤ k.sp → k.sp ≤ 32 → 0 ≤ k.th → k.th ≤ 32 → k.err = 0
theorem ltB_iff {a b : Nat} : ltB a b = true ↔ FloatKind.f32.format.order a b = some .lt := by unfold ltB; simp
theorem ltB_no {a b : Nat} : ltB a b = false ↔ ¬ FloatKind.f32.format.order a b = some .lt := by rw [← ltB_iff]; simp
theorem err_of {k : Knd} (n : namB k.name = true) : ErrOf k := by
  refine ⟨err_fld n, fun h o => err_ord n h (by rw [ltB_iff, ltB_iff]; exact o), fun h o1 o2 r => ?_, fun h o1 o2 r => ?_, fun h o1 o2 r1 r2 r3 r4 r5 r6 r7 r8 r9 s1 s2 s3 s4 => ?_⟩
  · rw [err_rest n h (ltB_no.2 o1) (ltB_no.2 o2), if_pos]
    unfold Knd.rng
    simp only [ltB]
    simp
    grind
  · rw [err_rest n h (ltB_no.2 o1) (ltB_no.2 o2)]
    split
    · rfl
    · rw [if_pos (by simp only [withinB_no]; omega)]
  · rw [err_rest n h (ltB_no.2 o1) (ltB_no.2 o2), if_neg, if_neg]
    · rw [withinB_iff.2 ⟨s1, s2⟩, withinB_iff.2 ⟨s3, s4⟩]; simp
    · unfold Knd.rng
      simp [ltB, r1, r2, r3, r4, r5, r6, r7, r8, r9]

set_option maxHeartbeats 8000000 in
theorem qKindError_any (k : Knd) (hs : k.name.size ≤ 9223372036854775807) (w : World) : Calls Try.prog 40 #[kndV k] w fun e w' => e = .returned (.int .i64 k.err) ∧ Below w.heap.size w w' := by
  have CH := Lib.hid (fun p w (h : w.heap[p]? = some (tenO k)) => qNumberError_row p 0 10 10 k.f (by omega) w (flAt_ten h))
  go_enter Try.func40, Try.ntmps40
  go_wp2
  go_loop [8] (fun i => ∃ j : Nat, j ≤ k.name.size ∧ i = .int .i64 j ∧ allB j (fun i => decide (97 ≤ byt k.name i ∧ byt k.name i ≤ 122)) = true) (fun i => k.name.size - (intOf i).toNat)
  case atStart => exact ⟨0, Nat.zero_le _, rfl, rfl⟩
  case round =>
    obtain ⟨j, hj, rfl, hall⟩ := hrel
    have HA := Lib.hid hall
    clear hall
    by_cases hlt : j < k.name.size
    · obtain ⟨B, hB⟩ : ∃ B, byt k.name j = B := ⟨_, rfl⟩
      have e1 : ((k.name[((j : Int)).toNat]'(by omega)).toNat : Int) = B := by rw [← hB]; exact byt_at (by omega)
      have ix : ∀ w : World, (Instr.index 9 (.string k.name) (.int .i64 (j : Int))).run Try.prog w = .ok (.int .u8 B) w := fun w => by
        rw [run_index_string (P := Try.prog) w 9 k.name .i64 j Try.underlying9, dif_pos ⟨by omega, by omega⟩, e1]
      have C := Lib.hid hB
      clear e1 hB
      by_cases c : 97 ≤ B ∧ B ≤ 122
      · obtain ⟨c1, c2⟩ := c
        go_wp2
        go_round
        case rel => exact ⟨j + 1, by omega, by go_num, allB_iff.2 fun i hi => by
          rcases Nat.lt_or_ge i j with c | c
          · exact allB_iff.1 HA.out i c
          · rw [show i = j by omega, C.out]; exact decide_eq_true ⟨c1, c2⟩⟩
        case measure => simp [intOf]; omega
      · have HN := Lib.hid (show namB k.name = false by
          unfold namB ltrB
          rw [allB_no hlt (by rw [C.out]; exact decide_eq_false c)]; rfl)
        by_cases c1 : B < 97
        · clear c
          go_wp2
          go_ret
          exact ⟨ret_int (err_name HN.out).symm, (by repeat (first | exact Below.refl _ _ | refine Below.alloc ?_ (by first | omega | (simp; done) | (simp; omega)) _ | refine Below.setCell ?_ (by first | omega | (simp; done) | (simp; omega)) _ | refine Below.drew ?_))⟩
        · have c2 : 122 < B := by omega
          clear c
          go_wp2
          go_ret
          exact ⟨ret_int (err_name HN.out).symm, (by repeat (first | exact Below.refl _ _ | refine Below.alloc ?_ (by first | omega | (simp; done) | (simp; omega)) _ | refine Below.setCell ?_ (by first | omega | (simp; done) | (simp; omega)) _ | refine Below.drew ?_))⟩
    · have hkn : j = k.name.size := by omega
      subst hkn
      have HLEN := Lib.hid (bytes_len k.name)
      have HL := Lib.hid (show ltrB k.name = true from HA.out)
      go_wp2_with (first | (go_at_call 43; refine (CH.out _ _ (by ((simp only [heap_alloc_get, heap_size_alloc, if_true]) <;> ((repeat' split) <;> first | rfl | omega)))).mono ?_; rintro e w' ⟨rfl, rfl⟩))
      all_goals go_ret
      all_goals refine ⟨ret_int (Eq.symm ?_), (by repeat (first | exact Below.refl _ _ | refine Below.alloc ?_ (by first | omega | (simp; done) | (simp; omega)) _ | refine Below.setCell ?_ (by first | omega | (simp; done) | (simp; omega)) _ | refine Below.drew ?_))⟩
      all_goals go_light
      all_goals have hlen := HLEN.out
      all_goals have hL := HL.out
      all_goals first
        | (have q : k.name.toList = [] := by assumption
           refine err_name ?_; unfold namB; rw [hL, withinB_no.2 ?_]; rfl; rw [q] at hlen; simp at hlen; omega)
        | (have q : k.name.toList.isEmpty = true ∨ 20 < (k.name.size : Int) := by assumption
           refine err_name ?_; unfold namB; rw [hL, withinB_no.2 ?_]; rfl; rcases q with q | q; (rw [List.isEmpty_iff] at q; rw [q] at hlen; simp at hlen; omega); omega)
        | (have n : namB k.name = true := by
             unfold namB; rw [hL, withinB_iff.2]; rfl
             have : k.name.toList ≠ [] := by assumption
             have : 0 < k.name.toList.length := List.length_pos_iff.2 this
             have q : k.name.toList.isEmpty = false ∧ (k.name.size : Int) ≤ 20 := by assumption
             omega
           obtain ⟨e1, e2, e3, e4, e5⟩ := err_of n
           clear n hL hlen
           grind)
end Go.Proofs.Ytkjpjppfmfifeaa

/- How well ground suits a kind: words and steps; hold, suit of the program, SuitOf of the reference. -/
namespace Go.Proofs.Ytkjpjppfmfifeaa
open Go.RowKit Fl
set_option linter.unusedVariables false

theorem bd_halfK : Bd 0 1056964608 := by
  obtain ⟨J, hJ⟩ : ∃ J : Nat, J = 1074 := ⟨_, rfl⟩
  have r : Ieee.single.read 1056964608 = .number false 8388608 (-24) := by decide
  have v : vS 1056964608 = some ((2 ^ (J - 1) : Nat) : Int) := by
    have := vS_lit (t := 1) (k := 23) (j := J - 1) r (by decide) (by omega)
    simpa using this
  exact bd_val' (j := J) v (by omega) (by rw [Int.natAbs_natCast]; exact Nat.pow_le_pow_right (by omega) (by omega))

/-- How well plants hold on to a slope. -/
def hldW (sl st : Nat) : Nat := if (FloatKind.f32.format.order sl st == some .gt) = true then 0 else if (FloatKind.f32.format.order st 0 == some .eq) = true then 1065353216 else subW 1065353216 (mulW 1056964608 (quoW sl st))

/-- All ways of hold, with their tests. -/
theorem hld_ways {sl st : Nat} {a b : Int} (vl : vS sl = some a) (vt : vS st = some b) (a0 : 0 ≤ a) (b0 : 0 ≤ b) {P : Prop}
    (A : (FloatKind.f32.format.order sl st == some .gt) = true → hldW sl st = 0 → P)
    (B : (FloatKind.f32.format.order sl st == some .gt) = false → (FloatKind.f32.format.order st 0 == some .eq) = true → (FloatKind.f32.format.order st 0 == some .gt) = false → hldW sl st = 1065353216 → P)
    (C : ∀ q m r, (FloatKind.f32.format.order sl st == some .gt) = false → (FloatKind.f32.format.order st 0 == some .eq) = false → (FloatKind.f32.format.order st 0 == some .gt) = true → floatBits .quo .f32 sl st = some q → floatBits .mul .f32 1056964608 q = some m → floatBits .sub .f32 1065353216 m = some r → Bd 1 r → r < 4294967296 → hldW sl st = r → P) : P := by
  by_cases k1 : b < a
  · have t : (FloatKind.f32.format.order sl st == some .gt) = true := by rw [f32fmt, gtr_val vl vt]; simpa using k1
    exact A t (by unfold hldW; rw [if_pos t])
  · have t : (FloatKind.f32.format.order sl st == some .gt) = false := by rw [f32fmt, gtr_val vl vt]; simpa using k1
    by_cases k2 : b = 0
    · have u : (FloatKind.f32.format.order st 0 == some .eq) = true := by rw [f32fmt, eql_val vt vS_zero]; simpa using k2
      exact B t u (by rw [f32fmt, gtr_val vt vS_zero]; simp; omega) (by unfold hldW; rw [if_neg (by simp [t]), if_pos u])
    · have u : (FloatKind.f32.format.order st 0 == some .eq) = false := by rw [f32fmt, eql_val vt vS_zero]; simpa using k2
      have q2 : Same2 .quo 0 sl st := div_val vl vt k2 (by omega) (by omega)
      obtain ⟨q, q1, bq⟩ := same_ex q2
      have m2 : Same2 .mul (0 + 0) 1056964608 q := mul_same (by omega) bd_halfK bq
      obtain ⟨m, m1, bm⟩ := same_ex m2
      have r2 : Same2 .sub (0 + 1) 1065353216 m := sub_same (k := 0) (by omega) (bd_one 0) bm
      obtain ⟨r, r1, br⟩ := same_ex r2
      refine C q m r t u (by rw [f32fmt, gtr_val vt vS_zero]; simp; omega) q1 m1 r1 br (sub_lt r1) ?_
      unfold hldW
      rw [if_neg (by simp [t]), if_neg (by simp [u])]
      unfold quoW
      rw [q1]
      unfold mulW
      rw [show (some q).getD 0 = q from rfl, m1]
      unfold subW
      rw [show (some m).getD 0 = m from rfl, r1]
      rfl
theorem hld_bd {sl st : Nat} {a b : Int} (vl : vS sl = some a) (vt : vS st = some b) (a0 : 0 ≤ a) (b0 : 0 ≤ b) : Bd 1 (hldW sl st) ∧ hldW sl st < 4294967296 :=
  hld_ways vl vt a0 b0 (fun _ w => by rw [w]; exact ⟨bd_zeroK 1, by decide⟩) (fun _ _ _ w => by rw [w]; exact ⟨bd_one 1, by decide⟩) (fun q m r _ _ _ _ _ _ b l w => by rw [w]; exact ⟨b, l⟩)

set_option maxHeartbeats 1000000 in
theorem hold_any (sl st : Nat) (w : World) {a b : Int} (vl : vS sl = some a) (vt : vS st = some b) (a0 : 0 ≤ a) (b0 : 0 ≤ b) :
    Calls Try.prog 128 #[.float .f32 sl, .float .f32 st] w fun e w' => e = .returned (.float .f32 (hldW sl st)) ∧ w = w' := by
  refine hld_ways vl vt a0 b0 (fun t hw => ?_) (fun t u _ hw => ?_) (fun q m r t u _ q1 m1 r1 _ _ hw => ?_)
  · rw [hw]
    clear vl vt a0 b0 hw
    go_enter Try.func128, Try.ntmps128
    go_wp2
    go_ret
    exact ⟨rfl, rfl⟩
  · rw [hw]
    clear vl vt a0 b0 hw
    go_enter Try.func128, Try.ntmps128
    go_wp2
    go_ret
    exact ⟨rfl, rfl⟩
  · rw [hw]
    have e1 := fun (W : World) => run_float_arith (P := Try.prog) W .quo 30 .f32 sl st q q1
    have e2 := fun (W : World) => run_float_arith (P := Try.prog) W .mul 30 .f32 1056964608 q m m1
    have e3 := fun (W : World) => run_float_arith (P := Try.prog) W .sub 30 .f32 1065353216 m r r1
    clear vl vt a0 b0 hw q1 m1 r1
    go_enter Try.func128, Try.ntmps128
    go_wp2
    go_ret
    exact ⟨rfl, rfl⟩

/-- A right kind. -/
structure KndOk (k : Knd) : Prop where
  name : namB k.name = true
  f : fldE 10 k.f = 0
  o1 : ltB k.hi k.lo = false
  o2 : ltB k.da k.dr = false
  rng : k.rng = true
  sp : 0 ≤ k.sp ∧ k.sp ≤ 32
  th : 0 ≤ k.th ∧ k.th ≤ 32
theorem knd_ok {k : Knd} (e : k.err = 0) : KndOk k := by
  cases n : namB k.name with
  | false => rw [err_name n] at e; cases e
  | true =>
    by_cases h : fldE 10 k.f = 0
    · cases o1 : ltB k.hi k.lo with
      | true => rw [err_ord n h (.inl o1)] at e; cases e
      | false =>
        cases o2 : ltB k.da k.dr with
        | true => rw [err_ord n h (.inr o2)] at e; cases e
        | false =>
          rw [err_rest n h o1 o2] at e
          cases r : k.rng with
          | false => rw [if_pos r] at e; cases e
          | true =>
            rw [if_neg (by simp [r])] at e
            by_cases q : withinB k.sp 0 32 = false ∨ withinB k.th 0 32 = false
            · rw [if_pos q] at e; cases e
            · simp only [not_or, Bool.not_eq_false] at q
              exact ⟨n, h, o1, o2, r, withinB_iff.1 q.1, withinB_iff.1 q.2⟩
    · rw [err_fld n h] at e; exact absurd e h
/-- Its numbers are heights from 0 on. -/
theorem KndOk.pos {k : Knd} (K : KndOk k) : (∃ b, vS k.so = some b ∧ 0 ≤ b) ∧ (∃ b, vS k.st = some b ∧ 0 ≤ b) ∧ (∃ b, vS k.dr = some b ∧ 0 ≤ b) ∧ (∃ b, vS k.tp = some b ∧ 0 ≤ b) ∧ (∃ b, vS k.pa = some b ∧ 0 ≤ b) ∧ (∃ b, vS k.sh = some b ∧ 0 ≤ b ∧ b ≤ (one : Int)) ∧ ∃ b, vS k.ba = some b ∧ 0 ≤ b ∧ b ≤ (one : Int) := by
  obtain ⟨h1, h2, h3, h4, h5, h6, h7, h8, h9, h10⟩ := fld_ten K.f
  obtain ⟨a3, v3, _⟩ := hgt_val h3
  obtain ⟨a4, v4, _⟩ := hgt_val h4
  obtain ⟨a5, v5, _⟩ := hgt_val h5
  obtain ⟨a7, v7, _⟩ := hgt_val h7
  obtain ⟨a8, v8, _⟩ := hgt_val h8
  obtain ⟨a9, v9, _⟩ := hgt_val h9
  obtain ⟨a10, v10, _⟩ := hgt_val h10
  have r := K.rng
  unfold Knd.rng ltB at r
  simp only [f32fmt] at r
  rw [lss_val v3 vS_zero, lss_val v4 vS_zero, lss_val v5 vS_zero, lss_val v7 vS_zero, lss_val v8 vS_zero, lss_val v9 vS_zero, lss_val v10 vS_zero, gtr_val v9 vS_one, gtr_val v10 vS_one] at r
  simp only [Bool.not_eq_true', Bool.or_eq_false_iff, decide_eq_false_iff_not, Int.not_lt] at r
  obtain ⟨⟨⟨⟨⟨⟨⟨⟨r1, r2⟩, r3⟩, r4⟩, r5⟩, r6⟩, r7⟩, r8⟩, r9⟩ := r
  exact ⟨⟨a3, v3, r1⟩, ⟨a4, v4, r2⟩, ⟨a5, v5, r3⟩, ⟨a7, v7, r4⟩, ⟨a8, v8, r5⟩, ⟨a9, v9, r6, r7⟩, ⟨a10, v10, r8, r9⟩⟩

/-- How well ground suits. -/
def suiW (k : Knd) (ht sl we : Nat) : Nat := mulW (mulW (slkW ht k.lo k.hi k.so) (hldW sl k.st)) (slkW we k.dr k.da (addW k.dr 1065353216))
structure SuiAt (k : Knd) (ht sl we d p r : Nat) : Prop where
  d1 : floatBits .add .f32 k.dr 1065353216 = some d
  p1 : floatBits .mul .f32 (slkW ht k.lo k.hi k.so) (hldW sl k.st) = some p
  r1 : floatBits .mul .f32 p (slkW we k.dr k.da d) = some r
  w : suiW k ht sl we = r
  bd : Bd 3 r
  lt : r < 4294967296
  vd : ∃ z, vS d = some z
theorem sui_parts {k : Knd} (K : KndOk k) {ht sl we : Nat} {a : Int} (hh : hgtB ht = true) (vl : vS sl = some a) (a0 : 0 ≤ a) (hw : hgtB we = true) : ∃ d p r, SuiAt k ht sl we d p r := by
  obtain ⟨h1, h2, h3, h4, h5, h6, h7, h8, h9, h10⟩ := fld_ten K.f
  obtain ⟨⟨b3, v3, _⟩, ⟨b4, v4, p4⟩, _⟩ := K.pos
  have d2 : Same2 .add (20 + 1) k.dr 1065353216 := add_same (k := 20) (by omega) (hgt_bd h5) (bd_one 20)
  obtain ⟨d, d1, bd⟩ := same_ex d2
  obtain ⟨z, vd, _⟩ := val_bd bd
  have S1 := slk_inn hh h1 h2 v3 K.o1
  have S2 := slk_inn hw h5 h6 vd K.o2
  have H := hld_bd vl v4 a0 p4
  have p2 : Same2 .mul (1 + 1) (slkW ht k.lo k.hi k.so) (hldW sl k.st) := mul_same (by omega) S1.bd H.1
  obtain ⟨p, p1, bp⟩ := same_ex p2
  have r2 : Same2 .mul (1 + 1 + 1) p (slkW we k.dr k.da d) := mul_same (by omega) bp S2.bd
  obtain ⟨r, r1, br⟩ := same_ex r2
  refine ⟨d, p, r, d1, p1, r1, ?_, br, mul_lt r1, z, vd⟩
  unfold suiW
  rw [show addW k.dr 1065353216 = d by unfold addW; rw [d1]; rfl, show mulW (slkW ht k.lo k.hi k.so) (hldW sl k.st) = p by unfold mulW; rw [p1]; rfl]
  unfold mulW; rw [r1]; rfl

abbrev gndV (ht sl we : Nat) : Value := .agg #[.float .f32 ht, .float .f32 sl, .float .f32 we]
abbrev gndO (ht sl we : Nat) : Obj := .cells #[.float .f32 ht, .float .f32 sl, .float .f32 we] 66

set_option maxHeartbeats 2000000 in
theorem suit_any (k : Knd) (ht sl we : Nat) (w : World) (K : KndOk k) {a : Int} (hh : hgtB ht = true) (vl : vS sl = some a) (a0 : 0 ≤ a) (hw : hgtB we = true) :
    Calls Try.prog 101 #[kndV k, gndV ht sl we] w fun e w' => e = .returned (.float .f32 (suiW k ht sl we)) ∧ Below w.heap.size w w' := by
  obtain ⟨d, p, r, S⟩ := sui_parts K hh vl a0 hw
  obtain ⟨h1, h2, h3, h4, h5, h6, h7, h8, h9, h10⟩ := fld_ten K.f
  obtain ⟨⟨b3, v3, _⟩, ⟨b4, v4, p4⟩, _⟩ := K.pos
  obtain ⟨z, vd⟩ := S.vd
  have S1 := Lib.hid (fun w => slack_any ht k.lo k.hi k.so w hh h1 h2 v3 K.o1)
  have S2 := Lib.hid (fun w => slack_any we k.dr k.da d w hw h5 h6 vd K.o2)
  have HO := Lib.hid (fun w => hold_any sl k.st w vl v4 a0 p4)
  have e1 := fun (W : World) => run_float_arith (P := Try.prog) W .add 30 .f32 k.dr 1065353216 d S.d1
  have e2 := fun (W : World) => run_float_arith (P := Try.prog) W .mul 30 .f32 (slkW ht k.lo k.hi k.so) (hldW sl k.st) p S.p1
  have e3 := fun (W : World) => run_float_arith (P := Try.prog) W .mul 30 .f32 p (slkW we k.dr k.da d) r S.r1
  rw [S.w]
  clear S h1 h2 h3 h4 h5 h6 h7 h8 h9 h10 v3 v4 p4 vd hh vl a0 hw K
  generalize slkW ht k.lo k.hi k.so = s1 at *
  generalize slkW we k.dr k.da d = s2 at *
  generalize hldW sl k.st = s3 at *
  go_enter Try.func101, Try.ntmps101
  go_wp2_with (first | (go_at_call 100; (with_reducible refine Calls.mono (S1.out _) ?_); rintro e w' ⟨rfl, rfl⟩) | (go_at_call 100; (with_reducible refine Calls.mono (S2.out _) ?_); rintro e w' ⟨rfl, rfl⟩) | (go_at_call 128; (with_reducible refine Calls.mono (HO.out _) ?_); rintro e w' ⟨rfl, rfl⟩))
  go_ret
  exact ⟨rfl, (by repeat (first | exact Below.refl _ _ | refine Below.alloc ?_ (by first | omega | (simp; done) | (simp; omega)) _ | refine Below.setCell ?_ (by first | omega | (simp; done) | (simp; omega)) _ | refine Below.drew ?_))⟩

set_option maxHeartbeats 4000000 in
theorem qSuitOf_any (k : Knd) (ht sl we : Nat) (w : World) (K : KndOk k) {a : Int} (hh : hgtB ht = true) (vl : vS sl = some a) (a0 : 0 ≤ a) (hw : hgtB we = true) :
    Calls Try.prog 48 #[kndV k, gndV ht sl we] w fun e w' => e = .returned (.float .f32 (suiW k ht sl we)) ∧ Below w.heap.size w w' := by
  obtain ⟨d, p, r, S⟩ := sui_parts K hh vl a0 hw
  obtain ⟨h1, h2, h3, h4, h5, h6, h7, h8, h9, h10⟩ := fld_ten K.f
  obtain ⟨⟨b3, v3, _⟩, ⟨b4, v4, p4⟩, _⟩ := K.pos
  obtain ⟨z, vd⟩ := S.vd
  have S1 := Lib.hid (fun w => qSlackOf_any ht k.lo k.hi k.so w hh h1 h2 v3 K.o1)
  have S2 := Lib.hid (fun w => qSlackOf_any we k.dr k.da d w hw h5 h6 vd K.o2)
  have e1 := fun (W : World) => run_float_arith (P := Try.prog) W .add 30 .f32 k.dr 1065353216 d S.d1
  have e2 := fun (W : World) => run_float_arith (P := Try.prog) W .mul 30 .f32 (slkW ht k.lo k.hi k.so) (hldW sl k.st) p S.p1
  have e3 := fun (W : World) => run_float_arith (P := Try.prog) W .mul 30 .f32 p (slkW we k.dr k.da d) r S.r1
  have R := Lib.hid S.w
  refine hld_ways vl v4 a0 p4 (fun t hh' => ?_) (fun t _ u hh' => ?_) (fun q m r' t _ u q1 m1 r1 _ _ hh' => ?_)
  all_goals rw [hh'] at e2
  all_goals rw [R.out]
  · clear S h1 h2 h3 h4 h5 h6 h7 h8 h9 h10 v3 v4 p4 vd hh vl a0 hw K hh'
    generalize slkW ht k.lo k.hi k.so = s1 at *
    generalize slkW we k.dr k.da d = s2 at *
    go_enter Try.func48, Try.ntmps48
    go_wp2_with (first | (go_at_call 46; (with_reducible refine Calls.mono (S1.out _) ?_); rintro e w' ⟨rfl, rfl⟩) | (go_at_call 46; (with_reducible refine Calls.mono (S2.out _) ?_); rintro e w' ⟨rfl, rfl⟩))
    go_ret
    exact ⟨rfl, (by repeat (first | exact Below.refl _ _ | refine Below.alloc ?_ (by first | omega | (simp; done) | (simp; omega)) _ | refine Below.setCell ?_ (by first | omega | (simp; done) | (simp; omega)) _ | refine Below.drew ?_))⟩
  · clear S h1 h2 h3 h4 h5 h6 h7 h8 h9 h10 v3 v4 p4 vd hh vl a0 hw K hh'
    generalize slkW ht k.lo k.hi k.so = s1 at *
    generalize slkW we k.dr k.da d = s2 at *
    go_enter Try.func48, Try.ntmps48
    go_wp2_with (first | (go_at_call 46; (with_reducible refine Calls.mono (S1.out _) ?_); rintro e w' ⟨rfl, rfl⟩) | (go_at_call 46; (with_reducible refine Calls.mono (S2.out _) ?_); rintro e w' ⟨rfl, rfl⟩))
    go_ret
    exact ⟨rfl, (by repeat (first | exact Below.refl _ _ | refine Below.alloc ?_ (by first | omega | (simp; done) | (simp; omega)) _ | refine Below.setCell ?_ (by first | omega | (simp; done) | (simp; omega)) _ | refine Below.drew ?_))⟩
  · have f1 := fun (W : World) => run_float_arith (P := Try.prog) W .quo 30 .f32 sl k.st q q1
    have f2 := fun (W : World) => run_float_arith (P := Try.prog) W .mul 30 .f32 1056964608 q m m1
    have f3 := fun (W : World) => run_float_arith (P := Try.prog) W .sub 30 .f32 1065353216 m r' r1
    clear S h1 h2 h3 h4 h5 h6 h7 h8 h9 h10 v3 v4 p4 vd hh vl a0 hw K hh' q1 m1 r1
    generalize slkW ht k.lo k.hi k.so = s1 at *
    generalize slkW we k.dr k.da d = s2 at *
    go_enter Try.func48, Try.ntmps48
    go_wp2_with (first | (go_at_call 46; (with_reducible refine Calls.mono (S1.out _) ?_); rintro e w' ⟨rfl, rfl⟩) | (go_at_call 46; (with_reducible refine Calls.mono (S2.out _) ?_); rintro e w' ⟨rfl, rfl⟩))
    go_ret
    exact ⟨rfl, (by repeat (first | exact Below.refl _ _ | refine Below.alloc ?_ (by first | omega | (simp; done) | (simp; omega)) _ | refine Below.setCell ?_ (by first | omega | (simp; done) | (simp; omega)) _ | refine Below.drew ?_))⟩
end Go.Proofs.Ytkjpjppfmfifeaa

/- Suit with its errors; the law's bit. -/
namespace Go.Proofs.Ytkjpjppfmfifeaa
open Go.RowKit Fl
set_option linter.unusedVariables false

set_option maxHeartbeats 400000 in
theorem bit_self (x : Nat) (w : World) : Calls Try.prog 45 #[.float .f32 x, .float .f32 x] w fun e w' => e = .returned (.bool true) ∧ w = w' := by
  have h1 := f32bits
  go_enter Try.func45, Try.ntmps45
  go_wp2
  go_ret
  exact ⟨rfl, rfl⟩

/-- Three singles, as a list. -/
def tri (a b c : Nat) (i : Nat) : Nat := match i with | 0 => a | 1 => b | _ => c
theorem flAt_tri {w : World} {p a b c : Nat} (h : w.heap[p]? = some (.cells #[.float .f32 a, .float .f32 b, .float .f32 c] 30)) : FlAt w p 0 3 (tri a b c) := by
  intro i hi
  rw [Nat.zero_add, (blkC h).1 i]
  have : i = 0 ∨ i = 1 ∨ i = 2 := by omega
  rcases this with rfl | rfl | rfl <;> rfl
theorem tri_hgt {a b c : Nat} (h : fldE 3 (tri a b c) = 0) : hgtB a = true ∧ hgtB b = true ∧ hgtB c = true := by
  have := allB_iff.1 (fldE_zero.1 h)
  exact ⟨this 0 (by omega), this 1 (by omega), this 2 (by omega)⟩

/-- The error of Suit. -/
def suiE (k : Knd) (ht sl we : Nat) : Int := firstE (firstE k.err (fldE 3 (tri ht sl we))) (whenE (ltB sl 0 || ltB we 0) 3)
theorem suiE_ok {k : Knd} {ht sl we : Nat} (e : suiE k ht sl we = 0) : k.err = 0 ∧ fldE 3 (tri ht sl we) = 0 ∧ ltB sl 0 = false ∧ ltB we 0 = false := by
  unfold suiE firstE whenE at e
  grind
def suiV (k : Knd) (ht sl we : Nat) : Nat := if suiE k ht sl we = 0 then suiW k ht sl we else 0
theorem lt_zero_no {x : Nat} {a : Int} (v : vS x = some a) (h : ltB x 0 = false) : 0 ≤ a := by
  unfold ltB at h
  rw [f32fmt, lss_val v vS_zero] at h
  simpa using h

set_option maxHeartbeats 4000000 in
theorem suitX_any (k : Knd) (ht sl we : Nat) (hs : k.name.size ≤ 9223372036854775807) (w : World) :
    Calls Try.prog 47 #[kndV k, gndV ht sl we] w fun e w' => e = .returned (.tuple #[.float .f32 (suiV k ht sl we), .int .i64 (suiE k ht sl we)]) ∧ Below w.heap.size w w' := by
  have CK := Lib.hid (fun w => checkKind_any k hs w)
  have CH := Lib.hid (fun p w (q : w.heap[p]? = some (.cells #[.float .f32 ht, .float .f32 sl, .float .f32 we] 30)) => CheckHeights_row p 0 3 3 (tri ht sl we) (by omega) w (flAt_tri q))
  by_cases h0 : k.err = 0
  · have K := knd_ok h0
    rw [h0] at CK
    by_cases h1 : fldE 3 (tri ht sl we) = 0
    · obtain ⟨g1, g2, g3⟩ := tri_hgt h1
      rw [h1] at CH
      cases c1 : ltB sl 0 with
      | true =>
        have e : suiE k ht sl we = 3 := by unfold suiE firstE whenE; simp [h0, h1, c1]
        have ev : suiV k ht sl we = 0 := by unfold suiV; rw [if_neg (by omega)]
        rw [ev, e]
        unfold ltB at c1
        clear h0 h1 g1 g2 g3 e ev K
        go_enter Try.func47, Try.ntmps47
        go_wp2_with (first | (go_at_call 39; refine (CK.out _).mono ?_; rintro e w2 ⟨rfl, hb2⟩; have HK := Lib.hid (blkStay (b := w.heap.size) (o := kndO k) (by (first | (rw [heap_alloc_get, if_pos rfl]; done) | ((simp only [heap_alloc_get, heap_size_alloc, if_true]) <;> ((repeat' split) <;> first | rfl | omega)))) hb2); have HG := Lib.hid (blkStay (b := w.heap.size + 1) (o := gndO ht sl we) (by (first | (rw [heap_alloc_get, if_pos rfl]; done) | ((simp only [heap_alloc_get, heap_size_alloc, if_true]) <;> ((repeat' split) <;> first | rfl | omega)))) hb2); have hB2 : Below w.heap.size w w2 := Below.trans (by repeat (first | exact Below.refl _ _ | refine Below.alloc ?_ (by first | omega | (simp; done) | (simp; omega)) _ | refine Below.setCell ?_ (by first | omega | (simp; done) | (simp; omega)) _ | refine Below.drew ?_)) (Below.mono hb2 (by simp; omega)); clear hb2; obtain ⟨cK, fK, zK⟩ := blkC HK.out; obtain ⟨cG, fG, zG⟩ := blkC HG.out) | (go_at_call 65; refine (CH.out _ _ (by (first | (rw [heap_alloc_get, if_pos rfl]; done) | ((simp only [heap_alloc_get, heap_size_alloc, if_true]) <;> ((repeat' split) <;> first | rfl | omega))))).mono ?_; rintro e w' ⟨rfl, rfl⟩))
        go_ret2
        exact ⟨rfl, hB2.alloc hB2.size _⟩
      | false =>
        cases c2 : ltB we 0 with
        | true =>
          have e : suiE k ht sl we = 3 := by unfold suiE firstE whenE; simp [h0, h1, c1, c2]
          have ev : suiV k ht sl we = 0 := by unfold suiV; rw [if_neg (by omega)]
          rw [ev, e]
          unfold ltB at c1 c2
          clear h0 h1 g1 g2 g3 e ev K
          go_enter Try.func47, Try.ntmps47
          go_wp2_with (first | (go_at_call 39; refine (CK.out _).mono ?_; rintro e w2 ⟨rfl, hb2⟩; have HK := Lib.hid (blkStay (b := w.heap.size) (o := kndO k) (by (first | (rw [heap_alloc_get, if_pos rfl]; done) | ((simp only [heap_alloc_get, heap_size_alloc, if_true]) <;> ((repeat' split) <;> first | rfl | omega)))) hb2); have HG := Lib.hid (blkStay (b := w.heap.size + 1) (o := gndO ht sl we) (by (first | (rw [heap_alloc_get, if_pos rfl]; done) | ((simp only [heap_alloc_get, heap_size_alloc, if_true]) <;> ((repeat' split) <;> first | rfl | omega)))) hb2); have hB2 : Below w.heap.size w w2 := Below.trans (by repeat (first | exact Below.refl _ _ | refine Below.alloc ?_ (by first | omega | (simp; done) | (simp; omega)) _ | refine Below.setCell ?_ (by first | omega | (simp; done) | (simp; omega)) _ | refine Below.drew ?_)) (Below.mono hb2 (by simp; omega)); clear hb2; obtain ⟨cK, fK, zK⟩ := blkC HK.out; obtain ⟨cG, fG, zG⟩ := blkC HG.out) | (go_at_call 65; refine (CH.out _ _ (by (first | (rw [heap_alloc_get, if_pos rfl]; done) | ((simp only [heap_alloc_get, heap_size_alloc, if_true]) <;> ((repeat' split) <;> first | rfl | omega))))).mono ?_; rintro e w' ⟨rfl, rfl⟩))
          go_ret2
          exact ⟨rfl, hB2.alloc hB2.size _⟩
        | false =>
          have e : suiE k ht sl we = 0 := by unfold suiE firstE whenE; simp [h0, h1, c1, c2]
          have ev : suiV k ht sl we = suiW k ht sl we := by unfold suiV; rw [if_pos e]
          rw [ev, e]
          obtain ⟨a, va, _⟩ := hgt_val g2
          have SU := Lib.hid (fun w => suit_any k ht sl we w K g1 va (lt_zero_no va c1) g3)
          unfold ltB at c1 c2
          clear h0 h1 g1 g2 g3 e ev K va
          go_enter Try.func47, Try.ntmps47
          go_wp2_with (first | (go_at_call 39; refine (CK.out _).mono ?_; rintro e w2 ⟨rfl, hb2⟩; have HK := Lib.hid (blkStay (b := w.heap.size) (o := kndO k) (by (first | (rw [heap_alloc_get, if_pos rfl]; done) | ((simp only [heap_alloc_get, heap_size_alloc, if_true]) <;> ((repeat' split) <;> first | rfl | omega)))) hb2); have HG := Lib.hid (blkStay (b := w.heap.size + 1) (o := gndO ht sl we) (by (first | (rw [heap_alloc_get, if_pos rfl]; done) | ((simp only [heap_alloc_get, heap_size_alloc, if_true]) <;> ((repeat' split) <;> first | rfl | omega)))) hb2); have hB2 : Below w.heap.size w w2 := Below.trans (by repeat (first | exact Below.refl _ _ | refine Below.alloc ?_ (by first | omega | (simp; done) | (simp; omega)) _ | refine Below.setCell ?_ (by first | omega | (simp; done) | (simp; omega)) _ | refine Below.drew ?_)) (Below.mono hb2 (by simp; omega)); clear hb2; obtain ⟨cK, fK, zK⟩ := blkC HK.out; obtain ⟨cG, fG, zG⟩ := blkC HG.out) | (go_at_call 65; refine (CH.out _ _ (by (first | (rw [heap_alloc_get, if_pos rfl]; done) | ((simp only [heap_alloc_get, heap_size_alloc, if_true]) <;> ((repeat' split) <;> first | rfl | omega))))).mono ?_; rintro e w' ⟨rfl, rfl⟩) | (go_at_call 101; refine (SU.out _).mono ?_; rintro e w4 ⟨rfl, hb4⟩; have hB4 := Below.trans (hB2.alloc hB2.size _) (Below.mono hb4 (by have := hB2.size; simp; omega)); clear hb4))
          go_ret2
          exact ⟨rfl, hB4⟩
    · have e : suiE k ht sl we = fldE 3 (tri ht sl we) := by unfold suiE firstE whenE; simp [h0, h1]
      have ev : suiV k ht sl we = 0 := by unfold suiV; rw [if_neg (by rw [e]; exact h1)]
      rw [ev, e]
      have cz : (fldE 3 (tri ht sl we) != 0) = true := by simp [h1]
      clear h0 h1 e ev K
      generalize fldE 3 (tri ht sl we) = er at *
      go_enter Try.func47, Try.ntmps47
      go_wp2_with (first | (go_at_call 39; refine (CK.out _).mono ?_; rintro e w2 ⟨rfl, hb2⟩; have HK := Lib.hid (blkStay (b := w.heap.size) (o := kndO k) (by (first | (rw [heap_alloc_get, if_pos rfl]; done) | ((simp only [heap_alloc_get, heap_size_alloc, if_true]) <;> ((repeat' split) <;> first | rfl | omega)))) hb2); have HG := Lib.hid (blkStay (b := w.heap.size + 1) (o := gndO ht sl we) (by (first | (rw [heap_alloc_get, if_pos rfl]; done) | ((simp only [heap_alloc_get, heap_size_alloc, if_true]) <;> ((repeat' split) <;> first | rfl | omega)))) hb2); have hB2 : Below w.heap.size w w2 := Below.trans (by repeat (first | exact Below.refl _ _ | refine Below.alloc ?_ (by first | omega | (simp; done) | (simp; omega)) _ | refine Below.setCell ?_ (by first | omega | (simp; done) | (simp; omega)) _ | refine Below.drew ?_)) (Below.mono hb2 (by simp; omega)); clear hb2; obtain ⟨cK, fK, zK⟩ := blkC HK.out; obtain ⟨cG, fG, zG⟩ := blkC HG.out) | (go_at_call 65; refine (CH.out _ _ (by (first | (rw [heap_alloc_get, if_pos rfl]; done) | ((simp only [heap_alloc_get, heap_size_alloc, if_true]) <;> ((repeat' split) <;> first | rfl | omega))))).mono ?_; rintro e w' ⟨rfl, rfl⟩))
      go_ret2
      exact ⟨rfl, hB2.alloc hB2.size _⟩
  · have e : suiE k ht sl we = k.err := by unfold suiE firstE whenE; simp [h0]
    have ev : suiV k ht sl we = 0 := by unfold suiV; rw [if_neg (by rw [e]; exact h0)]
    rw [ev, e]
    have cz : (k.err != 0) = true := by simp [h0]
    clear h0 e ev
    generalize k.err = er at *
    go_enter Try.func47, Try.ntmps47
    go_wp2_with (first | (go_at_call 39; refine (CK.out _).mono ?_; rintro e w2 ⟨rfl, hb2⟩; have hB2 : Below w.heap.size w w2 := Below.trans (by repeat (first | exact Below.refl _ _ | refine Below.alloc ?_ (by first | omega | (simp; done) | (simp; omega)) _ | refine Below.setCell ?_ (by first | omega | (simp; done) | (simp; omega)) _ | refine Below.drew ?_)) (Below.mono hb2 (by simp; omega)); clear hb2))
    go_ret2
    exact ⟨rfl, hB2⟩
end Go.Proofs.Ytkjpjppfmfifeaa

/- SuitsMatch: Slack and Suit answer as the references do. -/
namespace Go.Proofs.Ytkjpjppfmfifeaa
open Go.RowKit Fl
set_option linter.unusedVariables false

theorem zero_self : (FloatKind.f32.format.order 0 0 == some .eq) = true := by rw [f32fmt, eql_val vS_zero vS_zero]; simp
theorem zero_ne : (FloatKind.f32.format.order 0 0 != some .eq) = false := by rw [bne, zero_self]; rfl

set_option maxHeartbeats 8000000 in
theorem suitsE (k : Knd) (ht sl we v lo hi so : Nat) (hs : k.name.size ≤ 9223372036854775807) (w : World) (hE : slkE v lo hi so ≠ 0) :
    Calls Try.prog 7 #[kndV k, gndV ht sl we, .float .f32 v, .float .f32 lo, .float .f32 hi, .float .f32 so] w fun e w' => e = .returned (.bool true) ∧ Below w.heap.size w w' := by
  have N4 := Lib.hid (fun p w (q : w.heap[p]? = some (.cells #[.float .f32 v, .float .f32 lo, .float .f32 hi, .float .f32 so] 30)) => qNumberError_row p 0 4 4 (four v lo hi so) (by omega) w (flAt_four q))
  have NE := Lib.hid (fun p w (q : w.heap[p]? = some (.cells #[.float .f32 ht, .float .f32 sl, .float .f32 we] 30)) => qNumberError_row p 0 3 3 (tri ht sl we) (by omega) w (flAt_tri q))
  have QK := Lib.hid (fun w => qKindError_any k hs w)
  have SX := Lib.hid (fun w => slackX_any v lo hi so w)
  have SY := Lib.hid (fun w => suitX_any k ht sl we hs w)
  obtain ⟨b1, hb1⟩ : ∃ b, ltB hi lo = b := ⟨_, rfl⟩
  obtain ⟨b2, hb2⟩ : ∃ b, ltB so 0 = b := ⟨_, rfl⟩
  have W1 := Lib.hid (fun w => when_any b1 8 w)
  have W2 := Lib.hid (fun w => when_any b2 3 w)
  have F4 := Lib.hid (fun p w (q : w.heap[p]? = some (.cells #[.int .i64 (fldE 4 (four v lo hi so)), .int .i64 (whenE b1 8), .int .i64 (whenE b2 3)] 31)) => first3_any (fldE 4 (four v lo hi so)) (whenE b1 8) (whenE b2 3) p w q)
  have t1 := hb1
  have t2 := hb2
  unfold ltB at t1 t2
  have z0 := zero_self
  have z1 := zero_ne
  have eD : firstE (firstE (fldE 4 (four v lo hi so)) (whenE b1 8)) (whenE b2 3) = slkE v lo hi so := by unfold slkE; rw [hb1, hb2]
  rw [eD] at F4
  have cz : (slkE v lo hi so != 0) = true := by simp [hE]
  have ev : slkV v lo hi so = 0 := by unfold slkV; rw [if_neg hE]
  rw [ev] at SX
  have cy : (slkE v lo hi so == 0) = false := by simp [hE]
  clear ev eD hb1 hb2 hE
  generalize slkE v lo hi so = E1 at *
  generalize fldE 4 (four v lo hi so) = e4 at *
  obtain ⟨d1, hd1⟩ : ∃ b, ltB sl 0 = b := ⟨_, rfl⟩
  obtain ⟨d2, hd2⟩ : ∃ b, ltB we 0 = b := ⟨_, rfl⟩
  have r1 := hd1
  have r2 := hd2
  unfold ltB at r1 r2
  have eF : firstE (firstE k.err (fldE 3 (tri ht sl we))) (whenE (d1 || d2) 3) = suiE k ht sl we := by unfold suiE; rw [hd1, hd2]
  have WH := Lib.hid (fun w => when_any (d1 || d2) 3 w)
  have FI := Lib.hid (fun p w (q : w.heap[p]? = some (.cells #[.int .i64 k.err, .int .i64 (fldE 3 (tri ht sl we)), .int .i64 (whenE (d1 || d2) 3)] 31)) => first3_any k.err (fldE 3 (tri ht sl we)) (whenE (d1 || d2) 3) p w q)
  rw [eF] at FI
  by_cases hF : suiE k ht sl we = 0
  · have ev : suiV k ht sl we = suiW k ht sl we := by unfold suiV; rw [if_pos hF]
    obtain ⟨q1, q2, q3, q4⟩ := suiE_ok hF
    obtain ⟨g1, g2, g3⟩ := tri_hgt q2
    obtain ⟨a, va, _⟩ := hgt_val g2
    have SF := Lib.hid (fun w => qSuitOf_any k ht sl we w (knd_ok q1) g1 va (lt_zero_no va q3) g3)
    rw [ev, hF] at SY
    rw [hF] at FI
    rw [q3] at hd1
    rw [q4] at hd2
    subst hd1 hd2
    clear ev eF hF q3 q4 g1 g2 g3 va
    rw [q1] at QK FI
    rw [q2] at NE FI
    simp only [Bool.or_self] at WH FI
    clear q1 q2
    generalize suiW k ht sl we = V2 at *
    go_enter Try.func7, Try.ntmps7
    go_wp2_with (first
      | (go_at_call 41; refine (SX.out _).mono ?_; rintro e w2 ⟨rfl, hb2⟩; have HK2 := Lib.hid (blkStay (b := w.heap.size) (o := kndO k) (by (first | (rw [heap_alloc_get, if_pos rfl]; done) | ((simp only [heap_alloc_get, heap_size_alloc, if_true]) <;> ((repeat' split) <;> first | rfl | omega)))) hb2); have HG2 := Lib.hid (blkStay (b := w.heap.size + 1) (o := gndO ht sl we) (by (first | (rw [heap_alloc_get, if_pos rfl]; done) | ((simp only [heap_alloc_get, heap_size_alloc, if_true]) <;> ((repeat' split) <;> first | rfl | omega)))) hb2); have HB2 : Below w.heap.size w w2 := Below.trans (by repeat (first | exact Below.refl _ _ | refine Below.alloc ?_ (by first | omega | (simp; done) | (simp; omega)) _ | refine Below.setCell ?_ (by first | omega | (simp; done) | (simp; omega)) _ | refine Below.drew ?_)) (Below.mono hb2 (by simp; omega)); clear hb2)
      | (go_at_call 43; refine (N4.out _ _ (by (first | (rw [heap_alloc_get, if_pos rfl]; done) | ((simp only [heap_alloc_get, heap_size_alloc, if_true]) <;> ((repeat' split) <;> first | rfl | omega))))).mono ?_; rintro e w' ⟨rfl, rfl⟩)
      | (go_at_call 44; (with_reducible refine Calls.mono (W1.out _) ?_); rintro e w' ⟨rfl, rfl⟩)
      | (go_at_call 44; (with_reducible refine Calls.mono (W2.out _) ?_); rintro e w' ⟨rfl, rfl⟩)
      | (go_at_call 42; refine (F4.out _ _ (by (first | (rw [heap_alloc_get, if_pos rfl]; done) | ((simp only [heap_alloc_get, heap_size_alloc, if_true]) <;> ((repeat' split) <;> first | rfl | omega))))).mono ?_; rintro e w' ⟨rfl, rfl⟩)
      | (go_at_call 36; refine (grows_any _).mono ?_; rintro e w3 ⟨rfl, hb3⟩; have h23 : Below w2.heap.size w2 w3 := Below.trans (by repeat (first | exact Below.refl _ _ | refine Below.alloc ?_ (by first | omega | (simp; done) | (simp; omega)) _ | refine Below.setCell ?_ (by first | omega | (simp; done) | (simp; omega)) _ | refine Below.drew ?_)) (Below.mono hb3 (by simp; omega)); have HK3 := Lib.hid (blkStay HK2.out h23); have HG3 := Lib.hid (blkStay HG2.out h23); have HB3 := HB2.trans (h23.mono HB2.size); clear hb3 h23; obtain ⟨cK, fK, zK⟩ := blkC HK3.out; obtain ⟨cG, fG, zG⟩ := blkC HG3.out)
      | (go_at_call 46; refine (SO.out _).mono ?_; rintro e w' ⟨rfl, rfl⟩)
      | (go_at_call 45; refine (bit_self _ _).mono ?_; rintro e w' ⟨rfl, rfl⟩)
      | (go_at_call 47; refine (SY.out _).mono ?_; rintro e w4 ⟨rfl, hb4⟩; clear cK fK zK cG fG zG; have HK4 := Lib.hid (blkStay HK3.out hb4); have HG4 := Lib.hid (blkStay HG3.out hb4); have HB4 := HB3.trans (hb4.mono HB3.size); clear hb4; obtain ⟨cK, fK, zK⟩ := blkC HK4.out; obtain ⟨cG, fG, zG⟩ := blkC HG4.out))
    go_region_held3 (fun w' => ((∀ o, w'.cell? ⟨w.heap.size, o, none⟩ = k.cells[o]?) ∧ (∀ o, w'.cell? ⟨w.heap.size + 1, o, none⟩ = #[.float .f32 ht, .float .f32 sl, .float .f32 we][o]?)) ∧ Below w4.heap.size w4 w') (exact (fun K => ⟨⟨(blkC (blkStay HK4.out K)).1, (blkC (blkStay HG4.out K)).1⟩, K⟩) (by repeat (first | exact hb9 | exact Below.refl _ _ | refine Below.drew ?_ | refine Below.alloc ?_ (by first | exact Nat.le_refl _ | exact hb9.size | (simp; done) | (have := hb9.size; simp; omega) | (simp; omega)) _))) (first
        | (go_at_call 40; (with_reducible refine Calls.mono (QK.out _) ?_); rintro e w' ⟨rfl, hb7⟩; have hb9 : Below w4.heap.size w4 w' := Below.trans (by repeat (first | exact hb9 | exact Below.refl _ _ | refine Below.drew ?_ | refine Below.alloc ?_ (by first | exact Nat.le_refl _ | exact hb9.size | (simp; done) | (have := hb9.size; simp; omega) | (simp; omega)) _)) (Below.mono hb7 (by first | exact Nat.le_refl _ | (simp; done) | (simp; omega))))
        | (go_at_call 43; (with_reducible refine Calls.mono (NE.out _ _ ?_) ?_); (first | ((simp only [heap_alloc_get, if_true]) <;> ((repeat' split) <;> first | rfl | omega)) | (refine blkStay ?_ hb7; exact heap_alloc_new w4 _)); rintro e w' ⟨rfl, rfl⟩)
        | (go_at_call 44; (with_reducible refine Calls.mono (WH.out _) ?_); rintro e w' ⟨rfl, rfl⟩)
        | (go_at_call 42; (with_reducible refine Calls.mono (FI.out _ _ ?_) ?_); (first | ((simp only [heap_alloc_get, if_true]) <;> ((repeat' split) <;> first | rfl | omega)) | ((simp only [heap_alloc_get, heap_size_alloc, if_true]) <;> ((repeat' split) <;> first | rfl | omega))); rintro e w' ⟨rfl, rfl⟩))
    all_goals have hHeld := ‹_ ∧ Below w4.heap.size w4 _›
    all_goals have HBh := Lib.hid (HB4.trans (hHeld.2.mono HB4.size))
    all_goals clear hHeld
    all_goals go_wp2_with (first
      | (go_at_call 48; refine (SF.out _).mono ?_; rintro e w5 ⟨rfl, hb5⟩; have HB5 := Lib.hid (HBh.out.trans (hb5.mono HBh.out.size)); clear hb5)
      | (go_at_call 45; refine (bit_self _ _).mono ?_; rintro e w' ⟨rfl, rfl⟩))
    all_goals go_ret
    all_goals exact ⟨rfl, HB5.out⟩
  · have ev : suiV k ht sl we = 0 := by unfold suiV; rw [if_neg hF]
    have cx : (suiE k ht sl we != 0) = true := by simp [hF]
    rw [ev] at SY
    clear ev eF hF hd1 hd2
    generalize suiE k ht sl we = E2 at *
    generalize k.err = e5 at *
    generalize fldE 3 (tri ht sl we) = e3 at *
    cases d1
    · simp only [Bool.false_or] at WH FI
      go_enter Try.func7, Try.ntmps7
      go_wp2_with (first
        | (go_at_call 41; refine (SX.out _).mono ?_; rintro e w2 ⟨rfl, hb2⟩; have HK2 := Lib.hid (blkStay (b := w.heap.size) (o := kndO k) (by (first | (rw [heap_alloc_get, if_pos rfl]; done) | ((simp only [heap_alloc_get, heap_size_alloc, if_true]) <;> ((repeat' split) <;> first | rfl | omega)))) hb2); have HG2 := Lib.hid (blkStay (b := w.heap.size + 1) (o := gndO ht sl we) (by (first | (rw [heap_alloc_get, if_pos rfl]; done) | ((simp only [heap_alloc_get, heap_size_alloc, if_true]) <;> ((repeat' split) <;> first | rfl | omega)))) hb2); have HB2 : Below w.heap.size w w2 := Below.trans (by repeat (first | exact Below.refl _ _ | refine Below.alloc ?_ (by first | omega | (simp; done) | (simp; omega)) _ | refine Below.setCell ?_ (by first | omega | (simp; done) | (simp; omega)) _ | refine Below.drew ?_)) (Below.mono hb2 (by simp; omega)); clear hb2)
        | (go_at_call 43; refine (N4.out _ _ (by (first | (rw [heap_alloc_get, if_pos rfl]; done) | ((simp only [heap_alloc_get, heap_size_alloc, if_true]) <;> ((repeat' split) <;> first | rfl | omega))))).mono ?_; rintro e w' ⟨rfl, rfl⟩)
        | (go_at_call 44; (with_reducible refine Calls.mono (W1.out _) ?_); rintro e w' ⟨rfl, rfl⟩)
        | (go_at_call 44; (with_reducible refine Calls.mono (W2.out _) ?_); rintro e w' ⟨rfl, rfl⟩)
        | (go_at_call 42; refine (F4.out _ _ (by (first | (rw [heap_alloc_get, if_pos rfl]; done) | ((simp only [heap_alloc_get, heap_size_alloc, if_true]) <;> ((repeat' split) <;> first | rfl | omega))))).mono ?_; rintro e w' ⟨rfl, rfl⟩)
        | (go_at_call 36; refine (grows_any _).mono ?_; rintro e w3 ⟨rfl, hb3⟩; have h23 : Below w2.heap.size w2 w3 := Below.trans (by repeat (first | exact Below.refl _ _ | refine Below.alloc ?_ (by first | omega | (simp; done) | (simp; omega)) _ | refine Below.setCell ?_ (by first | omega | (simp; done) | (simp; omega)) _ | refine Below.drew ?_)) (Below.mono hb3 (by simp; omega)); have HK3 := Lib.hid (blkStay HK2.out h23); have HG3 := Lib.hid (blkStay HG2.out h23); have HB3 := HB2.trans (h23.mono HB2.size); clear hb3 h23; obtain ⟨cK, fK, zK⟩ := blkC HK3.out; obtain ⟨cG, fG, zG⟩ := blkC HG3.out)
        | (go_at_call 46; refine (SO.out _).mono ?_; rintro e w' ⟨rfl, rfl⟩)
        | (go_at_call 45; refine (bit_self _ _).mono ?_; rintro e w' ⟨rfl, rfl⟩)
        | (go_at_call 47; refine (SY.out _).mono ?_; rintro e w4 ⟨rfl, hb4⟩; clear cK fK zK cG fG zG; have HK4 := Lib.hid (blkStay HK3.out hb4); have HG4 := Lib.hid (blkStay HG3.out hb4); have HB4 := HB3.trans (hb4.mono HB3.size); clear hb4; obtain ⟨cK, fK, zK⟩ := blkC HK4.out; obtain ⟨cG, fG, zG⟩ := blkC HG4.out))
      go_region_held3 (fun w' => ((∀ o, w'.cell? ⟨w.heap.size, o, none⟩ = k.cells[o]?) ∧ (∀ o, w'.cell? ⟨w.heap.size + 1, o, none⟩ = #[.float .f32 ht, .float .f32 sl, .float .f32 we][o]?)) ∧ Below w4.heap.size w4 w') (exact (fun K => ⟨⟨(blkC (blkStay HK4.out K)).1, (blkC (blkStay HG4.out K)).1⟩, K⟩) (by repeat (first | exact hb9 | exact Below.refl _ _ | refine Below.drew ?_ | refine Below.alloc ?_ (by first | exact Nat.le_refl _ | exact hb9.size | (simp; done) | (have := hb9.size; simp; omega) | (simp; omega)) _))) (first
          | (go_at_call 40; (with_reducible refine Calls.mono (QK.out _) ?_); rintro e w' ⟨rfl, hb7⟩; have hb9 : Below w4.heap.size w4 w' := Below.trans (by repeat (first | exact hb9 | exact Below.refl _ _ | refine Below.drew ?_ | refine Below.alloc ?_ (by first | exact Nat.le_refl _ | exact hb9.size | (simp; done) | (have := hb9.size; simp; omega) | (simp; omega)) _)) (Below.mono hb7 (by first | exact Nat.le_refl _ | (simp; done) | (simp; omega))))
          | (go_at_call 43; (with_reducible refine Calls.mono (NE.out _ _ ?_) ?_); (first | ((simp only [heap_alloc_get, if_true]) <;> ((repeat' split) <;> first | rfl | omega)) | (refine blkStay ?_ hb7; exact heap_alloc_new w4 _)); rintro e w' ⟨rfl, rfl⟩)
          | (go_at_call 44; (with_reducible refine Calls.mono (WH.out _) ?_); rintro e w' ⟨rfl, rfl⟩)
          | (go_at_call 42; (with_reducible refine Calls.mono (FI.out _ _ ?_) ?_); (first | ((simp only [heap_alloc_get, if_true]) <;> ((repeat' split) <;> first | rfl | omega)) | ((simp only [heap_alloc_get, heap_size_alloc, if_true]) <;> ((repeat' split) <;> first | rfl | omega))); rintro e w' ⟨rfl, rfl⟩))
      all_goals have hHeld := ‹_ ∧ Below w4.heap.size w4 _›
      all_goals have HBh := Lib.hid (HB4.trans (hHeld.2.mono HB4.size))
      all_goals clear hHeld
      all_goals go_wp2
      all_goals go_ret
      all_goals exact ⟨rfl, HBh.out⟩

    · simp only [Bool.true_or] at WH FI
      go_enter Try.func7, Try.ntmps7
      go_wp2_with (first
        | (go_at_call 41; refine (SX.out _).mono ?_; rintro e w2 ⟨rfl, hb2⟩; have HK2 := Lib.hid (blkStay (b := w.heap.size) (o := kndO k) (by (first | (rw [heap_alloc_get, if_pos rfl]; done) | ((simp only [heap_alloc_get, heap_size_alloc, if_true]) <;> ((repeat' split) <;> first | rfl | omega)))) hb2); have HG2 := Lib.hid (blkStay (b := w.heap.size + 1) (o := gndO ht sl we) (by (first | (rw [heap_alloc_get, if_pos rfl]; done) | ((simp only [heap_alloc_get, heap_size_alloc, if_true]) <;> ((repeat' split) <;> first | rfl | omega)))) hb2); have HB2 : Below w.heap.size w w2 := Below.trans (by repeat (first | exact Below.refl _ _ | refine Below.alloc ?_ (by first | omega | (simp; done) | (simp; omega)) _ | refine Below.setCell ?_ (by first | omega | (simp; done) | (simp; omega)) _ | refine Below.drew ?_)) (Below.mono hb2 (by simp; omega)); clear hb2)
        | (go_at_call 43; refine (N4.out _ _ (by (first | (rw [heap_alloc_get, if_pos rfl]; done) | ((simp only [heap_alloc_get, heap_size_alloc, if_true]) <;> ((repeat' split) <;> first | rfl | omega))))).mono ?_; rintro e w' ⟨rfl, rfl⟩)
        | (go_at_call 44; (with_reducible refine Calls.mono (W1.out _) ?_); rintro e w' ⟨rfl, rfl⟩)
        | (go_at_call 44; (with_reducible refine Calls.mono (W2.out _) ?_); rintro e w' ⟨rfl, rfl⟩)
        | (go_at_call 42; refine (F4.out _ _ (by (first | (rw [heap_alloc_get, if_pos rfl]; done) | ((simp only [heap_alloc_get, heap_size_alloc, if_true]) <;> ((repeat' split) <;> first | rfl | omega))))).mono ?_; rintro e w' ⟨rfl, rfl⟩)
        | (go_at_call 36; refine (grows_any _).mono ?_; rintro e w3 ⟨rfl, hb3⟩; have h23 : Below w2.heap.size w2 w3 := Below.trans (by repeat (first | exact Below.refl _ _ | refine Below.alloc ?_ (by first | omega | (simp; done) | (simp; omega)) _ | refine Below.setCell ?_ (by first | omega | (simp; done) | (simp; omega)) _ | refine Below.drew ?_)) (Below.mono hb3 (by simp; omega)); have HK3 := Lib.hid (blkStay HK2.out h23); have HG3 := Lib.hid (blkStay HG2.out h23); have HB3 := HB2.trans (h23.mono HB2.size); clear hb3 h23; obtain ⟨cK, fK, zK⟩ := blkC HK3.out; obtain ⟨cG, fG, zG⟩ := blkC HG3.out)
        | (go_at_call 46; refine (SO.out _).mono ?_; rintro e w' ⟨rfl, rfl⟩)
        | (go_at_call 45; refine (bit_self _ _).mono ?_; rintro e w' ⟨rfl, rfl⟩)
        | (go_at_call 47; refine (SY.out _).mono ?_; rintro e w4 ⟨rfl, hb4⟩; clear cK fK zK cG fG zG; have HK4 := Lib.hid (blkStay HK3.out hb4); have HG4 := Lib.hid (blkStay HG3.out hb4); have HB4 := HB3.trans (hb4.mono HB3.size); clear hb4; obtain ⟨cK, fK, zK⟩ := blkC HK4.out; obtain ⟨cG, fG, zG⟩ := blkC HG4.out))
      refine wp_region_held_drew (S := (fun w' => ((∀ o, w'.cell? ⟨w.heap.size, o, none⟩ = k.cells[o]?) ∧ (∀ o, w'.cell? ⟨w.heap.size + 1, o, none⟩ = #[.float .f32 ht, .float .f32 sl, .float .f32 we][o]?)) ∧ Below w4.heap.size w4 w')) (by kernel_rfl) ?_ (fun hHeld => ?_)
      · try dsimp only
        exact (fun K => ⟨⟨(blkC (blkStay HK4.out K)).1, (blkC (blkStay HG4.out K)).1⟩, K⟩) (by repeat (first | exact hb9 | exact Below.refl _ _ | refine Below.drew ?_ | refine Below.alloc ?_ (by first | exact Nat.le_refl _ | exact hb9.size | (simp; done) | (have := hb9.size; simp; omega) | (simp; omega)) _))
      refine wpAnyH_take (i := 0) (v := ?hv1) rfl (by kernel_rfl) (by kernel_rfl) (by kernel_rfl) (fun _ _ _ h => h) (Or.inl ⟨by rfl, ?hy1⟩) (by assumption) ?hr1; (case hy1 => ((intro w hSw; (try dsimp only at hSw); go_simp) <;> with_reducible rfl)); try simp only [Act.put, List.setIfInBounds_toArray, List.set_cons_zero, List.set_cons_succ]
      refine wpAnyH_take (i := 2) (v := ?hv2) rfl (by kernel_rfl) (by kernel_rfl) (by kernel_rfl) (fun _ _ _ h => h) (Or.inl ⟨by rfl, ?hy2⟩) (by assumption) ?hr2; (case hy2 => ((intro w hSw; (try dsimp only at hSw); go_simp) <;> with_reducible rfl)); try simp only [Act.put, List.setIfInBounds_toArray, List.set_cons_zero, List.set_cons_succ]
      refine wpAnyH_take (i := 3) (v := ?hv3) rfl (by kernel_rfl) (by kernel_rfl) (by kernel_rfl) (fun _ _ _ h => h) (Or.inl ⟨by rfl, ?hy3⟩) (by assumption) ?hr3; (case hy3 => ((intro w hSw; (try dsimp only at hSw); go_simp) <;> with_reducible rfl)); try simp only [Act.put, List.setIfInBounds_toArray, List.set_cons_zero, List.set_cons_succ]
      refine wpAnyH_take (i := 4) (v := ?hv4) rfl (by kernel_rfl) (by kernel_rfl) (by kernel_rfl) (fun _ _ _ h => h) (Or.inl ⟨by rfl, ?hy4⟩) (by assumption) ?hr4; (case hy4 => ((intro w hSw; (try dsimp only at hSw); go_simp) <;> with_reducible rfl)); try simp only [Act.put, List.setIfInBounds_toArray, List.set_cons_zero, List.set_cons_succ]
      refine wpAnyH_take (i := 5) (v := ?hv5) rfl (by kernel_rfl) (by kernel_rfl) (by kernel_rfl) (fun _ _ _ h => h) (Or.inl ⟨by rfl, ?hy5⟩) (by assumption) ?hr5; (case hy5 => ((intro w hSw; (try dsimp only at hSw); go_simp) <;> with_reducible rfl)); try simp only [Act.put, List.setIfInBounds_toArray, List.set_cons_zero, List.set_cons_succ]
      refine wpAnyH_take (i := 6) (v := ?hv6) rfl (by kernel_rfl) (by kernel_rfl) (by kernel_rfl) (fun _ _ _ h => h) (Or.inl ⟨by rfl, ?hy6⟩) (by assumption) ?hr6; (case hy6 => ((intro w hSw; (try dsimp only at hSw); go_simp) <;> with_reducible rfl)); try simp only [Act.put, List.setIfInBounds_toArray, List.set_cons_zero, List.set_cons_succ]
      refine wpAnyH_take (i := 7) (v := ?hv7) rfl (by kernel_rfl) (by kernel_rfl) (by kernel_rfl) (fun _ _ _ h => h) (Or.inl ⟨by rfl, ?hy7⟩) (by assumption) ?hr7; (case hy7 => ((intro w hSw; (try dsimp only at hSw); go_simp) <;> with_reducible rfl)); try simp only [Act.put, List.setIfInBounds_toArray, List.set_cons_zero, List.set_cons_succ]
      refine wpAnyH_take (i := 10) (v := ?hv8) rfl (by kernel_rfl) (by kernel_rfl) (by kernel_rfl) (fun _ _ _ h => h) (Or.inl ⟨by rfl, ?hy8⟩) (by assumption) ?hr8; (case hy8 => ((intro w hSw; (try dsimp only at hSw); go_simp) <;> with_reducible rfl)); try simp only [Act.put, List.setIfInBounds_toArray, List.set_cons_zero, List.set_cons_succ]
      refine wpAnyH_take (i := 11) (v := ?hv9) rfl (by kernel_rfl) (by kernel_rfl) (by kernel_rfl) (fun _ _ _ h => h) (Or.inl ⟨by rfl, ?hy9⟩) (by assumption) ?hr9; (case hy9 => ((intro w hSw; (try dsimp only at hSw); go_simp) <;> with_reducible rfl)); try simp only [Act.put, List.setIfInBounds_toArray, List.set_cons_zero, List.set_cons_succ]
      refine wpAnyH_take (i := 12) (v := ?hv10) rfl (by kernel_rfl) (by kernel_rfl) (by kernel_rfl) (fun _ _ _ h => h) (Or.inl ⟨by rfl, ?hy10⟩) (by assumption) ?hr10; (case hy10 => ((intro w hSw; (try dsimp only at hSw); go_simp) <;> with_reducible rfl)); try simp only [Act.put, List.setIfInBounds_toArray, List.set_cons_zero, List.set_cons_succ]
      refine wpAnyH_ready (rs := [1, 8]) (by kernel_rfl) (by simp) ?_
      refine AllReadyH.cons rfl (fun K hK => ?_) (AllReadyH.cons rfl (fun K hK => ?_) AllReadyH.nil)
      · go_simp
        (with_reducible refine Calls.mono (QK.out _) ?_); rintro e w' ⟨rfl, hb7⟩; have hb9 : Below w4.heap.size w4 w' := Below.trans (by repeat (first | exact Below.refl _ _ | refine Below.drew ?_ | refine Below.alloc ?_ (by first | exact Nat.le_refl _ | (simp; done) | (simp; omega)) _)) (Below.mono hb7 (by first | exact Nat.le_refl _ | (simp; done) | (simp; omega)))
        try go_wp2_with fail
        refine hK.out _ _ ?_ (fun hHeld => ?_)
        · try dsimp only
          exact (fun K => ⟨⟨(blkC (blkStay HK4.out K)).1, (blkC (blkStay HG4.out K)).1⟩, K⟩) (by repeat (first | exact hb9 | exact Below.refl _ _ | refine Below.drew ?_ | refine Below.alloc ?_ (by first | exact Nat.le_refl _ | exact hb9.size | (simp; done) | (have := hb9.size; simp; omega) | (simp; omega)) _))
        clear hK K; try simp only [Act.put, List.setIfInBounds_toArray, List.set_cons_zero, List.set_cons_succ]
        refine wpAnyH_ready (rs := [8]) (by kernel_rfl) (by simp) ?_; refine AllReadyH.cons rfl (fun K hK => ?_) AllReadyH.nil; go_simp
        refine hK.out _ _ ?_ (fun hHeld => ?_)
        · try dsimp only
          exact (fun K => ⟨⟨(blkC (blkStay HK4.out K)).1, (blkC (blkStay HG4.out K)).1⟩, K⟩) (by repeat (first | exact hb9 | exact Below.refl _ _ | refine Below.drew ?_ | refine Below.alloc ?_ (by first | exact Nat.le_refl _ | exact hb9.size | (simp; done) | (have := hb9.size; simp; omega) | (simp; omega)) _))
        clear hK K; try simp only [Act.put, List.setIfInBounds_toArray, List.set_cons_zero, List.set_cons_succ]
        refine wpAnyH_ready (rs := [9]) (by kernel_rfl) (by simp) ?_; refine AllReadyH.cons rfl (fun K hK => ?_) AllReadyH.nil; go_simp
        (with_reducible refine Calls.mono (NE.out _ _ ?_) ?_); (first | ((simp only [heap_alloc_get, if_true]) <;> ((repeat' split) <;> first | rfl | omega)) | (refine blkStay ?_ hb7; exact heap_alloc_new _ _)); rintro e w' ⟨rfl, rfl⟩
        try go_wp2_with fail
        refine hK.out _ _ ?_ (fun hHeld => ?_)
        · try dsimp only
          exact (fun K => ⟨⟨(blkC (blkStay HK4.out K)).1, (blkC (blkStay HG4.out K)).1⟩, K⟩) (by repeat (first | exact hb9 | exact Below.refl _ _ | refine Below.drew ?_ | refine Below.alloc ?_ (by first | exact Nat.le_refl _ | exact hb9.size | (simp; done) | (have := hb9.size; simp; omega) | (simp; omega)) _))
        clear hK K; try simp only [Act.put, List.setIfInBounds_toArray, List.set_cons_zero, List.set_cons_succ]
        refine wpAnyH_take (i := 13) (v := ?hv11) rfl (by kernel_rfl) (by kernel_rfl) (by kernel_rfl) (fun _ _ _ h => h) (Or.inl ⟨by rfl, ?hy11⟩) (by assumption) ?hr11; (case hy11 => ((intro w hSw; (try dsimp only at hSw); go_simp) <;> with_reducible rfl)); try simp only [Act.put, List.setIfInBounds_toArray, List.set_cons_zero, List.set_cons_succ]
        refine wpAnyH_ready (rs := [14]) (by kernel_rfl) (by simp) ?_; refine AllReadyH.cons rfl (fun K hK => ?_) AllReadyH.nil; go_simp
        refine hK.out _ _ ?_ (fun hHeld => ?_)
        · assumption
        clear hK K; try simp only [Act.put, List.setIfInBounds_toArray, List.set_cons_zero, List.set_cons_succ]
        refine wpAnyH_ready (rs := [15]) (by kernel_rfl) (by simp) ?_; refine AllReadyH.cons rfl (fun K hK => ?_) AllReadyH.nil; go_simp
        refine hK.out _ _ ?_ (fun hHeld => ?_)
        · assumption
        clear hK K; try simp only [Act.put, List.setIfInBounds_toArray, List.set_cons_zero, List.set_cons_succ]
        refine wpAnyH_ready (rs := [16]) (by kernel_rfl) (by simp) ?_; refine AllReadyH.cons rfl (fun K hK => ?_) AllReadyH.nil; go_simp
        refine hK.out _ _ ?_ (fun hHeld => ?_)
        · assumption
        clear hK K; try simp only [Act.put, List.setIfInBounds_toArray, List.set_cons_zero, List.set_cons_succ]
        refine wpAnyH_take (i := 17) (v := ?hv12) rfl (by kernel_rfl) (by kernel_rfl) (by kernel_rfl) (fun _ _ _ h => h) (Or.inl ⟨by rfl, ?hy12⟩) (by assumption) ?hr12; (case hy12 => ((intro w hSw; (try dsimp only at hSw); go_simp) <;> with_reducible rfl)); try simp only [Act.put, List.setIfInBounds_toArray, List.set_cons_zero, List.set_cons_succ]
        refine wpAnyH_ready (rs := [18]) (by kernel_rfl) (by simp) ?_; refine AllReadyH.cons rfl (fun K hK => ?_) AllReadyH.nil; go_simp
        (with_reducible refine Calls.mono (WH.out _) ?_); rintro e w' ⟨rfl, rfl⟩
        try go_wp2_with fail
        refine hK.out _ _ ?_ (fun hHeld => ?_)
        · try dsimp only
          exact (fun K => ⟨⟨(blkC (blkStay HK4.out K)).1, (blkC (blkStay HG4.out K)).1⟩, K⟩) (by repeat (first | exact hb9 | exact Below.refl _ _ | refine Below.drew ?_ | refine Below.alloc ?_ (by first | exact Nat.le_refl _ | exact hb9.size | (simp; done) | (have := hb9.size; simp; omega) | (simp; omega)) _))
        clear hK K; try simp only [Act.put, List.setIfInBounds_toArray, List.set_cons_zero, List.set_cons_succ]
        refine wpAnyH_ready (rs := [19]) (by kernel_rfl) (by simp) ?_; refine AllReadyH.cons rfl (fun K hK => ?_) AllReadyH.nil; go_simp
        refine hK.out _ _ ?_ (fun hHeld => ?_)
        · try dsimp only
          exact (fun K => ⟨⟨(blkC (blkStay HK4.out K)).1, (blkC (blkStay HG4.out K)).1⟩, K⟩) (by repeat (first | exact hb9 | exact Below.refl _ _ | refine Below.drew ?_ | refine Below.alloc ?_ (by first | exact Nat.le_refl _ | exact hb9.size | (simp; done) | (have := hb9.size; simp; omega) | (simp; omega)) _))
        clear hK K; try simp only [Act.put, List.setIfInBounds_toArray, List.set_cons_zero, List.set_cons_succ]
        refine wpAnyH_ready (rs := [20]) (by kernel_rfl) (by simp) ?_; refine AllReadyH.cons rfl (fun K hK => ?_) AllReadyH.nil; go_simp
        (with_reducible refine Calls.mono (FI.out _ _ ?_) ?_); (first | ((simp only [heap_alloc_get, if_true]) <;> ((repeat' split) <;> first | rfl | omega)) | ((simp only [heap_alloc_get, heap_size_alloc, if_true]) <;> ((repeat' split) <;> first | rfl | omega))); rintro e w' ⟨rfl, rfl⟩
        try go_wp2_with fail
        refine hK.out _ _ ?_ (fun hHeld => ?_)
        · try dsimp only
          exact (fun K => ⟨⟨(blkC (blkStay HK4.out K)).1, (blkC (blkStay HG4.out K)).1⟩, K⟩) (by repeat (first | exact hb9 | exact Below.refl _ _ | refine Below.drew ?_ | refine Below.alloc ?_ (by first | exact Nat.le_refl _ | exact hb9.size | (simp; done) | (have := hb9.size; simp; omega) | (simp; omega)) _))
        clear hK K; try simp only [Act.put, List.setIfInBounds_toArray, List.set_cons_zero, List.set_cons_succ]
        refine wpAnyH_take (i := 21) (v := ?hv13) rfl (by kernel_rfl) (by kernel_rfl) (by kernel_rfl) (fun _ _ _ h => h) (Or.inl ⟨by rfl, ?hy13⟩) (by assumption) ?hr13; (case hy13 => ((intro w hSw; (try dsimp only at hSw); go_simp) <;> with_reducible rfl)); try simp only [Act.put, List.setIfInBounds_toArray, List.set_cons_zero, List.set_cons_succ]
        refine wpAnyH_done (by kernel_rfl) ?_ _
        have HBh := Lib.hid (HB4.trans (hHeld.2.mono HB4.size))
        clear hHeld
        go_wp2
        go_ret
        exact ⟨rfl, HBh.out⟩
      · go_simp
        refine hK.out _ _ ?_ (fun hHeld => ?_)
        · try dsimp only
          exact (fun K => ⟨⟨(blkC (blkStay HK4.out K)).1, (blkC (blkStay HG4.out K)).1⟩, K⟩) (by repeat (first | exact hb9 | exact Below.refl _ _ | refine Below.drew ?_ | refine Below.alloc ?_ (by first | exact Nat.le_refl _ | exact hb9.size | (simp; done) | (have := hb9.size; simp; omega) | (simp; omega)) _))
        clear hK K; try simp only [Act.put, List.setIfInBounds_toArray, List.set_cons_zero, List.set_cons_succ]
        refine wpAnyH_ready (rs := [1]) (by kernel_rfl) (by simp) ?_; refine AllReadyH.cons rfl (fun K hK => ?_) AllReadyH.nil; go_simp
        (with_reducible refine Calls.mono (QK.out _) ?_); rintro e w' ⟨rfl, hb7⟩; have hb9 : Below w4.heap.size w4 w' := Below.trans (by repeat (first | exact Below.refl _ _ | refine Below.drew ?_ | refine Below.alloc ?_ (by first | exact Nat.le_refl _ | (simp; done) | (simp; omega)) _)) (Below.mono hb7 (by first | exact Nat.le_refl _ | (simp; done) | (simp; omega)))
        try go_wp2_with fail
        refine hK.out _ _ ?_ (fun hHeld => ?_)
        · try dsimp only
          exact (fun K => ⟨⟨(blkC (blkStay HK4.out K)).1, (blkC (blkStay HG4.out K)).1⟩, K⟩) (by repeat (first | exact hb9 | exact Below.refl _ _ | refine Below.drew ?_ | refine Below.alloc ?_ (by first | exact Nat.le_refl _ | exact hb9.size | (simp; done) | (have := hb9.size; simp; omega) | (simp; omega)) _))
        clear hK K; try simp only [Act.put, List.setIfInBounds_toArray, List.set_cons_zero, List.set_cons_succ]
        refine wpAnyH_ready (rs := [9]) (by kernel_rfl) (by simp) ?_; refine AllReadyH.cons rfl (fun K hK => ?_) AllReadyH.nil; go_simp
        (with_reducible refine Calls.mono (NE.out _ _ ?_) ?_); (first | ((simp only [heap_alloc_get, if_true]) <;> ((repeat' split) <;> first | rfl | omega)) | (refine blkStay ?_ hb7; exact heap_alloc_new _ _)); rintro e w' ⟨rfl, rfl⟩
        try go_wp2_with fail
        refine hK.out _ _ ?_ (fun hHeld => ?_)
        · try dsimp only
          exact (fun K => ⟨⟨(blkC (blkStay HK4.out K)).1, (blkC (blkStay HG4.out K)).1⟩, K⟩) (by repeat (first | exact hb9 | exact Below.refl _ _ | refine Below.drew ?_ | refine Below.alloc ?_ (by first | exact Nat.le_refl _ | exact hb9.size | (simp; done) | (have := hb9.size; simp; omega) | (simp; omega)) _))
        clear hK K; try simp only [Act.put, List.setIfInBounds_toArray, List.set_cons_zero, List.set_cons_succ]
        refine wpAnyH_take (i := 13) (v := ?hv14) rfl (by kernel_rfl) (by kernel_rfl) (by kernel_rfl) (fun _ _ _ h => h) (Or.inl ⟨by rfl, ?hy14⟩) (by assumption) ?hr14; (case hy14 => ((intro w hSw; (try dsimp only at hSw); go_simp) <;> with_reducible rfl)); try simp only [Act.put, List.setIfInBounds_toArray, List.set_cons_zero, List.set_cons_succ]
        refine wpAnyH_ready (rs := [14]) (by kernel_rfl) (by simp) ?_; refine AllReadyH.cons rfl (fun K hK => ?_) AllReadyH.nil; go_simp
        refine hK.out _ _ ?_ (fun hHeld => ?_)
        · assumption
        clear hK K; try simp only [Act.put, List.setIfInBounds_toArray, List.set_cons_zero, List.set_cons_succ]
        refine wpAnyH_ready (rs := [15]) (by kernel_rfl) (by simp) ?_; refine AllReadyH.cons rfl (fun K hK => ?_) AllReadyH.nil; go_simp
        refine hK.out _ _ ?_ (fun hHeld => ?_)
        · assumption
        clear hK K; try simp only [Act.put, List.setIfInBounds_toArray, List.set_cons_zero, List.set_cons_succ]
        refine wpAnyH_ready (rs := [16]) (by kernel_rfl) (by simp) ?_; refine AllReadyH.cons rfl (fun K hK => ?_) AllReadyH.nil; go_simp
        refine hK.out _ _ ?_ (fun hHeld => ?_)
        · assumption
        clear hK K; try simp only [Act.put, List.setIfInBounds_toArray, List.set_cons_zero, List.set_cons_succ]
        refine wpAnyH_take (i := 17) (v := ?hv15) rfl (by kernel_rfl) (by kernel_rfl) (by kernel_rfl) (fun _ _ _ h => h) (Or.inl ⟨by rfl, ?hy15⟩) (by assumption) ?hr15; (case hy15 => ((intro w hSw; (try dsimp only at hSw); go_simp) <;> with_reducible rfl)); try simp only [Act.put, List.setIfInBounds_toArray, List.set_cons_zero, List.set_cons_succ]
        refine wpAnyH_ready (rs := [18]) (by kernel_rfl) (by simp) ?_; refine AllReadyH.cons rfl (fun K hK => ?_) AllReadyH.nil; go_simp
        (with_reducible refine Calls.mono (WH.out _) ?_); rintro e w' ⟨rfl, rfl⟩
        try go_wp2_with fail
        refine hK.out _ _ ?_ (fun hHeld => ?_)
        · try dsimp only
          exact (fun K => ⟨⟨(blkC (blkStay HK4.out K)).1, (blkC (blkStay HG4.out K)).1⟩, K⟩) (by repeat (first | exact hb9 | exact Below.refl _ _ | refine Below.drew ?_ | refine Below.alloc ?_ (by first | exact Nat.le_refl _ | exact hb9.size | (simp; done) | (have := hb9.size; simp; omega) | (simp; omega)) _))
        clear hK K; try simp only [Act.put, List.setIfInBounds_toArray, List.set_cons_zero, List.set_cons_succ]
        refine wpAnyH_ready (rs := [19]) (by kernel_rfl) (by simp) ?_; refine AllReadyH.cons rfl (fun K hK => ?_) AllReadyH.nil; go_simp
        refine hK.out _ _ ?_ (fun hHeld => ?_)
        · try dsimp only
          exact (fun K => ⟨⟨(blkC (blkStay HK4.out K)).1, (blkC (blkStay HG4.out K)).1⟩, K⟩) (by repeat (first | exact hb9 | exact Below.refl _ _ | refine Below.drew ?_ | refine Below.alloc ?_ (by first | exact Nat.le_refl _ | exact hb9.size | (simp; done) | (have := hb9.size; simp; omega) | (simp; omega)) _))
        clear hK K; try simp only [Act.put, List.setIfInBounds_toArray, List.set_cons_zero, List.set_cons_succ]
        refine wpAnyH_ready (rs := [20]) (by kernel_rfl) (by simp) ?_; refine AllReadyH.cons rfl (fun K hK => ?_) AllReadyH.nil; go_simp
        (with_reducible refine Calls.mono (FI.out _ _ ?_) ?_); (first | ((simp only [heap_alloc_get, if_true]) <;> ((repeat' split) <;> first | rfl | omega)) | ((simp only [heap_alloc_get, heap_size_alloc, if_true]) <;> ((repeat' split) <;> first | rfl | omega))); rintro e w' ⟨rfl, rfl⟩
        try go_wp2_with fail
        refine hK.out _ _ ?_ (fun hHeld => ?_)
        · try dsimp only
          exact (fun K => ⟨⟨(blkC (blkStay HK4.out K)).1, (blkC (blkStay HG4.out K)).1⟩, K⟩) (by repeat (first | exact hb9 | exact Below.refl _ _ | refine Below.drew ?_ | refine Below.alloc ?_ (by first | exact Nat.le_refl _ | exact hb9.size | (simp; done) | (have := hb9.size; simp; omega) | (simp; omega)) _))
        clear hK K; try simp only [Act.put, List.setIfInBounds_toArray, List.set_cons_zero, List.set_cons_succ]
        refine wpAnyH_take (i := 21) (v := ?hv16) rfl (by kernel_rfl) (by kernel_rfl) (by kernel_rfl) (fun _ _ _ h => h) (Or.inl ⟨by rfl, ?hy16⟩) (by assumption) ?hr16; (case hy16 => ((intro w hSw; (try dsimp only at hSw); go_simp) <;> with_reducible rfl)); try simp only [Act.put, List.setIfInBounds_toArray, List.set_cons_zero, List.set_cons_succ]
        refine wpAnyH_done (by kernel_rfl) ?_ _
        have HBh := Lib.hid (HB4.trans (hHeld.2.mono HB4.size))
        clear hHeld
        go_wp2
        go_ret
        exact ⟨rfl, HBh.out⟩

set_option maxHeartbeats 8000000 in
theorem suitsO (k : Knd) (ht sl we v lo hi so : Nat) (hs : k.name.size ≤ 9223372036854775807) (w : World) (hE : slkE v lo hi so = 0) :
    Calls Try.prog 7 #[kndV k, gndV ht sl we, .float .f32 v, .float .f32 lo, .float .f32 hi, .float .f32 so] w fun e w' => e = .returned (.bool true) ∧ Below w.heap.size w w' := by
  have N4 := Lib.hid (fun p w (q : w.heap[p]? = some (.cells #[.float .f32 v, .float .f32 lo, .float .f32 hi, .float .f32 so] 30)) => qNumberError_row p 0 4 4 (four v lo hi so) (by omega) w (flAt_four q))
  have NE := Lib.hid (fun p w (q : w.heap[p]? = some (.cells #[.float .f32 ht, .float .f32 sl, .float .f32 we] 30)) => qNumberError_row p 0 3 3 (tri ht sl we) (by omega) w (flAt_tri q))
  have QK := Lib.hid (fun w => qKindError_any k hs w)
  have SX := Lib.hid (fun w => slackX_any v lo hi so w)
  have SY := Lib.hid (fun w => suitX_any k ht sl we hs w)
  obtain ⟨b1, hb1⟩ : ∃ b, ltB hi lo = b := ⟨_, rfl⟩
  obtain ⟨b2, hb2⟩ : ∃ b, ltB so 0 = b := ⟨_, rfl⟩
  have W1 := Lib.hid (fun w => when_any b1 8 w)
  have W2 := Lib.hid (fun w => when_any b2 3 w)
  have F4 := Lib.hid (fun p w (q : w.heap[p]? = some (.cells #[.int .i64 (fldE 4 (four v lo hi so)), .int .i64 (whenE b1 8), .int .i64 (whenE b2 3)] 31)) => first3_any (fldE 4 (four v lo hi so)) (whenE b1 8) (whenE b2 3) p w q)
  have t1 := hb1
  have t2 := hb2
  unfold ltB at t1 t2
  have z0 := zero_self
  have z1 := zero_ne
  have eD : firstE (firstE (fldE 4 (four v lo hi so)) (whenE b1 8)) (whenE b2 3) = slkE v lo hi so := by unfold slkE; rw [hb1, hb2]
  rw [eD] at F4
  have ev : slkV v lo hi so = slkW v lo hi so := by unfold slkV; rw [if_pos hE]
  obtain ⟨q1, q2, q3⟩ := slkE_ok hE
  obtain ⟨g1, g2, g3, g4⟩ := four_hgt q1
  obtain ⟨z, vz, _⟩ := hgt_val g4
  have SO := Lib.hid (fun w => qSlackOf_any v lo hi so w g1 g2 g3 vz q2)
  rw [ev, hE] at SX
  rw [hE] at F4
  clear ev eD hb1 hb2 hE q1 q2 q3 g1 g2 g3 g4 vz
  generalize slkW v lo hi so = V1 at *
  generalize fldE 4 (four v lo hi so) = e4 at *
  obtain ⟨d1, hd1⟩ : ∃ b, ltB sl 0 = b := ⟨_, rfl⟩
  obtain ⟨d2, hd2⟩ : ∃ b, ltB we 0 = b := ⟨_, rfl⟩
  have r1 := hd1
  have r2 := hd2
  unfold ltB at r1 r2
  have eF : firstE (firstE k.err (fldE 3 (tri ht sl we))) (whenE (d1 || d2) 3) = suiE k ht sl we := by unfold suiE; rw [hd1, hd2]
  have WH := Lib.hid (fun w => when_any (d1 || d2) 3 w)
  have FI := Lib.hid (fun p w (q : w.heap[p]? = some (.cells #[.int .i64 k.err, .int .i64 (fldE 3 (tri ht sl we)), .int .i64 (whenE (d1 || d2) 3)] 31)) => first3_any k.err (fldE 3 (tri ht sl we)) (whenE (d1 || d2) 3) p w q)
  rw [eF] at FI
  by_cases hF : suiE k ht sl we = 0
  · have ev : suiV k ht sl we = suiW k ht sl we := by unfold suiV; rw [if_pos hF]
    obtain ⟨q1, q2, q3, q4⟩ := suiE_ok hF
    obtain ⟨g1, g2, g3⟩ := tri_hgt q2
    obtain ⟨a, va, _⟩ := hgt_val g2
    have SF := Lib.hid (fun w => qSuitOf_any k ht sl we w (knd_ok q1) g1 va (lt_zero_no va q3) g3)
    rw [ev, hF] at SY
    rw [hF] at FI
    rw [q3] at hd1
    rw [q4] at hd2
    subst hd1 hd2
    clear ev eF hF q3 q4 g1 g2 g3 va
    rw [q1] at QK FI
    rw [q2] at NE FI
    simp only [Bool.or_self] at WH FI
    clear q1 q2
    generalize suiW k ht sl we = V2 at *
    go_enter Try.func7, Try.ntmps7
    go_wp2_with (first
      | (go_at_call 41; refine (SX.out _).mono ?_; rintro e w2 ⟨rfl, hb2⟩; have HK2 := Lib.hid (blkStay (b := w.heap.size) (o := kndO k) (by (first | (rw [heap_alloc_get, if_pos rfl]; done) | ((simp only [heap_alloc_get, heap_size_alloc, if_true]) <;> ((repeat' split) <;> first | rfl | omega)))) hb2); have HG2 := Lib.hid (blkStay (b := w.heap.size + 1) (o := gndO ht sl we) (by (first | (rw [heap_alloc_get, if_pos rfl]; done) | ((simp only [heap_alloc_get, heap_size_alloc, if_true]) <;> ((repeat' split) <;> first | rfl | omega)))) hb2); have HB2 : Below w.heap.size w w2 := Below.trans (by repeat (first | exact Below.refl _ _ | refine Below.alloc ?_ (by first | omega | (simp; done) | (simp; omega)) _ | refine Below.setCell ?_ (by first | omega | (simp; done) | (simp; omega)) _ | refine Below.drew ?_)) (Below.mono hb2 (by simp; omega)); clear hb2)
      | (go_at_call 43; refine (N4.out _ _ (by (first | (rw [heap_alloc_get, if_pos rfl]; done) | ((simp only [heap_alloc_get, heap_size_alloc, if_true]) <;> ((repeat' split) <;> first | rfl | omega))))).mono ?_; rintro e w' ⟨rfl, rfl⟩)
      | (go_at_call 44; (with_reducible refine Calls.mono (W1.out _) ?_); rintro e w' ⟨rfl, rfl⟩)
      | (go_at_call 44; (with_reducible refine Calls.mono (W2.out _) ?_); rintro e w' ⟨rfl, rfl⟩)
      | (go_at_call 42; refine (F4.out _ _ (by (first | (rw [heap_alloc_get, if_pos rfl]; done) | ((simp only [heap_alloc_get, heap_size_alloc, if_true]) <;> ((repeat' split) <;> first | rfl | omega))))).mono ?_; rintro e w' ⟨rfl, rfl⟩)
      | (go_at_call 36; refine (grows_any _).mono ?_; rintro e w3 ⟨rfl, hb3⟩; have h23 : Below w2.heap.size w2 w3 := Below.trans (by repeat (first | exact Below.refl _ _ | refine Below.alloc ?_ (by first | omega | (simp; done) | (simp; omega)) _ | refine Below.setCell ?_ (by first | omega | (simp; done) | (simp; omega)) _ | refine Below.drew ?_)) (Below.mono hb3 (by simp; omega)); have HK3 := Lib.hid (blkStay HK2.out h23); have HG3 := Lib.hid (blkStay HG2.out h23); have HB3 := HB2.trans (h23.mono HB2.size); clear hb3 h23; obtain ⟨cK, fK, zK⟩ := blkC HK3.out; obtain ⟨cG, fG, zG⟩ := blkC HG3.out)
      | (go_at_call 46; refine (SO.out _).mono ?_; rintro e w' ⟨rfl, rfl⟩)
      | (go_at_call 45; refine (bit_self _ _).mono ?_; rintro e w' ⟨rfl, rfl⟩)
      | (go_at_call 47; refine (SY.out _).mono ?_; rintro e w4 ⟨rfl, hb4⟩; clear cK fK zK cG fG zG; have HK4 := Lib.hid (blkStay HK3.out hb4); have HG4 := Lib.hid (blkStay HG3.out hb4); have HB4 := HB3.trans (hb4.mono HB3.size); clear hb4; obtain ⟨cK, fK, zK⟩ := blkC HK4.out; obtain ⟨cG, fG, zG⟩ := blkC HG4.out))
    go_region_held3 (fun w' => ((∀ o, w'.cell? ⟨w.heap.size, o, none⟩ = k.cells[o]?) ∧ (∀ o, w'.cell? ⟨w.heap.size + 1, o, none⟩ = #[.float .f32 ht, .float .f32 sl, .float .f32 we][o]?)) ∧ Below w4.heap.size w4 w') (exact (fun K => ⟨⟨(blkC (blkStay HK4.out K)).1, (blkC (blkStay HG4.out K)).1⟩, K⟩) (by repeat (first | exact hb9 | exact Below.refl _ _ | refine Below.drew ?_ | refine Below.alloc ?_ (by first | exact Nat.le_refl _ | exact hb9.size | (simp; done) | (have := hb9.size; simp; omega) | (simp; omega)) _))) (first
        | (go_at_call 40; (with_reducible refine Calls.mono (QK.out _) ?_); rintro e w' ⟨rfl, hb7⟩; have hb9 : Below w4.heap.size w4 w' := Below.trans (by repeat (first | exact hb9 | exact Below.refl _ _ | refine Below.drew ?_ | refine Below.alloc ?_ (by first | exact Nat.le_refl _ | exact hb9.size | (simp; done) | (have := hb9.size; simp; omega) | (simp; omega)) _)) (Below.mono hb7 (by first | exact Nat.le_refl _ | (simp; done) | (simp; omega))))
        | (go_at_call 43; (with_reducible refine Calls.mono (NE.out _ _ ?_) ?_); (first | ((simp only [heap_alloc_get, if_true]) <;> ((repeat' split) <;> first | rfl | omega)) | (refine blkStay ?_ hb7; exact heap_alloc_new w4 _)); rintro e w' ⟨rfl, rfl⟩)
        | (go_at_call 44; (with_reducible refine Calls.mono (WH.out _) ?_); rintro e w' ⟨rfl, rfl⟩)
        | (go_at_call 42; (with_reducible refine Calls.mono (FI.out _ _ ?_) ?_); (first | ((simp only [heap_alloc_get, if_true]) <;> ((repeat' split) <;> first | rfl | omega)) | ((simp only [heap_alloc_get, heap_size_alloc, if_true]) <;> ((repeat' split) <;> first | rfl | omega))); rintro e w' ⟨rfl, rfl⟩))
    all_goals have hHeld := ‹_ ∧ Below w4.heap.size w4 _›
    all_goals have HBh := Lib.hid (HB4.trans (hHeld.2.mono HB4.size))
    all_goals clear hHeld
    all_goals go_wp2_with (first
      | (go_at_call 48; refine (SF.out _).mono ?_; rintro e w5 ⟨rfl, hb5⟩; have HB5 := Lib.hid (HBh.out.trans (hb5.mono HBh.out.size)); clear hb5)
      | (go_at_call 45; refine (bit_self _ _).mono ?_; rintro e w' ⟨rfl, rfl⟩))
    all_goals go_ret
    all_goals exact ⟨rfl, HB5.out⟩
  · have ev : suiV k ht sl we = 0 := by unfold suiV; rw [if_neg hF]
    have cx : (suiE k ht sl we != 0) = true := by simp [hF]
    rw [ev] at SY
    clear ev eF hF hd1 hd2
    generalize suiE k ht sl we = E2 at *
    generalize k.err = e5 at *
    generalize fldE 3 (tri ht sl we) = e3 at *
    cases d1
    · simp only [Bool.false_or] at WH FI
      go_enter Try.func7, Try.ntmps7
      go_wp2_with (first
        | (go_at_call 41; refine (SX.out _).mono ?_; rintro e w2 ⟨rfl, hb2⟩; have HK2 := Lib.hid (blkStay (b := w.heap.size) (o := kndO k) (by (first | (rw [heap_alloc_get, if_pos rfl]; done) | ((simp only [heap_alloc_get, heap_size_alloc, if_true]) <;> ((repeat' split) <;> first | rfl | omega)))) hb2); have HG2 := Lib.hid (blkStay (b := w.heap.size + 1) (o := gndO ht sl we) (by (first | (rw [heap_alloc_get, if_pos rfl]; done) | ((simp only [heap_alloc_get, heap_size_alloc, if_true]) <;> ((repeat' split) <;> first | rfl | omega)))) hb2); have HB2 : Below w.heap.size w w2 := Below.trans (by repeat (first | exact Below.refl _ _ | refine Below.alloc ?_ (by first | omega | (simp; done) | (simp; omega)) _ | refine Below.setCell ?_ (by first | omega | (simp; done) | (simp; omega)) _ | refine Below.drew ?_)) (Below.mono hb2 (by simp; omega)); clear hb2)
        | (go_at_call 43; refine (N4.out _ _ (by (first | (rw [heap_alloc_get, if_pos rfl]; done) | ((simp only [heap_alloc_get, heap_size_alloc, if_true]) <;> ((repeat' split) <;> first | rfl | omega))))).mono ?_; rintro e w' ⟨rfl, rfl⟩)
        | (go_at_call 44; (with_reducible refine Calls.mono (W1.out _) ?_); rintro e w' ⟨rfl, rfl⟩)
        | (go_at_call 44; (with_reducible refine Calls.mono (W2.out _) ?_); rintro e w' ⟨rfl, rfl⟩)
        | (go_at_call 42; refine (F4.out _ _ (by (first | (rw [heap_alloc_get, if_pos rfl]; done) | ((simp only [heap_alloc_get, heap_size_alloc, if_true]) <;> ((repeat' split) <;> first | rfl | omega))))).mono ?_; rintro e w' ⟨rfl, rfl⟩)
        | (go_at_call 36; refine (grows_any _).mono ?_; rintro e w3 ⟨rfl, hb3⟩; have h23 : Below w2.heap.size w2 w3 := Below.trans (by repeat (first | exact Below.refl _ _ | refine Below.alloc ?_ (by first | omega | (simp; done) | (simp; omega)) _ | refine Below.setCell ?_ (by first | omega | (simp; done) | (simp; omega)) _ | refine Below.drew ?_)) (Below.mono hb3 (by simp; omega)); have HK3 := Lib.hid (blkStay HK2.out h23); have HG3 := Lib.hid (blkStay HG2.out h23); have HB3 := HB2.trans (h23.mono HB2.size); clear hb3 h23; obtain ⟨cK, fK, zK⟩ := blkC HK3.out; obtain ⟨cG, fG, zG⟩ := blkC HG3.out)
        | (go_at_call 46; refine (SO.out _).mono ?_; rintro e w' ⟨rfl, rfl⟩)
        | (go_at_call 45; refine (bit_self _ _).mono ?_; rintro e w' ⟨rfl, rfl⟩)
        | (go_at_call 47; refine (SY.out _).mono ?_; rintro e w4 ⟨rfl, hb4⟩; clear cK fK zK cG fG zG; have HK4 := Lib.hid (blkStay HK3.out hb4); have HG4 := Lib.hid (blkStay HG3.out hb4); have HB4 := HB3.trans (hb4.mono HB3.size); clear hb4; obtain ⟨cK, fK, zK⟩ := blkC HK4.out; obtain ⟨cG, fG, zG⟩ := blkC HG4.out))
      go_region_held3 (fun w' => ((∀ o, w'.cell? ⟨w.heap.size, o, none⟩ = k.cells[o]?) ∧ (∀ o, w'.cell? ⟨w.heap.size + 1, o, none⟩ = #[.float .f32 ht, .float .f32 sl, .float .f32 we][o]?)) ∧ Below w4.heap.size w4 w') (exact (fun K => ⟨⟨(blkC (blkStay HK4.out K)).1, (blkC (blkStay HG4.out K)).1⟩, K⟩) (by repeat (first | exact hb9 | exact Below.refl _ _ | refine Below.drew ?_ | refine Below.alloc ?_ (by first | exact Nat.le_refl _ | exact hb9.size | (simp; done) | (have := hb9.size; simp; omega) | (simp; omega)) _))) (first
          | (go_at_call 40; (with_reducible refine Calls.mono (QK.out _) ?_); rintro e w' ⟨rfl, hb7⟩; have hb9 : Below w4.heap.size w4 w' := Below.trans (by repeat (first | exact hb9 | exact Below.refl _ _ | refine Below.drew ?_ | refine Below.alloc ?_ (by first | exact Nat.le_refl _ | exact hb9.size | (simp; done) | (have := hb9.size; simp; omega) | (simp; omega)) _)) (Below.mono hb7 (by first | exact Nat.le_refl _ | (simp; done) | (simp; omega))))
          | (go_at_call 43; (with_reducible refine Calls.mono (NE.out _ _ ?_) ?_); (first | ((simp only [heap_alloc_get, if_true]) <;> ((repeat' split) <;> first | rfl | omega)) | (refine blkStay ?_ hb7; exact heap_alloc_new w4 _)); rintro e w' ⟨rfl, rfl⟩)
          | (go_at_call 44; (with_reducible refine Calls.mono (WH.out _) ?_); rintro e w' ⟨rfl, rfl⟩)
          | (go_at_call 42; (with_reducible refine Calls.mono (FI.out _ _ ?_) ?_); (first | ((simp only [heap_alloc_get, if_true]) <;> ((repeat' split) <;> first | rfl | omega)) | ((simp only [heap_alloc_get, heap_size_alloc, if_true]) <;> ((repeat' split) <;> first | rfl | omega))); rintro e w' ⟨rfl, rfl⟩))
      all_goals have hHeld := ‹_ ∧ Below w4.heap.size w4 _›
      all_goals have HBh := Lib.hid (HB4.trans (hHeld.2.mono HB4.size))
      all_goals clear hHeld
      all_goals go_wp2
      all_goals go_ret
      all_goals exact ⟨rfl, HBh.out⟩

    · simp only [Bool.true_or] at WH FI
      go_enter Try.func7, Try.ntmps7
      go_wp2_with (first
        | (go_at_call 41; refine (SX.out _).mono ?_; rintro e w2 ⟨rfl, hb2⟩; have HK2 := Lib.hid (blkStay (b := w.heap.size) (o := kndO k) (by (first | (rw [heap_alloc_get, if_pos rfl]; done) | ((simp only [heap_alloc_get, heap_size_alloc, if_true]) <;> ((repeat' split) <;> first | rfl | omega)))) hb2); have HG2 := Lib.hid (blkStay (b := w.heap.size + 1) (o := gndO ht sl we) (by (first | (rw [heap_alloc_get, if_pos rfl]; done) | ((simp only [heap_alloc_get, heap_size_alloc, if_true]) <;> ((repeat' split) <;> first | rfl | omega)))) hb2); have HB2 : Below w.heap.size w w2 := Below.trans (by repeat (first | exact Below.refl _ _ | refine Below.alloc ?_ (by first | omega | (simp; done) | (simp; omega)) _ | refine Below.setCell ?_ (by first | omega | (simp; done) | (simp; omega)) _ | refine Below.drew ?_)) (Below.mono hb2 (by simp; omega)); clear hb2)
        | (go_at_call 43; refine (N4.out _ _ (by (first | (rw [heap_alloc_get, if_pos rfl]; done) | ((simp only [heap_alloc_get, heap_size_alloc, if_true]) <;> ((repeat' split) <;> first | rfl | omega))))).mono ?_; rintro e w' ⟨rfl, rfl⟩)
        | (go_at_call 44; (with_reducible refine Calls.mono (W1.out _) ?_); rintro e w' ⟨rfl, rfl⟩)
        | (go_at_call 44; (with_reducible refine Calls.mono (W2.out _) ?_); rintro e w' ⟨rfl, rfl⟩)
        | (go_at_call 42; refine (F4.out _ _ (by (first | (rw [heap_alloc_get, if_pos rfl]; done) | ((simp only [heap_alloc_get, heap_size_alloc, if_true]) <;> ((repeat' split) <;> first | rfl | omega))))).mono ?_; rintro e w' ⟨rfl, rfl⟩)
        | (go_at_call 36; refine (grows_any _).mono ?_; rintro e w3 ⟨rfl, hb3⟩; have h23 : Below w2.heap.size w2 w3 := Below.trans (by repeat (first | exact Below.refl _ _ | refine Below.alloc ?_ (by first | omega | (simp; done) | (simp; omega)) _ | refine Below.setCell ?_ (by first | omega | (simp; done) | (simp; omega)) _ | refine Below.drew ?_)) (Below.mono hb3 (by simp; omega)); have HK3 := Lib.hid (blkStay HK2.out h23); have HG3 := Lib.hid (blkStay HG2.out h23); have HB3 := HB2.trans (h23.mono HB2.size); clear hb3 h23; obtain ⟨cK, fK, zK⟩ := blkC HK3.out; obtain ⟨cG, fG, zG⟩ := blkC HG3.out)
        | (go_at_call 46; refine (SO.out _).mono ?_; rintro e w' ⟨rfl, rfl⟩)
        | (go_at_call 45; refine (bit_self _ _).mono ?_; rintro e w' ⟨rfl, rfl⟩)
        | (go_at_call 47; refine (SY.out _).mono ?_; rintro e w4 ⟨rfl, hb4⟩; clear cK fK zK cG fG zG; have HK4 := Lib.hid (blkStay HK3.out hb4); have HG4 := Lib.hid (blkStay HG3.out hb4); have HB4 := HB3.trans (hb4.mono HB3.size); clear hb4; obtain ⟨cK, fK, zK⟩ := blkC HK4.out; obtain ⟨cG, fG, zG⟩ := blkC HG4.out))
      refine wp_region_held_drew (S := (fun w' => ((∀ o, w'.cell? ⟨w.heap.size, o, none⟩ = k.cells[o]?) ∧ (∀ o, w'.cell? ⟨w.heap.size + 1, o, none⟩ = #[.float .f32 ht, .float .f32 sl, .float .f32 we][o]?)) ∧ Below w4.heap.size w4 w')) (by kernel_rfl) ?_ (fun hHeld => ?_)
      · try dsimp only
        exact (fun K => ⟨⟨(blkC (blkStay HK4.out K)).1, (blkC (blkStay HG4.out K)).1⟩, K⟩) (by repeat (first | exact hb9 | exact Below.refl _ _ | refine Below.drew ?_ | refine Below.alloc ?_ (by first | exact Nat.le_refl _ | exact hb9.size | (simp; done) | (have := hb9.size; simp; omega) | (simp; omega)) _))
      refine wpAnyH_take (i := 0) (v := ?hv17) rfl (by kernel_rfl) (by kernel_rfl) (by kernel_rfl) (fun _ _ _ h => h) (Or.inl ⟨by rfl, ?hy17⟩) (by assumption) ?hr17; (case hy17 => ((intro w hSw; (try dsimp only at hSw); go_simp) <;> with_reducible rfl)); try simp only [Act.put, List.setIfInBounds_toArray, List.set_cons_zero, List.set_cons_succ]
      refine wpAnyH_take (i := 2) (v := ?hv18) rfl (by kernel_rfl) (by kernel_rfl) (by kernel_rfl) (fun _ _ _ h => h) (Or.inl ⟨by rfl, ?hy18⟩) (by assumption) ?hr18; (case hy18 => ((intro w hSw; (try dsimp only at hSw); go_simp) <;> with_reducible rfl)); try simp only [Act.put, List.setIfInBounds_toArray, List.set_cons_zero, List.set_cons_succ]
      refine wpAnyH_take (i := 3) (v := ?hv19) rfl (by kernel_rfl) (by kernel_rfl) (by kernel_rfl) (fun _ _ _ h => h) (Or.inl ⟨by rfl, ?hy19⟩) (by assumption) ?hr19; (case hy19 => ((intro w hSw; (try dsimp only at hSw); go_simp) <;> with_reducible rfl)); try simp only [Act.put, List.setIfInBounds_toArray, List.set_cons_zero, List.set_cons_succ]
      refine wpAnyH_take (i := 4) (v := ?hv20) rfl (by kernel_rfl) (by kernel_rfl) (by kernel_rfl) (fun _ _ _ h => h) (Or.inl ⟨by rfl, ?hy20⟩) (by assumption) ?hr20; (case hy20 => ((intro w hSw; (try dsimp only at hSw); go_simp) <;> with_reducible rfl)); try simp only [Act.put, List.setIfInBounds_toArray, List.set_cons_zero, List.set_cons_succ]
      refine wpAnyH_take (i := 5) (v := ?hv21) rfl (by kernel_rfl) (by kernel_rfl) (by kernel_rfl) (fun _ _ _ h => h) (Or.inl ⟨by rfl, ?hy21⟩) (by assumption) ?hr21; (case hy21 => ((intro w hSw; (try dsimp only at hSw); go_simp) <;> with_reducible rfl)); try simp only [Act.put, List.setIfInBounds_toArray, List.set_cons_zero, List.set_cons_succ]
      refine wpAnyH_take (i := 6) (v := ?hv22) rfl (by kernel_rfl) (by kernel_rfl) (by kernel_rfl) (fun _ _ _ h => h) (Or.inl ⟨by rfl, ?hy22⟩) (by assumption) ?hr22; (case hy22 => ((intro w hSw; (try dsimp only at hSw); go_simp) <;> with_reducible rfl)); try simp only [Act.put, List.setIfInBounds_toArray, List.set_cons_zero, List.set_cons_succ]
      refine wpAnyH_take (i := 7) (v := ?hv23) rfl (by kernel_rfl) (by kernel_rfl) (by kernel_rfl) (fun _ _ _ h => h) (Or.inl ⟨by rfl, ?hy23⟩) (by assumption) ?hr23; (case hy23 => ((intro w hSw; (try dsimp only at hSw); go_simp) <;> with_reducible rfl)); try simp only [Act.put, List.setIfInBounds_toArray, List.set_cons_zero, List.set_cons_succ]
      refine wpAnyH_take (i := 10) (v := ?hv24) rfl (by kernel_rfl) (by kernel_rfl) (by kernel_rfl) (fun _ _ _ h => h) (Or.inl ⟨by rfl, ?hy24⟩) (by assumption) ?hr24; (case hy24 => ((intro w hSw; (try dsimp only at hSw); go_simp) <;> with_reducible rfl)); try simp only [Act.put, List.setIfInBounds_toArray, List.set_cons_zero, List.set_cons_succ]
      refine wpAnyH_take (i := 11) (v := ?hv25) rfl (by kernel_rfl) (by kernel_rfl) (by kernel_rfl) (fun _ _ _ h => h) (Or.inl ⟨by rfl, ?hy25⟩) (by assumption) ?hr25; (case hy25 => ((intro w hSw; (try dsimp only at hSw); go_simp) <;> with_reducible rfl)); try simp only [Act.put, List.setIfInBounds_toArray, List.set_cons_zero, List.set_cons_succ]
      refine wpAnyH_take (i := 12) (v := ?hv26) rfl (by kernel_rfl) (by kernel_rfl) (by kernel_rfl) (fun _ _ _ h => h) (Or.inl ⟨by rfl, ?hy26⟩) (by assumption) ?hr26; (case hy26 => ((intro w hSw; (try dsimp only at hSw); go_simp) <;> with_reducible rfl)); try simp only [Act.put, List.setIfInBounds_toArray, List.set_cons_zero, List.set_cons_succ]
      refine wpAnyH_ready (rs := [1, 8]) (by kernel_rfl) (by simp) ?_
      refine AllReadyH.cons rfl (fun K hK => ?_) (AllReadyH.cons rfl (fun K hK => ?_) AllReadyH.nil)
      · go_simp
        (with_reducible refine Calls.mono (QK.out _) ?_); rintro e w' ⟨rfl, hb7⟩; have hb9 : Below w4.heap.size w4 w' := Below.trans (by repeat (first | exact Below.refl _ _ | refine Below.drew ?_ | refine Below.alloc ?_ (by first | exact Nat.le_refl _ | (simp; done) | (simp; omega)) _)) (Below.mono hb7 (by first | exact Nat.le_refl _ | (simp; done) | (simp; omega)))
        try go_wp2_with fail
        refine hK.out _ _ ?_ (fun hHeld => ?_)
        · try dsimp only
          exact (fun K => ⟨⟨(blkC (blkStay HK4.out K)).1, (blkC (blkStay HG4.out K)).1⟩, K⟩) (by repeat (first | exact hb9 | exact Below.refl _ _ | refine Below.drew ?_ | refine Below.alloc ?_ (by first | exact Nat.le_refl _ | exact hb9.size | (simp; done) | (have := hb9.size; simp; omega) | (simp; omega)) _))
        clear hK K; try simp only [Act.put, List.setIfInBounds_toArray, List.set_cons_zero, List.set_cons_succ]
        refine wpAnyH_ready (rs := [8]) (by kernel_rfl) (by simp) ?_; refine AllReadyH.cons rfl (fun K hK => ?_) AllReadyH.nil; go_simp
        refine hK.out _ _ ?_ (fun hHeld => ?_)
        · try dsimp only
          exact (fun K => ⟨⟨(blkC (blkStay HK4.out K)).1, (blkC (blkStay HG4.out K)).1⟩, K⟩) (by repeat (first | exact hb9 | exact Below.refl _ _ | refine Below.drew ?_ | refine Below.alloc ?_ (by first | exact Nat.le_refl _ | exact hb9.size | (simp; done) | (have := hb9.size; simp; omega) | (simp; omega)) _))
        clear hK K; try simp only [Act.put, List.setIfInBounds_toArray, List.set_cons_zero, List.set_cons_succ]
        refine wpAnyH_ready (rs := [9]) (by kernel_rfl) (by simp) ?_; refine AllReadyH.cons rfl (fun K hK => ?_) AllReadyH.nil; go_simp
        (with_reducible refine Calls.mono (NE.out _ _ ?_) ?_); (first | ((simp only [heap_alloc_get, if_true]) <;> ((repeat' split) <;> first | rfl | omega)) | (refine blkStay ?_ hb7; exact heap_alloc_new _ _)); rintro e w' ⟨rfl, rfl⟩
        try go_wp2_with fail
        refine hK.out _ _ ?_ (fun hHeld => ?_)
        · try dsimp only
          exact (fun K => ⟨⟨(blkC (blkStay HK4.out K)).1, (blkC (blkStay HG4.out K)).1⟩, K⟩) (by repeat (first | exact hb9 | exact Below.refl _ _ | refine Below.drew ?_ | refine Below.alloc ?_ (by first | exact Nat.le_refl _ | exact hb9.size | (simp; done) | (have := hb9.size; simp; omega) | (simp; omega)) _))
        clear hK K; try simp only [Act.put, List.setIfInBounds_toArray, List.set_cons_zero, List.set_cons_succ]
        refine wpAnyH_take (i := 13) (v := ?hv27) rfl (by kernel_rfl) (by kernel_rfl) (by kernel_rfl) (fun _ _ _ h => h) (Or.inl ⟨by rfl, ?hy27⟩) (by assumption) ?hr27; (case hy27 => ((intro w hSw; (try dsimp only at hSw); go_simp) <;> with_reducible rfl)); try simp only [Act.put, List.setIfInBounds_toArray, List.set_cons_zero, List.set_cons_succ]
        refine wpAnyH_ready (rs := [14]) (by kernel_rfl) (by simp) ?_; refine AllReadyH.cons rfl (fun K hK => ?_) AllReadyH.nil; go_simp
        refine hK.out _ _ ?_ (fun hHeld => ?_)
        · assumption
        clear hK K; try simp only [Act.put, List.setIfInBounds_toArray, List.set_cons_zero, List.set_cons_succ]
        refine wpAnyH_ready (rs := [15]) (by kernel_rfl) (by simp) ?_; refine AllReadyH.cons rfl (fun K hK => ?_) AllReadyH.nil; go_simp
        refine hK.out _ _ ?_ (fun hHeld => ?_)
        · assumption
        clear hK K; try simp only [Act.put, List.setIfInBounds_toArray, List.set_cons_zero, List.set_cons_succ]
        refine wpAnyH_ready (rs := [16]) (by kernel_rfl) (by simp) ?_; refine AllReadyH.cons rfl (fun K hK => ?_) AllReadyH.nil; go_simp
        refine hK.out _ _ ?_ (fun hHeld => ?_)
        · assumption
        clear hK K; try simp only [Act.put, List.setIfInBounds_toArray, List.set_cons_zero, List.set_cons_succ]
        refine wpAnyH_take (i := 17) (v := ?hv28) rfl (by kernel_rfl) (by kernel_rfl) (by kernel_rfl) (fun _ _ _ h => h) (Or.inl ⟨by rfl, ?hy28⟩) (by assumption) ?hr28; (case hy28 => ((intro w hSw; (try dsimp only at hSw); go_simp) <;> with_reducible rfl)); try simp only [Act.put, List.setIfInBounds_toArray, List.set_cons_zero, List.set_cons_succ]
        refine wpAnyH_ready (rs := [18]) (by kernel_rfl) (by simp) ?_; refine AllReadyH.cons rfl (fun K hK => ?_) AllReadyH.nil; go_simp
        (with_reducible refine Calls.mono (WH.out _) ?_); rintro e w' ⟨rfl, rfl⟩
        try go_wp2_with fail
        refine hK.out _ _ ?_ (fun hHeld => ?_)
        · try dsimp only
          exact (fun K => ⟨⟨(blkC (blkStay HK4.out K)).1, (blkC (blkStay HG4.out K)).1⟩, K⟩) (by repeat (first | exact hb9 | exact Below.refl _ _ | refine Below.drew ?_ | refine Below.alloc ?_ (by first | exact Nat.le_refl _ | exact hb9.size | (simp; done) | (have := hb9.size; simp; omega) | (simp; omega)) _))
        clear hK K; try simp only [Act.put, List.setIfInBounds_toArray, List.set_cons_zero, List.set_cons_succ]
        refine wpAnyH_ready (rs := [19]) (by kernel_rfl) (by simp) ?_; refine AllReadyH.cons rfl (fun K hK => ?_) AllReadyH.nil; go_simp
        refine hK.out _ _ ?_ (fun hHeld => ?_)
        · try dsimp only
          exact (fun K => ⟨⟨(blkC (blkStay HK4.out K)).1, (blkC (blkStay HG4.out K)).1⟩, K⟩) (by repeat (first | exact hb9 | exact Below.refl _ _ | refine Below.drew ?_ | refine Below.alloc ?_ (by first | exact Nat.le_refl _ | exact hb9.size | (simp; done) | (have := hb9.size; simp; omega) | (simp; omega)) _))
        clear hK K; try simp only [Act.put, List.setIfInBounds_toArray, List.set_cons_zero, List.set_cons_succ]
        refine wpAnyH_ready (rs := [20]) (by kernel_rfl) (by simp) ?_; refine AllReadyH.cons rfl (fun K hK => ?_) AllReadyH.nil; go_simp
        (with_reducible refine Calls.mono (FI.out _ _ ?_) ?_); (first | ((simp only [heap_alloc_get, if_true]) <;> ((repeat' split) <;> first | rfl | omega)) | ((simp only [heap_alloc_get, heap_size_alloc, if_true]) <;> ((repeat' split) <;> first | rfl | omega))); rintro e w' ⟨rfl, rfl⟩
        try go_wp2_with fail
        refine hK.out _ _ ?_ (fun hHeld => ?_)
        · try dsimp only
          exact (fun K => ⟨⟨(blkC (blkStay HK4.out K)).1, (blkC (blkStay HG4.out K)).1⟩, K⟩) (by repeat (first | exact hb9 | exact Below.refl _ _ | refine Below.drew ?_ | refine Below.alloc ?_ (by first | exact Nat.le_refl _ | exact hb9.size | (simp; done) | (have := hb9.size; simp; omega) | (simp; omega)) _))
        clear hK K; try simp only [Act.put, List.setIfInBounds_toArray, List.set_cons_zero, List.set_cons_succ]
        refine wpAnyH_take (i := 21) (v := ?hv29) rfl (by kernel_rfl) (by kernel_rfl) (by kernel_rfl) (fun _ _ _ h => h) (Or.inl ⟨by rfl, ?hy29⟩) (by assumption) ?hr29; (case hy29 => ((intro w hSw; (try dsimp only at hSw); go_simp) <;> with_reducible rfl)); try simp only [Act.put, List.setIfInBounds_toArray, List.set_cons_zero, List.set_cons_succ]
        refine wpAnyH_done (by kernel_rfl) ?_ _
        have HBh := Lib.hid (HB4.trans (hHeld.2.mono HB4.size))
        clear hHeld
        go_wp2
        go_ret
        exact ⟨rfl, HBh.out⟩
      · go_simp
        refine hK.out _ _ ?_ (fun hHeld => ?_)
        · try dsimp only
          exact (fun K => ⟨⟨(blkC (blkStay HK4.out K)).1, (blkC (blkStay HG4.out K)).1⟩, K⟩) (by repeat (first | exact hb9 | exact Below.refl _ _ | refine Below.drew ?_ | refine Below.alloc ?_ (by first | exact Nat.le_refl _ | exact hb9.size | (simp; done) | (have := hb9.size; simp; omega) | (simp; omega)) _))
        clear hK K; try simp only [Act.put, List.setIfInBounds_toArray, List.set_cons_zero, List.set_cons_succ]
        refine wpAnyH_ready (rs := [1]) (by kernel_rfl) (by simp) ?_; refine AllReadyH.cons rfl (fun K hK => ?_) AllReadyH.nil; go_simp
        (with_reducible refine Calls.mono (QK.out _) ?_); rintro e w' ⟨rfl, hb7⟩; have hb9 : Below w4.heap.size w4 w' := Below.trans (by repeat (first | exact Below.refl _ _ | refine Below.drew ?_ | refine Below.alloc ?_ (by first | exact Nat.le_refl _ | (simp; done) | (simp; omega)) _)) (Below.mono hb7 (by first | exact Nat.le_refl _ | (simp; done) | (simp; omega)))
        try go_wp2_with fail
        refine hK.out _ _ ?_ (fun hHeld => ?_)
        · try dsimp only
          exact (fun K => ⟨⟨(blkC (blkStay HK4.out K)).1, (blkC (blkStay HG4.out K)).1⟩, K⟩) (by repeat (first | exact hb9 | exact Below.refl _ _ | refine Below.drew ?_ | refine Below.alloc ?_ (by first | exact Nat.le_refl _ | exact hb9.size | (simp; done) | (have := hb9.size; simp; omega) | (simp; omega)) _))
        clear hK K; try simp only [Act.put, List.setIfInBounds_toArray, List.set_cons_zero, List.set_cons_succ]
        refine wpAnyH_ready (rs := [9]) (by kernel_rfl) (by simp) ?_; refine AllReadyH.cons rfl (fun K hK => ?_) AllReadyH.nil; go_simp
        (with_reducible refine Calls.mono (NE.out _ _ ?_) ?_); (first | ((simp only [heap_alloc_get, if_true]) <;> ((repeat' split) <;> first | rfl | omega)) | (refine blkStay ?_ hb7; exact heap_alloc_new _ _)); rintro e w' ⟨rfl, rfl⟩
        try go_wp2_with fail
        refine hK.out _ _ ?_ (fun hHeld => ?_)
        · try dsimp only
          exact (fun K => ⟨⟨(blkC (blkStay HK4.out K)).1, (blkC (blkStay HG4.out K)).1⟩, K⟩) (by repeat (first | exact hb9 | exact Below.refl _ _ | refine Below.drew ?_ | refine Below.alloc ?_ (by first | exact Nat.le_refl _ | exact hb9.size | (simp; done) | (have := hb9.size; simp; omega) | (simp; omega)) _))
        clear hK K; try simp only [Act.put, List.setIfInBounds_toArray, List.set_cons_zero, List.set_cons_succ]
        refine wpAnyH_take (i := 13) (v := ?hv30) rfl (by kernel_rfl) (by kernel_rfl) (by kernel_rfl) (fun _ _ _ h => h) (Or.inl ⟨by rfl, ?hy30⟩) (by assumption) ?hr30; (case hy30 => ((intro w hSw; (try dsimp only at hSw); go_simp) <;> with_reducible rfl)); try simp only [Act.put, List.setIfInBounds_toArray, List.set_cons_zero, List.set_cons_succ]
        refine wpAnyH_ready (rs := [14]) (by kernel_rfl) (by simp) ?_; refine AllReadyH.cons rfl (fun K hK => ?_) AllReadyH.nil; go_simp
        refine hK.out _ _ ?_ (fun hHeld => ?_)
        · assumption
        clear hK K; try simp only [Act.put, List.setIfInBounds_toArray, List.set_cons_zero, List.set_cons_succ]
        refine wpAnyH_ready (rs := [15]) (by kernel_rfl) (by simp) ?_; refine AllReadyH.cons rfl (fun K hK => ?_) AllReadyH.nil; go_simp
        refine hK.out _ _ ?_ (fun hHeld => ?_)
        · assumption
        clear hK K; try simp only [Act.put, List.setIfInBounds_toArray, List.set_cons_zero, List.set_cons_succ]
        refine wpAnyH_ready (rs := [16]) (by kernel_rfl) (by simp) ?_; refine AllReadyH.cons rfl (fun K hK => ?_) AllReadyH.nil; go_simp
        refine hK.out _ _ ?_ (fun hHeld => ?_)
        · assumption
        clear hK K; try simp only [Act.put, List.setIfInBounds_toArray, List.set_cons_zero, List.set_cons_succ]
        refine wpAnyH_take (i := 17) (v := ?hv31) rfl (by kernel_rfl) (by kernel_rfl) (by kernel_rfl) (fun _ _ _ h => h) (Or.inl ⟨by rfl, ?hy31⟩) (by assumption) ?hr31; (case hy31 => ((intro w hSw; (try dsimp only at hSw); go_simp) <;> with_reducible rfl)); try simp only [Act.put, List.setIfInBounds_toArray, List.set_cons_zero, List.set_cons_succ]
        refine wpAnyH_ready (rs := [18]) (by kernel_rfl) (by simp) ?_; refine AllReadyH.cons rfl (fun K hK => ?_) AllReadyH.nil; go_simp
        (with_reducible refine Calls.mono (WH.out _) ?_); rintro e w' ⟨rfl, rfl⟩
        try go_wp2_with fail
        refine hK.out _ _ ?_ (fun hHeld => ?_)
        · try dsimp only
          exact (fun K => ⟨⟨(blkC (blkStay HK4.out K)).1, (blkC (blkStay HG4.out K)).1⟩, K⟩) (by repeat (first | exact hb9 | exact Below.refl _ _ | refine Below.drew ?_ | refine Below.alloc ?_ (by first | exact Nat.le_refl _ | exact hb9.size | (simp; done) | (have := hb9.size; simp; omega) | (simp; omega)) _))
        clear hK K; try simp only [Act.put, List.setIfInBounds_toArray, List.set_cons_zero, List.set_cons_succ]
        refine wpAnyH_ready (rs := [19]) (by kernel_rfl) (by simp) ?_; refine AllReadyH.cons rfl (fun K hK => ?_) AllReadyH.nil; go_simp
        refine hK.out _ _ ?_ (fun hHeld => ?_)
        · try dsimp only
          exact (fun K => ⟨⟨(blkC (blkStay HK4.out K)).1, (blkC (blkStay HG4.out K)).1⟩, K⟩) (by repeat (first | exact hb9 | exact Below.refl _ _ | refine Below.drew ?_ | refine Below.alloc ?_ (by first | exact Nat.le_refl _ | exact hb9.size | (simp; done) | (have := hb9.size; simp; omega) | (simp; omega)) _))
        clear hK K; try simp only [Act.put, List.setIfInBounds_toArray, List.set_cons_zero, List.set_cons_succ]
        refine wpAnyH_ready (rs := [20]) (by kernel_rfl) (by simp) ?_; refine AllReadyH.cons rfl (fun K hK => ?_) AllReadyH.nil; go_simp
        (with_reducible refine Calls.mono (FI.out _ _ ?_) ?_); (first | ((simp only [heap_alloc_get, if_true]) <;> ((repeat' split) <;> first | rfl | omega)) | ((simp only [heap_alloc_get, heap_size_alloc, if_true]) <;> ((repeat' split) <;> first | rfl | omega))); rintro e w' ⟨rfl, rfl⟩
        try go_wp2_with fail
        refine hK.out _ _ ?_ (fun hHeld => ?_)
        · try dsimp only
          exact (fun K => ⟨⟨(blkC (blkStay HK4.out K)).1, (blkC (blkStay HG4.out K)).1⟩, K⟩) (by repeat (first | exact hb9 | exact Below.refl _ _ | refine Below.drew ?_ | refine Below.alloc ?_ (by first | exact Nat.le_refl _ | exact hb9.size | (simp; done) | (have := hb9.size; simp; omega) | (simp; omega)) _))
        clear hK K; try simp only [Act.put, List.setIfInBounds_toArray, List.set_cons_zero, List.set_cons_succ]
        refine wpAnyH_take (i := 21) (v := ?hv32) rfl (by kernel_rfl) (by kernel_rfl) (by kernel_rfl) (fun _ _ _ h => h) (Or.inl ⟨by rfl, ?hy32⟩) (by assumption) ?hr32; (case hy32 => ((intro w hSw; (try dsimp only at hSw); go_simp) <;> with_reducible rfl)); try simp only [Act.put, List.setIfInBounds_toArray, List.set_cons_zero, List.set_cons_succ]
        refine wpAnyH_done (by kernel_rfl) ?_ _
        have HBh := Lib.hid (HB4.trans (hHeld.2.mono HB4.size))
        clear hHeld
        go_wp2
        go_ret
        exact ⟨rfl, HBh.out⟩

theorem suitsMatch_any (k : Knd) (ht sl we v lo hi so : Nat) (hs : k.name.size ≤ 9223372036854775807) (w : World) :
    Calls Try.prog 7 #[kndV k, gndV ht sl we, .float .f32 v, .float .f32 lo, .float .f32 hi, .float .f32 so] w fun e w' => e = .returned (.bool true) ∧ Below w.heap.size w w' := by
  by_cases hE : slkE v lo hi so = 0
  · exact suitsO k ht sl we v lo hi so hs w hE
  · exact suitsE k ht sl we v lo hi so hs w hE
end Go.Proofs.Ytkjpjppfmfifeaa

/- A field that came in, opened: four integers, and a slice of singles that is empty or known cell by cell. -/
namespace Go.Proofs.Ytkjpjppfmfifeaa
open Go.ChangeShapes Go.WideShapes Go.ChangeAt Go.RowKit Go.Joins Fl

section
variable {H : Type} {enc : TypeId × Value → H} {w : World} {base : Nat} {spare : Nat → Bool} {held : Bool}

theorem trod_f32 {P : Program} {t : TypeId} {fuel : Nat} {v : Value} {y : DataW H × List MemPlace} (ht : P.underlying t = some (.float .f32)) (h : DataW.trod enc P w base spare held fuel t [v] = some y) : ∃ b, v = .float .f32 b ∧ b < 4294967296 := by
  cases fuel with
  | zero => simp [DataW.trod] at h
  | succ n =>
    unfold DataW.trod at h
    rw [ht] at h
    cases v <;> simp at h
    rename_i k b
    obtain ⟨⟨rfl, hw⟩, _⟩ := h
    exact ⟨b, rfl, by simpa [Lit.wf] using hw⟩

theorem array5 {α : Type} {cs : Array α} (h : cs.size = 5) : ∃ c0 c1 c2 c3 c4, cs = #[c0, c1, c2, c3, c4] := by
  obtain ⟨l⟩ := cs
  match l, h with
  | [c0, c1, c2, c3, c4], _ => exact ⟨c0, c1, c2, c3, c4, rfl⟩

theorem flAt_congr' {w w' : World} {b off n : Nat} {f : Nat → Nat} (h : FlAt w b off n f) (e : w'.heap[b]? = w.heap[b]?) : FlAt w' b off n f := fun i hi => by
  rw [← h i hi]; exact World.cell?_of_block (w := w) (a := ⟨b, off + i, none⟩) e

/-- What a slice of singles is: empty, or known cell by cell. -/
def SlF (w : World) (s : Value) : Prop :=
  (∃ a cap, s = .slice a 0 cap) ∨ ∃ b off len cap x, s = .slice (some ⟨b, off, none⟩) len cap ∧ 0 < len ∧ len ≤ 9223372036854775807 ∧ FlAt w b off len x ∧ wf32 len x

theorem open_singles {t e : TypeId} {fuel : Nat} {cs : List Value} {y : DataW H × List MemPlace} (ht : Try.prog.underlying t = some (.slice e)) (he : Try.prog.underlying e = some (.float .f32)) (hc : Try.prog.cellsOf e = 1)
    (h : DataW.trod enc Try.prog w base spare held fuel t cs = some y) : ∃ s, cs = [s] ∧ SlF w s := by
  rcases Go.Deep.open_slice1 ht hc h with ⟨rfl, _⟩ | ⟨a, len, cap, m, n, V, D, Pl, rfl, hb, hl, hm, hmm, _, hx⟩
  · exact ⟨_, rfl, .inl ⟨none, 0, rfl⟩⟩
  · refine ⟨_, rfl, ?_⟩
    rcases Nat.eq_zero_or_pos len with z | z
    · subst z; exact .inl ⟨_, _, rfl⟩
    · have hlm : len ≤ m := by rw [hmm]; split <;> omega
      have h0 := (hx 0 (by omega)).1
      obtain ⟨b, off, spot⟩ := a
      have hspot : spot = none := by simpa [Addr.add] using World.cell?_spot h0
      subst hspot
      have hv : ∀ i, i < len → ∃ x, V i = .float .f32 x ∧ x < 4294967296 := fun i hi => trod_f32 he (hx i (by omega)).2
      refine .inr ⟨b, off, len, cap, fun i => match V i with | .float _ x => x | _ => 0, rfl, z, ?_, fun i hi => ?_, fun i hi => ?_⟩
      · exact Nat.le_trans hl (Nat.le_trans hm (by decide))
      · have h1 := (hx i (by omega)).1
        obtain ⟨x, e1, _⟩ := hv i hi
        rw [← Go.WideShapes.add_plain, h1]
        simp only [e1]
      · obtain ⟨x, e1, e2⟩ := hv i hi
        simp only [e1]; exact e2

theorem cellsF : Try.prog.cellsOf 26 = 5 := by kernel_rfl
theorem cellsR : Try.prog.cellsOf 23 = 4 := by kernel_rfl
theorem cellsS : Try.prog.cellsOf 24 = 1 := by kernel_rfl
theorem cells1 : Try.prog.cellsOf 30 = 1 := by kernel_rfl
theorem cellsI : Try.prog.cellsOf 3 = 1 := by kernel_rfl

set_option maxRecDepth 100000 in
theorem open_field {r : Reach} {b0 : Nat} {v : Value} {d : DataW H} {p : List MemPlace} (hv : Value.okWide Try.prog w r b0 26 v) (h : DataW.Trod enc Try.prog w base spare held 26 v d p) :
    ∃ X Y W' H' : Int, ∃ s, v = fldV X Y W' H' s ∧ SlF w s := by
  obtain ⟨cs, rfl, hsz⟩ := okWide_struct Try.underlying26 hv
  obtain ⟨c0, c1, c2, c3, c4, rfl⟩ := array5 (hsz.trans cellsF)
  obtain ⟨fuel, hf⟩ := h
  obtain ⟨y0, y1, n, _, _, h0, h1⟩ := trod_struct2 Try.underlying26 hf
  rw [cellsR] at h0
  rw [cellsS] at h1
  obtain ⟨s, e4, hs⟩ := open_singles Try.underlying24 Try.underlying30 cells1 h1
  obtain ⟨z0, z1, z2, z3, n2, _, _, g0, g1, g2, g3⟩ := trod_struct4 Try.underlying23 h0
  rw [cellsI] at g0 g1 g2 g3
  obtain ⟨x0, e0, _, _⟩ := DataW.trod_int Try.underlying3 g0
  obtain ⟨x1, e1, _, _⟩ := DataW.trod_int Try.underlying3 g1
  obtain ⟨x2, e2, _, _⟩ := DataW.trod_int Try.underlying3 g2
  obtain ⟨x3, e3, _, _⟩ := DataW.trod_int Try.underlying3 g3
  simp [Value.cells] at e0 e1 e2 e3 e4
  subst e0 e1 e2 e3 e4
  exact ⟨x0, x1, x2, x3, _, rfl, hs⟩
end

theorem SlF.stay {w w' : World} {s : Value} (h : SlF w s) (hb : Below w.heap.size w w') : SlF w' s := by
  rcases h with h | ⟨b, off, len, cap, x, rfl, h1, h2, h3, h4⟩
  · exact .inl h
  · exact .inr ⟨b, off, len, cap, x, rfl, h1, h2, flAt_congr' h3 (hb.block _ (World.block_lt_of_cell? w _ (h3 0 h1))), h4⟩

/-- fit, of whatever slice. -/
theorem fit_any {X Y W H : Int} {s : Value} {w : World} (h : SlF w s) : Calls Try.prog 10 #[fldV X Y W H s] w (FitPost w) := by
  rcases h with ⟨a, cap, rfl⟩ | ⟨b, off, len, cap, x, rfl, h1, h2, h3, h4⟩
  · exact fit_none X Y W H a cap w
  · exact fit_some X Y W H b off len cap x w h1 h2 h3 h4

theorem laidOut : laidOutB Try.prog = true := by kernel_rfl
end Go.Proofs.Ytkjpjppfmfifeaa

/- A list of kinds: named, CheckKinds of the program. -/
namespace Go.Proofs.Ytkjpjppfmfifeaa
open Go.RowKit Fl
set_option linter.unusedVariables false

/-- The kinds lie in a block, one after the other. -/
def KndsAt (w : World) (b off n : Nat) (K : Nat → Knd) : Prop := ∀ i, i < n → ∀ j, j < 13 → w.cell? ⟨b, off + i * 13 + j, none⟩ = (K i).cells[j]?
/-- .. or there is none. -/
def KndL (w : World) (a : Option Addr) (n : Nat) (K : Nat → Knd) : Prop := n = 0 ∨ ∃ b off, a = some ⟨b, off, none⟩ ∧ KndsAt w b off n K
theorem cells_get (k : Knd) (j : Nat) (hj : j < 13) : ∃ v, k.cells[j]? = some v := by
  have : j < k.cells.size := hj
  exact ⟨k.cells[j], Array.getElem?_eq_getElem this⟩
theorem KndsAt.stay {w w' : World} {b off n : Nat} {K : Nat → Knd} (L : KndsAt w b off n K) (hb : Below w.heap.size w w') : KndsAt w' b off n K := fun i hi j hj => by
  obtain ⟨v, hv⟩ := cells_get (K i) j hj
  have h := L i hi j hj
  rw [hv] at h
  have hlt := World.block_lt_of_cell? w _ h
  rw [hv, ← h]
  exact Below.cell hb hlt
theorem KndL.stay {w w' : World} {a : Option Addr} {n : Nat} {K : Nat → Knd} (L : KndL w a n K) (hb : Below w.heap.size w w') : KndL w' a n K :=
  L.imp_right fun ⟨b, off, e, h⟩ => ⟨b, off, e, h.stay hb⟩
structure KndAt (w : World) (b o : Nat) (k : Knd) : Prop where
  c0 : w.cell? ⟨b, o, none⟩ = some (.string k.name)
  c1 : w.cell? ⟨b, o + 1, none⟩ = some (.float .f32 k.lo)
  c2 : w.cell? ⟨b, o + 2, none⟩ = some (.float .f32 k.hi)
  c3 : w.cell? ⟨b, o + 3, none⟩ = some (.float .f32 k.so)
  c4 : w.cell? ⟨b, o + 4, none⟩ = some (.float .f32 k.st)
  c5 : w.cell? ⟨b, o + 5, none⟩ = some (.float .f32 k.dr)
  c6 : w.cell? ⟨b, o + 6, none⟩ = some (.float .f32 k.da)
  c7 : w.cell? ⟨b, o + 7, none⟩ = some (.float .f32 k.tp)
  c8 : w.cell? ⟨b, o + 8, none⟩ = some (.float .f32 k.pa)
  c9 : w.cell? ⟨b, o + 9, none⟩ = some (.float .f32 k.sh)
  c10 : w.cell? ⟨b, o + 10, none⟩ = some (.float .f32 k.ba)
  c11 : w.cell? ⟨b, o + 11, none⟩ = some (.int .i64 k.sp)
  c12 : w.cell? ⟨b, o + 12, none⟩ = some (.int .i64 k.th)
theorem KndsAt.at {w : World} {b off n : Nat} {K : Nat → Knd} (L : KndsAt w b off n K) {i : Nat} (hi : i < n) : KndAt w b (off + i * 13) (K i) :=
  ⟨L i hi 0 (by omega), L i hi 1 (by omega), L i hi 2 (by omega), L i hi 3 (by omega), L i hi 4 (by omega), L i hi 5 (by omega), L i hi 6 (by omega), L i hi 7 (by omega), L i hi 8 (by omega), L i hi 9 (by omega), L i hi 10 (by omega), L i hi 11 (by omega), L i hi 12 (by omega)⟩

/-- Whether two texts are the same. -/
def eqN (a b : ByteArray) : Bool := a.toList == b.toList
theorem enters_named1 : Enters 127 := by intro args W; simp [callFunc, Try.func127, Try.f127]
theorem named1_any (k : Knd) (s : ByteArray) (p : Nat) (w : World) (hp : w.heap[p]? = some (.cells #[.string s] 9)) : Calls Try.prog 127 #[kndV k, .pointer (some ⟨p, 0, none⟩)] w fun e w' => e = .returned (.bool (eqN k.name s)) ∧ Below w.heap.size w w' := by
  obtain ⟨c, f, z⟩ := blkC hp
  unfold eqN
  clear hp
  go_enter Try.func127, Try.ntmps127
  go_wp2
  go_ret
  exact ⟨rfl, (by repeat (first | exact Below.refl _ _ | refine Below.alloc ?_ (by first | omega | (simp; done) | (simp; omega)) _ | refine Below.setCell ?_ (by first | omega | (simp; done) | (simp; omega)) _ | refine Below.drew ?_))⟩

/-- The number of the first kind of that name, or -1. -/
def NamAt (n : Nat) (K : Nat → Knd) (s : ByteArray) (r : Int) : Prop := (r = -1 ∧ ∀ i, i < n → eqN (K i).name s = false) ∨ ∃ i : Nat, r = i ∧ i < n ∧ eqN (K i).name s = true ∧ ∀ j, j < i → eqN (K j).name s = false

set_option maxHeartbeats 2000000 in
theorem named_any (a : Option Addr) (n cap : Nat) (K : Nat → Knd) (s : ByteArray) (w : World) (L : KndL w a n K) (hn : n ≤ 9223372036854775807) :
    Calls Try.prog 97 #[.slice a n cap, .string s] w fun e w' => ∃ r : Int, e = .returned (.int .i64 r) ∧ NamAt n K s r ∧ Below w.heap.size w w' := by
  have IX : ∀ p W, Below w.heap.size w W → W.heap[p]? = some (.cells #[.string s] 9) → Calls Try.prog 126 #[.slice a n cap, .func (.func 127) #[] #[.pointer (some ⟨p, 0, none⟩)]] W fun e w' => ∃ r : Int, e = .returned (.int .i64 r) ∧ NamAt n K s r ∧ Below W.heap.size W w' := by
    intro p W hW hp
    have HP := Lib.hid hp
    have HL := Lib.hid (L.stay hW)
    have NC := Lib.hid (fun k w (h : w.heap[p]? = some (.cells #[.string s] 9)) => named1_any k s p w h)
    have hc := enters_named1
    unfold Enters at hc
    clear L hW hp
    go_enter Try.func126, Try.ntmps126
    go_wp2
    go_loopw [8] (fun i wr => ∃ j : Nat, j ≤ n ∧ i = .int .i64 j ∧ (∀ i, i < j → eqN (K i).name s = false) ∧ Below W.heap.size W wr) (fun i _ => n - (intOf i).toNat)
    case atStart => exact ⟨0, by omega, rfl, fun i hi => by omega, Below.refl _ _⟩
    case round =>
      obtain ⟨j, hj, rfl, hz, hb⟩ := hrel
      have HZ := Lib.hid hz
      have HB := Lib.hid hb
      clear hz
      by_cases c : j < n
      · rcases HL.out.stay hb with z | ⟨b', off, rfl, l⟩
        · omega
        obtain ⟨l0, l1, l2, l3, l4, l5, l6, l7, l8, l9, l10, l11, l12⟩ := l.at c
        have C1 := Lib.hid (NC.out (K j) wr (blkStay HP.out hb))
        obtain ⟨ej, hej⟩ : ∃ ej, eqN (K j).name s = ej := ⟨_, rfl⟩
        rw [hej] at C1
        have HE := Lib.hid hej
        clear l hb hej
        cases ej with
        | false =>
          go_wp2_with (first | (go_at_call 127; refine C1.out.mono ?_; rintro e' w4 ⟨rfl, hb4⟩; have HB4 := Lib.hid (HB.out.trans (hb4.mono HB.out.size)); clear hb4))
          go_roundw
          case rel => exact ⟨j + 1, by omega, by go_num, (fun i hi => by
            rcases Nat.lt_or_ge i j with q | q
            · exact HZ.out i q
            · rw [show i = j by omega]; exact HE.out), HB4.out⟩
          case measure => simp [intOf]; omega
        | true =>
          go_wp2_with (first | (go_at_call 127; refine C1.out.mono ?_; rintro e' w4 ⟨rfl, hb4⟩; have HB4 := Lib.hid (HB.out.trans (hb4.mono HB.out.size)); clear hb4))
          go_ret
          exact ⟨_, rfl, .inr ⟨j, rfl, c, HE.out, HZ.out⟩, HB4.out⟩
      · have : j = n := by omega
        subst this
        go_wp2
        go_ret
        exact ⟨_, rfl, .inl ⟨rfl, HZ.out⟩, hb⟩
  have IXH := Lib.hid IX
  clear IX L
  go_enter Try.func97, Try.ntmps97
  go_wp2_with (first | (go_at_call 126; refine (IXH.out w.heap.size _ (by repeat (first | exact Below.refl _ _ | refine Below.alloc ?_ (by first | omega | (simp; done) | (simp; omega)) _ | refine Below.setCell ?_ (by first | omega | (simp; done) | (simp; omega)) _ | refine Below.drew ?_)) (by (first | (rw [heap_alloc_get, if_pos rfl]; done) | ((simp only [heap_alloc_get, heap_size_alloc, if_true]) <;> ((repeat' split) <;> first | rfl | omega))))).mono ?_; rintro e' w4 ⟨r, rfl, hr, hb4⟩; have HB4 := Lib.hid (Below.trans (show Below w.heap.size w _ from (by repeat (first | exact Below.refl _ _ | refine Below.alloc ?_ (by first | omega | (simp; done) | (simp; omega)) _ | refine Below.setCell ?_ (by first | omega | (simp; done) | (simp; omega)) _ | refine Below.drew ?_))) (Below.mono hb4 (by simp))); have HR := Lib.hid hr; clear hb4 hr))
  go_ret
  exact ⟨r, rfl, HR.out, HB4.out⟩
end Go.Proofs.Ytkjpjppfmfifeaa

/- Kinds that came in, opened: one, and a list. -/
namespace Go.Proofs.Ytkjpjppfmfifeaa
open Go.ChangeShapes Go.WideShapes Go.ChangeAt Go.RowKit Go.Joins Go.Deep Fl

section
variable {H : Type} {enc : TypeId × Value → H} {w : World} {base : Nat} {spare : Nat → Bool} {held : Bool}

theorem cellsK : Try.prog.cellsOf 62 = 13 := by kernel_rfl
theorem cellsStr : Try.prog.cellsOf 9 = 1 := by kernel_rfl
theorem trod_fieldAt {P : Program} {t : TypeId} {fs : Array Go.Field} {fuel : Nat} {cs : List Value} {x : DataW H × List MemPlace} (ht : P.underlying t = some (.struct fs)) (h : DataW.trod enc P w base spare held fuel t cs = some x) :
    ∃ n, ∀ (i : Nat) (ty : TypeId) (off : Nat), (fs[i]?).map (fun (f : Go.Field) => (f.type, f.offset)) = some (ty, off) → ∃ y, DataW.trod enc P w base spare held n ty ((cs.drop off).take (P.cellsOf ty)) = some y := by
  obtain ⟨xs, n, _, rfl, _, hlen, hf⟩ := DataW.trod_struct ht h
  refine ⟨n, fun i ty off e => ?_⟩
  cases hfi : fs[i]? with
  | none => rw [hfi] at e; cases e
  | some f =>
    rw [hfi] at e
    simp only [Option.map_some, Option.some.injEq, Prod.mk.injEq] at e
    obtain ⟨rfl, rfl⟩ := e
    have hi : i < fs.size := by rw [Array.getElem?_eq_some_iff] at hfi; exact hfi.1
    have hx : i < xs.length := by omega
    exact ⟨xs[i], by rw [hf i f hfi, List.getElem?_eq_getElem hx]⟩
theorem trod_f32at {fuel i : Nat} {cs : List Value} {v : Value} {y : DataW H × List MemPlace} (h : DataW.trod enc Try.prog w base spare held fuel 30 ((cs.drop i).take 1) = some y) (hv : cs[i]? = some v) : ∃ s, v = .float .f32 s ∧ s < 4294967296 := by
  have e : (cs.drop i).take 1 = [v] := by
    have hi : i < cs.length := by rw [List.getElem?_eq_some_iff] at hv; exact hv.1
    rw [List.drop_eq_getElem_cons hi]
    rw [List.getElem?_eq_getElem hi] at hv
    simp only [List.take_succ_cons, List.take_zero, Option.some.inj hv]
  rw [e] at h
  exact trod_f32 Try.underlying30 h
theorem take_at {α : Type} {cs : List α} {i : Nat} {v : α} (hv : cs[i]? = some v) : (cs.drop i).take 1 = [v] := by
  have hi : i < cs.length := by rw [List.getElem?_eq_some_iff] at hv; exact hv.1
  rw [List.drop_eq_getElem_cons hi]
  rw [List.getElem?_eq_getElem hi] at hv
  simp only [List.take_succ_cons, List.take_zero, Option.some.inj hv]

/-- A right kind: its name is a text of the machine, its singles are words. -/
structure KndWf (k : Knd) : Prop where
  name : k.name.size ≤ 9223372036854775807
  f : wf32 10 k.f

set_option maxRecDepth 100000 in
theorem open_kcells {n : Nat} {cs : List Value} {y : DataW H × List MemPlace} (hl : cs.length = 13) (h : DataW.trod enc Try.prog w base spare held n 62 cs = some y) :
    ∃ k : Knd, cs = k.cells.toList ∧ KndWf k := by
  obtain ⟨m, G⟩ := trod_fieldAt Try.underlying62 h
  match cs, hl with
  | [c0, c1, c2, c3, c4, c5, c6, c7, c8, c9, c10, c11, c12], _ =>
      obtain ⟨y0, g0⟩ := G 0 9 0 rfl
      obtain ⟨y1, g1⟩ := G 1 30 1 rfl
      obtain ⟨y2, g2⟩ := G 2 30 2 rfl
      obtain ⟨y3, g3⟩ := G 3 30 3 rfl
      obtain ⟨y4, g4⟩ := G 4 30 4 rfl
      obtain ⟨y5, g5⟩ := G 5 30 5 rfl
      obtain ⟨y6, g6⟩ := G 6 30 6 rfl
      obtain ⟨y7, g7⟩ := G 7 30 7 rfl
      obtain ⟨y8, g8⟩ := G 8 30 8 rfl
      obtain ⟨y9, g9⟩ := G 9 30 9 rfl
      obtain ⟨y10, g10⟩ := G 10 30 10 rfl
      obtain ⟨y11, g11⟩ := G 11 3 11 rfl
      obtain ⟨y12, g12⟩ := G 12 3 12 rfl
      rw [cellsStr] at g0
      rw [cells1] at g1 g2 g3 g4 g5 g6 g7 g8 g9 g10
      rw [cellsI] at g11 g12
      obtain ⟨s, e0, _, hs⟩ := DataW.trod_string Try.underlying9 g0
      obtain ⟨f1, rfl, b1⟩ := trod_f32at (i := 1) g1 rfl
      obtain ⟨f2, rfl, b2⟩ := trod_f32at (i := 2) g2 rfl
      obtain ⟨f3, rfl, b3⟩ := trod_f32at (i := 3) g3 rfl
      obtain ⟨f4, rfl, b4⟩ := trod_f32at (i := 4) g4 rfl
      obtain ⟨f5, rfl, b5⟩ := trod_f32at (i := 5) g5 rfl
      obtain ⟨f6, rfl, b6⟩ := trod_f32at (i := 6) g6 rfl
      obtain ⟨f7, rfl, b7⟩ := trod_f32at (i := 7) g7 rfl
      obtain ⟨f8, rfl, b8⟩ := trod_f32at (i := 8) g8 rfl
      obtain ⟨f9, rfl, b9⟩ := trod_f32at (i := 9) g9 rfl
      obtain ⟨f10, rfl, b10⟩ := trod_f32at (i := 10) g10 rfl
      obtain ⟨x11, e11, _, _⟩ := DataW.trod_int Try.underlying3 g11
      obtain ⟨x12, e12, _, _⟩ := DataW.trod_int Try.underlying3 g12
      simp at e0 e11 e12
      subst e0 e11 e12
      refine ⟨⟨s, f1, f2, f3, f4, f5, f6, f7, f8, f9, f10, x11, x12⟩, rfl, Nat.le_trans hs (by decide), fun i hi => ?_⟩
      have : i = 0 ∨ i = 1 ∨ i = 2 ∨ i = 3 ∨ i = 4 ∨ i = 5 ∨ i = 6 ∨ i = 7 ∨ i = 8 ∨ i = 9 := by omega
      rcases this with rfl | rfl | rfl | rfl | rfl | rfl | rfl | rfl | rfl | rfl <;> assumption

theorem open_kinds {fuel : Nat} {cs : List Value} {y : DataW H × List MemPlace} (h : DataW.trod enc Try.prog w base spare held fuel 59 cs = some y) :
    ∃ a len cap K, cs = [.slice a len cap] ∧ len ≤ cap ∧ cap ≤ 9223372036854775807 ∧ KndL w a len K ∧ ∀ i, i < len → KndWf (K i) := by
  rcases open_slice Try.underlying59 h with ⟨rfl, _⟩ | ⟨a, len, cap, m, n, D, Pl, rfl, hb, hl, hm, hmm, _, hx⟩
  · exact ⟨none, 0, 0, fun _ => kndZ, rfl, by omega, by omega, .inl rfl, fun i hi => by omega⟩
  · have hlm : len ≤ m := by rw [hmm]; split <;> omega
    have hcap : cap ≤ 9223372036854775807 := Nat.le_trans hm (by decide)
    rcases Nat.eq_zero_or_pos len with z | z
    · subst z; exact ⟨some a, 0, cap, fun _ => kndZ, rfl, by omega, hcap, .inl rfl, fun i hi => by omega⟩
    · have each : ∀ i, i < len → ∃ k : Knd, (∀ j, j < 13 → w.cell? (a.add (i * 13 + j)) = k.cells[j]?) ∧ KndWf k := by
        intro i hi
        obtain ⟨cs', h1, h2⟩ := hx i (by omega)
        rw [cellsK] at h1
        obtain ⟨_, hlen, hcell⟩ := World.cells?_some h1
        obtain ⟨k, rfl, hk⟩ := open_kcells hlen h2
        refine ⟨k, fun j hj => ?_, hk⟩
        have e := hcell j (by omega)
        rw [add_add] at e
        rw [e, Array.getElem?_toList]
      haveI : Inhabited Knd := ⟨kndZ⟩
      obtain ⟨q, hq⟩ := choose_lt each
      obtain ⟨b, off, spot⟩ := a
      have h0 := (hq 0 z).1 0 (by omega)
      have hspot : spot = none := by simpa [Addr.add] using World.cell?_spot h0
      subst hspot
      refine ⟨some ⟨b, off, none⟩, len, cap, q, rfl, hl, hcap, .inr ⟨b, off, rfl, fun i hi j hj => ?_⟩, fun i hi => (hq i hi).2⟩
      have q0 := (hq i hi).1 j hj
      rw [add_plain] at q0
      rw [← q0, Nat.add_assoc]
end
end Go.Proofs.Ytkjpjppfmfifeaa

/- SuitsMatch, for every kind, every ground and every four singles: Slack and Suit answer as the references do. No condition. -/
namespace Go.Proofs.Ytkjpjppfmfifeaa.suitsMatch
open Go.ChangeShapes Go.WideShapes Go.ChangeAt Go.RowKit Go.Joins
set_option linter.unusedVariables false

section
variable {H : Type} {enc : TypeId × Value → H} {w : World} {base : Nat} {spare : Nat → Bool} {held : Bool}
theorem cellsG : Try.prog.cellsOf 66 = 3 := by kernel_rfl
set_option maxRecDepth 100000 in
theorem open_ground {r : Reach} {b0 : Nat} {v : Value} {d : DataW H} {p : List MemPlace} (hv : Value.okWide Try.prog w r b0 66 v) (h : DataW.Trod enc Try.prog w base spare held 66 v d p) :
    ∃ ht sl we : Nat, v = gndV ht sl we := by
  obtain ⟨cs, rfl, hsz⟩ := okWide_struct Try.underlying66 hv
  have h3 : cs.size = 3 := hsz.trans cellsG
  obtain ⟨c0, c1, c2, rfl⟩ : ∃ c0 c1 c2, cs = #[c0, c1, c2] := by
    obtain ⟨l⟩ := cs
    match l, h3 with
    | [c0, c1, c2], _ => exact ⟨c0, c1, c2, rfl⟩
  obtain ⟨fuel, hf⟩ := h
  obtain ⟨n, G⟩ := trod_fieldAt Try.underlying66 hf
  obtain ⟨y0, g0⟩ := G 0 30 0 rfl
  obtain ⟨y1, g1⟩ := G 1 30 1 rfl
  obtain ⟨y2, g2⟩ := G 2 30 2 rfl
  rw [cells1] at g0 g1 g2
  have e0 : (List.drop 0 (Value.agg #[c0, c1, c2]).cells.toList).take 1 = [c0] := by simp [Value.cells]
  have e1 : (List.drop 1 (Value.agg #[c0, c1, c2]).cells.toList).take 1 = [c1] := by simp [Value.cells]
  have e2 : (List.drop 2 (Value.agg #[c0, c1, c2]).cells.toList).take 1 = [c2] := by simp [Value.cells]
  rw [e0] at g0
  rw [e1] at g1
  rw [e2] at g2
  obtain ⟨a, rfl, _⟩ := trod_f32 Try.underlying30 g0
  obtain ⟨b, rfl, _⟩ := trod_f32 Try.underlying30 g1
  obtain ⟨c, rfl, _⟩ := trod_f32 Try.underlying30 g2
  exact ⟨a, b, c, rfl⟩
set_option maxRecDepth 100000 in
theorem open_kind {r : Reach} {b0 : Nat} {v : Value} {d : DataW H} {p : List MemPlace} (hv : Value.okWide Try.prog w r b0 62 v) (h : DataW.Trod enc Try.prog w base spare held 62 v d p) :
    ∃ k : Knd, v = kndV k ∧ KndWf k := by
  obtain ⟨cs, rfl, hsz⟩ := okWide_struct Try.underlying62 hv
  have h3 : cs.size = 13 := hsz.trans cellsK
  obtain ⟨fuel, hf⟩ := h
  obtain ⟨k, hk, wk⟩ := open_kcells (cs := cs.toList) (by simpa using h3) hf
  exact ⟨k, by unfold kndV; rw [← Array.toList_inj.1 hk], wk⟩
end

theorem own : ownKnob Try.prog.godebug = none := by kernel_rfl

set_option maxRecDepth 100000 in
theorem lifted (os : Os) (started : os.Started) (H : Type) (enc : TypeId × Value → H) :
    ReturnsInHanded {} Try.checked os 7 .any (Rows.suitsMatchSpec.pre6 enc Try.prog Try.f7 Rows.suitsMatchRow.domain false) (Rows.suitsMatchSpec.post enc Try.prog Try.f7 false true false false) := by
  refine returnsInHanded_of_change (C := Try.checked) own started (by kernel_rfl) Try.func7
    (ChangeSpec.witness6 (enc := enc) (C := Try.checked) false ⟨#[], #[kndV kndZ, gndV 0 0 0, .float .f32 0, .float .f32 0, .float .f32 0, .float .f32 0], []⟩ 8 (by kernel_rfl) (by kernel_rfl) (by kernel_rfl) (by kernel_rfl)) ?_
  intro W base args ds gs before hval0 hW hcnd _
  have hval : ∀ (j : Nat) t v, Try.f7.params[j]? = some t → args[j]? = some v → Value.okWide Try.prog W .any base t v := hval0
  have hW' := hW
  have hplt : ∀ x ∈ before, x.block < W.heap.size := fun x hx => by simpa using hW'.lt x hx
  obtain ⟨p, q, hA0, hV, rfl, hfz, hnd⟩ := hW
  have hA : DataW.TrodAll enc Try.prog W 0 (fun _ => true) true Try.f7.params.toList args.toList ds p := hA0
  rw [Try.params7] at hA hval
  obtain ⟨v0, vs0, d0, ds0, p0, q0, hargs, rfl, rfl, h0, r0⟩ := trodAll_cons hA
  obtain ⟨v1, vs1, d1, ds1, p1, q1, rfl, rfl, rfl, h1, r1⟩ := trodAll_cons r0
  obtain ⟨v2, vs2, d2, ds2, p2, q2, rfl, rfl, rfl, h2, r2⟩ := trodAll_cons r1
  obtain ⟨v3, vs3, d3, ds3, p3, q3, rfl, rfl, rfl, h3, r3⟩ := trodAll_cons r2
  obtain ⟨v4, vs4, d4, ds4, p4, q4, rfl, rfl, rfl, h4, r4⟩ := trodAll_cons r3
  obtain ⟨v5, vs5, d5, ds5, p5, q5, rfl, rfl, rfl, h5, r5⟩ := trodAll_cons r4
  obtain ⟨rfl, rfl, rfl⟩ := trodAll_nil r5
  obtain rfl : args = #[v0, v1, v2, v3, v4, v5] := by cases args; simp_all
  obtain ⟨rfl, rfl⟩ := trodVars_none hV
  obtain ⟨k, rfl, wk⟩ := open_kind (hval 0 62 v0 rfl rfl) h0
  obtain ⟨ht, sl, we, rfl⟩ := open_ground (hval 1 66 v1 rfl rfl) h1
  obtain ⟨v, rfl, rfl, rfl, w2⟩ := open_float Try.underlying30 (hval 2 30 v2 rfl rfl) h2
  obtain ⟨lo, rfl, rfl, rfl, w3⟩ := open_float Try.underlying30 (hval 3 30 v3 rfl rfl) h3
  obtain ⟨hi, rfl, rfl, rfl, w4⟩ := open_float Try.underlying30 (hval 4 30 v4 rfl rfl) h4
  obtain ⟨so, rfl, rfl, rfl, w5⟩ := open_float Try.underlying30 (hval 5 30 v5 rfl rfl) h5
  have hlt : ∀ x ∈ p0, x.block < W.heap.size := fun x hx => hplt x (by simp [hx])
  have hlt1 : ∀ x ∈ p1, x.block < W.heap.size := fun x hx => hplt x (by simp [hx])
  clear hA0 hval0 hplt
  simp only [List.append_nil] at hW'
  refine (suitsMatch_any k ht sl we v lo hi so wk.name W).mono fun e W' ⟨he, hb⟩ => ?_
  subst he
  exact ⟨_, rfl, _, _, _, [], _, [], hW', trodAll_cons_mk (shut_bool Try.underlying4 _) trodAll_mk0, trodAll_cons_mk (Below.trod laidOut (by kernel_rfl) (of_decide_eq_true (by kernel_rfl)) h0 hb hlt) (trodAll_cons_mk (Below.trod laidOut (by kernel_rfl) (of_decide_eq_true (by kernel_rfl)) h1 hb hlt1) (trodAll_cons_mk (shut_float Try.underlying30 w2) (trodAll_cons_mk (shut_float Try.underlying30 w3) (trodAll_cons_mk (shut_float Try.underlying30 w4) (trodAll_cons_mk (shut_float Try.underlying30 w5) trodAll_mk0))))), rfl, hb.frame _, fun h => by cases h⟩

theorem over : Rows.suitsMatchRow.holds Try.pinned (OpenSpec.ofChange Rows.suitsMatchSpec) :=
  OpenClaim.holds_of_wide 7 Try.f7 rfl rfl rfl rfl rfl rfl rfl ⟨rfl, rfl, rfl, rfl, rfl⟩ rfl rfl rfl rfl rfl (by kernel_rfl) Try.func7 (by kernel_rfl)
    (of_decide_eq_true (by kernel_rfl)) (by unfold Func.isWrapper; rw [if_neg (of_decide_eq_false (by kernel_rfl))]; exact ⟨rfl, rfl⟩)
    (fun os started H enc _ => lifted os started H enc)

theorem proved : Rows.SuitsMatchSaid :=
  over
#print axioms proved
end Go.Proofs.Ytkjpjppfmfifeaa.suitsMatch
