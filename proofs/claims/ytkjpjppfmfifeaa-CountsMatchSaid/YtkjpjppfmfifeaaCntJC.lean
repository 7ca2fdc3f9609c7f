/- Lemmas and contracts for the proof that the last text of this claim holds. -/
import Derived.Test.YtkjpjppfmfifeaaCntJB
import Derived.Deep.Light
import Derived.Test.YtkjpjppfmfifeaaRows
import Derived.BigQuiet

/- CheckKind of the program, KindError of the reference: a kind's error. -/
namespace Go.Proofs.Ytkjpjppfmfifeaa
open Go.RowKit Fl
set_option linter.unusedVariables false

theorem fld_ten {k : Knd} (h : fldE 10 k.f = 0) : hgtB k.lo = true ∧ hgtB k.hi = true ∧ hgtB k.so = true ∧ hgtB k.st = true ∧ hgtB k.dr = true ∧ hgtB k.da = true ∧ hgtB k.tp = true ∧ hgtB k.pa = true ∧ hgtB k.sh = true ∧ hgtB k.ba = true := by
  have := allB_iff.1 (fldE_zero.1 h)
  exact ⟨this 0 (by omega), this 1 (by omega), this 2 (by omega), this 3 (by omega), this 4 (by omega), this 5 (by omega), this 6 (by omega), this 7 (by omega), this 8 (by omega), this 9 (by omega)⟩

theorem err_name {k : Knd} (h : namB k.name = false) : k.err = 6 := by unfold Knd.err; rw [if_pos h]
theorem err_fld {k : Knd} (n : namB k.name = true) (h : fldE 10 k.f ≠ 0) : k.err = fldE 10 k.f := by unfold Knd.err; rw [if_neg (by simp [n]), if_pos h]
theorem err_ord {k : Knd} (n : namB k.name = true) (h : fldE 10 k.f = 0) (o : ltB k.hi k.lo = true ∨ ltB k.da k.dr = true) : k.err = 8 := by unfold Knd.err; rw [if_neg (by simp [n]), if_neg (by simp [h]), if_pos o]
theorem err_rest {k : Knd} (n : namB k.name = true) (h : fldE 10 k.f = 0) (o1 : ltB k.hi k.lo = false) (o2 : ltB k.da k.dr = false) : k.err = if k.rng = false then 3 else if withinB k.sp 0 32 = false ∨ withinB k.th 0 32 = false then 3 else 0 := by
  unfold Knd.err; rw [if_neg (by simp [n]), if_neg (by simp [h]), if_neg (by simp [o1, o2])]

set_option maxHeartbeats 4000000 in
theorem checkKind_any (k : Knd) (hs : k.name.size ≤ 9223372036854775807) (w : World) : Calls Try.prog 39 #[kndV k] w fun e w' => e = .returned (.int .i64 k.err) ∧ Below w.heap.size w w' := by
  have NA := Lib.hid (fun w => isName_any k.name hs w)
  have CH := Lib.hid (fun p w (h : w.heap[p]? = some (tenO k)) => CheckHeights_row p 0 10 10 k.f (by omega) w (flAt_ten h))
  have WI := Lib.hid (fun n a b w => within_any n a b w)
  have EE := Lib.hid (show k.err = k.err from rfl)
  cases n : namB k.name with
  | false =>
    rw [n] at NA
    have E := Lib.hid (err_name n)
    clear n hs
    go_enter Try.func39, Try.ntmps39
    go_wp2_with (first | (go_at_call 98; refine (NA.out _).mono ?_; rintro e w' ⟨rfl, rfl⟩))
    go_ret
    exact ⟨ret_int E.out.symm, (by repeat (first | exact Below.refl _ _ | refine Below.alloc ?_ (by first | omega | (simp; done) | (simp; omega)) _ | refine Below.setCell ?_ (by first | omega | (simp; done) | (simp; omega)) _ | refine Below.drew ?_))⟩
  | true =>
    rw [n] at NA
    by_cases h : fldE 10 k.f = 0
    · have H := fld_ten h
      rw [h] at CH
      cases o1 : ltB k.hi k.lo with
      | true =>
        have E := Lib.hid (err_ord n h (.inl o1))
        unfold ltB at o1
        clear n h H hs
        go_enter Try.func39, Try.ntmps39
        go_wp2_with (first | (go_at_call 98; refine (NA.out _).mono ?_; rintro e w' ⟨rfl, rfl⟩) | (go_at_call 65; refine (CH.out _ _ (by ((simp only [heap_alloc_get, heap_size_alloc, if_true]) <;> ((repeat' split) <;> first | rfl | omega)))).mono ?_; rintro e w' ⟨rfl, rfl⟩))
        go_ret
        exact ⟨ret_int E.out.symm, (by repeat (first | exact Below.refl _ _ | refine Below.alloc ?_ (by first | omega | (simp; done) | (simp; omega)) _ | refine Below.setCell ?_ (by first | omega | (simp; done) | (simp; omega)) _ | refine Below.drew ?_))⟩
      | false =>
        cases o2 : ltB k.da k.dr with
        | true =>
          have E := Lib.hid (err_ord n h (.inr o2))
          unfold ltB at o1 o2
          clear n h H hs
          go_enter Try.func39, Try.ntmps39
          go_wp2_with (first | (go_at_call 98; refine (NA.out _).mono ?_; rintro e w' ⟨rfl, rfl⟩) | (go_at_call 65; refine (CH.out _ _ (by ((simp only [heap_alloc_get, heap_size_alloc, if_true]) <;> ((repeat' split) <;> first | rfl | omega)))).mono ?_; rintro e w' ⟨rfl, rfl⟩))
          go_ret
          exact ⟨ret_int E.out.symm, (by repeat (first | exact Below.refl _ _ | refine Below.alloc ?_ (by first | omega | (simp; done) | (simp; omega)) _ | refine Below.setCell ?_ (by first | omega | (simp; done) | (simp; omega)) _ | refine Below.drew ?_))⟩
        | false =>
          have E := Lib.hid (err_rest n h o1 o2)
          obtain ⟨_, _, h3, h4, h5, _, h7, h8, h9, h10⟩ := H
          obtain ⟨a3, v3, _⟩ := hgt_val h3
          obtain ⟨a4, v4, _⟩ := hgt_val h4
          obtain ⟨a5, v5, _⟩ := hgt_val h5
          obtain ⟨a7, v7, _⟩ := hgt_val h7
          obtain ⟨a8, v8, _⟩ := hgt_val h8
          obtain ⟨a9, v9, _⟩ := hgt_val h9
          obtain ⟨a10, v10, _⟩ := hgt_val h10
          obtain ⟨r, m, e1, vr, hm⟩ := run_min_seven #[] 0 v3 v4 v5 v7 v8 v9 v10
          have mn : ∀ (ts : Array TypeId) (t : TypeId) (w : World), (Builtin.min_ ts t #[.float .f32 k.so, .float .f32 k.st, .float .f32 k.dr, .float .f32 k.tp, .float .f32 k.pa, .float .f32 k.sh, .float .f32 k.ba]).run Try.prog w = .ok (.float .f32 r) w := fun _ _ w => e1 w
          obtain ⟨r', e2, vr', _⟩ := run_max_two #[] 0 v9 v10
          have mx : ∀ (ts : Array TypeId) (t : TypeId) (w : World), (Builtin.max_ ts t #[.float .f32 k.sh, .float .f32 k.ba]).run Try.prog w = .ok (.float .f32 r') w := fun _ _ w => e2 w
          obtain ⟨c1, hc1⟩ : ∃ c1, (FloatKind.f32.format.order r 0 == some .lt) = c1 := ⟨_, rfl⟩
          obtain ⟨c2, hc2⟩ : ∃ c2, (FloatKind.f32.format.order r' 1065353216 == some .gt) = c2 := ⟨_, rfl⟩
          have hr : k.rng = !(c1 || c2) := by
            unfold Knd.rng ltB
            rw [← hc1, ← hc2]
            simp only [f32fmt]
            rw [lss_val vr vS_zero, gtr_val vr' vS_one, lss_val v3 vS_zero, lss_val v4 vS_zero, lss_val v5 vS_zero, lss_val v7 vS_zero, lss_val v8 vS_zero, lss_val v9 vS_zero, lss_val v10 vS_zero, gtr_val v9 vS_one, gtr_val v10 vS_one]
            have hx : (one : Int) < (if a9 < a10 then a10 else a9) ↔ (one : Int) < a9 ∨ (one : Int) < a10 := by split <;> omega
            rw [Bool.eq_iff_iff]
            simp only [Bool.not_eq_true', Bool.or_eq_false_iff, decide_eq_false_iff_not, hm, hx]
            grind
          rw [hr] at E
          unfold ltB at o1 o2
          clear n h hs h3 h4 h5 h7 h8 h9 h10 v3 v4 v5 v7 v8 v9 v10 vr vr' hm e1 e2 hr
          cases c1 with
          | true =>
            go_enter Try.func39, Try.ntmps39
            go_wp2_with (first | (go_at_call 98; refine (NA.out _).mono ?_; rintro e w' ⟨rfl, rfl⟩) | (go_at_call 65; refine (CH.out _ _ (by ((simp only [heap_alloc_get, heap_size_alloc, if_true]) <;> ((repeat' split) <;> first | rfl | omega)))).mono ?_; rintro e w' ⟨rfl, rfl⟩))
            go_ret
            exact ⟨ret_int (by rw [E.out]; rfl), (by repeat (first | exact Below.refl _ _ | refine Below.alloc ?_ (by first | omega | (simp; done) | (simp; omega)) _ | refine Below.setCell ?_ (by first | omega | (simp; done) | (simp; omega)) _ | refine Below.drew ?_))⟩
          | false =>
            cases c2 with
            | true =>
              go_enter Try.func39, Try.ntmps39
              go_wp2_with (first | (go_at_call 98; refine (NA.out _).mono ?_; rintro e w' ⟨rfl, rfl⟩) | (go_at_call 65; refine (CH.out _ _ (by ((simp only [heap_alloc_get, heap_size_alloc, if_true]) <;> ((repeat' split) <;> first | rfl | omega)))).mono ?_; rintro e w' ⟨rfl, rfl⟩))
              go_ret
              exact ⟨ret_int (by rw [E.out]; rfl), (by repeat (first | exact Below.refl _ _ | refine Below.alloc ?_ (by first | omega | (simp; done) | (simp; omega)) _ | refine Below.setCell ?_ (by first | omega | (simp; done) | (simp; omega)) _ | refine Below.drew ?_))⟩
            | false =>
              obtain ⟨p1, hp1⟩ : ∃ p1, withinB k.sp 0 32 = p1 := ⟨_, rfl⟩
              obtain ⟨p2, hp2⟩ : ∃ p2, withinB k.th 0 32 = p2 := ⟨_, rfl⟩
              have W1 := Lib.hid (fun w => WI.out k.sp 0 32 w)
              have W2 := Lib.hid (fun w => WI.out k.th 0 32 w)
              rw [hp1] at W1 E
              rw [hp2] at W2 E
              clear hp1 hp2 WI
              cases p1 <;> cases p2
              all_goals
                go_enter Try.func39, Try.ntmps39
                go_wp2_with (first | (go_at_call 98; refine (NA.out _).mono ?_; rintro e w' ⟨rfl, rfl⟩) | (go_at_call 65; refine (CH.out _ _ (by ((simp only [heap_alloc_get, heap_size_alloc, if_true]) <;> ((repeat' split) <;> first | rfl | omega)))).mono ?_; rintro e w' ⟨rfl, rfl⟩) | (go_at_call 99; (with_reducible refine (W1.out _).mono ?_); rintro e w' ⟨rfl, rfl⟩) | (go_at_call 99; (with_reducible refine (W2.out _).mono ?_); rintro e w' ⟨rfl, rfl⟩))
                go_ret
                exact ⟨ret_int (by rw [E.out]; rfl), (by repeat (first | exact Below.refl _ _ | refine Below.alloc ?_ (by first | omega | (simp; done) | (simp; omega)) _ | refine Below.setCell ?_ (by first | omega | (simp; done) | (simp; omega)) _ | refine Below.drew ?_))⟩
    · have E := Lib.hid (err_fld n h)
      have h' : (fldE 10 k.f != 0) = true := by simp [h]
      clear n h hs
      generalize fldE 10 k.f = er at *
      go_enter Try.func39, Try.ntmps39
      go_wp2_with (first | (go_at_call 98; refine (NA.out _).mono ?_; rintro e w' ⟨rfl, rfl⟩) | (go_at_call 65; refine (CH.out _ _ (by ((simp only [heap_alloc_get, heap_size_alloc, if_true]) <;> ((repeat' split) <;> first | rfl | omega)))).mono ?_; rintro e w' ⟨rfl, rfl⟩))
      go_ret
      exact ⟨ret_int E.out.symm, (by repeat (first | exact Below.refl _ _ | refine Below.alloc ?_ (by first | omega | (simp; done) | (simp; omega)) _ | refine Below.setCell ?_ (by first | omega | (simp; done) | (simp; omega)) _ | refine Below.drew ?_))⟩
end Go.Proofs.Ytkjpjppfmfifeaa

/- KindError of the reference: a kind's error. -/
namespace Go.Proofs.Ytkjpjppfmfifeaa
open Go.RowKit Fl
set_option linter.unusedVariables false

theorem bytes_len (s : ByteArray) : s.toList.length = s.size := by
  rw [Go.ByteArray.toList_eq]; rfl
structure ErrOf (k : Knd) : Prop where
  fld : fldE 10 k.f ≠ 0 → k.err = fldE 10 k.f
  ord : fldE 10 k.f = 0 → FloatKind.f32.format.order k.hi k.lo = some .lt ∨ FloatKind.f32.format.order k.da k.dr = some .lt → k.err = 8
  rng : fldE 10 k.f = 0 → ¬ FloatKind.f32.format.order k.hi k.lo = some .lt → ¬ FloatKind.f32.format.order k.da k.dr = some .lt →
    FloatKind.f32.format.order k.so 0 = some .lt ∨ FloatKind.f32.format.order k.st 0 = some .lt ∨ FloatKind.f32.format.order k.dr 0 = some .lt ∨ FloatKind.f32.format.order k.tp 0 = some .lt ∨ FloatKind.f32.format.order k.pa 0 = some .lt ∨ FloatKind.f32.format.order k.sh 0 = some .lt ∨ FloatKind.f32.format.order k.sh 1065353216 = some .gt ∨ FloatKind.f32.format.order k.ba 0 = some .lt ∨ FloatKind.f32.format.order k.ba 1065353216 = some .gt → k.err = 3
  far : fldE 10 k.f = 0 → ¬ FloatKind.f32.format.order k.hi k.lo = some .lt → ¬ FloatKind.f32.format.order k.da k.dr = some .lt → k.sp < 0 ∨ 32 < k.sp ∨ k.th < 0 ∨ 32 < k.th → k.err = 3
  ok : fldE 10 k.f = 0 → ¬ FloatKind.f32.format.order k.hi k.lo = some .lt → ¬ FloatKind.f32.format.order k.da k.dr = some .lt →
    ¬ FloatKind.f32.format.order k.so 0 = some .lt → ¬ FloatKind.f32.format.order k.st 0 = some .lt → ¬ FloatKind.f32.format.order k.dr 0 = some .lt → ¬ FloatKind.f32.format.order k.tp 0 = some .lt → ¬ FloatKind.f32.format.order k.pa 0 = some .lt → ¬ FloatKind.f32.format.order k.sh 0 = some .lt → ¬ FloatKind.f32.format.order k.sh 1065353216 = some .gt → ¬ FloatKind.f32.format.order k.ba 0 = some .lt → ¬ FloatKind.f32.format.order k.ba 1065353216 = some .gt →
    0 ≤ k.sp → k.sp ≤ 32 → 0 ≤ k.th → k.th ≤ 32 → k.err = 0
theorem ltB_iff {a b : Nat} : ltB a b = true ↔ FloatKind.f32.format.order a b = some .lt := by unfold ltB; simp
theorem ltB_no {a b : Nat} : ltB a b = false ↔ ¬ FloatKind.f32.format.order a b = some .lt := by rw [← ltB_iff]; simp
theorem err_of {k : Knd} (n : namB k.name = true) : ErrOf k := by
  refine ⟨err_fld n, fun h o => err_ord n h (by rw [ltB_iff, ltB_iff]; exact o), fun h o1 o2 r => ?_, fun h o1 o2 r => ?_, fun h o1 o2 r1 r2 r3 r4 r5 r6 r7 r8 r9 s1 s2 s3 s4 => ?_⟩
  · rw [err_rest n h (ltB_no.2 o1) (ltB_no.2 o2), if_pos]
    unfold Knd.rng
    simp only [ltB]
    simp
    grind
  · rw [err_rest n h (ltB_no.2 o1) (ltB_no.2 o2)]
    split
    · rfl
    · rw [if_pos (by simp only [withinB_no]; omega)]
  · rw [err_rest n h (ltB_no.2 o1) (ltB_no.2 o2), if_neg, if_neg]
    · rw [withinB_iff.2 ⟨s1, s2⟩, withinB_iff.2 ⟨s3, s4⟩]; simp
    · unfold Knd.rng
      simp [ltB, r1, r2, r3, r4, r5, r6, r7, r8, r9]

set_option maxHeartbeats 8000000 in
theorem qKindError_any (k : Knd) (hs : k.name.size ≤ 9223372036854775807) (w : World) : Calls Try.prog 40 #[kndV k] w fun e w' => e = .returned (.int .i64 k.err) ∧ Below w.heap.size w w' := by
  have CH := Lib.hid (fun p w (h : w.heap[p]? = some (tenO k)) => qNumberError_row p 0 10 10 k.f (by omega) w (flAt_ten h))
  go_enter Try.func40, Try.ntmps40
  go_wp2
  go_loop [8] (fun i => ∃ j : Nat, j ≤ k.name.size ∧ i = .int .i64 j ∧ allB j (fun i => decide (97 ≤ byt k.name i ∧ byt k.name i ≤ 122)) = true) (fun i => k.name.size - (intOf i).toNat)
  case atStart => exact ⟨0, Nat.zero_le _, rfl, rfl⟩
  case round =>
    obtain ⟨j, hj, rfl, hall⟩ := hrel
    have HA := Lib.hid hall
    clear hall
    by_cases hlt : j < k.name.size
    · obtain ⟨B, hB⟩ : ∃ B, byt k.name j = B := ⟨_, rfl⟩
      have e1 : ((k.name[((j : Int)).toNat]'(by omega)).toNat : Int) = B := by rw [← hB]; exact byt_at (by omega)
      have ix : ∀ w : World, (Instr.index 9 (.string k.name) (.int .i64 (j : Int))).run Try.prog w = .ok (.int .u8 B) w := fun w => by
        rw [run_index_string (P := Try.prog) w 9 k.name .i64 j Try.underlying9, dif_pos ⟨by omega, by omega⟩, e1]
      have C := Lib.hid hB
      clear e1 hB
      by_cases c : 97 ≤ B ∧ B ≤ 122
      · obtain ⟨c1, c2⟩ := c
        go_wp2
        go_round
        case rel => exact ⟨j + 1, by omega, by go_num, allB_iff.2 fun i hi => by
          rcases Nat.lt_or_ge i j with c | c
          · exact allB_iff.1 HA.out i c
          · rw [show i = j by omega, C.out]; exact decide_eq_true ⟨c1, c2⟩⟩
        case measure => simp [intOf]; omega
      · have HN := Lib.hid (show namB k.name = false by
          unfold namB ltrB
          rw [allB_no hlt (by rw [C.out]; exact decide_eq_false c)]; rfl)
        by_cases c1 : B < 97
        · clear c
          go_wp2
          go_ret
          exact ⟨ret_int (err_name HN.out).symm, (by repeat (first | exact Below.refl _ _ | refine Below.alloc ?_ (by first | omega | (simp; done) | (simp; omega)) _ | refine Below.setCell ?_ (by first | omega | (simp; done) | (simp; omega)) _ | refine Below.drew ?_))⟩
        · have c2 : 122 < B := by omega
          clear c
          go_wp2
          go_ret
          exact ⟨ret_int (err_name HN.out).symm, (by repeat (first | exact Below.refl _ _ | refine Below.alloc ?_ (by first | omega | (simp; done) | (simp; omega)) _ | refine Below.setCell ?_ (by first | omega | (simp; done) | (simp; omega)) _ | refine Below.drew ?_))⟩
    · have hkn : j = k.name.size := by omega
      subst hkn
      have HLEN := Lib.hid (bytes_len k.name)
      have HL := Lib.hid (show ltrB k.name = true from HA.out)
      go_wp2_with (first | (go_at_call 43; refine (CH.out _ _ (by ((simp only [heap_alloc_get, heap_size_alloc, if_true]) <;> ((repeat' split) <;> first | rfl | omega)))).mono ?_; rintro e w' ⟨rfl, rfl⟩))
      all_goals go_ret
      all_goals refine ⟨ret_int (Eq.symm ?_), (by repeat (first | exact Below.refl _ _ | refine Below.alloc ?_ (by first | omega | (simp; done) | (simp; omega)) _ | refine Below.setCell ?_ (by first | omega | (simp; done) | (simp; omega)) _ | refine Below.drew ?_))⟩
      all_goals go_light
      all_goals have hlen := HLEN.out
      all_goals have hL := HL.out
      all_goals first
        | (have q : k.name.toList = [] := by assumption
           refine err_name ?_; unfold namB; rw [hL, withinB_no.2 ?_]; rfl; rw [q] at hlen; simp at hlen; omega)
        | (have q : k.name.toList.isEmpty = true ∨ 20 < (k.name.size : Int) := by assumption
           refine err_name ?_; unfold namB; rw [hL, withinB_no.2 ?_]; rfl; rcases q with q | q; (rw [List.isEmpty_iff] at q; rw [q] at hlen; simp at hlen; omega); omega)
        | (have n : namB k.name = true := by
             unfold namB; rw [hL, withinB_iff.2]; rfl
             have : k.name.toList ≠ [] := by assumption
             have : 0 < k.name.toList.length := List.length_pos_iff.2 this
             have q : k.name.toList.isEmpty = false ∧ (k.name.size : Int) ≤ 20 := by assumption
             omega
           obtain ⟨e1, e2, e3, e4, e5⟩ := err_of n
           clear n hL hlen
           grind)
end Go.Proofs.Ytkjpjppfmfifeaa

/- How well ground suits a kind: words and steps; hold, suit of the program, SuitOf of the reference. -/
namespace Go.Proofs.Ytkjpjppfmfifeaa
open Go.RowKit Fl
set_option linter.unusedVariables false

theorem bd_halfK : Bd 0 1056964608 := by
  obtain ⟨J, hJ⟩ : ∃ J : Nat, J = 1074 := ⟨_, rfl⟩
  have r : Ieee.single.read 1056964608 = .number false 8388608 (-24) := by decide
  have v : vS 1056964608 = some ((2 ^ (J - 1) : Nat) : Int) := by
    have := vS_lit (t := 1) (k := 23) (j := J - 1) r (by decide) (by omega)
    simpa using this
  exact bd_val' (j := J) v (by omega) (by rw [Int.natAbs_natCast]; exact Nat.pow_le_pow_right (by omega) (by omega))

/-- How well plants hold on to a slope. -/
def hldW (sl st : Nat) : Nat := if (FloatKind.f32.format.order sl st == some .gt) = true then 0 else if (FloatKind.f32.format.order st 0 == some .eq) = true then 1065353216 else subW 1065353216 (mulW 1056964608 (quoW sl st))

/-- All ways of hold, with their tests. -/
theorem hld_ways {sl st : Nat} {a b : Int} (vl : vS sl = some a) (vt : vS st = some b) (a0 : 0 ≤ a) (b0 : 0 ≤ b) {P : Prop}
    (A : (FloatKind.f32.format.order sl st == some .gt) = true → hldW sl st = 0 → P)
    (B : (FloatKind.f32.format.order sl st == some .gt) = false → (FloatKind.f32.format.order st 0 == some .eq) = true → (FloatKind.f32.format.order st 0 == some .gt) = false → hldW sl st = 1065353216 → P)
    (C : ∀ q m r, (FloatKind.f32.format.order sl st == some .gt) = false → (FloatKind.f32.format.order st 0 == some .eq) = false → (FloatKind.f32.format.order st 0 == some .gt) = true → floatBits .quo .f32 sl st = some q → floatBits .mul .f32 1056964608 q = some m → floatBits .sub .f32 1065353216 m = some r → Bd 1 r → r < 4294967296 → hldW sl st = r → P) : P := by
  by_cases k1 : b < a
  · have t : (FloatKind.f32.format.order sl st == some .gt) = true := by rw [f32fmt, gtr_val vl vt]; simpa using k1
    exact A t (by unfold hldW; rw [if_pos t])
  · have t : (FloatKind.f32.format.order sl st == some .gt) = false := by rw [f32fmt, gtr_val vl vt]; simpa using k1
    by_cases k2 : b = 0
    · have u : (FloatKind.f32.format.order st 0 == some .eq) = true := by rw [f32fmt, eql_val vt vS_zero]; simpa using k2
      exact B t u (by rw [f32fmt, gtr_val vt vS_zero]; simp; omega) (by unfold hldW; rw [if_neg (by simp [t]), if_pos u])
    · have u : (FloatKind.f32.format.order st 0 == some .eq) = false := by rw [f32fmt, eql_val vt vS_zero]; simpa using k2
      have q2 : Same2 .quo 0 sl st := div_val vl vt k2 (by omega) (by omega)
      obtain ⟨q, q1, bq⟩ := same_ex q2
      have m2 : Same2 .mul (0 + 0) 1056964608 q := mul_same (by omega) bd_halfK bq
      obtain ⟨m, m1, bm⟩ := same_ex m2
      have r2 : Same2 .sub (0 + 1) 1065353216 m := sub_same (k := 0) (by omega) (bd_one 0) bm
      obtain ⟨r, r1, br⟩ := same_ex r2
      refine C q m r t u (by rw [f32fmt, gtr_val vt vS_zero]; simp; omega) q1 m1 r1 br (sub_lt r1) ?_
      unfold hldW
      rw [if_neg (by simp [t]), if_neg (by simp [u])]
      unfold quoW
      rw [q1]
      unfold mulW
      rw [show (some q).getD 0 = q from rfl, m1]
      unfold subW
      rw [show (some m).getD 0 = m from rfl, r1]
      rfl
theorem hld_bd {sl st : Nat} {a b : Int} (vl : vS sl = some a) (vt : vS st = some b) (a0 : 0 ≤ a) (b0 : 0 ≤ b) : Bd 1 (hldW sl st) ∧ hldW sl st < 4294967296 :=
  hld_ways vl vt a0 b0 (fun _ w => by rw [w]; exact ⟨bd_zeroK 1, by decide⟩) (fun _ _ _ w => by rw [w]; exact ⟨bd_one 1, by decide⟩) (fun q m r _ _ _ _ _ _ b l w => by rw [w]; exact ⟨b, l⟩)

set_option maxHeartbeats 1000000 in
theorem hold_any (sl st : Nat) (w : World) {a b : Int} (vl : vS sl = some a) (vt : vS st = some b) (a0 : 0 ≤ a) (b0 : 0 ≤ b) :
    Calls Try.prog 128 #[.float .f32 sl, .float .f32 st] w fun e w' => e = .returned (.float .f32 (hldW sl st)) ∧ w = w' := by
  refine hld_ways vl vt a0 b0 (fun t hw => ?_) (fun t u _ hw => ?_) (fun q m r t u _ q1 m1 r1 _ _ hw => ?_)
  · rw [hw]
    clear vl vt a0 b0 hw
    go_enter Try.func128, Try.ntmps128
    go_wp2
    go_ret
    exact ⟨rfl, rfl⟩
  · rw [hw]
    clear vl vt a0 b0 hw
    go_enter Try.func128, Try.ntmps128
    go_wp2
    go_ret
    exact ⟨rfl, rfl⟩
  · rw [hw]
    have e1 := fun (W : World) => run_float_arith (P := Try.prog) W .quo 30 .f32 sl st q q1
    have e2 := fun (W : World) => run_float_arith (P := Try.prog) W .mul 30 .f32 1056964608 q m m1
    have e3 := fun (W : World) => run_float_arith (P := Try.prog) W .sub 30 .f32 1065353216 m r r1
    clear vl vt a0 b0 hw q1 m1 r1
    go_enter Try.func128, Try.ntmps128
    go_wp2
    go_ret
    exact ⟨rfl, rfl⟩

/-- A right kind. -/
structure KndOk (k : Knd) : Prop where
  name : namB k.name = true
  f : fldE 10 k.f = 0
  o1 : ltB k.hi k.lo = false
  o2 : ltB k.da k.dr = false
  rng : k.rng = true
  sp : 0 ≤ k.sp ∧ k.sp ≤ 32
  th : 0 ≤ k.th ∧ k.th ≤ 32
theorem knd_ok {k : Knd} (e : k.err = 0) : KndOk k := by
  cases n : namB k.name with
  | false => rw [err_name n] at e; cases e
  | true =>
    by_cases h : fldE 10 k.f = 0
    · cases o1 : ltB k.hi k.lo with
      | true => rw [err_ord n h (.inl o1)] at e; cases e
      | false =>
        cases o2 : ltB k.da k.dr with
        | true => rw [err_ord n h (.inr o2)] at e; cases e
        | false =>
          rw [err_rest n h o1 o2] at e
          cases r : k.rng with
          | false => rw [if_pos r] at e; cases e
          | true =>
            rw [if_neg (by simp [r])] at e
            by_cases q : withinB k.sp 0 32 = false ∨ withinB k.th 0 32 = false
            · rw [if_pos q] at e; cases e
            · simp only [not_or, Bool.not_eq_false] at q
              exact ⟨n, h, o1, o2, r, withinB_iff.1 q.1, withinB_iff.1 q.2⟩
    · rw [err_fld n h] at e; exact absurd e h
/-- Its numbers are heights from 0 on. -/
theorem KndOk.pos {k : Knd} (K : KndOk k) : (∃ b, vS k.so = some b ∧ 0 ≤ b) ∧ (∃ b, vS k.st = some b ∧ 0 ≤ b) ∧ (∃ b, vS k.dr = some b ∧ 0 ≤ b) ∧ (∃ b, vS k.tp = some b ∧ 0 ≤ b) ∧ (∃ b, vS k.pa = some b ∧ 0 ≤ b) ∧ (∃ b, vS k.sh = some b ∧ 0 ≤ b ∧ b ≤ (one : Int)) ∧ ∃ b, vS k.ba = some b ∧ 0 ≤ b ∧ b ≤ (one : Int) := by
  obtain ⟨h1, h2, h3, h4, h5, h6, h7, h8, h9, h10⟩ := fld_ten K.f
  obtain ⟨a3, v3, _⟩ := hgt_val h3
  obtain ⟨a4, v4, _⟩ := hgt_val h4
  obtain ⟨a5, v5, _⟩ := hgt_val h5
  obtain ⟨a7, v7, _⟩ := hgt_val h7
  obtain ⟨a8, v8, _⟩ := hgt_val h8
  obtain ⟨a9, v9, _⟩ := hgt_val h9
  obtain ⟨a10, v10, _⟩ := hgt_val h10
  have r := K.rng
  unfold Knd.rng ltB at r
  simp only [f32fmt] at r
  rw [lss_val v3 vS_zero, lss_val v4 vS_zero, lss_val v5 vS_zero, lss_val v7 vS_zero, lss_val v8 vS_zero, lss_val v9 vS_zero, lss_val v10 vS_zero, gtr_val v9 vS_one, gtr_val v10 vS_one] at r
  simp only [Bool.not_eq_true', Bool.or_eq_false_iff, decide_eq_false_iff_not, Int.not_lt] at r
  obtain ⟨⟨⟨⟨⟨⟨⟨⟨r1, r2⟩, r3⟩, r4⟩, r5⟩, r6⟩, r7⟩, r8⟩, r9⟩ := r
  exact ⟨⟨a3, v3, r1⟩, ⟨a4, v4, r2⟩, ⟨a5, v5, r3⟩, ⟨a7, v7, r4⟩, ⟨a8, v8, r5⟩, ⟨a9, v9, r6, r7⟩, ⟨a10, v10, r8, r9⟩⟩

/-- How well ground suits. -/
def suiW (k : Knd) (ht sl we : Nat) : Nat := mulW (mulW (slkW ht k.lo k.hi k.so) (hldW sl k.st)) (slkW we k.dr k.da (addW k.dr 1065353216))
structure SuiAt (k : Knd) (ht sl we d p r : Nat) : Prop where
  d1 : floatBits .add .f32 k.dr 1065353216 = some d
  p1 : floatBits .mul .f32 (slkW ht k.lo k.hi k.so) (hldW sl k.st) = some p
  r1 : floatBits .mul .f32 p (slkW we k.dr k.da d) = some r
  w : suiW k ht sl we = r
  bd : Bd 3 r
  lt : r < 4294967296
  vd : ∃ z, vS d = some z
theorem sui_parts {k : Knd} (K : KndOk k) {ht sl we : Nat} {a : Int} (hh : hgtB ht = true) (vl : vS sl = some a) (a0 : 0 ≤ a) (hw : hgtB we = true) : ∃ d p r, SuiAt k ht sl we d p r := by
  obtain ⟨h1, h2, h3, h4, h5, h6, h7, h8, h9, h10⟩ := fld_ten K.f
  obtain ⟨⟨b3, v3, _⟩, ⟨b4, v4, p4⟩, _⟩ := K.pos
  have d2 : Same2 .add (20 + 1) k.dr 1065353216 := add_same (k := 20) (by omega) (hgt_bd h5) (bd_one 20)
  obtain ⟨d, d1, bd⟩ := same_ex d2
  obtain ⟨z, vd, _⟩ := val_bd bd
  have S1 := slk_inn hh h1 h2 v3 K.o1
  have S2 := slk_inn hw h5 h6 vd K.o2
  have H := hld_bd vl v4 a0 p4
  have p2 : Same2 .mul (1 + 1) (slkW ht k.lo k.hi k.so) (hldW sl k.st) := mul_same (by omega) S1.bd H.1
  obtain ⟨p, p1, bp⟩ := same_ex p2
  have r2 : Same2 .mul (1 + 1 + 1) p (slkW we k.dr k.da d) := mul_same (by omega) bp S2.bd
  obtain ⟨r, r1, br⟩ := same_ex r2
  refine ⟨d, p, r, d1, p1, r1, ?_, br, mul_lt r1, z, vd⟩
  unfold suiW
  rw [show addW k.dr 1065353216 = d by unfold addW; rw [d1]; rfl, show mulW (slkW ht k.lo k.hi k.so) (hldW sl k.st) = p by unfold mulW; rw [p1]; rfl]
  unfold mulW; rw [r1]; rfl

abbrev gndV (ht sl we : Nat) : Value := .agg #[.float .f32 ht, .float .f32 sl, .float .f32 we]
abbrev gndO (ht sl we : Nat) : Obj := .cells #[.float .f32 ht, .float .f32 sl, .float .f32 we] 66

set_option maxHeartbeats 2000000 in
theorem suit_any (k : Knd) (ht sl we : Nat) (w : World) (K : KndOk k) {a : Int} (hh : hgtB ht = true) (vl : vS sl = some a) (a0 : 0 ≤ a) (hw : hgtB we = true) :
    Calls Try.prog 101 #[kndV k, gndV ht sl we] w fun e w' => e = .returned (.float .f32 (suiW k ht sl we)) ∧ Below w.heap.size w w' := by
  obtain ⟨d, p, r, S⟩ := sui_parts K hh vl a0 hw
  obtain ⟨h1, h2, h3, h4, h5, h6, h7, h8, h9, h10⟩ := fld_ten K.f
  obtain ⟨⟨b3, v3, _⟩, ⟨b4, v4, p4⟩, _⟩ := K.pos
  obtain ⟨z, vd⟩ := S.vd
  have S1 := Lib.hid (fun w => slack_any ht k.lo k.hi k.so w hh h1 h2 v3 K.o1)
  have S2 := Lib.hid (fun w => slack_any we k.dr k.da d w hw h5 h6 vd K.o2)
  have HO := Lib.hid (fun w => hold_any sl k.st w vl v4 a0 p4)
  have e1 := fun (W : World) => run_float_arith (P := Try.prog) W .add 30 .f32 k.dr 1065353216 d S.d1
  have e2 := fun (W : World) => run_float_arith (P := Try.prog) W .mul 30 .f32 (slkW ht k.lo k.hi k.so) (hldW sl k.st) p S.p1
  have e3 := fun (W : World) => run_float_arith (P := Try.prog) W .mul 30 .f32 p (slkW we k.dr k.da d) r S.r1
  rw [S.w]
  clear S h1 h2 h3 h4 h5 h6 h7 h8 h9 h10 v3 v4 p4 vd hh vl a0 hw K
  generalize slkW ht k.lo k.hi k.so = s1 at *
  generalize slkW we k.dr k.da d = s2 at *
  generalize hldW sl k.st = s3 at *
  go_enter Try.func101, Try.ntmps101
  go_wp2_with (first | (go_at_call 100; (with_reducible refine Calls.mono (S1.out _) ?_); rintro e w' ⟨rfl, rfl⟩) | (go_at_call 100; (with_reducible refine Calls.mono (S2.out _) ?_); rintro e w' ⟨rfl, rfl⟩) | (go_at_call 128; (with_reducible refine Calls.mono (HO.out _) ?_); rintro e w' ⟨rfl, rfl⟩))
  go_ret
  exact ⟨rfl, (by repeat (first | exact Below.refl _ _ | refine Below.alloc ?_ (by first | omega | (simp; done) | (simp; omega)) _ | refine Below.setCell ?_ (by first | omega | (simp; done) | (simp; omega)) _ | refine Below.drew ?_))⟩

set_option maxHeartbeats 4000000 in
theorem qSuitOf_any (k : Knd) (ht sl we : Nat) (w : World) (K : KndOk k) {a : Int} (hh : hgtB ht = true) (vl : vS sl = some a) (a0 : 0 ≤ a) (hw : hgtB we = true) :
    Calls Try.prog 48 #[kndV k, gndV ht sl we] w fun e w' => e = .returned (.float .f32 (suiW k ht sl we)) ∧ Below w.heap.size w w' := by
  obtain ⟨d, p, r, S⟩ := sui_parts K hh vl a0 hw
  obtain ⟨h1, h2, h3, h4, h5, h6, h7, h8, h9, h10⟩ := fld_ten K.f
  obtain ⟨⟨b3, v3, _⟩, ⟨b4, v4, p4⟩, _⟩ := K.pos
  obtain ⟨z, vd⟩ := S.vd
  have S1 := Lib.hid (fun w => qSlackOf_any ht k.lo k.hi k.so w hh h1 h2 v3 K.o1)
  have S2 := Lib.hid (fun w => qSlackOf_any we k.dr k.da d w hw h5 h6 vd K.o2)
  have e1 := fun (W : World) => run_float_arith (P := Try.prog) W .add 30 .f32 k.dr 1065353216 d S.d1
  have e2 := fun (W : World) => run_float_arith (P := Try.prog) W .mul 30 .f32 (slkW ht k.lo k.hi k.so) (hldW sl k.st) p S.p1
  have e3 := fun (W : World) => run_float_arith (P := Try.prog) W .mul 30 .f32 p (slkW we k.dr k.da d) r S.r1
  have R := Lib.hid S.w
  refine hld_ways vl v4 a0 p4 (fun t hh' => ?_) (fun t _ u hh' => ?_) (fun q m r' t _ u q1 m1 r1 _ _ hh' => ?_)
  all_goals rw [hh'] at e2
  all_goals rw [R.out]
  · clear S h1 h2 h3 h4 h5 h6 h7 h8 h9 h10 v3 v4 p4 vd hh vl a0 hw K hh'
    generalize slkW ht k.lo k.hi k.so = s1 at *
    generalize slkW we k.dr k.da d = s2 at *
    go_enter Try.func48, Try.ntmps48
    go_wp2_with (first | (go_at_call 46; (with_reducible refine Calls.mono (S1.out _) ?_); rintro e w' ⟨rfl, rfl⟩) | (go_at_call 46; (with_reducible refine Calls.mono (S2.out _) ?_); rintro e w' ⟨rfl, rfl⟩))
    go_ret
    exact ⟨rfl, (by repeat (first | exact Below.refl _ _ | refine Below.alloc ?_ (by first | omega | (simp; done) | (simp; omega)) _ | refine Below.setCell ?_ (by first | omega | (simp; done) | (simp; omega)) _ | refine Below.drew ?_))⟩
  · clear S h1 h2 h3 h4 h5 h6 h7 h8 h9 h10 v3 v4 p4 vd hh vl a0 hw K hh'
    generalize slkW ht k.lo k.hi k.so = s1 at *
    generalize slkW we k.dr k.da d = s2 at *
    go_enter Try.func48, Try.ntmps48
    go_wp2_with (first | (go_at_call 46; (with_reducible refine Calls.mono (S1.out _) ?_); rintro e w' ⟨rfl, rfl⟩) | (go_at_call 46; (with_reducible refine Calls.mono (S2.out _) ?_); rintro e w' ⟨rfl, rfl⟩))
    go_ret
    exact ⟨rfl, (by repeat (first | exact Below.refl _ _ | refine Below.alloc ?_ (by first | omega | (simp; done) | (simp; omega)) _ | refine Below.setCell ?_ (by first | omega | (simp; done) | (simp; omega)) _ | refine Below.drew ?_))⟩
  · have f1 := fun (W : World) => run_float_arith (P := Try.prog) W .quo 30 .f32 sl k.st q q1
    have f2 := fun (W : World) => run_float_arith (P := Try.prog) W .mul 30 .f32 1056964608 q m m1
    have f3 := fun (W : World) => run_float_arith (P := Try.prog) W .sub 30 .f32 1065353216 m r' r1
    clear S h1 h2 h3 h4 h5 h6 h7 h8 h9 h10 v3 v4 p4 vd hh vl a0 hw K hh' q1 m1 r1
    generalize slkW ht k.lo k.hi k.so = s1 at *
    generalize slkW we k.dr k.da d = s2 at *
    go_enter Try.func48, Try.ntmps48
    go_wp2_with (first | (go_at_call 46; (with_reducible refine Calls.mono (S1.out _) ?_); rintro e w' ⟨rfl, rfl⟩) | (go_at_call 46; (with_reducible refine Calls.mono (S2.out _) ?_); rintro e w' ⟨rfl, rfl⟩))
    go_ret
    exact ⟨rfl, (by repeat (first | exact Below.refl _ _ | refine Below.alloc ?_ (by first | omega | (simp; done) | (simp; omega)) _ | refine Below.setCell ?_ (by first | omega | (simp; done) | (simp; omega)) _ | refine Below.drew ?_))⟩
end Go.Proofs.Ytkjpjppfmfifeaa

/- The error of a single that should lie between two others, by the tests of the reference. -/
namespace Go.Proofs.Ytkjpjppfmfifeaa
open Go.RowKit Fl
set_option linter.unusedVariables false

/-- The error of a single that should be from lo to hi, told by the reference's tests. -/
def WithinCases (st lo hi : Nat) : Prop :=
    ((fldE 1 (fun _ => st) = 2 ∨ fldE 1 (fun _ => st) = 3) ∧ wiE st lo hi = fldE 1 (fun _ => st)) ∨
    (fldE 1 (fun _ => st) = 0 ∧ wiE st lo hi = 3 ∧ (FloatKind.f32.format.order st lo == some .lt) = true) ∨
    (fldE 1 (fun _ => st) = 0 ∧ wiE st lo hi = 3 ∧ (FloatKind.f32.format.order st lo == some .lt) = false ∧ (FloatKind.f32.format.order st hi == some .gt) = true) ∨
    (fldE 1 (fun _ => st) = 0 ∧ wiE st lo hi = 0 ∧ (FloatKind.f32.format.order st lo == some .lt) = false ∧ (FloatKind.f32.format.order st hi == some .gt) = false)
theorem within_cases {st lo hi : Nat} {l h : Int} (hl : vS lo = some l) (hh : vS hi = some h) (l1 : -vTop ≤ l) (h1 : h ≤ vTop) : WithinCases st lo hi := by
  unfold WithinCases
  cases hf : finB st with
  | false =>
    have e : fldE 1 (fun _ => st) = 2 := by simp [fldE, allB, List.range_succ, hf]
    exact .inl ⟨.inl e, by rw [e]; unfold wiE; rw [if_pos hf]⟩
  | true =>
    obtain ⟨a, ha⟩ := Option.isSome_iff_exists.1 (show (vS st).isSome = true from hf)
    have l0 := lss_val ha hl
    have g1 := gtr_val ha hh
    rw [← f32f] at l0 g1
    have hw : ((FloatKind.f32.format.order st lo == some .lt) = true ∨ (FloatKind.f32.format.order st hi == some .gt) = true) → wiE st lo hi = 3 := fun c => by
      unfold wiE; rw [if_neg (by rw [hf]; simp), if_pos c]
    cases hgt : hgtB st with
    | false =>
      have e : fldE 1 (fun _ => st) = 3 := by simp [fldE, hgtE, allB, List.range_succ, hf, hgt]
      refine .inl ⟨.inr e, ?_⟩
      rw [e]
      refine hw ?_
      unfold hgtB at hgt
      rw [ha] at hgt
      rw [l0, g1]
      simp at hgt ⊢
      omega
    | true =>
      have e : fldE 1 (fun _ => st) = 0 := fldE_one_ok hgt
      cases c1 : (FloatKind.f32.format.order st lo == some .lt) with
      | true => exact .inr (.inl ⟨e, hw (.inl c1), rfl⟩)
      | false =>
        cases c2 : (FloatKind.f32.format.order st hi == some .gt) with
        | true => exact .inr (.inr (.inl ⟨e, hw (.inr c2), rfl, rfl⟩))
        | false => exact .inr (.inr (.inr ⟨e, by unfold wiE; rw [if_neg (by rw [hf]; simp), if_neg (by rw [c1, c2]; simp)], rfl, rfl⟩))

theorem vTop_one : vTop = 1048576 * (one : Int) := by
  obtain ⟨J, hJ⟩ : ∃ J : Nat, J = 1074 := ⟨_, rfl⟩
  unfold vTop
  rw [one_pow hJ, Nat.one_mul, show ((20 : Int) + 1074).toNat = 20 + J by omega, Nat.pow_add, Int.natCast_mul]; rfl
theorem step_cases (st : Nat) : WithinCases st 981467136 1149239296 := by
  obtain ⟨j, hj⟩ : ∃ j : Nat, j = 1064 := ⟨_, rfl⟩
  have hj' : j + 20 = 1084 := by omega
  have e1 : one = 1024 * 2 ^ j := by rw [one_split (a := 10) (j := j) (by omega)]
  have e2 : 2 ^ (j + 20) = 1048576 * 2 ^ j := by rw [Nat.pow_add, Nat.mul_comm]
  have hp := Nat.two_pow_pos j
  exact within_cases (st := st) (vS_lo hj) (vS_hi hj') (by rw [vTop_one, e1]; generalize 2 ^ j = U at *; omega) (by rw [vTop_one, e1, e2]; generalize 2 ^ j = U at *; omega)

theorem flAt_one_of {w : World} {b x : Nat} (h : w.heap[b]? = some (flObj x)) : FlAt w b 0 1 (fun _ => x) := by
  intro i hi
  have : i = 0 := by omega
  subst this
  exact (blkC h).1 0
theorem refHeight_of (x : Nat) (hx : x < 4294967296) (bb : Nat) (w : World) (h : w.heap[bb]? = some (flObj x)) :
    Calls Try.prog 17 #[.slice (some ⟨bb, 0, none⟩) 1 1] w fun e w' => e = .returned (.int .i64 (fldE 1 (fun _ => x))) ∧ w = w' :=
  refHeight_row bb 0 1 1 (fun _ => x) (by omega) w (flAt_one_of h) (fun _ _ => hx)

end Go.Proofs.Ytkjpjppfmfifeaa

/- A plant: its cells; byPlace, checkPlant of the program, Ahead of the reference. -/
namespace Go.Proofs.Ytkjpjppfmfifeaa
open Go.RowKit Fl
set_option linter.unusedVariables false

theorem hDrew {w : World} {b : Nat} {o : Obj} (h : w.heap[b]? = some o) : w.drew.heap[b]? = some o := h

/-- The fields of a plant. -/
structure Plt where
  kd : Int
  x : Int
  y : Int
  sz : Nat
  ag : Int
def pltZ : Plt := ⟨0, 0, 0, 0, 0⟩
abbrev Plt.cells (p : Plt) : Array Value := #[.int .i64 p.kd, .int .i64 p.x, .int .i64 p.y, .float .f32 p.sz, .int .i64 p.ag]
abbrev pltV (p : Plt) : Value := .agg p.cells
abbrev pltO (p : Plt) : Obj := .cells p.cells 85

/-- Whether a plant is ahead of another one by its place. -/
def ahdB (a b : Plt) : Bool := decide (a.y < b.y) || (decide (a.y = b.y) && decide (a.x < b.x))
theorem ahd_iff {a b : Plt} : ahdB a b = true ↔ a.y < b.y ∨ (a.y = b.y ∧ a.x < b.x) := by unfold ahdB; simp
/-- What comparing by places gives. -/
def byP (a b : Plt) : Int := if a.y < b.y then -1 else if b.y < a.y then 1 else if a.x < b.x then -1 else if b.x < a.x then 1 else 0
theorem byP_ahd (a b : Plt) : decide (0 ≤ byP a b) = !ahdB a b := by
  cases h : ahdB a b with
  | true => rw [ahd_iff] at h; unfold byP; simp; omega
  | false =>
    have h' : ¬ (a.y < b.y ∨ (a.y = b.y ∧ a.x < b.x)) := by rw [← ahd_iff]; simp [h]
    unfold byP; simp; omega

def cmpI (a b : Int) : Int := if a < b then -1 else if b < a then 1 else 0
set_option maxHeartbeats 1000000 in
theorem compare_any (a b : Int) (w : World) : Calls Try.prog 139 #[.int .i64 a, .int .i64 b] w fun e w' => e = .returned (.int .i64 (cmpI a b)) ∧ w = w' := by
  unfold cmpI
  go_enter Try.func139, Try.ntmps139
  go_wp2
  all_goals go_ret
  all_goals exact ⟨ret_int (by omega), rfl⟩

inductive OrAt (a b : Int) : Value → Prop where
  | z : OrAt a b (.int .i64 0)
  | a (h : a = 0) : OrAt a b (.int .i64 1)
  | b (h : a = 0) (h' : b = 0) : OrAt a b (.int .i64 2)
set_option maxHeartbeats 1000000 in
theorem or2_any (a b : Int) (p : Nat) (w : World) (h : w.heap[p]? = some (.cells #[.int .i64 a, .int .i64 b] 3)) :
    Calls Try.prog 138 #[.slice (some ⟨p, 0, none⟩) 2 2] w fun e w' => e = .returned (.int .i64 (if a = 0 then b else a)) ∧ w = w' := by
  obtain ⟨cc, f, z⟩ := blkC h
  clear h
  go_enter Try.func138, Try.ntmps138
  go_wp2
  go_loop [8] (fun i => OrAt a b i) (fun i => 2 - (intOf i).toNat)
  case atStart => exact .z
  case round =>
    rcases hrel with _ | ha | ⟨ha, hb⟩
    · by_cases h0 : a = 0
      · subst h0
        go_wp2
        go_round
        case rel => exact .a rfl
        case measure => simp [intOf]
      · go_wp2
        go_ret
        exact ⟨by first | (simp; done) | simp [h0], rfl⟩
    · subst ha
      by_cases h0 : b = 0
      · subst h0
        go_wp2
        go_round
        case rel => exact .b rfl rfl
        case measure => simp [intOf]
      · go_wp2
        go_ret
        exact ⟨by first | (simp; done) | simp [h0], rfl⟩
    · subst ha hb
      go_wp2
      go_ret
      exact ⟨rfl, rfl⟩

set_option maxHeartbeats 4000000 in
theorem byPlace_cmp (a b : Plt) (w : World) : Calls Try.prog 130 #[pltV a, pltV b] w fun e w' => e = .returned (.int .i64 (byP a b)) ∧ Below w.heap.size w w' := by
  have e : byP a b = if cmpI a.y b.y = 0 then cmpI a.x b.x else cmpI a.y b.y := by unfold byP cmpI; grind
  rw [e]
  have C1 := Lib.hid (fun w => compare_any a.y b.y w)
  have C2 := Lib.hid (fun w => compare_any a.x b.x w)
  have OR := Lib.hid (fun p w (h : w.heap[p]? = some (.cells #[.int .i64 (cmpI a.y b.y), .int .i64 (cmpI a.x b.x)] 3)) => or2_any (cmpI a.y b.y) (cmpI a.x b.x) p w h)
  clear e
  generalize cmpI a.y b.y = c1 at *
  generalize cmpI a.x b.x = c2 at *
  generalize (if c1 = 0 then c2 else c1) = res at *
  go_enter Try.func130, Try.ntmps130
  go_wp2
  have HA := Lib.hid (show ((w.alloc (pltO a)).alloc (pltO b)).heap[w.heap.size]? = some (pltO a) by (first | (rw [heap_alloc_get, if_pos rfl]; done) | ((simp only [heap_alloc_get, heap_size_alloc, if_true]) <;> ((repeat' split) <;> first | rfl | omega))))
  have HB := Lib.hid (show ((w.alloc (pltO a)).alloc (pltO b)).heap[w.heap.size + 1]? = some (pltO b) by (first | (rw [heap_alloc_get, if_pos rfl]; done) | ((simp only [heap_alloc_get, heap_size_alloc, if_true]) <;> ((repeat' split) <;> first | rfl | omega))))
  have hB2 : Below w.heap.size w ((w.alloc (pltO a)).alloc (pltO b)) := (by repeat (first | exact Below.refl _ _ | refine Below.alloc ?_ (by first | omega | (simp; done) | (simp; omega)) _ | refine Below.setCell ?_ (by first | omega | (simp; done) | (simp; omega)) _ | refine Below.drew ?_))
  go_region_held3 (fun w' => ((∀ o, w'.cell? ⟨w.heap.size, o, none⟩ = a.cells[o]?) ∧ (∀ o, w'.cell? ⟨w.heap.size + 1, o, none⟩ = b.cells[o]?)) ∧ Below ((w.alloc (pltO a)).alloc (pltO b)).heap.size ((w.alloc (pltO a)).alloc (pltO b)) w') (exact (fun K => ⟨⟨(blkC (blkStay HA.out K)).1, (blkC (blkStay HB.out K)).1⟩, K⟩) (by repeat (first | exact Below.refl _ _ | refine Below.alloc ?_ (by first | omega | (simp; done) | (simp; omega)) _ | refine Below.setCell ?_ (by first | omega | (simp; done) | (simp; omega)) _ | refine Below.drew ?_))) (first
    | (go_at_call 139; (first | (with_reducible refine Calls.mono (C1.out _) ?_) | (with_reducible refine Calls.mono (C2.out _) ?_)); rintro e w' ⟨rfl, rfl⟩)
    | (go_at_call 138; (with_reducible refine Calls.mono (OR.out _ _ ?_) ?_); (repeat (refine hDrew ?_)); (first | (first | (rw [heap_alloc_get, if_pos rfl]; done) | ((simp only [heap_alloc_get, heap_size_alloc, if_true]) <;> ((repeat' split) <;> first | rfl | omega))) | ((simp only [heap_alloc_get, heap_size_alloc, if_true]) <;> ((repeat' split) <;> first | rfl | omega)) | (first | (rw [heap_alloc_get, if_pos rfl]; done) | ((simp only [heap_alloc_get, heap_size_alloc, if_true]) <;> ((repeat' split) <;> first | rfl | omega)))); rintro e w' ⟨rfl, rfl⟩))
  all_goals have hHeld := ‹_ ∧ Below ((w.alloc (pltO a)).alloc (pltO b)).heap.size _ _›
  all_goals have HH := Lib.hid (hB2.trans (hHeld.2.mono hB2.size))
  all_goals clear hHeld
  all_goals go_wp2
  all_goals go_ret
  all_goals exact ⟨rfl, HH.out⟩

set_option maxHeartbeats 1000000 in
theorem ahead_any (a b : Plt) (w : World) : Calls Try.prog 106 #[pltV a, pltV b] w fun e w' => e = .returned (.bool (ahdB a b)) ∧ Below w.heap.size w w' := by
  have E := Lib.hid (ahd_iff (a := a) (b := b))
  go_enter Try.func106, Try.ntmps106
  go_wp2
  all_goals go_ret
  all_goals refine ⟨ret_bool ?_, (by repeat (first | exact Below.refl _ _ | refine Below.alloc ?_ (by first | omega | (simp; done) | (simp; omega)) _ | refine Below.setCell ?_ (by first | omega | (simp; done) | (simp; omega)) _ | refine Below.drew ?_))⟩
  all_goals rw [Bool.eq_iff_iff, E.out]
  all_goals simp
  all_goals omega

/-- The error of a place. -/
def plaE (x y : Int) : Int := if withinB x (-4194304) 4194304 = true ∧ withinB y (-4194304) 4194304 = true then 0 else 5
set_option maxHeartbeats 1000000 in
theorem checkPla_any (x y : Int) (w : World) : Calls Try.prog 107 #[.int .i64 x, .int .i64 y] w fun e w' => e = .returned (.int .i64 (plaE x y)) ∧ w = w' := by
  have W1 : ∀ c w, Calls Try.prog 131 #[.int .i64 c] w fun e w' => e = .returned (.bool (withinB c (-4194304) 4194304)) ∧ w = w' := by
    intro c w
    go_enter Try.func131, Try.ntmps131
    go_wp2_with (go_at_call 99; refine (within_any _ _ _ _).mono ?_; rintro e w' ⟨rfl, rfl⟩)
    go_ret
    exact ⟨rfl, rfl⟩
  have C1 := Lib.hid (W1 x)
  have C2 := Lib.hid (W1 y)
  clear W1
  unfold plaE
  cases h1 : withinB x (-4194304) 4194304 <;> cases h2 : withinB y (-4194304) 4194304
  all_goals rw [h1] at C1
  all_goals rw [h2] at C2
  all_goals clear h1 h2
  all_goals
    go_enter Try.func107, Try.ntmps107
    go_wp2_with (go_at_call 131; (first | (with_reducible refine Calls.mono (C1.out _) ?_) | (with_reducible refine Calls.mono (C2.out _) ?_)); rintro e w' ⟨rfl, rfl⟩)
    go_ret
    exact ⟨rfl, rfl⟩
end Go.Proofs.Ytkjpjppfmfifeaa

/- A list of kinds: named, CheckKinds of the program. -/
namespace Go.Proofs.Ytkjpjppfmfifeaa
open Go.RowKit Fl
set_option linter.unusedVariables false

/-- The kinds lie in a block, one after the other. -/
def KndsAt (w : World) (b off n : Nat) (K : Nat → Knd) : Prop := ∀ i, i < n → ∀ j, j < 13 → w.cell? ⟨b, off + i * 13 + j, none⟩ = (K i).cells[j]?
/-- .. or there is none. -/
def KndL (w : World) (a : Option Addr) (n : Nat) (K : Nat → Knd) : Prop := n = 0 ∨ ∃ b off, a = some ⟨b, off, none⟩ ∧ KndsAt w b off n K
theorem cells_get (k : Knd) (j : Nat) (hj : j < 13) : ∃ v, k.cells[j]? = some v := by
  have : j < k.cells.size := hj
  exact ⟨k.cells[j], Array.getElem?_eq_getElem this⟩
theorem KndsAt.stay {w w' : World} {b off n : Nat} {K : Nat → Knd} (L : KndsAt w b off n K) (hb : Below w.heap.size w w') : KndsAt w' b off n K := fun i hi j hj => by
  obtain ⟨v, hv⟩ := cells_get (K i) j hj
  have h := L i hi j hj
  rw [hv] at h
  have hlt := World.block_lt_of_cell? w _ h
  rw [hv, ← h]
  exact Below.cell hb hlt
theorem KndL.stay {w w' : World} {a : Option Addr} {n : Nat} {K : Nat → Knd} (L : KndL w a n K) (hb : Below w.heap.size w w') : KndL w' a n K :=
  L.imp_right fun ⟨b, off, e, h⟩ => ⟨b, off, e, h.stay hb⟩
structure KndAt (w : World) (b o : Nat) (k : Knd) : Prop where
  c0 : w.cell? ⟨b, o, none⟩ = some (.string k.name)
  c1 : w.cell? ⟨b, o + 1, none⟩ = some (.float .f32 k.lo)
  c2 : w.cell? ⟨b, o + 2, none⟩ = some (.float .f32 k.hi)
  c3 : w.cell? ⟨b, o + 3, none⟩ = some (.float .f32 k.so)
  c4 : w.cell? ⟨b, o + 4, none⟩ = some (.float .f32 k.st)
  c5 : w.cell? ⟨b, o + 5, none⟩ = some (.float .f32 k.dr)
  c6 : w.cell? ⟨b, o + 6, none⟩ = some (.float .f32 k.da)
  c7 : w.cell? ⟨b, o + 7, none⟩ = some (.float .f32 k.tp)
  c8 : w.cell? ⟨b, o + 8, none⟩ = some (.float .f32 k.pa)
  c9 : w.cell? ⟨b, o + 9, none⟩ = some (.float .f32 k.sh)
  c10 : w.cell? ⟨b, o + 10, none⟩ = some (.float .f32 k.ba)
  c11 : w.cell? ⟨b, o + 11, none⟩ = some (.int .i64 k.sp)
  c12 : w.cell? ⟨b, o + 12, none⟩ = some (.int .i64 k.th)
theorem KndsAt.at {w : World} {b off n : Nat} {K : Nat → Knd} (L : KndsAt w b off n K) {i : Nat} (hi : i < n) : KndAt w b (off + i * 13) (K i) :=
  ⟨L i hi 0 (by omega), L i hi 1 (by omega), L i hi 2 (by omega), L i hi 3 (by omega), L i hi 4 (by omega), L i hi 5 (by omega), L i hi 6 (by omega), L i hi 7 (by omega), L i hi 8 (by omega), L i hi 9 (by omega), L i hi 10 (by omega), L i hi 11 (by omega), L i hi 12 (by omega)⟩

/-- Whether two texts are the same. -/
def eqN (a b : ByteArray) : Bool := a.toList == b.toList
theorem enters_named1 : Enters 127 := by intro args W; simp [callFunc, Try.func127, Try.f127]
theorem named1_any (k : Knd) (s : ByteArray) (p : Nat) (w : World) (hp : w.heap[p]? = some (.cells #[.string s] 9)) : Calls Try.prog 127 #[kndV k, .pointer (some ⟨p, 0, none⟩)] w fun e w' => e = .returned (.bool (eqN k.name s)) ∧ Below w.heap.size w w' := by
  obtain ⟨c, f, z⟩ := blkC hp
  unfold eqN
  clear hp
  go_enter Try.func127, Try.ntmps127
  go_wp2
  go_ret
  exact ⟨rfl, (by repeat (first | exact Below.refl _ _ | refine Below.alloc ?_ (by first | omega | (simp; done) | (simp; omega)) _ | refine Below.setCell ?_ (by first | omega | (simp; done) | (simp; omega)) _ | refine Below.drew ?_))⟩

/-- The number of the first kind of that name, or -1. -/
def NamAt (n : Nat) (K : Nat → Knd) (s : ByteArray) (r : Int) : Prop := (r = -1 ∧ ∀ i, i < n → eqN (K i).name s = false) ∨ ∃ i : Nat, r = i ∧ i < n ∧ eqN (K i).name s = true ∧ ∀ j, j < i → eqN (K j).name s = false

set_option maxHeartbeats 2000000 in
theorem named_any (a : Option Addr) (n cap : Nat) (K : Nat → Knd) (s : ByteArray) (w : World) (L : KndL w a n K) (hn : n ≤ 9223372036854775807) :
    Calls Try.prog 97 #[.slice a n cap, .string s] w fun e w' => ∃ r : Int, e = .returned (.int .i64 r) ∧ NamAt n K s r ∧ Below w.heap.size w w' := by
  have IX : ∀ p W, Below w.heap.size w W → W.heap[p]? = some (.cells #[.string s] 9) → Calls Try.prog 126 #[.slice a n cap, .func (.func 127) #[] #[.pointer (some ⟨p, 0, none⟩)]] W fun e w' => ∃ r : Int, e = .returned (.int .i64 r) ∧ NamAt n K s r ∧ Below W.heap.size W w' := by
    intro p W hW hp
    have HP := Lib.hid hp
    have HL := Lib.hid (L.stay hW)
    have NC := Lib.hid (fun k w (h : w.heap[p]? = some (.cells #[.string s] 9)) => named1_any k s p w h)
    have hc := enters_named1
    unfold Enters at hc
    clear L hW hp
    go_enter Try.func126, Try.ntmps126
    go_wp2
    go_loopw [8] (fun i wr => ∃ j : Nat, j ≤ n ∧ i = .int .i64 j ∧ (∀ i, i < j → eqN (K i).name s = false) ∧ Below W.heap.size W wr) (fun i _ => n - (intOf i).toNat)
    case atStart => exact ⟨0, by omega, rfl, fun i hi => by omega, Below.refl _ _⟩
    case round =>
      obtain ⟨j, hj, rfl, hz, hb⟩ := hrel
      have HZ := Lib.hid hz
      have HB := Lib.hid hb
      clear hz
      by_cases c : j < n
      · rcases HL.out.stay hb with z | ⟨b', off, rfl, l⟩
        · omega
        obtain ⟨l0, l1, l2, l3, l4, l5, l6, l7, l8, l9, l10, l11, l12⟩ := l.at c
        have C1 := Lib.hid (NC.out (K j) wr (blkStay HP.out hb))
        obtain ⟨ej, hej⟩ : ∃ ej, eqN (K j).name s = ej := ⟨_, rfl⟩
        rw [hej] at C1
        have HE := Lib.hid hej
        clear l hb hej
        cases ej with
        | false =>
          go_wp2_with (first | (go_at_call 127; refine C1.out.mono ?_; rintro e' w4 ⟨rfl, hb4⟩; have HB4 := Lib.hid (HB.out.trans (hb4.mono HB.out.size)); clear hb4))
          go_roundw
          case rel => exact ⟨j + 1, by omega, by go_num, (fun i hi => by
            rcases Nat.lt_or_ge i j with q | q
            · exact HZ.out i q
            · rw [show i = j by omega]; exact HE.out), HB4.out⟩
          case measure => simp [intOf]; omega
        | true =>
          go_wp2_with (first | (go_at_call 127; refine C1.out.mono ?_; rintro e' w4 ⟨rfl, hb4⟩; have HB4 := Lib.hid (HB.out.trans (hb4.mono HB.out.size)); clear hb4))
          go_ret
          exact ⟨_, rfl, .inr ⟨j, rfl, c, HE.out, HZ.out⟩, HB4.out⟩
      · have : j = n := by omega
        subst this
        go_wp2
        go_ret
        exact ⟨_, rfl, .inl ⟨rfl, HZ.out⟩, hb⟩
  have IXH := Lib.hid IX
  clear IX L
  go_enter Try.func97, Try.ntmps97
  go_wp2_with (first | (go_at_call 126; refine (IXH.out w.heap.size _ (by repeat (first | exact Below.refl _ _ | refine Below.alloc ?_ (by first | omega | (simp; done) | (simp; omega)) _ | refine Below.setCell ?_ (by first | omega | (simp; done) | (simp; omega)) _ | refine Below.drew ?_)) (by (first | (rw [heap_alloc_get, if_pos rfl]; done) | ((simp only [heap_alloc_get, heap_size_alloc, if_true]) <;> ((repeat' split) <;> first | rfl | omega))))).mono ?_; rintro e' w4 ⟨r, rfl, hr, hb4⟩; have HB4 := Lib.hid (Below.trans (show Below w.heap.size w _ from (by repeat (first | exact Below.refl _ _ | refine Below.alloc ?_ (by first | omega | (simp; done) | (simp; omega)) _ | refine Below.setCell ?_ (by first | omega | (simp; done) | (simp; omega)) _ | refine Below.drew ?_))) (Below.mono hb4 (by simp))); have HR := Lib.hid hr; clear hb4 hr))
  go_ret
  exact ⟨r, rfl, HR.out, HB4.out⟩
end Go.Proofs.Ytkjpjppfmfifeaa

/- The error of a list: the first one of its items. -/
namespace Go.Proofs.Ytkjpjppfmfifeaa
set_option linter.unusedVariables false

/-- er is the first error of n. -/
def LstE (n : Nat) (e : Nat → Int) (er : Int) : Prop := (er = 0 ∧ ∀ i, i < n → e i = 0) ∨ (er ≠ 0 ∧ ∃ j, j < n ∧ (∀ i, i < j → e i = 0) ∧ e j = er)
theorem lstE_ex (e : Nat → Int) : ∀ n, ∃ er, LstE n e er
  | 0 => ⟨0, .inl ⟨rfl, fun i hi => by omega⟩⟩
  | n + 1 => by
    obtain ⟨er, h⟩ := lstE_ex e n
    rcases h with ⟨rfl, h⟩ | ⟨h0, j, hj, hi, he⟩
    · by_cases c : e n = 0
      · exact ⟨0, .inl ⟨rfl, fun i hi => by
          rcases Nat.lt_or_ge i n with l | l
          · exact h i l
          · rw [show i = n by omega]; exact c⟩⟩
      · exact ⟨e n, .inr ⟨c, n, by omega, h, rfl⟩⟩
    · exact ⟨er, .inr ⟨h0, j, by omega, hi, he⟩⟩
theorem LstE.zero {n : Nat} {e : Nat → Int} {er : Int} (h : LstE n e er) (a : ∀ i, i < n → e i = 0) : er = 0 := by
  rcases h with ⟨rfl, _⟩ | ⟨h0, j, hj, _, he⟩
  · rfl
  · rw [← he]; exact a j hj
theorem LstE.at {n j : Nat} {e : Nat → Int} {er : Int} (h : LstE n e er) (a : ∀ i, i < j → e i = 0) (hj : j < n) (he : e j ≠ 0) : e j = er := by
  rcases h with ⟨rfl, h⟩ | ⟨h0, k, hk, hi, hek⟩
  · exact absurd (h j hj) he
  · rcases Nat.lt_trichotomy j k with c | c | c
    · exact absurd (hi j c) he
    · rw [c]; exact hek
    · rw [a k c] at hek; exact absurd hek.symm h0
theorem LstE.all {n : Nat} {e : Nat → Int} (h : LstE n e 0) : ∀ i, i < n → e i = 0 := by
  rcases h with ⟨_, h⟩ | ⟨h0, _⟩
  · exact h
  · exact absurd rfl h0

end Go.Proofs.Ytkjpjppfmfifeaa

/- CheckKinds of the program: the error of a list of kinds. -/
namespace Go.Proofs.Ytkjpjppfmfifeaa
open Go.RowKit Fl
set_option linter.unusedVariables false

theorem namAt_unique {n : Nat} {K : Nat → Knd} {s : ByteArray} {r r' : Int} (h : NamAt n K s r) (h' : NamAt n K s r') : r = r' := by
  rcases h with ⟨rfl, h⟩ | ⟨i, rfl, hi, hk, h⟩ <;> rcases h' with ⟨rfl, h'⟩ | ⟨i', rfl, hi', hk', h'⟩
  · rfl
  · rw [h i' hi'] at hk'; cases hk'
  · rw [h' i hi] at hk; cases hk
  · rcases Nat.lt_trichotomy i i' with c | c | c
    · rw [h' i c] at hk; cases hk
    · rw [c]
    · rw [h i' c] at hk'; cases hk'
theorem namAt_ex (K : Nat → Knd) (s : ByteArray) : ∀ n, ∃ r, NamAt n K s r
  | 0 => ⟨-1, .inl ⟨rfl, fun i hi => by omega⟩⟩
  | n + 1 => by
    obtain ⟨r, h⟩ := namAt_ex K s n
    rcases h with ⟨rfl, h⟩ | ⟨i, rfl, hi, hk, h⟩
    · cases c : eqN (K n).name s with
      | true => exact ⟨n, .inr ⟨n, rfl, by omega, c, h⟩⟩
      | false => exact ⟨-1, .inl ⟨rfl, fun i hi => by rcases Nat.lt_or_ge i n with q | q; exact h i q; rw [show i = n by omega]; exact c⟩⟩
    · exact ⟨i, .inr ⟨i, rfl, by omega, hk, h⟩⟩
/-- Whether an earlier kind has the name of the kind i. -/
def dupB (K : Nat → Knd) (i : Nat) : Bool := !allB i fun j => !eqN (K j).name (K i).name
theorem namAt_dup {K : Nat → Knd} {i : Nat} {r : Int} (h : NamAt i K (K i).name r) : decide (0 ≤ r) = dupB K i := by
  unfold dupB
  rcases h with ⟨rfl, h⟩ | ⟨j, rfl, hj, hk, _⟩
  · rw [allB_iff.2 fun j hj => by rw [h j hj]; rfl]; rfl
  · rw [allB_no hj (by rw [hk]; rfl)]; simp
/-- A kind's error in its list. -/
def kndS (K : Nat → Knd) (i : Nat) : Int := if (K i).err ≠ 0 then (K i).err else if dupB K i then 7 else 0
/-- The error of a list of n kinds, er being the first one of its kinds. -/
def kndsE (n : Nat) (er : Int) : Int := if n = 0 then 10 else if 12 < n then 4 else er
theorem KndL.pre {w : World} {b off n j : Nat} {K : Nat → Knd} (l : KndsAt w b off n K) (h : j ≤ n) : KndL w (some ⟨b, off, none⟩) j K := .inr ⟨b, off, rfl, fun i hi => l i (by omega)⟩

set_option maxHeartbeats 4000000 in
set_option maxRecDepth 100000 in
theorem checkKinds_any (a : Option Addr) (n cap : Nat) (K : Nat → Knd) (er : Int) (w : World) (L : KndL w a n K) (hn : n ≤ cap) (hcap : cap ≤ 9223372036854775807) (hs : ∀ i, i < n → (K i).name.size ≤ 9223372036854775807) (E : LstE n (kndS K) er) :
    Calls Try.prog 37 #[.slice a n cap] w fun e w' => e = .returned (.int .i64 (kndsE n er)) ∧ Below w.heap.size w w' := by
  unfold kndsE
  by_cases n0 : n = 0
  · subst n0
    simp only [if_true]
    clear E L hs hn
    go_enter Try.func37, Try.ntmps37
    go_wp2
    go_ret
    exact ⟨rfl, (by repeat (first | exact Below.refl _ _ | refine Below.alloc ?_ (by first | omega | (simp; done) | (simp; omega)) _ | refine Below.setCell ?_ (by first | omega | (simp; done) | (simp; omega)) _ | refine Below.drew ?_))⟩
  rw [if_neg n0]
  by_cases n12 : 12 < n
  · rw [if_pos n12]
    clear E L hs
    go_enter Try.func37, Try.ntmps37
    go_wp2
    go_ret
    exact ⟨rfl, (by repeat (first | exact Below.refl _ _ | refine Below.alloc ?_ (by first | omega | (simp; done) | (simp; omega)) _ | refine Below.setCell ?_ (by first | omega | (simp; done) | (simp; omega)) _ | refine Below.drew ?_))⟩
  rw [if_neg n12]
  have EE := Lib.hid E
  have HL := Lib.hid L
  have HS := Lib.hid hs
  have CK := Lib.hid (fun k hk w => checkKind_any k hk w)
  have hsf := fun (w : World) (a : Addr) (m : Mode) (k : FloatKind) (b : Nat) => run_store_float (P := Try.prog) (w := w) (a := a) (m := m) k b
  have e0 : ((n : Int) == 0) = false := by rw [beq_eq_false_iff_ne]; omega
  have e12 : decide ((12 : Int) < (n : Int)) = false := decide_eq_false (by omega)
  clear E L hs
  go_enter Try.func37, Try.ntmps37
  go_wp2
  go_loopw [16] (fun i wr => ∃ j : Nat, j ≤ n ∧ i = .int .i64 j ∧ (∀ i, i < j → kndS K i = 0) ∧ Below w.heap.size w wr) (fun i _ => n - (intOf i).toNat)
  case atStart => exact ⟨0, by omega, rfl, fun i hi => by omega, Below.refl _ _⟩
  case round =>
    obtain ⟨j, hj, rfl, hz, hb⟩ := hrel
    have HZ := Lib.hid hz
    have HB := Lib.hid hb
    clear hz
    by_cases c : j < n
    · rcases HL.out.stay hb with z | ⟨b', off, rfl, l⟩
      · omega
      have LL := Lib.hid l
      obtain ⟨l0, l1, l2, l3, l4, l5, l6, l7, l8, l9, l10, l11, l12⟩ := l.at c
      have C1 := Lib.hid (CK.out (K j) (HS.out j c))
      obtain ⟨ej, hej⟩ : ∃ ej, (K j).err = ej := ⟨_, rfl⟩
      rw [hej] at C1
      have HE := Lib.hid hej
      clear l hb hej
      by_cases c0 : ej = 0
      · subst c0
        obtain ⟨R, hR⟩ := namAt_ex K (K j).name j
        have hd := namAt_dup hR
        have NA := Lib.hid (show ∀ W', Below wr.heap.size wr W' → Calls Try.prog 97 #[.slice (some ⟨b', off, none⟩) j cap, .string (K j).name] W' (fun e w' => e = .returned (.int .i64 R) ∧ Below W'.heap.size W' w') from fun W' hW => (named_any (some ⟨b', off, none⟩) j cap K (K j).name W' (KndL.stay (KndL.pre LL.out hj) hW) (by omega)).mono fun e w' ⟨r, h1, h2, h3⟩ => ⟨by rw [h1, namAt_unique h2 hR], h3⟩)
        clear hR
        have hslice : (j : Int) ≤ (cap : Int) := by omega
        obtain ⟨dj, hdj⟩ : ∃ dj, dupB K j = dj := ⟨_, rfl⟩
        rw [hdj] at hd
        have HD := Lib.hid hdj
        clear hdj
        go_wp2_with (first | (go_at_call 39; refine (C1.out _).mono ?_; rintro e' w4 ⟨rfl, hb4⟩; have HK := Lib.hid (blkStay (b := wr.heap.size) (o := kndO (K j)) (by (first | (rw [heap_alloc_get, if_pos rfl]; done) | ((simp only [heap_alloc_get, heap_size_alloc, if_true]) <;> ((repeat' split) <;> first | rfl | omega)))) hb4); have hB4 : Below wr.heap.size wr w4 := Below.trans (by repeat (first | exact Below.refl _ _ | refine Below.alloc ?_ (by first | omega | (simp; done) | (simp; omega)) _ | refine Below.setCell ?_ (by first | omega | (simp; done) | (simp; omega)) _ | refine Below.drew ?_)) (Below.mono hb4 (by simp)); have HB4 := Lib.hid hB4; clear hb4 hB4; obtain ⟨cK, fK, zK⟩ := blkC HK.out; clear l0 l1 l2 l3 l4 l5 l6 l7 l8 l9 l10 l11 l12))
        go_region_held3 (fun w' => (∀ o, w'.cell? ⟨wr.heap.size, o, none⟩ = (K j).cells[o]?) ∧ Below w4.heap.size w4 w') (first | exact ⟨(blkC (blkStay HK.out hb9)).1, hb9⟩ | exact ⟨(blkC (blkStay HK.out (by repeat (first | exact Below.refl _ _ | refine Below.alloc ?_ (by first | omega | (simp; done) | (simp; omega)) _ | refine Below.setCell ?_ (by first | omega | (simp; done) | (simp; omega)) _ | refine Below.drew ?_)))).1, (by repeat (first | exact Below.refl _ _ | refine Below.alloc ?_ (by first | omega | (simp; done) | (simp; omega)) _ | refine Below.setCell ?_ (by first | omega | (simp; done) | (simp; omega)) _ | refine Below.drew ?_))⟩) (first | (go_at_call 97; (with_reducible refine Calls.mono (NA.out _ ?_) ?_); exact HB4.out.trans (Below.mono (by first | exact hb9 | exact hb9.drew | exact (by repeat (first | exact Below.refl _ _ | refine Below.alloc ?_ (by first | omega | (simp; done) | (simp; omega)) _ | refine Below.setCell ?_ (by first | omega | (simp; done) | (simp; omega)) _ | refine Below.drew ?_))) HB4.out.size); rintro e w' ⟨rfl, hb8⟩; have hb9 : Below w4.heap.size w4 w' := Below.trans (by first | exact hb9 | exact hb9.drew | exact (by repeat (first | exact Below.refl _ _ | refine Below.alloc ?_ (by first | omega | (simp; done) | (simp; omega)) _ | refine Below.setCell ?_ (by first | omega | (simp; done) | (simp; omega)) _ | refine Below.drew ?_))) (Below.mono hb8 (by first | exact hb9.size | exact Nat.le_refl _ | (simp; done) | (simp; omega))); clear hb8))
        rename_i wh hHeld
        have HH := Lib.hid hHeld.2
        clear hHeld
        cases dj with
        | false =>
          go_wp2
          go_roundw
          case rel => exact ⟨j + 1, by omega, by go_num, (fun i hi => by
            rcases Nat.lt_or_ge i j with q | q
            · exact HZ.out i q
            · rw [show i = j by omega]; unfold kndS; rw [HE.out, HD.out]; rfl), HB.out.trans ((HB4.out.trans (HH.out.mono HB4.out.size)).mono HB.out.size)⟩
          case measure => simp [intOf]; omega
        | true =>
          go_wp2
          go_ret
          have ks : kndS K j = 7 := by unfold kndS; rw [HE.out, HD.out]; rfl
          exact ⟨ret_int (by rw [← ks]; exact EE.out.at HZ.out c (by rw [ks]; decide)), HB.out.trans ((HB4.out.trans (HH.out.mono HB4.out.size)).mono HB.out.size)⟩
      · have cz : (ej != 0) = true := by simp [c0]
        have C0 := Lib.hid c0
        clear c0
        go_wp2_with (first | (go_at_call 39; refine (C1.out _).mono ?_; rintro e' w4 ⟨rfl, hb4⟩; have hB4 : Below wr.heap.size wr w4 := Below.trans (by repeat (first | exact Below.refl _ _ | refine Below.alloc ?_ (by first | omega | (simp; done) | (simp; omega)) _ | refine Below.setCell ?_ (by first | omega | (simp; done) | (simp; omega)) _ | refine Below.drew ?_)) (Below.mono hb4 (by simp)); have HB4 := Lib.hid (HB.out.trans (hB4.mono HB.out.size)); clear hb4 hB4))
        go_ret
        have ks : kndS K j = ej := by unfold kndS; rw [HE.out, if_pos C0.out]
        exact ⟨ret_int (by rw [← ks]; exact EE.out.at HZ.out c (by rw [ks]; exact C0.out)), HB4.out⟩
    · have : j = n := by omega
      subst this
      go_wp2
      go_ret
      exact ⟨ret_int (EE.out.zero HZ.out).symm, hb⟩
end Go.Proofs.Ytkjpjppfmfifeaa

/- A list of plants: checkPlant, CheckPlants of the program. -/
namespace Go.Proofs.Ytkjpjppfmfifeaa
open Go.RowKit Fl
set_option linter.unusedVariables false

/-- The plants lie in a block, one after the other. -/
def PltsAt (w : World) (b off n : Nat) (P : Nat → Plt) : Prop := ∀ i, i < n → ∀ j, j < 5 → w.cell? ⟨b, off + i * 5 + j, none⟩ = (P i).cells[j]?
/-- .. or there is none. -/
def PltL (w : World) (a : Option Addr) (n : Nat) (P : Nat → Plt) : Prop := n = 0 ∨ ∃ b off, a = some ⟨b, off, none⟩ ∧ PltsAt w b off n P
theorem PltsAt.stay {w w' : World} {b off n : Nat} {P : Nat → Plt} (L : PltsAt w b off n P) (hb : Below w.heap.size w w') : PltsAt w' b off n P := fun i hi j hj => by
  obtain ⟨v, hv⟩ : ∃ v, (P i).cells[j]? = some v := by
    have : j < (P i).cells.size := hj
    exact ⟨(P i).cells[j], Array.getElem?_eq_getElem this⟩
  have h := L i hi j hj
  rw [hv] at h
  have hlt := World.block_lt_of_cell? w _ h
  rw [hv, ← h]
  exact Below.cell hb hlt
theorem PltL.stay {w w' : World} {a : Option Addr} {n : Nat} {P : Nat → Plt} (L : PltL w a n P) (hb : Below w.heap.size w w') : PltL w' a n P :=
  L.imp_right fun ⟨b, off, e, h⟩ => ⟨b, off, e, h.stay hb⟩
structure PltAt (w : World) (b o : Nat) (p : Plt) : Prop where
  c0 : w.cell? ⟨b, o, none⟩ = some (.int .i64 p.kd)
  c1 : w.cell? ⟨b, o + 1, none⟩ = some (.int .i64 p.x)
  c2 : w.cell? ⟨b, o + 2, none⟩ = some (.int .i64 p.y)
  c3 : w.cell? ⟨b, o + 3, none⟩ = some (.float .f32 p.sz)
  c4 : w.cell? ⟨b, o + 4, none⟩ = some (.int .i64 p.ag)
theorem PltsAt.at {w : World} {b off n : Nat} {P : Nat → Plt} (L : PltsAt w b off n P) {i : Nat} (hi : i < n) : PltAt w b (off + i * 5) (P i) :=
  ⟨L i hi 0 (by omega), L i hi 1 (by omega), L i hi 2 (by omega), L i hi 3 (by omega), L i hi 4 (by omega)⟩

/-- The error of a plant by itself. -/
def pltE (n : Nat) (K : Nat → Knd) (kd x y : Int) (sz : Nat) (ag : Int) : Int :=
  if withinB kd 0 ((n : Int) - 1) = false then 1 else if plaE x y ≠ 0 then plaE x y else if wiE sz 0 (K kd.toNat).tp ≠ 0 then wiE sz 0 (K kd.toNat).tp else if withinB ag 0 1000 = false then 3 else 0

set_option maxHeartbeats 4000000 in
theorem checkPlant_any (a : Option Addr) (n cap : Nat) (K : Nat → Knd) (kd x y : Int) (sz : Nat) (ag : Int) (w : World) (L : KndL w a n K) (hn : n ≤ 12) :
    Calls Try.prog 129 #[.slice a n cap, .agg #[.int .i64 kd, .int .i64 x, .int .i64 y, .float .f32 sz, .int .i64 ag]] w fun e w' => e = .returned (.int .i64 (pltE n K kd x y sz ag)) ∧ Below w.heap.size w w' := by
  unfold pltE
  have W1 := Lib.hid (fun w => within_any kd 0 ((n : Int) - 1) w)
  have W2 := Lib.hid (fun w => within_any ag 0 1000 w)
  have CP := Lib.hid (fun w => checkPla_any x y w)
  cases h1 : withinB kd 0 ((n : Int) - 1) with
  | false =>
    rw [if_pos rfl]
    rw [h1] at W1
    clear h1 L
    go_enter Try.func129, Try.ntmps129
    go_wp2_with (go_at_call 99; (with_reducible refine Calls.mono (W1.out _) ?_); rintro e w' ⟨rfl, rfl⟩)
    go_ret
    exact ⟨rfl, (by repeat (first | exact Below.refl _ _ | refine Below.alloc ?_ (by first | omega | (simp; done) | (simp; omega)) _ | refine Below.setCell ?_ (by first | omega | (simp; done) | (simp; omega)) _ | refine Below.drew ?_))⟩
  | true =>
    rw [if_neg (by simp)]
    rw [h1] at W1
    obtain ⟨k0, k1⟩ := withinB_iff.1 h1
    by_cases h2 : plaE x y = 0
    · rw [if_neg (by simp [h2])]
      rw [h2] at CP
      obtain ⟨i, rfl⟩ : ∃ i : Nat, kd = i := ⟨kd.toNat, by omega⟩
      have hi : i < n := by omega
      rw [show ((i : Int)).toNat = i by omega]
      rcases L with z | ⟨b, off, rfl, l⟩
      · omega
      have c7 := (l.at hi).c7
      have zb := World.block_lt_of_cell? w _ c7
      have hi2 : (i : Int) < (n : Int) := by omega
      have CW := Lib.hid (fun w => checkWithin_any sz 0 (K i).tp w)
      generalize (K i).tp = top at *
      clear l h1 h2 k0 k1
      by_cases h3 : wiE sz 0 top = 0
      · rw [if_neg (by simp [h3])]
        rw [h3] at CW
        clear h3
        cases h4 : withinB ag 0 1000
        all_goals rw [h4] at W2
        all_goals clear h4
        all_goals
          go_enter Try.func129, Try.ntmps129
          go_wp2_with (first | (go_at_call 99; (with_reducible refine Calls.mono (W1.out _) ?_); rintro e w' ⟨rfl, rfl⟩) | (go_at_call 107; refine (CP.out _).mono ?_; rintro e w' ⟨rfl, rfl⟩))
          go_quiet ((go_at_call 86; exact Calls.quiet_of_same ((CW.out _).mono fun _ _ h => ⟨h.1, h.2.symm⟩)))
          go_wp2_with (first | (go_at_call 99; (with_reducible refine Calls.mono (W2.out _) ?_); rintro e w' ⟨rfl, rfl⟩))
          go_ret
          exact ⟨rfl, (((Below.refl _ _).alloc (Nat.le_refl _) _).trans ((below_drewN _ _).mono (by simp)))⟩
      · rw [if_pos h3]
        have cz : (wiE sz 0 top != 0) = true := by simp [h3]
        clear h3
        generalize wiE sz 0 top = er at *
        go_enter Try.func129, Try.ntmps129
        go_wp2_with (first | (go_at_call 99; (with_reducible refine Calls.mono (W1.out _) ?_); rintro e w' ⟨rfl, rfl⟩) | (go_at_call 107; refine (CP.out _).mono ?_; rintro e w' ⟨rfl, rfl⟩))
        go_quiet ((go_at_call 86; exact Calls.quiet_of_same ((CW.out _).mono fun _ _ h => ⟨h.1, h.2.symm⟩)))
        go_wp2
        go_ret
        exact ⟨rfl, (((Below.refl _ _).alloc (Nat.le_refl _) _).trans ((below_drewN _ _).mono (by simp)))⟩
    · rw [if_pos h2]
      have cz : (plaE x y != 0) = true := by simp [h2]
      clear h1 h2 k0 k1 L
      generalize plaE x y = er at *
      go_enter Try.func129, Try.ntmps129
      go_wp2_with (first | (go_at_call 99; (with_reducible refine Calls.mono (W1.out _) ?_); rintro e w' ⟨rfl, rfl⟩) | (go_at_call 107; refine (CP.out _).mono ?_; rintro e w' ⟨rfl, rfl⟩))
      go_ret
      exact ⟨rfl, (by repeat (first | exact Below.refl _ _ | refine Below.alloc ?_ (by first | omega | (simp; done) | (simp; omega)) _ | refine Below.setCell ?_ (by first | omega | (simp; done) | (simp; omega)) _ | refine Below.drew ?_))⟩
end Go.Proofs.Ytkjpjppfmfifeaa

/- CheckPlants of the program: the error of kinds and plants. -/
namespace Go.Proofs.Ytkjpjppfmfifeaa
open Go.RowKit Fl
set_option linter.unusedVariables false

/-- A plant's error in its list. -/
def pltS (n : Nat) (K : Nat → Knd) (P : Nat → Plt) (i : Nat) : Int :=
  if pltE n K (P i).kd (P i).x (P i).y (P i).sz (P i).ag ≠ 0 then pltE n K (P i).kd (P i).x (P i).y (P i).sz (P i).ag else if 0 < i ∧ ahdB (P (i - 1)) (P i) = false then 8 else 0
/-- The error of kinds (ke) and m plants, er being the first one of them. -/
def pltsE (ke : Int) (m : Nat) (er : Int) : Int := if ke ≠ 0 then ke else if 4000 < m then 4 else er
theorem kndsE_few {n : Nat} {er : Int} (h : kndsE n er = 0) : n ≤ 12 ∧ n ≠ 0 := by
  unfold kndsE at h
  split at h
  · cases h
  · split at h
    · cases h
    · omega

theorem pltAt_all {w : World} {b off n : Nat} {P : Nat → Plt} (L : PltsAt w b off n P) {k : Nat} (hk : k < n) : w.cell? ⟨b, off + k * 5, none⟩ = some (.int .i64 (P k).kd) ∧ w.cell? ⟨b, off + k * 5 + 1, none⟩ = some (.int .i64 (P k).x) ∧ w.cell? ⟨b, off + k * 5 + 2, none⟩ = some (.int .i64 (P k).y) ∧ w.cell? ⟨b, off + k * 5 + 3, none⟩ = some (.float .f32 (P k).sz) ∧ w.cell? ⟨b, off + k * 5 + 4, none⟩ = some (.int .i64 (P k).ag) :=
  ⟨(L.at hk).c0, (L.at hk).c1, (L.at hk).c2, (L.at hk).c3, (L.at hk).c4⟩

set_option maxHeartbeats 8000000 in
set_option maxRecDepth 100000 in
theorem checkPlants_any (a : Option Addr) (n cap : Nat) (K : Nat → Knd) (ek : Int) (a2 : Option Addr) (m cap2 : Nat) (P : Nat → Plt) (er : Int) (w : World) (L : KndL w a n K) (hn : n ≤ cap) (hcap : cap ≤ 9223372036854775807) (hs : ∀ i, i < n → (K i).name.size ≤ 9223372036854775807) (E : LstE n (kndS K) ek)
    (L2 : PltL w a2 m P) (hm : m ≤ 9223372036854775807) (E2 : LstE m (pltS n K P) er) :
    Calls Try.prog 102 #[.slice a n cap, .slice a2 m cap2] w fun e w' => e = .returned (.int .i64 (pltsE (kndsE n ek) m er)) ∧ Below w.heap.size w w' := by
  unfold pltsE
  have CK := Lib.hid (fun w (L : KndL w a n K) => checkKinds_any a n cap K ek w L hn hcap hs E)
  have HL := Lib.hid L
  by_cases k0 : kndsE n ek = 0
  · obtain ⟨n12, n0⟩ := kndsE_few k0
    rw [if_neg (by simp [k0])]
    rw [k0] at CK
    by_cases m4 : 4000 < m
    · rw [if_pos m4]
      have e4 : decide ((4000 : Int) < (m : Int)) = true := decide_eq_true (by omega)
      clear L L2 E2 E k0 hs
      go_enter Try.func102, Try.ntmps102
      go_wp2_with (go_at_call 37; refine (CK.out _ HL.out).mono ?_; rintro e w2 ⟨rfl, hb2⟩)
      go_ret
      exact ⟨rfl, hb2⟩
    rw [if_neg m4]
    have e4 : decide ((4000 : Int) < (m : Int)) = false := decide_eq_false (by omega)
    have EE := Lib.hid E2
    have HP := Lib.hid L2
    have CP := Lib.hid (fun kd x y sz ag w (L : KndL w a n K) => checkPlant_any a n cap K kd x y sz ag w L n12)
    have BP := Lib.hid (fun u v w => byPlace_cmp u v w)
    have hsf := fun (w : World) (a : Addr) (m : Mode) (k : FloatKind) (b : Nat) => run_store_float (P := Try.prog) (w := w) (a := a) (m := m) k b
    clear L L2 E2 E k0 hs
    go_enter Try.func102, Try.ntmps102
    go_wp2_with (go_at_call 37; refine (CK.out _ HL.out).mono ?_; rintro e w2 ⟨rfl, hb2⟩; have HB2 := Lib.hid hb2; clear hb2)
    go_loopw [19] (fun i wr => ∃ j : Nat, j ≤ m ∧ i = .int .i64 j ∧ (∀ i, i < j → pltS n K P i = 0) ∧ Below w.heap.size w wr) (fun i _ => m - (intOf i).toNat)
    case atStart => exact ⟨0, by omega, rfl, fun i hi => by omega, HB2.out⟩
    case round =>
      obtain ⟨j, hj, rfl, hz, hb⟩ := hrel
      have HZ := Lib.hid hz
      have HB := Lib.hid hb
      clear hz
      by_cases c : j < m
      · rcases HP.out.stay hb with z | ⟨b', off, rfl, l⟩
        · omega
        have LL := Lib.hid l
        obtain ⟨l0, l1, l2, l3, l4⟩ := l.at c
        have C1 := Lib.hid (fun w => CP.out (P j).kd (P j).x (P j).y (P j).sz (P j).ag w)
        obtain ⟨ej, hej⟩ : ∃ ej, pltE n K (P j).kd (P j).x (P j).y (P j).sz (P j).ag = ej := ⟨_, rfl⟩
        rw [hej] at C1
        have HE := Lib.hid hej
        clear l hb hej
        by_cases c0 : ej = 0
        · subst c0
          go_wp2_with (first | (go_at_call 129; refine (C1.out _ ?_).mono ?_; exact (HL.out.stay HB.out).stay (by repeat (first | exact Below.refl _ _ | refine Below.alloc ?_ (by first | omega | (simp; done) | (simp; omega)) _ | refine Below.setCell ?_ (by first | omega | (simp; done) | (simp; omega)) _ | refine Below.drew ?_)); rintro e' w4 ⟨rfl, hb4⟩; have HK := Lib.hid (blkStay (b := wr.heap.size) (o := pltO (P j)) (by (first | (rw [heap_alloc_get, if_pos rfl]; done) | ((simp only [heap_alloc_get, heap_size_alloc, if_true]) <;> ((repeat' split) <;> first | rfl | omega)))) hb4); have hB4 : Below wr.heap.size wr w4 := Below.trans (by repeat (first | exact Below.refl _ _ | refine Below.alloc ?_ (by first | omega | (simp; done) | (simp; omega)) _ | refine Below.setCell ?_ (by first | omega | (simp; done) | (simp; omega)) _ | refine Below.drew ?_)) (Below.mono hb4 (by simp)); have HB4 := Lib.hid hB4; clear hb4 hB4; obtain ⟨cK, fK, zK⟩ := blkC HK.out; clear l0 l1 l2 l3 l4))
          by_cases j0 : j = 0
          · have hd0 : decide (0 < j) = false := decide_eq_false (by omega)
            have J0 := Lib.hid j0
            clear j0
            go_quiet ((fail))
            go_wp2
            go_roundw
            case rel => exact ⟨j + 1, by omega, by go_num, (fun i hi => by
              have := J0.out
              rw [show i = j by omega]; unfold pltS; rw [HE.out, if_neg (by simp), if_neg (by omega)]), HB.out.trans ((HB4.out.trans ((below_drewN _ _).mono HB4.out.size)).mono HB.out.size)⟩
            case measure => simp [intOf]; omega
          · obtain ⟨k, rfl⟩ : ∃ k, j = k + 1 := ⟨j - 1, by omega⟩
            have hkm : (k : Int) < (m : Int) := by omega
            have hk0 : (0 : Int) ≤ (k : Int) := by omega
            have kw3 : IntKind.i64.wrap (k : Int) = (k : Int) := by rw [IntKind.wrap_i64]; omega
            have kw2 : IntKind.i64.wrap ((k : Int) + 1 - 1) = (k : Int) := by rw [show (k : Int) + 1 - 1 = k by omega]; exact kw3
            have kw5 : IntKind.i64.wrap (((k + 1 : Nat) : Int) - 1) = (k : Int) := by rw [show ((k + 1 : Nat) : Int) - 1 = k by omega]; exact kw3
            obtain ⟨q0, q1, q2, q3, q4⟩ := (LL.out.stay HB4.out).at (show k < m by omega)
            have BP1 := Lib.hid (fun w => BP.out (P k) (P (k + 1)) w)
            have hd := byP_ahd (P k) (P (k + 1))
            obtain ⟨dj, hdj⟩ : ∃ dj, ahdB (P k) (P (k + 1)) = dj := ⟨_, rfl⟩
            rw [hdj] at hd
            have HD := Lib.hid hdj
            clear hdj
            generalize byP (P k) (P (k + 1)) = R at *
            have QL := Lib.hid (LL.out.stay HB4.out)
            have HKM := Lib.hid (show k < m by omega)
            go_region_held3 (fun w' => ((∀ o, w'.cell? ⟨wr.heap.size, o, none⟩ = (P (k + 1)).cells[o]?) ∧ w'.cell? ⟨b', off + k * 5, none⟩ = some (.int .i64 (P k).kd) ∧ w'.cell? ⟨b', off + k * 5 + 1, none⟩ = some (.int .i64 (P k).x) ∧ w'.cell? ⟨b', off + k * 5 + 2, none⟩ = some (.int .i64 (P k).y) ∧ w'.cell? ⟨b', off + k * 5 + 3, none⟩ = some (.float .f32 (P k).sz) ∧ w'.cell? ⟨b', off + k * 5 + 4, none⟩ = some (.int .i64 (P k).ag)) ∧ Below w4.heap.size w4 w') (first | exact (fun K => ⟨⟨(blkC (blkStay HK.out K)).1, pltAt_all (QL.out.stay K) HKM.out⟩, K⟩) hb9 | exact (fun K => ⟨⟨(blkC (blkStay HK.out K)).1, pltAt_all (QL.out.stay K) HKM.out⟩, K⟩) (by repeat (first | exact Below.refl _ _ | refine Below.alloc ?_ (by first | omega | (simp; done) | (simp; omega)) _ | refine Below.setCell ?_ (by first | omega | (simp; done) | (simp; omega)) _ | refine Below.drew ?_))) (first | (go_at_call 130; (with_reducible refine Calls.mono (BP1.out _) ?_); rintro e w' ⟨rfl, hb8⟩; have hb9 : Below w4.heap.size w4 w' := Below.trans (by first | exact hb9 | exact hb9.drew | exact (by repeat (first | exact Below.refl _ _ | refine Below.alloc ?_ (by first | omega | (simp; done) | (simp; omega)) _ | refine Below.setCell ?_ (by first | omega | (simp; done) | (simp; omega)) _ | refine Below.drew ?_))) (Below.mono hb8 (by first | exact hb9.size | exact Nat.le_refl _ | (simp; done) | (simp; omega))); clear hb8))
            rename_i hHeld
            have HH := Lib.hid hHeld.2
            clear hHeld
            cases dj with
            | true =>
              go_wp2
              go_roundw
              case rel => exact ⟨k + 1 + 1, by omega, by go_num, (fun i hi => by
                rcases Nat.lt_or_ge i (k + 1) with q | q
                · exact HZ.out i q
                · rw [show i = k + 1 by omega]; unfold pltS; rw [HE.out, if_neg (by simp), if_neg (by rw [show k + 1 - 1 = k by omega, HD.out]; simp)]), HB.out.trans ((HB4.out.trans (HH.out.mono HB4.out.size)).mono HB.out.size)⟩
              case measure => simp [intOf]; omega
            | false =>
              go_wp2
              go_ret
              have ks : pltS n K P (k + 1) = 8 := by unfold pltS; rw [HE.out, if_neg (by simp), if_pos ⟨by omega, by rw [show k + 1 - 1 = k by omega]; exact HD.out⟩]
              exact ⟨ret_int (by rw [← ks]; exact EE.out.at HZ.out c (by rw [ks]; decide)), HB.out.trans ((HB4.out.trans (HH.out.mono HB4.out.size)).mono HB.out.size)⟩
        · have cz : (ej != 0) = true := by simp [c0]
          have C0 := Lib.hid c0
          clear c0
          go_wp2_with (first | (go_at_call 129; refine (C1.out _ ?_).mono ?_; exact (HL.out.stay HB.out).stay (by repeat (first | exact Below.refl _ _ | refine Below.alloc ?_ (by first | omega | (simp; done) | (simp; omega)) _ | refine Below.setCell ?_ (by first | omega | (simp; done) | (simp; omega)) _ | refine Below.drew ?_)); rintro e' w4 ⟨rfl, hb4⟩; have hB4 : Below wr.heap.size wr w4 := Below.trans (by repeat (first | exact Below.refl _ _ | refine Below.alloc ?_ (by first | omega | (simp; done) | (simp; omega)) _ | refine Below.setCell ?_ (by first | omega | (simp; done) | (simp; omega)) _ | refine Below.drew ?_)) (Below.mono hb4 (by simp)); have HB4 := Lib.hid (HB.out.trans (hB4.mono HB.out.size)); clear hb4 hB4))
          go_ret
          have ks : pltS n K P j = ej := by unfold pltS; rw [HE.out, if_pos C0.out]
          exact ⟨ret_int (by rw [← ks]; exact EE.out.at HZ.out c (by rw [ks]; exact C0.out)), HB4.out⟩
      · have : j = m := by omega
        subst this
        go_wp2
        go_ret
        exact ⟨ret_int (EE.out.zero HZ.out).symm, hb⟩
  · rw [if_pos k0]
    have cz : (kndsE n ek != 0) = true := by simp [k0]
    clear L L2 E2 E k0 hs
    generalize kndsE n ek = ke at *
    go_enter Try.func102, Try.ntmps102
    go_wp2_with (go_at_call 37; refine (CK.out _ HL.out).mono ?_; rintro e w2 ⟨rfl, hb2⟩)
    go_ret
    exact ⟨rfl, hb2⟩
end Go.Proofs.Ytkjpjppfmfifeaa

/- KindsError of the reference: the error of a list of kinds. -/
namespace Go.Proofs.Ytkjpjppfmfifeaa
open Go.RowKit Fl
set_option linter.unusedVariables false

theorem dup_no {K : Nat → Knd} {j : Nat} (h : ∀ i, i < j → eqN (K i).name (K j).name = false) : dupB K j = false := by
  unfold dupB; rw [allB_iff.2 fun i hi => by rw [h i hi]; rfl]; rfl
theorem dup_yes {K : Nat → Knd} {i j : Nat} (hi : i < j) (h : eqN (K i).name (K j).name = true) : dupB K j = true := by
  unfold dupB; rw [allB_no hi (by rw [h]; rfl)]; rfl

set_option maxHeartbeats 8000000 in
set_option maxRecDepth 100000 in
theorem qKindsError_any (a : Option Addr) (n cap : Nat) (K : Nat → Knd) (er : Int) (w : World) (L : KndL w a n K) (hn : n ≤ cap) (hcap : cap ≤ 9223372036854775807) (hs : ∀ i, i < n → (K i).name.size ≤ 9223372036854775807) (E : LstE n (kndS K) er) :
    Calls Try.prog 38 #[.slice a n cap] w fun e w' => e = .returned (.int .i64 (kndsE n er)) ∧ Below w.heap.size w w' := by
  unfold kndsE
  by_cases n0 : n = 0
  · subst n0
    simp only [if_true]
    clear E L hs hn
    go_enter Try.func38, Try.ntmps38
    go_wp2
    go_ret
    exact ⟨rfl, (by repeat (first | exact Below.refl _ _ | refine Below.alloc ?_ (by first | omega | (simp; done) | (simp; omega)) _ | refine Below.setCell ?_ (by first | omega | (simp; done) | (simp; omega)) _ | refine Below.drew ?_))⟩
  rw [if_neg n0]
  by_cases n12 : 12 < n
  · rw [if_pos n12]
    clear E L hs
    go_enter Try.func38, Try.ntmps38
    go_wp2
    go_ret
    exact ⟨rfl, (by repeat (first | exact Below.refl _ _ | refine Below.alloc ?_ (by first | omega | (simp; done) | (simp; omega)) _ | refine Below.setCell ?_ (by first | omega | (simp; done) | (simp; omega)) _ | refine Below.drew ?_))⟩
  rw [if_neg n12]
  have EE := Lib.hid E
  have HL := Lib.hid L
  have HS := Lib.hid hs
  have CK := Lib.hid (fun k hk w => qKindError_any k hk w)
  have hsf := fun (w : World) (a : Addr) (m : Mode) (k : FloatKind) (b : Nat) => run_store_float (P := Try.prog) (w := w) (a := a) (m := m) k b
  have e0 : ((n : Int) == 0) = false := by rw [beq_eq_false_iff_ne]; omega
  have e12 : decide ((12 : Int) < (n : Int)) = false := decide_eq_false (by omega)
  clear E L hs
  go_enter Try.func38, Try.ntmps38
  go_wp2
  go_loopw [16] (fun i wr => ∃ j : Nat, j ≤ n ∧ i = .int .i64 j ∧ (∀ i, i < j → kndS K i = 0) ∧ Below w.heap.size w wr) (fun i _ => n - (intOf i).toNat)
  case atStart => exact ⟨0, by omega, rfl, fun i hi => by omega, Below.refl _ _⟩
  case round =>
    obtain ⟨j, hj, rfl, hz, hb⟩ := hrel
    have HZ := Lib.hid hz
    have HB := Lib.hid hb
    clear hz
    by_cases c : j < n
    · rcases HL.out.stay hb with z | ⟨b', off, rfl, l⟩
      · omega
      have LL := Lib.hid l
      obtain ⟨l0, l1, l2, l3, l4, l5, l6, l7, l8, l9, l10, l11, l12⟩ := l.at c
      have C1 := Lib.hid (CK.out (K j) (HS.out j c))
      obtain ⟨ej, hej⟩ : ∃ ej, (K j).err = ej := ⟨_, rfl⟩
      rw [hej] at C1
      have HE := Lib.hid hej
      clear l hb hej
      by_cases c0 : ej = 0
      · subst c0
        have hslice : (j : Int) ≤ (cap : Int) := by omega
        go_wp2_with (first | (go_at_call 40; refine (C1.out _).mono ?_; rintro e' w4 ⟨rfl, hb4⟩; have HK := Lib.hid (blkStay (b := wr.heap.size) (o := kndO (K j)) (by (first | (rw [heap_alloc_get, if_pos rfl]; done) | ((simp only [heap_alloc_get, heap_size_alloc, if_true]) <;> ((repeat' split) <;> first | rfl | omega)))) hb4); have hB4 : Below wr.heap.size wr w4 := Below.trans (by repeat (first | exact Below.refl _ _ | refine Below.alloc ?_ (by first | omega | (simp; done) | (simp; omega)) _ | refine Below.setCell ?_ (by first | omega | (simp; done) | (simp; omega)) _ | refine Below.drew ?_)) (Below.mono hb4 (by simp)); have HB4 := Lib.hid hB4; clear hb4 hB4; obtain ⟨cK, fK, zK⟩ := blkC HK.out; clear l0 l1 l2 l3 l4 l5 l6 l7 l8 l9 l10 l11 l12))
        clear cK fK zK
        go_loopw [30] (fun i ws => ∃ m : Nat, m ≤ j ∧ i = .int .i64 m ∧ (∀ i, i < m → eqN (K i).name (K j).name = false) ∧ Below w4.heap.size w4 ws) (fun i _ => j - (intOf i).toNat)
        case atStart => exact ⟨0, by omega, rfl, fun i hi => by omega, Below.refl _ _⟩
        case round =>
          obtain ⟨m, hm, rfl, hy, hd⟩ := hrel
          have HY := Lib.hid hy
          have HD := Lib.hid hd
          clear hy
          have z4 := HB4.out.size
          by_cases d : m < j
          · obtain ⟨l0, l1, l2, l3, l4, l5, l6, l7, l8, l9, l10, l11, l12⟩ := (LL.out.stay (HB4.out.trans (hd.mono z4))).at (show m < n by omega)
            obtain ⟨cK, fK, zK⟩ := blkC (blkStay HK.out hd)
            obtain ⟨q, hq⟩ : ∃ q, eqN (K m).name (K j).name = q := ⟨_, rfl⟩
            have HQ := Lib.hid hq
            unfold eqN at hq
            clear hd
            cases q with
            | false =>
              go_wp2
              go_roundw
              case rel => exact ⟨m + 1, by omega, by go_num, (fun i hi => by
                rcases Nat.lt_or_ge i m with q | q
                · exact HY.out i q
                · rw [show i = m by omega]; exact HQ.out), Below.trans HD.out (Below.mono (by repeat (first | exact Below.refl _ _ | refine Below.alloc ?_ (by first | omega | (simp; done) | (simp; omega)) _ | refine Below.setCell ?_ (by first | omega | (simp; done) | (simp; omega)) _ | refine Below.drew ?_)) HD.out.size)⟩
              case measure => simp [intOf]; omega
            | true =>
              go_wp2
              go_ret
              have ks : kndS K j = 7 := by unfold kndS; rw [HE.out, dup_yes d HQ.out]; rfl
              exact ⟨ret_int (by rw [← ks]; exact EE.out.at HZ.out c (by rw [ks]; decide)), HB.out.trans ((HB4.out.trans (Below.mono (Below.trans HD.out (Below.mono (by repeat (first | exact Below.refl _ _ | refine Below.alloc ?_ (by first | omega | (simp; done) | (simp; omega)) _ | refine Below.setCell ?_ (by first | omega | (simp; done) | (simp; omega)) _ | refine Below.drew ?_)) HD.out.size)) z4)).mono HB.out.size)⟩
          · have : m = j := by omega
            subst this
            clear hd
            go_wp2
            go_roundw
            case rel => exact ⟨m + 1, by omega, by go_num, (fun i hi => by
              rcases Nat.lt_or_ge i m with q | q
              · exact HZ.out i q
              · rw [show i = m by omega]; unfold kndS; rw [HE.out, dup_no HY.out]; rfl), HB.out.trans ((HB4.out.trans (HD.out.mono z4)).mono HB.out.size)⟩
            case measure => simp [intOf]; omega
      · have cz : (ej != 0) = true := by simp [c0]
        have C0 := Lib.hid c0
        clear c0
        go_wp2_with (first | (go_at_call 40; refine (C1.out _).mono ?_; rintro e' w4 ⟨rfl, hb4⟩; have hB4 : Below wr.heap.size wr w4 := Below.trans (by repeat (first | exact Below.refl _ _ | refine Below.alloc ?_ (by first | omega | (simp; done) | (simp; omega)) _ | refine Below.setCell ?_ (by first | omega | (simp; done) | (simp; omega)) _ | refine Below.drew ?_)) (Below.mono hb4 (by simp)); have HB4 := Lib.hid (HB.out.trans (hB4.mono HB.out.size)); clear hb4 hB4))
        go_ret
        have ks : kndS K j = ej := by unfold kndS; rw [HE.out, if_pos C0.out]
        exact ⟨ret_int (by rw [← ks]; exact EE.out.at HZ.out c (by rw [ks]; exact C0.out)), HB4.out⟩
    · have : j = n := by omega
      subst this
      go_wp2
      go_ret
      exact ⟨ret_int (EE.out.zero HZ.out).symm, hb⟩
end Go.Proofs.Ytkjpjppfmfifeaa

/- PlantsError of the reference: the error of kinds and plants. -/
namespace Go.Proofs.Ytkjpjppfmfifeaa
open Go.RowKit Fl
set_option linter.unusedVariables false

/-- The tests of the reference, of a plant by itself: what they come to. -/
theorem pltE_ways {n : Nat} {K : Nat → Knd} {kd x y : Int} {sz : Nat} {ag : Int} (hK : ∀ i, i < n → (K i).err = 0) (hn : 0 < n) :
    (pltE n K kd x y sz ag = 1 ∧ (kd < 0 ∨ (n : Int) ≤ kd)) ∨
    (pltE n K kd x y sz ag = 5 ∧ 0 ≤ kd ∧ kd < n ∧ (x < -4194304 ∨ 4194304 < x ∨ y < -4194304 ∨ 4194304 < y)) ∨
    (0 ≤ kd ∧ kd < n ∧ -4194304 ≤ x ∧ x ≤ 4194304 ∧ -4194304 ≤ y ∧ y ≤ 4194304 ∧
      ((fldE 1 (fun _ => sz) ≠ 0 ∧ pltE n K kd x y sz ag = fldE 1 (fun _ => sz)) ∨
       (fldE 1 (fun _ => sz) = 0 ∧ ((pltE n K kd x y sz ag = 3 ∧ (FloatKind.f32.format.order sz 0 == some .lt) = true) ∨
       (pltE n K kd x y sz ag = 3 ∧ (FloatKind.f32.format.order sz 0 == some .lt) = false ∧ (FloatKind.f32.format.order sz (K kd.toNat).tp == some .gt) = true) ∨
       (pltE n K kd x y sz ag = 3 ∧ (FloatKind.f32.format.order sz 0 == some .lt) = false ∧ (FloatKind.f32.format.order sz (K kd.toNat).tp == some .gt) = false ∧ (ag < 0 ∨ 1000 < ag)) ∨
       (pltE n K kd x y sz ag = 0 ∧ (FloatKind.f32.format.order sz 0 == some .lt) = false ∧ (FloatKind.f32.format.order sz (K kd.toNat).tp == some .gt) = false ∧ 0 ≤ ag ∧ ag ≤ 1000))))) := by
  unfold pltE
  cases h1 : withinB kd 0 ((n : Int) - 1) with
  | false => exact .inl ⟨by rw [if_pos rfl], by have := withinB_no.1 h1; omega⟩
  | true =>
    obtain ⟨k0, k1⟩ := withinB_iff.1 h1
    rw [if_neg (by simp)]
    by_cases h2 : plaE x y = 0
    · have hp : withinB x (-4194304) 4194304 = true ∧ withinB y (-4194304) 4194304 = true := by
        unfold plaE at h2
        by_cases q : withinB x (-4194304) 4194304 = true ∧ withinB y (-4194304) 4194304 = true
        · exact q
        · rw [if_neg q] at h2; cases h2
      rw [if_neg (by simp [h2])]
      have hx := withinB_iff.1 hp.1
      have hy := withinB_iff.1 hp.2
      obtain ⟨_, _, _, ⟨b, vb, b0⟩, _⟩ := (knd_ok (hK kd.toNat (by omega))).pos
      have hb : b ≤ vTop := by
        have := (fld_ten (knd_ok (hK kd.toNat (by omega))).f).2.2.2.2.2.2.1
        unfold hgtB at this
        rw [vb] at this
        simp at this
        exact this.2
      have t0 : -vTop ≤ 0 := by rw [vTop_one]; have := one_pos; generalize one = O at *; omega
      refine .inr (.inr ⟨k0, by omega, hx.1, hx.2, hy.1, hy.2, ?_⟩)
      rcases within_cases (st := sz) vS_zero vb t0 hb with ⟨hk, he⟩ | ⟨q1, q2, q3⟩ | ⟨q1, q2, q3, q4⟩ | ⟨q1, q2, q3, q4⟩
      · rw [he, if_pos (by rcases hk with h | h <;> rw [h] <;> decide)]
        exact .inl ⟨by rcases hk with h | h <;> rw [h] <;> decide, rfl⟩
      · rw [q2, if_pos (by decide)]
        exact .inr ⟨q1, .inl ⟨rfl, q3⟩⟩
      · rw [q2, if_pos (by decide)]
        exact .inr ⟨q1, .inr (.inl ⟨rfl, q3, q4⟩)⟩
      · rw [q2, if_neg (by simp)]
        cases h4 : withinB ag 0 1000 with
        | false =>
          rw [if_pos rfl]
          exact .inr ⟨q1, .inr (.inr (.inl ⟨rfl, q3, q4, by have := withinB_no.1 h4; omega⟩))⟩
        | true =>
          rw [if_neg (by simp)]
          exact .inr ⟨q1, .inr (.inr (.inr ⟨rfl, q3, q4, (withinB_iff.1 h4).1, (withinB_iff.1 h4).2⟩))⟩
    · have h5 : plaE x y = 5 := by unfold plaE at h2 ⊢; split <;> simp_all
      rw [if_pos h2, h5]
      refine .inr (.inl ⟨rfl, k0, by omega, ?_⟩)
      by_cases q : withinB x (-4194304) 4194304 = true
      · have : withinB y (-4194304) 4194304 = false := by
          cases r : withinB y (-4194304) 4194304 with
          | false => rfl
          | true => unfold plaE at h2; rw [if_pos ⟨q, r⟩] at h2; exact absurd rfl h2
        have := withinB_no.1 this
        omega
      · have := withinB_no.1 (by simpa using q : withinB x (-4194304) 4194304 = false)
        omega
/-- Where a list of kinds is right all of them are. -/
theorem knds_ok {n : Nat} {K : Nat → Knd} {ek : Int} (E : LstE n (kndS K) ek) (h : kndsE n ek = 0) : ∀ i, i < n → (K i).err = 0 := by
  obtain ⟨h12, h0⟩ := kndsE_few h
  unfold kndsE at h
  rw [if_neg h0, if_neg (by omega)] at h
  subst h
  intro i hi
  have := E.all i hi
  unfold kndS at this
  by_cases q : (K i).err = 0
  · exact q
  · rw [if_pos q] at this; exact absurd this q
end Go.Proofs.Ytkjpjppfmfifeaa

/- PlantsError of the reference, walked. -/
namespace Go.Proofs.Ytkjpjppfmfifeaa
open Go.RowKit Fl
set_option linter.unusedVariables false

theorem flAt_one1 {w : World} {b x : Nat} (h : w.heap[b]? = some (.cells #[.float .f32 x] 30)) : FlAt w b 0 1 (fun _ => x) := by
  intro i hi
  rw [Nat.zero_add, (blkC h).1 i]
  rw [show i = 0 by omega]; rfl

set_option maxHeartbeats 16000000 in
set_option maxRecDepth 100000 in
theorem qPlantsError_any (a : Option Addr) (n cap : Nat) (K : Nat → Knd) (ek : Int) (a2 : Option Addr) (m cap2 : Nat) (P : Nat → Plt) (er : Int) (w : World) (L : KndL w a n K) (hn : n ≤ cap) (hcap : cap ≤ 9223372036854775807) (hs : ∀ i, i < n → (K i).name.size ≤ 9223372036854775807) (E : LstE n (kndS K) ek)
    (L2 : PltL w a2 m P) (hm : m ≤ 9223372036854775807) (E2 : LstE m (pltS n K P) er) :
    Calls Try.prog 50 #[.slice a n cap, .slice a2 m cap2] w fun e w' => e = .returned (.int .i64 (pltsE (kndsE n ek) m er)) ∧ Below w.heap.size w w' := by
  unfold pltsE
  have CK := Lib.hid (fun w (L : KndL w a n K) => qKindsError_any a n cap K ek w L hn hcap hs E)
  have HL := Lib.hid L
  by_cases k0 : kndsE n ek = 0
  · obtain ⟨n12, n0⟩ := kndsE_few k0
    have KO := Lib.hid (knds_ok E k0)
    rw [if_neg (by simp [k0])]
    rw [k0] at CK
    by_cases m4 : 4000 < m
    · rw [if_pos m4]
      have e4 : decide ((4000 : Int) < (m : Int)) = true := decide_eq_true (by omega)
      clear L L2 E2 E k0 hs
      go_enter Try.func50, Try.ntmps50
      go_wp2_with (go_at_call 38; refine (CK.out _ HL.out).mono ?_; rintro e w2 ⟨rfl, hb2⟩)
      go_ret
      exact ⟨rfl, hb2⟩
    rw [if_neg m4]
    have e4 : decide ((4000 : Int) < (m : Int)) = false := decide_eq_false (by omega)
    have EE := Lib.hid E2
    have HP := Lib.hid L2
    have NE := Lib.hid (fun x p w (q : w.heap[p]? = some (.cells #[.float .f32 x] 30)) => qNumberError_row p 0 1 1 (fun _ => x) (by omega) w (flAt_one1 q))
    have AH := Lib.hid (fun u v w => ahead_any u v w)
    have hsf := fun (w : World) (a : Addr) (m : Mode) (k : FloatKind) (b : Nat) => run_store_float (P := Try.prog) (w := w) (a := a) (m := m) k b
    clear L L2 E2 E k0 hs
    go_enter Try.func50, Try.ntmps50
    go_wp2_with (go_at_call 38; refine (CK.out _ HL.out).mono ?_; rintro e w2 ⟨rfl, hb2⟩; have HB2 := Lib.hid hb2; clear hb2)
    go_loopw [19] (fun i wr => ∃ j : Nat, j ≤ m ∧ i = .int .i64 j ∧ (∀ i, i < j → pltS n K P i = 0) ∧ Below w.heap.size w wr) (fun i _ => m - (intOf i).toNat)
    case atStart => exact ⟨0, by omega, rfl, fun i hi => by omega, HB2.out⟩
    case round =>
      obtain ⟨j, hj, rfl, hz, hb⟩ := hrel
      have HZ := Lib.hid hz
      have HB := Lib.hid hb
      clear hz
      by_cases c : j < m
      · rcases HP.out.stay hb with z | ⟨b', off, rfl, l⟩
        · omega
        have LL := Lib.hid l
        obtain ⟨l0, l1, l2, l3, l4⟩ := l.at c
        have KL := HL.out.stay hb
        have WY := pltE_ways (kd := (P j).kd) (x := (P j).x) (y := (P j).y) (sz := (P j).sz) (ag := (P j).ag) KO.out (by omega)
        have fin : ∀ (e : Int) (we : World), e ≠ 0 → pltE n K (P j).kd (P j).x (P j).y (P j).sz (P j).ag = e → Below wr.heap.size wr we → (Ending.returned (.int .i64 e)) = .returned (.int .i64 er) ∧ Below w.heap.size w we := fun e we h0 he hb' => by
          have ks : pltS n K P j = e := by unfold pltS; rw [he, if_pos h0]
          exact ⟨ret_int (by rw [← ks]; exact EE.out.at HZ.out c (by rw [ks]; exact h0)), HB.out.trans (hb'.mono HB.out.size)⟩
        have FIN := Lib.hid fin
        clear l hb fin
        rcases WY with ⟨he, hk⟩ | ⟨he, k0, k1, hp⟩ | ⟨k0, k1, x0, x1, y0, y1, WY⟩
        · have HE := Lib.hid he
          clear he KL
          rcases hk with hk | hk
          · go_wp2
            go_ret
            exact FIN.out 1 _ (by decide) HE.out (by repeat (first | exact Below.refl _ _ | refine Below.alloc ?_ (by first | omega | (simp; done) | (simp; omega)) _ | refine Below.setCell ?_ (by first | omega | (simp; done) | (simp; omega)) _ | refine Below.drew ?_))
          · have hk' : ¬ (P j).kd < 0 := by omega
            go_wp2
            go_ret
            exact FIN.out 1 _ (by decide) HE.out (by repeat (first | exact Below.refl _ _ | refine Below.alloc ?_ (by first | omega | (simp; done) | (simp; omega)) _ | refine Below.setCell ?_ (by first | omega | (simp; done) | (simp; omega)) _ | refine Below.drew ?_))
        · have HE := Lib.hid he
          have c1 : ¬ (P j).kd < 0 := by omega
          have c2 : ¬ (n : Int) ≤ (P j).kd := by omega
          clear he KL k0 k1
          have hp' : (P j).x < -4194304 ∨ (¬ (P j).x < -4194304 ∧ 4194304 < (P j).x) ∨ (¬ (P j).x < -4194304 ∧ ¬ 4194304 < (P j).x ∧ (P j).y < -4194304) ∨ (¬ (P j).x < -4194304 ∧ ¬ 4194304 < (P j).x ∧ ¬ (P j).y < -4194304 ∧ 4194304 < (P j).y) := by omega
          clear hp
          rcases hp' with q1 | ⟨q1, q2⟩ | ⟨q1, q2, q3⟩ | ⟨q1, q2, q3, q4⟩
          all_goals go_wp2
          all_goals go_ret
          all_goals exact FIN.out 5 _ (by decide) HE.out (by repeat (first | exact Below.refl _ _ | refine Below.alloc ?_ (by first | omega | (simp; done) | (simp; omega)) _ | refine Below.setCell ?_ (by first | omega | (simp; done) | (simp; omega)) _ | refine Below.drew ?_))
        · have c1 : ¬ (P j).kd < 0 := by omega
          have c2 : ¬ (n : Int) ≤ (P j).kd := by omega
          have q1 : ¬ (P j).x < -4194304 := by omega
          have q2 : ¬ 4194304 < (P j).x := by omega
          have q3 : ¬ (P j).y < -4194304 := by omega
          have q4 : ¬ 4194304 < (P j).y := by omega
          have N1 := Lib.hid (fun p w q => NE.out (P j).sz p w q)
          rcases WY with ⟨hf, he⟩ | ⟨hf, WY⟩
          · have HE := Lib.hid he
            have cz : (fldE 1 (fun _ => (P j).sz) != 0) = true := by simp [hf]
            have HF := Lib.hid hf
            clear he hf KL
            generalize fldE 1 (fun _ => (P j).sz) = ef at *
            go_wp2_with (go_at_call 43; refine (N1.out _ _ (by (first | (rw [heap_alloc_get, if_pos rfl]; done) | ((simp only [heap_alloc_get, heap_size_alloc, if_true]) <;> ((repeat' split) <;> first | rfl | omega))))).mono ?_; rintro e' w' ⟨rfl, rfl⟩)
            go_ret
            exact FIN.out ef _ HF.out HE.out (by repeat (first | exact Below.refl _ _ | refine Below.alloc ?_ (by first | omega | (simp; done) | (simp; omega)) _ | refine Below.setCell ?_ (by first | omega | (simp; done) | (simp; omega)) _ | refine Below.drew ?_))
          · rw [hf] at N1
            rcases KL with z | ⟨kb, ko, rfl, kl⟩
            · omega
            obtain ⟨kk, hkk⟩ : ∃ kk : Nat, (P j).kd.toNat = kk := ⟨_, rfl⟩
            have hkn : kk < n := by omega
            have c7 := (kl.at hkn).c7
            have zb := World.block_lt_of_cell? wr _ c7
            rw [hkk] at WY
            have p0 : (0 : Int) ≤ (P j).kd := k0
            have p1 : (P j).kd < (n : Int) := k1
            clear kl hf k0 k1 x0 x1 y0 y1 hkn
            rcases WY with ⟨he, t1⟩ | ⟨he, t1, t2⟩ | ⟨he, t1, t2, t3⟩ | ⟨he, t1, t2, t3, t4⟩
            · have HE := Lib.hid he
              clear he
              go_wp2_with (go_at_call 43; refine (N1.out _ _ (by (first | (rw [heap_alloc_get, if_pos rfl]; done) | ((simp only [heap_alloc_get, heap_size_alloc, if_true]) <;> ((repeat' split) <;> first | rfl | omega))))).mono ?_; rintro e' w' ⟨rfl, rfl⟩)
              go_quiet ((fail))
              go_wp2
              go_ret
              exact FIN.out 3 _ (by decide) HE.out (Below.trans (show Below wr.heap.size wr _ from (by repeat (first | exact Below.refl _ _ | refine Below.alloc ?_ (by first | omega | (simp; done) | (simp; omega)) _ | refine Below.setCell ?_ (by first | omega | (simp; done) | (simp; omega)) _ | refine Below.drew ?_))) ((below_drewN _ _).mono (by simp; omega)))
            · have HE := Lib.hid he
              clear he
              go_wp2_with (go_at_call 43; refine (N1.out _ _ (by (first | (rw [heap_alloc_get, if_pos rfl]; done) | ((simp only [heap_alloc_get, heap_size_alloc, if_true]) <;> ((repeat' split) <;> first | rfl | omega))))).mono ?_; rintro e' w' ⟨rfl, rfl⟩)
              go_quiet ((fail))
              go_wp2
              go_ret
              exact FIN.out 3 _ (by decide) HE.out (Below.trans (show Below wr.heap.size wr _ from (by repeat (first | exact Below.refl _ _ | refine Below.alloc ?_ (by first | omega | (simp; done) | (simp; omega)) _ | refine Below.setCell ?_ (by first | omega | (simp; done) | (simp; omega)) _ | refine Below.drew ?_))) ((below_drewN _ _).mono (by simp; omega)))
            · have HE := Lib.hid he
              clear he
              have t3' : (P j).ag < 0 ∨ (¬ (P j).ag < 0 ∧ 1000 < (P j).ag) := by omega
              clear t3
              rcases t3' with a1 | ⟨a1, a2⟩
              · have d1 : decide ((P j).ag < 0) = true := decide_eq_true a1
                go_wp2_with (go_at_call 43; refine (N1.out _ _ (by (first | (rw [heap_alloc_get, if_pos rfl]; done) | ((simp only [heap_alloc_get, heap_size_alloc, if_true]) <;> ((repeat' split) <;> first | rfl | omega))))).mono ?_; rintro e' w' ⟨rfl, rfl⟩)
                go_quiet ((fail))
                go_wp2
                go_ret
                exact FIN.out 3 _ (by decide) HE.out (Below.trans (show Below wr.heap.size wr _ from (by repeat (first | exact Below.refl _ _ | refine Below.alloc ?_ (by first | omega | (simp; done) | (simp; omega)) _ | refine Below.setCell ?_ (by first | omega | (simp; done) | (simp; omega)) _ | refine Below.drew ?_))) ((below_drewN _ _).mono (by simp; omega)))
              · have d1 : decide ((P j).ag < 0) = false := decide_eq_false a1
                have d2 : decide (1000 < (P j).ag) = true := decide_eq_true a2
                go_wp2_with (go_at_call 43; refine (N1.out _ _ (by (first | (rw [heap_alloc_get, if_pos rfl]; done) | ((simp only [heap_alloc_get, heap_size_alloc, if_true]) <;> ((repeat' split) <;> first | rfl | omega))))).mono ?_; rintro e' w' ⟨rfl, rfl⟩)
                go_quiet ((fail))
                go_wp2
                go_ret
                exact FIN.out 3 _ (by decide) HE.out (Below.trans (show Below wr.heap.size wr _ from (by repeat (first | exact Below.refl _ _ | refine Below.alloc ?_ (by first | omega | (simp; done) | (simp; omega)) _ | refine Below.setCell ?_ (by first | omega | (simp; done) | (simp; omega)) _ | refine Below.drew ?_))) ((below_drewN _ _).mono (by simp; omega)))
            · have HE := Lib.hid he
              clear he
              have d1 : decide ((P j).ag < 0) = false := decide_eq_false (by omega)
              have d2 : decide (1000 < (P j).ag) = false := decide_eq_false (by omega)
              have b1 : ¬ (P j).ag < 0 := by omega
              have b2 : ¬ 1000 < (P j).ag := by omega
              clear t3 t4
              go_wp2_with (go_at_call 43; refine (N1.out _ _ (by (first | (rw [heap_alloc_get, if_pos rfl]; done) | ((simp only [heap_alloc_get, heap_size_alloc, if_true]) <;> ((repeat' split) <;> first | rfl | omega))))).mono ?_; rintro e' w' ⟨rfl, rfl⟩)
              go_quiet ((fail))
              go_wp2
              have HK := Lib.hid (show (((wr.alloc (pltO (P j))).alloc (.cells #[.float .f32 (P j).sz] 30)).drewN nq).heap[wr.heap.size]? = some (pltO (P j)) from (show ((wr.alloc (pltO (P j))).alloc (.cells #[.float .f32 (P j).sz] 30)).heap[wr.heap.size]? = some (pltO (P j)) by (first | (rw [heap_alloc_get, if_pos rfl]; done) | ((simp only [heap_alloc_get, heap_size_alloc, if_true]) <;> ((repeat' split) <;> first | rfl | omega)))))
              have HB4 := Lib.hid (show Below wr.heap.size wr (((wr.alloc (pltO (P j))).alloc (.cells #[.float .f32 (P j).sz] 30)).drewN nq) from Below.trans (show Below wr.heap.size wr ((wr.alloc (pltO (P j))).alloc (.cells #[.float .f32 (P j).sz] 30)) from (by repeat (first | exact Below.refl _ _ | refine Below.alloc ?_ (by first | omega | (simp; done) | (simp; omega)) _ | refine Below.setCell ?_ (by first | omega | (simp; done) | (simp; omega)) _ | refine Below.drew ?_))) ((below_drewN _ _).mono (by simp; omega)))
              generalize (((wr.alloc (pltO (P j))).alloc (.cells #[.float .f32 (P j).sz] 30)).drewN nq) = w4 at *
              obtain ⟨cK, fK, zK⟩ := blkC HK.out
              clear l0 l1 l2 l3 l4 c7 zb p0 p1 t1 t2 d1 d2 b1 b2 c1 c2 q1 q2 q3 q4 N1 hkk
              by_cases j0 : j = 0
              · have hd0 : decide (0 < j) = false := decide_eq_false (by omega)
                have J0 := Lib.hid j0
                clear j0
                go_quiet ((fail))
                go_wp2
                go_roundw
                case rel => exact ⟨j + 1, by omega, by go_num, (fun i hi => by
                  have := J0.out
                  rw [show i = j by omega]; unfold pltS; rw [HE.out, if_neg (by simp), if_neg (by omega)]), HB.out.trans ((HB4.out.trans ((below_drewN _ _).mono HB4.out.size)).mono HB.out.size)⟩
                case measure => simp [intOf]; omega
              · obtain ⟨k, rfl⟩ : ∃ k, j = k + 1 := ⟨j - 1, by omega⟩
                have hkm : (k : Int) < (m : Int) := by omega
                have hk0 : (0 : Int) ≤ (k : Int) := by omega
                have kw3 : IntKind.i64.wrap (k : Int) = (k : Int) := by rw [IntKind.wrap_i64]; omega
                have kw2 : IntKind.i64.wrap ((k : Int) + 1 - 1) = (k : Int) := by rw [show (k : Int) + 1 - 1 = k by omega]; exact kw3
                have kw5 : IntKind.i64.wrap (((k + 1 : Nat) : Int) - 1) = (k : Int) := by rw [show ((k + 1 : Nat) : Int) - 1 = k by omega]; exact kw3
                have A1 := Lib.hid (fun w => AH.out (P k) (P (k + 1)) w)
                obtain ⟨dj, hdj⟩ : ∃ dj, ahdB (P k) (P (k + 1)) = dj := ⟨_, rfl⟩
                rw [hdj] at A1
                have HD := Lib.hid hdj
                clear hdj
                have QL := Lib.hid (LL.out.stay HB4.out)
                have HKM := Lib.hid (show k < m by omega)
                go_region_held3 (fun w' => ((∀ o, w'.cell? ⟨wr.heap.size, o, none⟩ = (P (k + 1)).cells[o]?) ∧ w'.cell? ⟨b', off + k * 5, none⟩ = some (.int .i64 (P k).kd) ∧ w'.cell? ⟨b', off + k * 5 + 1, none⟩ = some (.int .i64 (P k).x) ∧ w'.cell? ⟨b', off + k * 5 + 2, none⟩ = some (.int .i64 (P k).y) ∧ w'.cell? ⟨b', off + k * 5 + 3, none⟩ = some (.float .f32 (P k).sz) ∧ w'.cell? ⟨b', off + k * 5 + 4, none⟩ = some (.int .i64 (P k).ag)) ∧ Below w4.heap.size w4 w') (first | exact (fun K => ⟨⟨(blkC (blkStay HK.out K)).1, pltAt_all (QL.out.stay K) HKM.out⟩, K⟩) hb9 | exact (fun K => ⟨⟨(blkC (blkStay HK.out K)).1, pltAt_all (QL.out.stay K) HKM.out⟩, K⟩) (by repeat (first | exact Below.refl _ _ | refine Below.alloc ?_ (by first | omega | (simp; done) | (simp; omega)) _ | refine Below.setCell ?_ (by first | omega | (simp; done) | (simp; omega)) _ | refine Below.drew ?_))) (first | (go_at_call 106; (with_reducible refine Calls.mono (A1.out _) ?_); rintro e w' ⟨rfl, hb8⟩; have hb9 : Below w4.heap.size w4 w' := Below.trans (by first | exact hb9 | exact hb9.drew | exact (by repeat (first | exact Below.refl _ _ | refine Below.alloc ?_ (by first | omega | (simp; done) | (simp; omega)) _ | refine Below.setCell ?_ (by first | omega | (simp; done) | (simp; omega)) _ | refine Below.drew ?_))) (Below.mono hb8 (by first | exact hb9.size | exact Nat.le_refl _ | (simp; done) | (simp; omega))); clear hb8))
                rename_i hHeld
                have HH := Lib.hid hHeld.2
                clear hHeld
                cases dj with
                | true =>
                  go_wp2
                  go_roundw
                  case rel => exact ⟨k + 1 + 1, by omega, by go_num, (fun i hi => by
                    rcases Nat.lt_or_ge i (k + 1) with q | q
                    · exact HZ.out i q
                    · rw [show i = k + 1 by omega]; unfold pltS; rw [HE.out, if_neg (by simp), if_neg (by rw [show k + 1 - 1 = k by omega, HD.out]; simp)]), HB.out.trans ((HB4.out.trans (HH.out.mono HB4.out.size)).mono HB.out.size)⟩
                  case measure => simp [intOf]; omega
                | false =>
                  go_wp2
                  go_ret
                  have ks : pltS n K P (k + 1) = 8 := by unfold pltS; rw [HE.out, if_neg (by simp), if_pos ⟨by omega, by rw [show k + 1 - 1 = k by omega]; exact HD.out⟩]
                  exact ⟨ret_int (by rw [← ks]; exact EE.out.at HZ.out c (by rw [ks]; decide)), HB.out.trans ((HB4.out.trans (HH.out.mono HB4.out.size)).mono HB.out.size)⟩
      · have : j = m := by omega
        subst this
        go_wp2
        go_ret
        exact ⟨ret_int (EE.out.zero HZ.out).symm, hb⟩
  · rw [if_pos k0]
    have cz : (kndsE n ek != 0) = true := by simp [k0]
    clear L L2 E2 E k0 hs
    generalize kndsE n ek = ke at *
    go_enter Try.func50, Try.ntmps50
    go_wp2_with (go_at_call 38; refine (CK.out _ HL.out).mono ?_; rintro e w2 ⟨rfl, hb2⟩)
    go_ret
    exact ⟨rfl, hb2⟩
end Go.Proofs.Ytkjpjppfmfifeaa

/- Two words of one value that is not nought are one word. -/
namespace Go.Proofs.Ytkjpjppfmfifeaa.Fl
open Ieee

theorem binS : single.binade = 8388608 := by decide
theorem infS : single.infRung = 2139095040 := by decide
theorem lpS : single.leastPlace = -149 := by decide

/-- The digits and the place of a rung. -/
def rgM (r : Nat) : Nat := if r < 8388608 then r else 8388608 + r % 8388608
def rgE (r : Nat) : Nat := if r < 8388608 then 925 else 924 + r / 8388608
theorem rgM_lt (r : Nat) : rgM r < 16777216 := by unfold rgM; split <;> omega
theorem rgE_le (r : Nat) : 925 ≤ rgE r := by unfold rgE; split <;> omega
theorem rgM_ge {r : Nat} (h : 925 < rgE r) : 8388608 ≤ rgM r := by
  unfold rgE at h
  unfold rgM
  split at h
  · omega
  · rename_i q; rw [if_neg q]; omega
theorem rg_inj {r t : Nat} (h : rgM r * 2 ^ rgE r = rgM t * 2 ^ rgE t) : r = t := by
  have key : ∀ r t, rgE r < rgE t → rgM r * 2 ^ rgE r = rgM t * 2 ^ rgE t → False := by
    intro r t hlt h
    have e : 2 ^ rgE t = 2 ^ (rgE t - rgE r - 1) * 2 * 2 ^ rgE r := by rw [← Nat.pow_succ, ← Nat.pow_add]; congr 1; omega
    have p := Nat.two_pow_pos (rgE r)
    have p2 := Nat.two_pow_pos (rgE t - rgE r - 1)
    rw [e, ← Nat.mul_assoc] at h
    have h2 := Nat.eq_of_mul_eq_mul_right p h
    have mt := rgM_ge (show 925 < rgE t by have := rgE_le r; omega)
    have mr := rgM_lt r
    have : 8388608 * 2 ≤ rgM t * (2 ^ (rgE t - rgE r - 1) * 2) := Nat.mul_le_mul mt (by omega)
    omega
  rcases Nat.lt_trichotomy (rgE r) (rgE t) with c | c | c
  · exact (key r t c h).elim
  · rw [c] at h
    have h2 := Nat.eq_of_mul_eq_mul_right (Nat.two_pow_pos _) h
    unfold rgM at h2
    unfold rgE at c
    split at h2 <;> split at h2 <;> simp_all <;> omega
  · exact (key t r c h.symm).elim

theorem read_rung {x : Nat} {a : Int} (hx : x < 4294967296) (h : vS x = some a) : ∃ (s : Bool) (r : Nat), x = s.toNat * 2147483648 + r ∧ a = (if s then -1 else 1) * ((rgM r * 2 ^ rgE r : Nat) : Int) := by
  obtain ⟨s, m, p, e, rfl⟩ := vS_some h
  refine ⟨x / 2147483648 % 2 == 1, x % 2147483648, ?_, ?_⟩
  · have : x / 2147483648 < 2 := by omega
    have q : x / 2147483648 = 0 ∨ x / 2147483648 = 1 := by omega
    rcases q with q | q <;> rw [q] <;> simp <;> omega
  · unfold Format.read at e
    simp only [swS, binS, infS, lpS] at e
    rw [vOf_mag]
    split at e
    · rename_i c
      cases e
      have h1 : rgM (x % 2147483648) = x % 2147483648 := by unfold rgM; rw [if_pos c]
      have h2 : rgE (x % 2147483648) = (-149 + 1074 : Int).toNat := by unfold rgE; rw [if_pos c]; decide
      rw [h1, h2]
    · rename_i c
      split at e
      · cases e
        unfold rgM rgE
        rw [if_neg c, if_neg c]
        congr 4
        omega
      · split at e <;> cases e

/-- One value that is not 0, one word. -/
theorem word_inj {x y : Nat} {a : Int} (hx : x < 4294967296) (hy : y < 4294967296) (vx : vS x = some a) (vy : vS y = some a) (ha : a ≠ 0) : x = y := by
  obtain ⟨s, r, rfl, e1⟩ := read_rung hx vx
  obtain ⟨t, q, rfl, e2⟩ := read_rung hy vy
  rw [e1] at e2
  generalize hR : rgM r * 2 ^ rgE r = R at *
  generalize hQ : rgM q * 2 ^ rgE q = Q at *
  have hst : s = t ∧ R = Q := by
    cases s <;> cases t <;> simp at e1 e2 ⊢ <;> omega
  obtain ⟨rfl, h⟩ := hst
  rw [rg_inj (hR.trans (h.trans hQ.symm))]
end Go.Proofs.Ytkjpjppfmfifeaa.Fl

/- A census of the kinds of a list of plants: its prefixes, in the program's order of sums and in the law's, without a walk. -/
namespace Go.Proofs.Ytkjpjppfmfifeaa
open Go.RowKit Fl
set_option linter.unusedVariables false

/-- What is told of the plants of a kind. -/
structure Cns where
  many : Nat
  young : Nat
  old : Int
  sum : Nat
  mean : Nat
def cnsZ : Cns := ⟨0, 0, 0, 0, 0⟩
abbrev Cns.cells (c : Cns) : Array Value := #[.int .i64 c.many, .int .i64 c.young, .int .i64 c.old, .float .f32 c.sum, .float .f32 c.mean]

/-- A plant that is young. -/
def yngB (K : Nat → Knd) (p : Plt) : Bool := ltB p.sz (mulW (K p.kd.toNat).tp 1056964608)
def Cns.put (c : Cns) (yo : Bool) (p : Plt) (s : Nat) : Cns := ⟨c.many + 1, if yo then c.young + 1 else c.young, if c.old < p.ag then p.ag else c.old, s, c.mean⟩
/-- .. of the first m plants: the sum begins with the first one. -/
def cnsC (yB : Nat → Bool) (P : Nat → Plt) (i : Nat) : Nat → Cns
  | 0 => cnsZ
  | m + 1 => if (P m).kd = i then (cnsC yB P i m).put (yB m) (P m) (if (cnsC yB P i m).many = 0 then (P m).sz else addW (cnsC yB P i m).sum (P m).sz) else cnsC yB P i m
/-- .. the sum begins with 0. -/
def cnsL (yB : Nat → Bool) (P : Nat → Plt) (i : Nat) : Nat → Cns
  | 0 => cnsZ
  | m + 1 => if (P m).kd = i then (cnsL yB P i m).put (yB m) (P m) (addW (cnsL yB P i m).sum (P m).sz) else cnsL yB P i m
/-- .. with the mean. -/
def Cns.fin (c : Cns) : Cns := if c.many = 0 then c else ⟨c.many, c.young, c.old, c.sum, quoW c.sum (floatOfInt .f32 (c.many : Int))⟩

/-- A size: not below 0, a height. -/
def SzOk (s : Nat) : Prop := s < 4294967296 ∧ ∃ a, vS s = some a ∧ 0 ≤ a ∧ a ≤ 1048576 * (one : Int)

theorem vS_nz : vS 2147483648 = some 0 := by
  have h : Ieee.single.read 2147483648 = .number true 0 (-149) := by decide
  rw [vS_num h]; unfold vOf; rw [signed_eq, Nat.zero_mul]; rfl

theorem zero_words {x : Nat} (hx : x < 4294967296) (h : vS x = some 0) : x = 0 ∨ x = 2147483648 := by
  obtain ⟨s, r, rfl, e⟩ := read_rung hx h
  have hz : rgM r * 2 ^ rgE r = 0 := by
    rcases Nat.eq_zero_or_pos (rgM r * 2 ^ rgE r) with z | z
    · exact z
    · exfalso; cases s <;> simp only [Bool.false_eq_true, if_false, if_true] at e <;> omega
  have hm : rgM r = 0 := by
    rcases Nat.eq_zero_or_pos (rgM r) with z | z
    · exact z
    · have := Nat.mul_pos z (Nat.two_pow_pos (rgE r)); omega
  clear hz e
  have hr : r = 0 := by unfold rgM at hm; split at hm <;> omega
  subst hr
  cases s <;> simp

theorem add_zz : addW 0 0 = 0 ∧ addW 0 2147483648 = 0 ∧ addW 2147483648 0 = 0 ∧ addW 2147483648 2147483648 = 2147483648 := by
  refine ⟨?_, ?_, ?_, ?_⟩ <;> (unfold addW; rfl)

theorem pow1 {j k J : Nat} (hJ : J = 1074) (h : j = J + k) : (2 : Nat) ^ j = one * 2 ^ k := by rw [h, Nat.pow_add, ← one_pow hJ]
theorem hgt_in {s : Nat} {a : Int} (h : vS s = some a) (a0 : 0 ≤ a) (a1 : a ≤ 1048576 * (one : Int)) : Bd 20 s := by
  obtain ⟨J, hJ⟩ : ∃ J : Nat, J = 1074 := ⟨_, rfl⟩
  obtain ⟨j, hj⟩ : ∃ j : Nat, j = J + 20 := ⟨_, rfl⟩
  refine bd_val' (j := j) h (by omega) ?_
  rw [pow1 hJ hj]
  have : (2 : Nat) ^ 20 = 1048576 := by decide
  rw [this]
  clear hJ hj this
  omega

/-- The sum of a sum of m sizes and one more. -/
theorem sum_more {m s z : Nat} {a b : Int} (hs : vS s = some a) (hz : vS z = some b) (a0 : 0 ≤ a) (a1 : a ≤ (m * 1048576 : Nat) * (one : Int)) (b0 : 0 ≤ b) (b1 : b ≤ 1048576 * (one : Int)) (hm : m ≤ 4000) :
    ∃ r, floatBits .add .f32 s z = some r ∧ vS r = some (rdS (a + b)) ∧ 0 ≤ rdS (a + b) ∧ rdS (a + b) ≤ ((m + 1) * 1048576 : Nat) * (one : Int) := by
  obtain ⟨J, hJ⟩ : ∃ J : Nat, J = 1074 := ⟨_, rfl⟩
  obtain ⟨j, hj⟩ : ∃ j : Nat, j = J + 32 := ⟨_, rfl⟩
  obtain ⟨B, hB⟩ : ∃ B : Nat, B = J + 40 := ⟨_, rfl⟩
  obtain ⟨E, hE⟩ : ∃ E : Nat, E = J + 20 := ⟨_, rfl⟩
  have h32 : (2 : Nat) ^ j = one * 4294967296 := by rw [pow1 hJ hj, show (2 : Nat) ^ 32 = 4294967296 by decide]
  have hB2 : (2 : Nat) ^ B = one * 1099511627776 := by rw [pow1 hJ hB, show (2 : Nat) ^ 40 = 1099511627776 by decide]
  have hE2 : (2 : Nat) ^ E = one * 1048576 := by rw [pow1 hJ hE, show (2 : Nat) ^ 20 = 1048576 by decide]
  have o1 := one_pos
  have q1 : j = 1074 + 32 := by omega
  have q2 : B < 1202 := by omega
  have q3 : 925 ≤ E := by omega
  clear hJ hj hB hE
  generalize hO : one = O at *
  have am : ((m * 1048576 : Nat) : Int) * (O : Int) ≤ 4294967296 * (O : Int) := Int.mul_le_mul_of_nonneg_right (by omega) (by omega)
  have hsum : a + b ≤ (((m + 1) * 1048576 : Nat) : Int) * (O : Int) := by
    have : (((m + 1) * 1048576 : Nat) : Int) = ((m * 1048576 : Nat) : Int) + 1048576 := by omega
    rw [this, Int.add_mul]
    omega
  have p1 : Bd 32 s := bd_val' hs q1 (by rw [h32]; omega)
  have p2 : Bd 32 z := bd_val' hz q1 (by rw [h32]; omega)
  obtain ⟨r, e, _⟩ := same_ex (add_same (k := 32) (by omega) p1 p2)
  have ex : rdS ((((m + 1) * 1048576 : Nat) : Int) * (O : Int)) = (((m + 1) * 1048576 : Nat) : Int) * (O : Int) := by
    refine rdS_exact ((m + 1 : Nat) : Int) E (by omega) q3 ?_
    rw [hE2, Int.natCast_mul (m + 1) 1048576, Int.natCast_mul O 1048576, Int.mul_assoc, Int.mul_comm ((1048576 : Nat) : Int) (O : Int)]
  refine ⟨r, e, vS_add (B := B) e hs hz ?_ q2, rdS_nonneg (by omega), by rw [← ex]; exact rdS_mono hsum⟩
  rw [hB2]
  omega

theorem zle : (0 : Int) ≤ ((0 * 1048576 : Nat) : Int) * (one : Int) := Int.mul_nonneg (by omega) (Int.natCast_nonneg _)
/-- Both sums: one word, or the zeros of both signs. -/
def SumEq (s t : Nat) : Prop := s = t ∨ (s = 2147483648 ∧ t = 0)
theorem sum_step {s t z : Nat} (h : SumEq s t) (hz : SzOk z) : SumEq (addW s z) (addW t z) := by
  rcases h with rfl | ⟨rfl, rfl⟩
  · exact .inl rfl
  · obtain ⟨lz, b, vz, b0, b1⟩ := hz
    by_cases hb : b = 0
    · subst hb
      rcases zero_words lz vz with rfl | rfl
      · exact .inl (by rw [add_zz.2.2.1, add_zz.1])
      · exact .inr ⟨add_zz.2.2.2, add_zz.2.1⟩
    · obtain ⟨r1, e1, v1, _⟩ := sum_more (m := 0) vS_nz vz (Int.le_refl _) zle b0 b1 (by omega)
      obtain ⟨r2, e2, v2, _⟩ := sum_more (m := 0) vS_zero vz (Int.le_refl _) zle b0 b1 (by omega)
      rw [Int.zero_add, rdS_self vz] at v1 v2
      refine .inl ?_
      unfold addW
      rw [e1, e2]
      exact word_inj (add_lt e1) (add_lt e2) v1 v2 hb

theorem sum_first {z : Nat} (hz : SzOk z) : SumEq z (addW 0 z) := by
  obtain ⟨lz, b, vz, b0, b1⟩ := hz
  by_cases hb : b = 0
  · subst hb
    rcases zero_words lz vz with rfl | rfl
    · exact .inl add_zz.1.symm
    · exact .inr ⟨rfl, add_zz.2.1⟩
  · obtain ⟨r, e, v, _⟩ := sum_more (m := 0) vS_zero vz (Int.le_refl _) zle b0 b1 (by omega)
    rw [Int.zero_add, rdS_self vz] at v
    refine .inl ?_
    unfold addW
    rw [e]
    exact word_inj lz (add_lt e) vz v hb

/-- Of the first m plants: the law's census is the program's, but for the sign of a sum that is 0. -/
structure CnsEq (c d : Cns) (m : Nat) : Prop where
  many : c.many = d.many
  young : c.young = d.young
  old : c.old = d.old
  mean : c.mean = d.mean
  sum : SumEq c.sum d.sum
  le : c.many ≤ m
  le2 : c.young ≤ m
  val : ∃ a, vS c.sum = some a ∧ 0 ≤ a ∧ a ≤ (c.many * 1048576 : Nat) * (one : Int)
  lt : c.sum < 4294967296
  age : 0 ≤ c.old ∧ c.old ≤ 1000
  none : d.many = 0 → d.sum = 0

theorem cns_eq {yB : Nat → Bool} {P : Nat → Plt} {i n : Nat} (hn : n ≤ 4000) (hz : ∀ j, j < n → SzOk (P j).sz) (ha : ∀ j, j < n → 0 ≤ (P j).ag ∧ (P j).ag ≤ 1000) : ∀ m, m ≤ n → CnsEq (cnsC yB P i m) (cnsL yB P i m) m
  | 0, _ => ⟨rfl, rfl, rfl, rfl, .inl rfl, Nat.le_refl _, Nat.le_refl _, ⟨0, vS_zero, Int.le_refl _, zle⟩, show (0 : Nat) < 4294967296 by decide, show (0 : Int) ≤ 0 ∧ (0 : Int) ≤ 1000 by decide, fun _ => rfl⟩
  | m + 1, h => by
    have I := cns_eq hn hz ha (yB := yB) (i := i) m (by omega)
    unfold cnsC cnsL
    by_cases c : (P m).kd = i
    · rw [if_pos c, if_pos c]
      obtain ⟨hl, b, vb, b0, b1⟩ := hz m (by omega)
      obtain ⟨g0, g1⟩ := ha m (by omega)
      obtain ⟨a, va, a0, a1⟩ := I.val
      have hag : 0 ≤ (if (cnsC yB P i m).old < (P m).ag then (P m).ag else (cnsC yB P i m).old) ∧ (if (cnsC yB P i m).old < (P m).ag then (P m).ag else (cnsC yB P i m).old) ≤ 1000 := by
        have := I.age
        split <;> omega
      have hyo : (if yB m = true then (cnsC yB P i m).young + 1 else (cnsC yB P i m).young) ≤ m + 1 := by
        have := I.le2
        split <;> omega
      have hle := I.le
      by_cases q : (cnsC yB P i m).many = 0
      · rw [if_pos q]
        have hsum : SumEq (P m).sz (addW (cnsL yB P i m).sum (P m).sz) := by rw [I.none (by rw [← I.many]; exact q)]; exact sum_first (hz m (by omega))
        refine ⟨?_, ?_, ?_, I.mean, hsum, ?_, hyo, ⟨b, vb, b0, ?_⟩, hl, hag, fun h => by cases h⟩
        · show _ + 1 = _ + 1; rw [I.many]
        · show (if _ then _ else _) = (if _ then _ else _); rw [I.young]
        · show (if _ then _ else _) = (if _ then _ else _); rw [I.old]
        · show _ + 1 ≤ _; omega
        · show _ ≤ (((_ + 1) * 1048576 : Nat) : Int) * _; rw [q]; omega
      · rw [if_neg q]
        obtain ⟨r, e, vr, r0, r1⟩ := sum_more va vb a0 a1 b0 b1 (by omega)
        refine ⟨?_, ?_, ?_, I.mean, sum_step I.sum (hz m (by omega)), ?_, hyo, ⟨_, by show vS (addW _ _) = _; unfold addW; rw [e]; exact vr, r0, r1⟩, by show addW _ _ < _; unfold addW; rw [e]; exact add_lt e, hag, fun h => by cases h⟩
        · show _ + 1 = _ + 1; rw [I.many]
        · show (if _ then _ else _) = (if _ then _ else _); rw [I.young]
        · show (if _ then _ else _) = (if _ then _ else _); rw [I.old]
        · show _ + 1 ≤ _; omega
    · rw [if_neg c, if_neg c]
      exact ⟨I.many, I.young, I.old, I.mean, I.sum, Nat.le_succ_of_le I.le, Nat.le_succ_of_le I.le2, I.val, I.lt, I.age, I.none⟩

theorem cnsC_mean (yB : Nat → Bool) (P : Nat → Plt) (i : Nat) : ∀ m, (cnsC yB P i m).mean = 0
  | 0 => rfl
  | m + 1 => by
    have I := cnsC_mean yB P i m
    rw [cnsC]
    split
    · exact I
    · exact I
theorem cnsC_none (yB : Nat → Bool) (P : Nat → Plt) (i : Nat) : ∀ m, (cnsC yB P i m).many = 0 → (cnsC yB P i m).sum = 0
  | 0, _ => rfl
  | m + 1, h => by
    have I := cnsC_none yB P i m
    rw [cnsC] at h ⊢
    split at h
    · cases h
    · rename_i c; rw [if_neg c]; exact I h
/-- The mean of the sizes of some plants. -/
theorem mean_parts {s n : Nat} {a : Int} (hs : vS s = some a) (a0 : 0 ≤ a) (a1 : a ≤ (n * 1048576 : Nat) * (one : Int)) (hn : 0 < n) (hn2 : n ≤ 4000) : ∃ r, floatBits .quo .f32 s (floatOfInt .f32 (n : Int)) = some r ∧ Bd 20 r := by
  obtain ⟨hv, _⟩ := int_val (n := (n : Int)) (by omega)
  have o1 := one_pos
  refine same_ex (div_val hs hv ?_ (by omega) ?_)
  · have : (0 : Int) < (n : Int) * (one : Int) := Int.mul_pos (by omega) (by omega)
    omega
  · have e : ((n : Int) * (one : Int)).natAbs = n * one := by rw [Int.natAbs_mul, Int.natAbs_natCast, Int.natAbs_natCast]
    rw [e, show (2 : Nat) ^ 20 = 1048576 by decide]
    generalize one = O at *
    have h : n * O * 1048576 = n * 1048576 * O := by rw [Nat.mul_assoc, Nat.mul_comm O, ← Nat.mul_assoc]
    have h2 : ((n * 1048576 : Nat) : Int) * (O : Int) = ((n * 1048576 * O : Nat) : Int) := (Int.natCast_mul _ _).symm
    rw [h2, ← h] at a1
    clear h h2 e hv
    omega
end Go.Proofs.Ytkjpjppfmfifeaa

/- Count's helpers: isGrown, tally.take with plus; blocks of censuses and of tallies. -/
namespace Go.Proofs.Ytkjpjppfmfifeaa
open Go.RowKit Fl
set_option linter.unusedVariables false

/-- A block of n structs of k cells each, whole. -/
def RowsAt (w : World) (b n k : Nat) (c : Nat → Array Value) : Prop :=
  (∀ i, i < n → (c i).size = k) ∧ ∃ (cs : Array Value) (t : TypeId), w.heap[b]? = some (.cells cs t (0, 0)) ∧ cs.size = n * k ∧ ∀ i, i < n → ∀ j, j < k → cs[i * k + j]? = (c i)[j]?
def updR (c : Nat → Array Value) (q : Nat) (a : Array Value) : Nat → Array Value := fun i => if i = q then a else c i
theorem updR_same (c : Nat → Array Value) (q : Nat) (a : Array Value) : updR c q a q = a := by unfold updR; rw [if_pos rfl]
theorem updR_other (c : Nat → Array Value) {i q : Nat} (a : Array Value) (h : i ≠ q) : updR c q a i = c i := by unfold updR; rw [if_neg h]
theorem RowsAt.lt {w : World} {b n k : Nat} {c : Nat → Array Value} (h : RowsAt w b n k c) : b < w.heap.size := by
  obtain ⟨_, cs, t, h1, _⟩ := h
  exact (blkC h1).2.2
theorem RowsAt.free {w : World} {b n k : Nat} {c : Nat → Array Value} (h : RowsAt w b n k c) (j : Nat) : w.frozen? ⟨b, j, none⟩ = false := by
  obtain ⟨_, cs, t, h1, _⟩ := h
  exact (blkC h1).2.1 j
theorem RowsAt.cell {w : World} {b n k : Nat} {c : Nat → Array Value} (h : RowsAt w b n k c) {i j : Nat} (hi : i < n) (hj : j < k) : w.cell? ⟨b, i * k + j, none⟩ = (c i)[j]? := by
  obtain ⟨_, cs, t, h1, _, h3⟩ := h
  rw [(blkC h1).1]
  exact h3 i hi j hj
theorem RowsAt.congr {w w' : World} {b n k : Nat} {c : Nat → Array Value} (h : RowsAt w b n k c) (e : w'.heap[b]? = w.heap[b]?) : RowsAt w' b n k c := by
  obtain ⟨h0, cs, t, h1, h2⟩ := h
  exact ⟨h0, cs, t, by rw [e]; exact h1, h2⟩
theorem RowsAt.stay {w w' : World} {b n k : Nat} {c : Nat → Array Value} (h : RowsAt w b n k c) (hb : Below w.heap.size w w') : RowsAt w' b n k c := h.congr (hb.block b h.lt)
theorem RowsAt.as {w : World} {b n k : Nat} {c c' : Nat → Array Value} (h : RowsAt w b n k c) (e : ∀ i, i < n → c i = c' i) : RowsAt w b n k c' := by
  obtain ⟨h0, cs, t, h1, h2, h3⟩ := h
  exact ⟨fun i hi => by rw [← e i hi]; exact h0 i hi, cs, t, h1, h2, fun i hi j hj => by rw [← e i hi]; exact h3 i hi j hj⟩
theorem idx_ne {i q j j' k : Nat} (hj : j < k) (hj' : j' < k) (h : i ≠ q) : i * k + j ≠ q * k + j' := by
  rcases Nat.lt_or_gt_of_ne h with c | c
  · have := Nat.mul_le_mul_right k (show i + 1 ≤ q from c)
    rw [Nat.add_mul] at this
    omega
  · have := Nat.mul_le_mul_right k (show q + 1 ≤ i from c)
    rw [Nat.add_mul] at this
    omega
theorem idx_lt {q j n k : Nat} (hq : q < n) (hj : j < k) : q * k + j < n * k := by
  have := Nat.mul_le_mul_right k (show q + 1 ≤ n from hq)
  rw [Nat.add_mul] at this
  omega
/-- One cell of the struct q stored over. -/
theorem RowsAt.put {w : World} {b n k : Nat} {c : Nat → Array Value} (h : RowsAt w b n k c) {q j o : Nat} (hq : q < n) (hj : j < k) (ho : o = q * k + j) (v : Value) :
    RowsAt (w.setCell ⟨b, o, none⟩ v) b n k (updR c q ((c q).setIfInBounds j v)) := by
  subst ho
  obtain ⟨h0, cs, t, h1, h2, h3⟩ := h
  refine ⟨fun i hi => ?_, cs.setIfInBounds (q * k + j) v, t, heap_setCell_same w b (q * k + j) cs _ _ h1, by simp [h2], fun i hi j' hj' => ?_⟩
  · by_cases e : i = q
    · subst e; rw [updR_same]; simp [h0 i hi]
    · rw [updR_other _ _ e]; exact h0 i hi
  · by_cases e : i = q
    · subst e
      rw [updR_same]
      by_cases e2 : j = j'
      · subst e2
        rw [Array.getElem?_setIfInBounds_self_of_lt (by rw [h2]; exact idx_lt hq hj), Array.getElem?_setIfInBounds_self_of_lt (by rw [h0 i hi]; exact hj)]
      · rw [Array.getElem?_setIfInBounds_ne (by omega), Array.getElem?_setIfInBounds_ne e2]
        exact h3 i hi j' hj'
    · rw [updR_other _ _ e, Array.getElem?_setIfInBounds_ne (fun z => idx_ne hj' hj e z.symm)]
      exact h3 i hi j' hj'

theorem rows_made (w : World) (z : Array Value) (n k : Nat) (t : TypeId) (hz : z.size = k) (hk : 0 < k) : RowsAt (w.alloc (.cells (madeCells z (n * k)) t)) w.heap.size n k (fun _ => z) := by
  refine ⟨fun _ _ => hz, _, _, heap_alloc_new w _, size_madeCells _ _, fun i hi j hj => ?_⟩
  have hlt := idx_lt hi hj
  have hm : (i * k + j) % z.size = j := by rw [hz, Nat.mul_comm, Nat.mul_add_mod]; exact Nat.mod_eq_of_lt hj
  unfold madeCells
  rw [Array.getElem?_map, Array.getElem?_range, if_pos hlt, Option.map_some, hm, Array.getElem!_eq_getD, Array.getD_eq_getD_getElem?, Array.getElem?_eq_getElem (by omega)]
  rfl
abbrev talA (c : Cns) : Array Value := #[.float .f32 c.sum, .bool (decide (0 < c.many))]
abbrev cnsA (c : Cns) : Array Value := #[.int .i64 c.many, .int .i64 c.young, .int .i64 c.old, .float .f32 0, .float .f32 0]
theorem make_cns (n : Nat) (hn : n ≤ 65536) (w : World) :
    (Instr.makeSlice 77 (.int .i64 (n : Int)) (.int .i64 (n : Int))).run Try.prog w = .ok (.slice (some ⟨w.heap.size, 0, none⟩) n n) (w.alloc (.cells (madeCells #[.int .i64 0, .int .i64 0, .int .i64 0, .float .f32 0, .float .f32 0] (n * 5)) 83)) := by
  have h : (Try.prog.info? 83).map (fun i => (i.zero, i.size, i.bytes)) = some (some (.agg #[.int .i64 0, .int .i64 0, .int .i64 0, .float .f32 0, .float .f32 0]), 5, 32) := by kernel_rfl
  obtain ⟨i0, hi, hz0, hz1, hz2⟩ := info_parts h
  have hr := run_make (P := Try.prog) w 77 83 i0 _ Try.underlying77 hi hz0 .i64 .i64 n n (by omega) (by omega) (by rw [hz2]; omega) (by omega)
  rw [hz1, Int.toNat_natCast] at hr
  exact hr
theorem make_tal (n : Nat) (hn : n ≤ 65536) (w : World) :
    (Instr.makeSlice 128 (.int .i64 (n : Int)) (.int .i64 (n : Int))).run Try.prog w = .ok (.slice (some ⟨w.heap.size, 0, none⟩) n n) (w.alloc (.cells (madeCells #[.float .f32 0, .bool false] (n * 2)) 131)) := by
  have h : (Try.prog.info? 131).map (fun i => (i.zero, i.size, i.bytes)) = some (some (.agg #[.float .f32 0, .bool false]), 2, 8) := by kernel_rfl
  obtain ⟨i0, hi, hz0, hz1, hz2⟩ := info_parts h
  have hr := run_make (P := Try.prog) w 128 131 i0 _ Try.underlying128 hi hz0 .i64 .i64 n n (by omega) (by omega) (by rw [hz2]; omega) (by omega)
  rw [hz1, Int.toNat_natCast] at hr
  exact hr

theorem hlf_parts {t : Nat} (h : hgtB t = true) : ∃ r a, floatBits .mul .f32 t 1056964608 = some r ∧ vS r = some a := by
  obtain ⟨r, e, b⟩ := same_ex (mul_same (by omega) (hgt_bd h) bd_halfK)
  obtain ⟨a, ha, _⟩ := val_bd b
  exact ⟨r, a, e, ha⟩
theorem not_lt_geq {x y : Nat} {a b : Int} (hx : vS x = some a) (hy : vS y = some b) : (FloatKind.f32.format.order x y == some .gt || FloatKind.f32.format.order x y == some .eq) = !ltB x y := by
  unfold ltB
  rw [f32f, geq_val hx hy, lss_val hx hy]
  by_cases h : a < b
  · simp [h]
  · simp [h]; omega

set_option maxHeartbeats 1000000 in
theorem isGrown_any (a : Option Addr) (n cap : Nat) (K : Nat → Knd) (p : Plt) (w : World) (L : KndL w a n K) (hn : n ≤ 12) (h0 : 0 ≤ p.kd) (h1 : p.kd < n) (hs : SzOk p.sz) (ht : hgtB (K p.kd.toNat).tp = true) :
    Calls Try.prog 103 #[.slice a n cap, pltV p] w fun e w' => e = .returned (.bool (!yngB K p)) ∧ Below w.heap.size w w' := by
  obtain ⟨kd, x, y, sz, ag⟩ := p
  simp only at h0 h1 hs ht
  obtain ⟨i, rfl⟩ : ∃ i : Nat, kd = i := ⟨kd.toNat, by omega⟩
  rw [show ((i : Int)).toNat = i by omega] at ht
  unfold yngB mulW
  simp only
  rw [show ((i : Int)).toNat = i by omega]
  have hi : i < n := by omega
  rcases L with z | ⟨b, off, rfl, l⟩
  · omega
  obtain ⟨r, va, er, vr⟩ := hlf_parts ht
  obtain ⟨_, vs, hvs, _, _⟩ := hs
  have hg := not_lt_geq hvs vr
  rw [er, Option.getD_some]
  have ea := fun (W : World) => run_float_arith (P := Try.prog) W .mul 30 .f32 (K i).tp 1056964608 r er
  have c7 := (l.at hi).c7
  have zb := World.block_lt_of_cell? w _ c7
  have hi2 : (i : Int) < (n : Int) := by omega
  generalize (K i).tp = top at *
  generalize ltB sz r = q at *
  clear l ht hvs vr er
  go_enter Try.func103, Try.ntmps103
  go_wp2
  go_quiet (fail)
  go_wp2
  go_ret
  exact ⟨rfl, (((Below.refl _ _).alloc (Nat.le_refl _) _).trans ((below_drewN _ _).mono (by simp)))⟩

theorem enters_plus : Enters 105 := by intro args W; simp [callFunc, Try.func105, Try.f105]
set_option maxHeartbeats 400000 in
theorem plus_any (x y r : Nat) (h : floatBits .add .f32 x y = some r) (w : World) : Calls Try.prog 105 #[.float .f32 x, .float .f32 y] w fun e w' => e = .returned (.float .f32 r) ∧ w = w' := by
  have ea := fun (W : World) => run_float_arith (P := Try.prog) W .add 30 .f32 x y r h
  clear h
  go_enter Try.func105, Try.ntmps105
  go_wp2
  go_ret
  exact ⟨rfl, rfl⟩

set_option maxHeartbeats 1000000 in
/-- A tally of nothing yet takes its first value. -/
theorem take_first (b o s x : Nat) (f : Value) (w : World) (c0 : w.cell? ⟨b, o, none⟩ = some (.float .f32 s)) (c1 : w.cell? ⟨b, o + 1, none⟩ = some (.bool false)) (fz : ∀ j, w.frozen? ⟨b, j, none⟩ = false) :
    Calls Try.prog 104 #[.pointer (some ⟨b, o, none⟩), .float .f32 x, f] w fun e w' => e = .returned (.tuple #[]) ∧ w' = (w.setCell ⟨b, o, none⟩ (.float .f32 x)).setCell ⟨b, o + 1, none⟩ (.bool true) := by
  have hsf := fun (w : World) (a : Addr) (m : Mode) (k : FloatKind) (b : Nat) => run_store_float (P := Try.prog) (w := w) (a := a) (m := m) k b
  go_enter Try.func104, Try.ntmps104
  go_wp2
  go_end0
  exact ⟨rfl, rfl⟩

set_option maxHeartbeats 1000000 in
theorem take_more (b o s x r : Nat) (w : World) (c0 : w.cell? ⟨b, o, none⟩ = some (.float .f32 s)) (c1 : w.cell? ⟨b, o + 1, none⟩ = some (.bool true)) (fz : ∀ j, w.frozen? ⟨b, j, none⟩ = false) (h : floatBits .add .f32 s x = some r) :
    Calls Try.prog 104 #[.pointer (some ⟨b, o, none⟩), .float .f32 x, .func (.func 105) #[] #[]] w fun e w' => e = .returned (.tuple #[]) ∧ w' = (w.setCell ⟨b, o, none⟩ (.float .f32 r)).setCell ⟨b, o + 1, none⟩ (.bool true) := by
  have hsf := fun (w : World) (a : Addr) (m : Mode) (k : FloatKind) (b : Nat) => run_store_float (P := Try.prog) (w := w) (a := a) (m := m) k b
  have hcall := enters_plus
  unfold Enters at hcall
  go_enter Try.func104, Try.ntmps104
  go_wp2_with fail
  refine (plus_any s x r h _).mono ?_
  rintro e w' ⟨rfl, rfl⟩
  go_wp2
  go_end0
  exact ⟨rfl, rfl⟩

theorem take_any (b o x : Nat) (C : Cns) (w : World) (c0 : w.cell? ⟨b, o, none⟩ = some (.float .f32 C.sum)) (c1 : w.cell? ⟨b, o + 1, none⟩ = some (.bool (decide (0 < C.many)))) (fz : ∀ j, w.frozen? ⟨b, j, none⟩ = false) (h : ∃ r, floatBits .add .f32 C.sum x = some r) :
    Calls Try.prog 104 #[.pointer (some ⟨b, o, none⟩), .float .f32 x, .func (.func 105) #[] #[]] w fun e w' => e = .returned (.tuple #[]) ∧ w' = (w.setCell ⟨b, o, none⟩ (.float .f32 (if C.many = 0 then x else addW C.sum x))).setCell ⟨b, o + 1, none⟩ (.bool true) := by
  by_cases z : C.many = 0
  · rw [if_pos z]
    rw [z] at c1
    exact take_first b o C.sum x _ w c0 c1 fz
  · rw [if_neg z]
    obtain ⟨r, hr⟩ := h
    have e : addW C.sum x = r := by unfold addW; rw [hr]; rfl
    rw [e]
    exact take_more b o C.sum x r w c0 (by rw [c1]; simp; omega) fz hr
end Go.Proofs.Ytkjpjppfmfifeaa
