/- CheckKind of the program, KindError of the reference: a kind's error. -/
import Derived.Test.YtkjpjppfmfifeaaKnd
import Derived.Test.YtkjpjppfmfifeaaDth
namespace Go.Proofs.Ytkjpjppfmfifeaa
open Go.RowKit Fl
set_option linter.unusedVariables false

theorem fld_ten {k : Knd} (h : fldE 10 k.f = 0) : hgtB k.lo = true ∧ hgtB k.hi = true ∧ hgtB k.so = true ∧ hgtB k.st = true ∧ hgtB k.dr = true ∧ hgtB k.da = true ∧ hgtB k.to = true ∧ hgtB k.pa = true ∧ hgtB k.sh = true ∧ hgtB k.ba = true := by
  have := allB_iff.1 (fldE_zero.1 h)
  exact ⟨this 0 (by omega), this 1 (by omega), this 2 (by omega), this 3 (by omega), this 4 (by omega), this 5 (by omega), this 6 (by omega), this 7 (by omega), this 8 (by omega), this 9 (by omega)⟩

theorem err_name {k : Knd} (h : namB k.name = false) : k.err = 6 := by unfold Knd.err; rw [if_pos h]
theorem err_fld {k : Knd} (n : namB k.name = true) (h : fldE 10 k.f ≠ 0) : k.err = fldE 10 k.f := by unfold Knd.err; rw [if_neg (by simp [n]), if_pos h]
theorem err_ord {k : Knd} (n : namB k.name = true) (h : fldE 10 k.f = 0) (o : ltB k.hi k.lo = true ∨ ltB k.da k.dr = true) : k.err = 8 := by unfold Knd.err; rw [if_neg (by simp [n]), if_neg (by simp [h]), if_pos o]
theorem err_rest {k : Knd} (n : namB k.name = true) (h : fldE 10 k.f = 0) (o1 : ltB k.hi k.lo = false) (o2 : ltB k.da k.dr = false) : k.err = if k.rng = false then 3 else if withinB k.sp 0 32 = false ∨ withinB k.th 0 32 = false then 3 else 0 := by
  unfold Knd.err; rw [if_neg (by simp [n]), if_neg (by simp [h]), if_neg (by simp [o1, o2])]

set_option maxHeartbeats 4000000 in
theorem checkKind_any (k : Knd) (hs : k.name.size ≤ 9223372036854775807) (w : World) : Calls Try.prog 39 #[kndV k] w fun e w' => e = .returned (.int .i64 k.err) ∧ Below w.heap.size w w' := by
  have NA := Lib.hid (fun w => isName_any k.name hs w)
  have CH := Lib.hid (fun p w (h : w.heap[p]? = some (tenO k)) => CheckHeights_row p 0 10 10 k.f (by omega) w (flAt_ten h))
  have WI := Lib.hid (fun n a b w => within_any n a b w)
  have EE := Lib.hid (show k.err = k.err from rfl)
  cases n : namB k.name with
  | false =>
    rw [n] at NA
    have E := Lib.hid (err_name n)
    clear n hs
    go_enter Try.func39, Try.ntmps39
    go_wp2_with (first | (go_at_call 98; refine (NA.out _).mono ?_; rintro e w' ⟨rfl, rfl⟩))
    go_ret
    exact ⟨ret_int E.out.symm, (by repeat (first | exact Below.refl _ _ | refine Below.alloc ?_ (by first | omega | (simp; done) | (simp; omega)) _ | refine Below.setCell ?_ (by first | omega | (simp; done) | (simp; omega)) _ | refine Below.drew ?_))⟩
  | true =>
    rw [n] at NA
    by_cases h : fldE 10 k.f = 0
    · have H := fld_ten h
      rw [h] at CH
      cases o1 : ltB k.hi k.lo with
      | true =>
        have E := Lib.hid (err_ord n h (.inl o1))
        unfold ltB at o1
        clear n h H hs
        go_enter Try.func39, Try.ntmps39
        go_wp2_with (first | (go_at_call 98; refine (NA.out _).mono ?_; rintro e w' ⟨rfl, rfl⟩) | (go_at_call 65; refine (CH.out _ _ (by ((simp only [heap_alloc_get, heap_size_alloc, if_true]) <;> ((repeat' split) <;> first | rfl | omega)))).mono ?_; rintro e w' ⟨rfl, rfl⟩))
        go_ret
        exact ⟨ret_int E.out.symm, (by repeat (first | exact Below.refl _ _ | refine Below.alloc ?_ (by first | omega | (simp; done) | (simp; omega)) _ | refine Below.setCell ?_ (by first | omega | (simp; done) | (simp; omega)) _ | refine Below.drew ?_))⟩
      | false =>
        cases o2 : ltB k.da k.dr with
        | true =>
          have E := Lib.hid (err_ord n h (.inr o2))
          unfold ltB at o1 o2
          clear n h H hs
          go_enter Try.func39, Try.ntmps39
          go_wp2_with (first | (go_at_call 98; refine (NA.out _).mono ?_; rintro e w' ⟨rfl, rfl⟩) | (go_at_call 65; refine (CH.out _ _ (by ((simp only [heap_alloc_get, heap_size_alloc, if_true]) <;> ((repeat' split) <;> first | rfl | omega)))).mono ?_; rintro e w' ⟨rfl, rfl⟩))
          go_ret
          exact ⟨ret_int E.out.symm, (by repeat (first | exact Below.refl _ _ | refine Below.alloc ?_ (by first | omega | (simp; done) | (simp; omega)) _ | refine Below.setCell ?_ (by first | omega | (simp; done) | (simp; omega)) _ | refine Below.drew ?_))⟩
        | false =>
          have E := Lib.hid (err_rest n h o1 o2)
          obtain ⟨_, _, h3, h4, h5, _, h7, h8, h9, h10⟩ := H
          obtain ⟨a3, v3, _⟩ := hgt_val h3
          obtain ⟨a4, v4, _⟩ := hgt_val h4
          obtain ⟨a5, v5, _⟩ := hgt_val h5
          obtain ⟨a7, v7, _⟩ := hgt_val h7
          obtain ⟨a8, v8, _⟩ := hgt_val h8
          obtain ⟨a9, v9, _⟩ := hgt_val h9
          obtain ⟨a10, v10, _⟩ := hgt_val h10
          obtain ⟨r, m, e1, vr, hm⟩ := run_min_seven #[] 0 v3 v4 v5 v7 v8 v9 v10
          have mn : ∀ (ts : Array TypeId) (t : TypeId) (w : World), (Builtin.min_ ts t #[.float .f32 k.so, .float .f32 k.st, .float .f32 k.dr, .float .f32 k.to, .float .f32 k.pa, .float .f32 k.sh, .float .f32 k.ba]).run Try.prog w = .ok (.float .f32 r) w := fun _ _ w => e1 w
          obtain ⟨r', e2, vr', _⟩ := run_max_two #[] 0 v9 v10
          have mx : ∀ (ts : Array TypeId) (t : TypeId) (w : World), (Builtin.max_ ts t #[.float .f32 k.sh, .float .f32 k.ba]).run Try.prog w = .ok (.float .f32 r') w := fun _ _ w => e2 w
          obtain ⟨c1, hc1⟩ : ∃ c1, (FloatKind.f32.format.order r 0 == some .lt) = c1 := ⟨_, rfl⟩
          obtain ⟨c2, hc2⟩ : ∃ c2, (FloatKind.f32.format.order r' 1065353216 == some .gt) = c2 := ⟨_, rfl⟩
          have hr : k.rng = !(c1 || c2) := by
            unfold Knd.rng ltB
            rw [← hc1, ← hc2]
            simp only [f32fmt]
            rw [lss_val vr vS_zero, gtr_val vr' vS_one, lss_val v3 vS_zero, lss_val v4 vS_zero, lss_val v5 vS_zero, lss_val v7 vS_zero, lss_val v8 vS_zero, lss_val v9 vS_zero, lss_val v10 vS_zero, gtr_val v9 vS_one, gtr_val v10 vS_one]
            have hx : (one : Int) < (if a9 < a10 then a10 else a9) ↔ (one : Int) < a9 ∨ (one : Int) < a10 := by split <;> omega
            rw [Bool.eq_iff_iff]
            simp only [Bool.not_eq_true', Bool.or_eq_false_iff, decide_eq_false_iff_not, hm, hx]
            grind
          rw [hr] at E
          unfold ltB at o1 o2
          clear n h hs h3 h4 h5 h7 h8 h9 h10 v3 v4 v5 v7 v8 v9 v10 vr vr' hm e1 e2 hr
          cases c1 with
          | true =>
            go_enter Try.func39, Try.ntmps39
            go_wp2_with (first | (go_at_call 98; refine (NA.out _).mono ?_; rintro e w' ⟨rfl, rfl⟩) | (go_at_call 65; refine (CH.out _ _ (by ((simp only [heap_alloc_get, heap_size_alloc, if_true]) <;> ((repeat' split) <;> first | rfl | omega)))).mono ?_; rintro e w' ⟨rfl, rfl⟩))
            go_ret
            exact ⟨ret_int (by rw [E.out]; rfl), (by repeat (first | exact Below.refl _ _ | refine Below.alloc ?_ (by first | omega | (simp; done) | (simp; omega)) _ | refine Below.setCell ?_ (by first | omega | (simp; done) | (simp; omega)) _ | refine Below.drew ?_))⟩
          | false =>
            cases c2 with
            | true =>
              go_enter Try.func39, Try.ntmps39
              go_wp2_with (first | (go_at_call 98; refine (NA.out _).mono ?_; rintro e w' ⟨rfl, rfl⟩) | (go_at_call 65; refine (CH.out _ _ (by ((simp only [heap_alloc_get, heap_size_alloc, if_true]) <;> ((repeat' split) <;> first | rfl | omega)))).mono ?_; rintro e w' ⟨rfl, rfl⟩))
              go_ret
              exact ⟨ret_int (by rw [E.out]; rfl), (by repeat (first | exact Below.refl _ _ | refine Below.alloc ?_ (by first | omega | (simp; done) | (simp; omega)) _ | refine Below.setCell ?_ (by first | omega | (simp; done) | (simp; omega)) _ | refine Below.drew ?_))⟩
            | false =>
              obtain ⟨p1, hp1⟩ : ∃ p1, withinB k.sp 0 32 = p1 := ⟨_, rfl⟩
              obtain ⟨p2, hp2⟩ : ∃ p2, withinB k.th 0 32 = p2 := ⟨_, rfl⟩
              have W1 := Lib.hid (fun w => WI.out k.sp 0 32 w)
              have W2 := Lib.hid (fun w => WI.out k.th 0 32 w)
              rw [hp1] at W1 E
              rw [hp2] at W2 E
              clear hp1 hp2 WI
              cases p1 <;> cases p2
              all_goals
                go_enter Try.func39, Try.ntmps39
                go_wp2_with (first | (go_at_call 98; refine (NA.out _).mono ?_; rintro e w' ⟨rfl, rfl⟩) | (go_at_call 65; refine (CH.out _ _ (by ((simp only [heap_alloc_get, heap_size_alloc, if_true]) <;> ((repeat' split) <;> first | rfl | omega)))).mono ?_; rintro e w' ⟨rfl, rfl⟩) | (go_at_call 99; (with_reducible refine (W1.out _).mono ?_); rintro e w' ⟨rfl, rfl⟩) | (go_at_call 99; (with_reducible refine (W2.out _).mono ?_); rintro e w' ⟨rfl, rfl⟩))
                go_ret
                exact ⟨ret_int (by rw [E.out]; rfl), (by repeat (first | exact Below.refl _ _ | refine Below.alloc ?_ (by first | omega | (simp; done) | (simp; omega)) _ | refine Below.setCell ?_ (by first | omega | (simp; done) | (simp; omega)) _ | refine Below.drew ?_))⟩
    · have E := Lib.hid (err_fld n h)
      have h' : (fldE 10 k.f != 0) = true := by simp [h]
      clear n h hs
      generalize fldE 10 k.f = er at *
      go_enter Try.func39, Try.ntmps39
      go_wp2_with (first | (go_at_call 98; refine (NA.out _).mono ?_; rintro e w' ⟨rfl, rfl⟩) | (go_at_call 65; refine (CH.out _ _ (by ((simp only [heap_alloc_get, heap_size_alloc, if_true]) <;> ((repeat' split) <;> first | rfl | omega)))).mono ?_; rintro e w' ⟨rfl, rfl⟩))
      go_ret
      exact ⟨ret_int E.out.symm, (by repeat (first | exact Below.refl _ _ | refine Below.alloc ?_ (by first | omega | (simp; done) | (simp; omega)) _ | refine Below.setCell ?_ (by first | omega | (simp; done) | (simp; omega)) _ | refine Below.drew ?_))⟩
end Go.Proofs.Ytkjpjppfmfifeaa
