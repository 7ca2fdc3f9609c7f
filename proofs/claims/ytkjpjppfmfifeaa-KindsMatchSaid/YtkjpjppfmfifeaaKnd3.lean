/- KindError of the reference: a kind's error. -/
import Derived.Test.YtkjpjppfmfifeaaKnd2
import Derived.Deep.Light
namespace Go.Proofs.Ytkjpjppfmfifeaa
open Go.RowKit Fl
set_option linter.unusedVariables false

theorem bytes_len (s : ByteArray) : s.toList.length = s.size := by
  rw [Go.ByteArray.toList_eq]; rfl
structure ErrOf (k : Knd) : Prop where
  fld : fldE 10 k.f ≠ 0 → k.err = fldE 10 k.f
  ord : fldE 10 k.f = 0 → FloatKind.f32.format.order k.hi k.lo = some .lt ∨ FloatKind.f32.format.order k.da k.dr = some .lt → k.err = 8
  rng : fldE 10 k.f = 0 → ¬ FloatKind.f32.format.order k.hi k.lo = some .lt → ¬ FloatKind.f32.format.order k.da k.dr = some .lt →
    FloatKind.f32.format.order k.so 0 = some .lt ∨ FloatKind.f32.format.order k.st 0 = some .lt ∨ FloatKind.f32.format.order k.dr 0 = some .lt ∨ FloatKind.f32.format.order k.to 0 = some .lt ∨ FloatKind.f32.format.order k.pa 0 = some .lt ∨ FloatKind.f32.format.order k.sh 0 = some .lt ∨ FloatKind.f32.format.order k.sh 1065353216 = some .gt ∨ FloatKind.f32.format.order k.ba 0 = some .lt ∨ FloatKind.f32.format.order k.ba 1065353216 = some .gt → k.err = 3
  far : fldE 10 k.f = 0 → ¬ FloatKind.f32.format.order k.hi k.lo = some .lt → ¬ FloatKind.f32.format.order k.da k.dr = some .lt → k.sp < 0 ∨ 32 < k.sp ∨ k.th < 0 ∨ 32 < k.th → k.err = 3
  ok : fldE 10 k.f = 0 → ¬ FloatKind.f32.format.order k.hi k.lo = some .lt → ¬ FloatKind.f32.format.order k.da k.dr = some .lt →
    ¬ FloatKind.f32.format.order k.so 0 = some .lt → ¬ FloatKind.f32.format.order k.st 0 = some .lt → ¬ FloatKind.f32.format.order k.dr 0 = some .lt → ¬ FloatKind.f32.format.order k.to 0 = some .lt → ¬ FloatKind.f32.format.order k.pa 0 = some .lt → ¬ FloatKind.f32.format.order k.sh 0 = some .lt → ¬ FloatKind.f32.format.order k.sh 1065353216 = some .gt → ¬ FloatKind.f32.format.order k.ba 0 = some .lt → ¬ FloatKind.f32.format.order k.ba 1065353216 = some .gt →
    0 ≤ k.sp → k.sp ≤ 32 → 0 ≤ k.th → k.th ≤ 32 → k.err = 0
theorem ltB_iff {a b : Nat} : ltB a b = true ↔ FloatKind.f32.format.order a b = some .lt := by unfold ltB; simp
theorem ltB_no {a b : Nat} : ltB a b = false ↔ ¬ FloatKind.f32.format.order a b = some .lt := by rw [← ltB_iff]; simp
theorem err_of {k : Knd} (n : namB k.name = true) : ErrOf k := by
  refine ⟨err_fld n, fun h o => err_ord n h (by rw [ltB_iff, ltB_iff]; exact o), fun h o1 o2 r => ?_, fun h o1 o2 r => ?_, fun h o1 o2 r1 r2 r3 r4 r5 r6 r7 r8 r9 s1 s2 s3 s4 => ?_⟩
  · rw [err_rest n h (ltB_no.2 o1) (ltB_no.2 o2), if_pos]
    unfold Knd.rng
    simp only [ltB]
    simp
    grind
  · rw [err_rest n h (ltB_no.2 o1) (ltB_no.2 o2)]
    split
    · rfl
    · rw [if_pos (by simp only [withinB_no]; omega)]
  · rw [err_rest n h (ltB_no.2 o1) (ltB_no.2 o2), if_neg, if_neg]
    · rw [withinB_iff.2 ⟨s1, s2⟩, withinB_iff.2 ⟨s3, s4⟩]; simp
    · unfold Knd.rng
      simp [ltB, r1, r2, r3, r4, r5, r6, r7, r8, r9]

set_option maxHeartbeats 8000000 in
theorem qKindError_any (k : Knd) (hs : k.name.size ≤ 9223372036854775807) (w : World) : Calls Try.prog 40 #[kndV k] w fun e w' => e = .returned (.int .i64 k.err) ∧ Below w.heap.size w w' := by
  have CH := Lib.hid (fun p w (h : w.heap[p]? = some (tenO k)) => qNumberError_row p 0 10 10 k.f (by omega) w (flAt_ten h))
  go_enter Try.func40, Try.ntmps40
  go_wp2
  go_loop [8] (fun i => ∃ j : Nat, j ≤ k.name.size ∧ i = .int .i64 j ∧ allB j (fun i => decide (97 ≤ byt k.name i ∧ byt k.name i ≤ 122)) = true) (fun i => k.name.size - (intOf i).toNat)
  case atStart => exact ⟨0, Nat.zero_le _, rfl, rfl⟩
  case round =>
    obtain ⟨j, hj, rfl, hall⟩ := hrel
    have HA := Lib.hid hall
    clear hall
    by_cases hlt : j < k.name.size
    · obtain ⟨B, hB⟩ : ∃ B, byt k.name j = B := ⟨_, rfl⟩
      have e1 : ((k.name[((j : Int)).toNat]'(by omega)).toNat : Int) = B := by rw [← hB]; exact byt_at (by omega)
      have ix : ∀ w : World, (Instr.index 9 (.string k.name) (.int .i64 (j : Int))).run Try.prog w = .ok (.int .u8 B) w := fun w => by
        rw [run_index_string (P := Try.prog) w 9 k.name .i64 j Try.underlying9, dif_pos ⟨by omega, by omega⟩, e1]
      have C := Lib.hid hB
      clear e1 hB
      by_cases c : 97 ≤ B ∧ B ≤ 122
      · obtain ⟨c1, c2⟩ := c
        go_wp2
        go_round
        case rel => exact ⟨j + 1, by omega, by go_num, allB_iff.2 fun i hi => by
          rcases Nat.lt_or_ge i j with c | c
          · exact allB_iff.1 HA.out i c
          · rw [show i = j by omega, C.out]; exact decide_eq_true ⟨c1, c2⟩⟩
        case measure => simp [intOf]; omega
      · have HN := Lib.hid (show namB k.name = false by
          unfold namB ltrB
          rw [allB_no hlt (by rw [C.out]; exact decide_eq_false c)]; rfl)
        by_cases c1 : B < 97
        · clear c
          go_wp2
          go_ret
          exact ⟨ret_int (err_name HN.out).symm, (by repeat (first | exact Below.refl _ _ | refine Below.alloc ?_ (by first | omega | (simp; done) | (simp; omega)) _ | refine Below.setCell ?_ (by first | omega | (simp; done) | (simp; omega)) _ | refine Below.drew ?_))⟩
        · have c2 : 122 < B := by omega
          clear c
          go_wp2
          go_ret
          exact ⟨ret_int (err_name HN.out).symm, (by repeat (first | exact Below.refl _ _ | refine Below.alloc ?_ (by first | omega | (simp; done) | (simp; omega)) _ | refine Below.setCell ?_ (by first | omega | (simp; done) | (simp; omega)) _ | refine Below.drew ?_))⟩
    · have hkn : j = k.name.size := by omega
      subst hkn
      have HLEN := Lib.hid (bytes_len k.name)
      have HL := Lib.hid (show ltrB k.name = true from HA.out)
      go_wp2_with (first | (go_at_call 43; refine (CH.out _ _ (by ((simp only [heap_alloc_get, heap_size_alloc, if_true]) <;> ((repeat' split) <;> first | rfl | omega)))).mono ?_; rintro e w' ⟨rfl, rfl⟩))
      all_goals go_ret
      all_goals refine ⟨ret_int (Eq.symm ?_), (by repeat (first | exact Below.refl _ _ | refine Below.alloc ?_ (by first | omega | (simp; done) | (simp; omega)) _ | refine Below.setCell ?_ (by first | omega | (simp; done) | (simp; omega)) _ | refine Below.drew ?_))⟩
      all_goals go_light
      all_goals have hlen := HLEN.out
      all_goals have hL := HL.out
      all_goals first
        | (have q : k.name.toList = [] := by assumption
           refine err_name ?_; unfold namB; rw [hL, withinB_no.2 ?_]; rfl; rw [q] at hlen; simp at hlen; omega)
        | (have q : k.name.toList.isEmpty = true ∨ 20 < (k.name.size : Int) := by assumption
           refine err_name ?_; unfold namB; rw [hL, withinB_no.2 ?_]; rfl; rcases q with q | q; (rw [List.isEmpty_iff] at q; rw [q] at hlen; simp at hlen; omega); omega)
        | (have n : namB k.name = true := by
             unfold namB; rw [hL, withinB_iff.2]; rfl
             have : k.name.toList ≠ [] := by assumption
             have : 0 < k.name.toList.length := List.length_pos_iff.2 this
             have q : k.name.toList.isEmpty = false ∧ (k.name.size : Int) ≤ 20 := by assumption
             omega
           obtain ⟨e1, e2, e3, e4, e5⟩ := err_of n
           clear n hL hlen
           grind)
end Go.Proofs.Ytkjpjppfmfifeaa
