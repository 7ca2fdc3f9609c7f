/- Contracts: shape's ease and fade, the closures of Select and Terrace; selected and terraced of the reference. -/
import Derived.Test.YtjjhhnoeiglnhabSel
namespace Go.Proofs.Ytjjhhnoeiglnhab
open Go.RowKit Fl
set_option linter.unusedVariables false

set_option maxHeartbeats 400000 in
theorem sease_any (t p q r v : Nat) (E : EaseAt t p q r v) (h : wiE t 0 1065353216 = 0) (w : World) :
    Calls Try.prog 179 #[.float .f32 t] w fun e w' => e = .returned (.float .f32 (easeW t)) ∧ w = w' := by
  have EX := Lib.hid (fun w => easeX_ok t p q r v E h w)
  clear E h
  go_enter Try.func179, Try.ntmps179
  go_wp2_with (first | (go_at_call 203; refine (EX.out _).mono ?_; rintro e w' ⟨rfl, rfl⟩))
  go_ret
  exact ⟨rfl, rfl⟩

set_option maxHeartbeats 400000 in
theorem fade_any (d so : Nat) (a b : Int) (hd : vS d = some a) (hs : vS so = some b) (a0 : 0 ≤ a) (w : World) :
    Calls Try.prog 111 #[.float .f32 d, .float .f32 so] w fun e w' => e = .returned (.float .f32 (fadeW d so)) ∧ w = w' := by
  unfold fadeW
  cases hc : ltB d so with
  | true =>
    have hab : a < b := by unfold ltB at hc; rw [f32f, lss_val hd hs] at hc; simpa using hc
    obtain ⟨q, p1, q1, r1, e, r, A⟩ := fade_parts hd hs a0 hab
    rw [if_pos rfl, A.w]
    have g1 : (FloatKind.f32.format.order d so == some .gt || FloatKind.f32.format.order d so == some .eq) = false := by rw [f32f, geq_val hd hs]; simp; omega
    have a1 := fun (W : World) => run_float_arith (P := Try.prog) W .quo 37 .f32 d so q A.q1'
    have a2 := fun (W : World) => run_float_arith (P := Try.prog) W .sub 37 .f32 1065353216 e r A.r1'
    have SE := Lib.hid (fun w => sease_any q p1 q1 r1 e A.ea A.wi w)
    rw [A.ea.w] at SE
    clear A hc hab hd hs a0
    go_enter Try.func111, Try.ntmps111
    go_wp2_with (first | (go_at_call 179; refine (SE.out _).mono ?_; rintro e w' ⟨rfl, rfl⟩))
    go_ret
    exact ⟨rfl, rfl⟩
  | false =>
    have hab : ¬ a < b := by unfold ltB at hc; rw [f32f, lss_val hd hs] at hc; simpa using hc
    have g1 : (FloatKind.f32.format.order d so == some .gt || FloatKind.f32.format.order d so == some .eq) = true := by rw [f32f, geq_val hd hs]; simp; omega
    rw [if_neg (by simp)]
    clear hc hab hd hs a0
    go_enter Try.func111, Try.ntmps111
    go_wp2
    go_ret
    exact ⟨rfl, rfl⟩

set_option maxHeartbeats 1000000 in
theorem sel1_any (v lo hi so : Nat) (x y : Int) (p1 p2 p3 : Nat) (w : World) (k1 : w.heap[p1]? = some (flObj lo)) (k2 : w.heap[p2]? = some (flObj hi)) (k3 : w.heap[p3]? = some (flObj so))
    (hv : hgtB v = true) (hl : hgtB lo = true) (hh : hgtB hi = true) (hs : hgtB so = true) :
    Calls Try.prog 110 #[.float .f32 v, .int .i64 x, .int .i64 y, .pointer (some ⟨p1, 0, none⟩), .pointer (some ⟨p3, 0, none⟩), .pointer (some ⟨p2, 0, none⟩)] w fun e w' => e = .returned (.float .f32 (selW v lo hi so)) ∧ w = w' := by
  obtain ⟨b, hb, _⟩ := hgt_val hs
  obtain ⟨cP, fP, zP⟩ := blkC k1
  obtain ⟨cQ, fQ, zQ⟩ := blkC k2
  obtain ⟨cR, fR, zR⟩ := blkC k3
  cases c1 : ltB v lo with
  | true =>
    obtain ⟨d, a, e1, _, hd, a0, _⟩ := diff_pos hv hl c1
    have e : selW v lo hi so = fadeW d so := by unfold selW; rw [if_pos c1]; unfold subW; rw [e1]; rfl
    rw [e]
    have FD := Lib.hid (fun w => fade_any d so a b hd hb a0 w)
    generalize fadeW d so = r at *
    have a1 := fun (W : World) => run_float_arith (P := Try.prog) W .sub 37 .f32 lo v d e1
    unfold ltB at c1
    clear e k1 k2 k3 hv hl hh hs hb hd a0 e1
    go_enter Try.func110, Try.ntmps110
    go_wp2_with (first | (go_at_call 111; refine (FD.out _).mono ?_; rintro e w' ⟨rfl, rfl⟩))
    go_ret
    exact ⟨rfl, rfl⟩
  | false =>
    cases c2 : (FloatKind.f32.format.order v hi == some .gt) with
    | true =>
      obtain ⟨av, hav, _⟩ := hgt_val hv
      obtain ⟨ah, hah, _⟩ := hgt_val hh
      have c3 : ltB hi v = true := by
        have c := c2
        rw [f32f, gtr_val hav hah] at c
        unfold ltB; rw [f32f, lss_val hah hav]; simpa using c
      obtain ⟨d, a, e1, _, hd, a0, _⟩ := diff_pos hh hv c3
      have e : selW v lo hi so = fadeW d so := by unfold selW; rw [if_neg (by rw [c1]; simp), if_pos c2]; unfold subW; rw [e1]; rfl
      rw [e]
      have FD := Lib.hid (fun w => fade_any d so a b hd hb a0 w)
      generalize fadeW d so = r at *
      have a1 := fun (W : World) => run_float_arith (P := Try.prog) W .sub 37 .f32 v hi d e1
      unfold ltB at c1
      clear e k1 k2 k3 hv hl hh hs hb hd a0 e1 c3 hav hah
      go_enter Try.func110, Try.ntmps110
      go_wp2_with (first | (go_at_call 111; refine (FD.out _).mono ?_; rintro e w' ⟨rfl, rfl⟩))
      go_ret
      exact ⟨rfl, rfl⟩
    | false =>
      have e : selW v lo hi so = 1065353216 := by unfold selW; rw [if_neg (by rw [c1]; simp), if_neg (by rw [c2]; simp)]
      rw [e]
      unfold ltB at c1
      clear e k1 k2 k3 hv hl hh hs hb
      go_enter Try.func110, Try.ntmps110
      go_wp2
      go_ret
      exact ⟨rfl, rfl⟩

set_option maxHeartbeats 1000000 in
theorem rfade_tail (d so : Nat) (a b : Int) (hd : vS d = some a) (hs : vS so = some b) (a0 : 0 ≤ a) (hc : ltB d so = true) :
    ∃ q e r, (∀ w, Calls Try.prog 105 #[.float .f32 d, .float .f32 so] w fun e w' => e = .returned (.float .f32 q) ∧ w = w') ∧ (∀ w, Calls Try.prog 180 #[.float .f32 q] w fun e' w' => e' = .returned (.float .f32 e) ∧ w = w') ∧
      (∀ w, Calls Try.prog 86 #[.float .f32 1065353216, .float .f32 e] w fun e w' => e = .returned (.float .f32 r) ∧ w = w') ∧ fadeW d so = r := by
  have hab : a < b := by unfold ltB at hc; rw [f32f, lss_val hd hs] at hc; simpa using hc
  obtain ⟨q, p1, q1, r1, e, r, A⟩ := fade_parts hd hs a0 hab
  refine ⟨q, e, r, fun w => refDiv_any 0 d so q A.q2' A.q1' w, fun w => ?_, fun w => refSub_any 4 1065353216 e r A.r2' A.r1' w, by unfold fadeW; rw [if_pos hc, A.w]⟩
  have := refEase_any q p1 q1 r1 e A.ea w
  rw [A.ea.w] at this
  exact this

set_option maxHeartbeats 1000000 in
theorem selected_any (v lo hi so : Nat) (w : World) (hv : hgtB v = true) (hl : hgtB lo = true) (hh : hgtB hi = true) (hs : hgtB so = true) :
    Calls Try.prog 114 #[.float .f32 v, .float .f32 lo, .float .f32 hi, .float .f32 so] w fun e w' => e = .returned (.float .f32 (selW v lo hi so)) ∧ w = w' := by
  obtain ⟨b, hb, _⟩ := hgt_val hs
  cases c1 : ltB v lo with
  | true =>
    obtain ⟨d, a, e1, s1, hd, a0, _⟩ := diff_pos hv hl c1
    have e : selW v lo hi so = fadeW d so := by unfold selW; rw [if_pos c1]; unfold subW; rw [e1]; rfl
    rw [e]
    have SB := Lib.hid (fun w => refSub_any 21 lo v d s1 e1 w)
    cases c4 : ltB d so with
    | true =>
      obtain ⟨q, ee, r, D1, D2, D3, e4⟩ := rfade_tail d so a b hd hb a0 c4
      rw [e4]
      have DV := Lib.hid D1
      have EA := Lib.hid D2
      have S2 := Lib.hid D3
      unfold ltB at c1 c4
      clear e hv hl hh hs hb hd a0 e1 s1 D1 D2 D3 e4
      go_enter Try.func114, Try.ntmps114
      go_wp2_with (first | (go_at_call 86; (with_reducible refine (SB.out _).mono ?_); rintro e w' ⟨rfl, rfl⟩) | (go_at_call 86; (with_reducible refine (S2.out _).mono ?_); rintro e w' ⟨rfl, rfl⟩) | (go_at_call 105; refine (DV.out _).mono ?_; rintro e w' ⟨rfl, rfl⟩) | (go_at_call 180; refine (EA.out _).mono ?_; rintro e w' ⟨rfl, rfl⟩))
      go_ret
      exact ⟨rfl, rfl⟩
    | false =>
      have e4 : fadeW d so = 0 := by unfold fadeW; rw [if_neg (by rw [c4]; simp)]
      rw [e4]
      unfold ltB at c1 c4
      clear e hv hl hh hs hb hd a0 e1 s1 e4
      go_enter Try.func114, Try.ntmps114
      go_wp2_with (first | (go_at_call 86; (with_reducible refine (SB.out _).mono ?_); rintro e w' ⟨rfl, rfl⟩))
      go_ret
      exact ⟨rfl, rfl⟩
  | false =>
    cases c2 : (FloatKind.f32.format.order v hi == some .gt) with
    | true =>
      obtain ⟨av, hav, _⟩ := hgt_val hv
      obtain ⟨ah, hah, _⟩ := hgt_val hh
      have c3 : ltB hi v = true := by
        have c := c2
        rw [f32f, gtr_val hav hah] at c
        unfold ltB; rw [f32f, lss_val hah hav]; simpa using c
      obtain ⟨d, a, e1, s1, hd, a0, _⟩ := diff_pos hh hv c3
      have e : selW v lo hi so = fadeW d so := by unfold selW; rw [if_neg (by rw [c1]; simp), if_pos c2]; unfold subW; rw [e1]; rfl
      rw [e]
      have SB := Lib.hid (fun w => refSub_any 21 v hi d s1 e1 w)
      cases c4 : ltB d so with
      | true =>
        obtain ⟨q, ee, r, D1, D2, D3, e4⟩ := rfade_tail d so a b hd hb a0 c4
        rw [e4]
        have DV := Lib.hid D1
        have EA := Lib.hid D2
        have S2 := Lib.hid D3
        unfold ltB at c1 c4
        clear e hv hl hh hs hb hd a0 e1 s1 D1 D2 D3 e4 c3 hav hah
        go_enter Try.func114, Try.ntmps114
        go_wp2_with (first | (go_at_call 86; (with_reducible refine (SB.out _).mono ?_); rintro e w' ⟨rfl, rfl⟩) | (go_at_call 86; (with_reducible refine (S2.out _).mono ?_); rintro e w' ⟨rfl, rfl⟩) | (go_at_call 105; refine (DV.out _).mono ?_; rintro e w' ⟨rfl, rfl⟩) | (go_at_call 180; refine (EA.out _).mono ?_; rintro e w' ⟨rfl, rfl⟩))
        go_ret
        exact ⟨rfl, rfl⟩
      | false =>
        have e4 : fadeW d so = 0 := by unfold fadeW; rw [if_neg (by rw [c4]; simp)]
        rw [e4]
        unfold ltB at c1 c4
        clear e hv hl hh hs hb hd a0 e1 s1 e4 c3 hav hah
        go_enter Try.func114, Try.ntmps114
        go_wp2_with (first | (go_at_call 86; (with_reducible refine (SB.out _).mono ?_); rintro e w' ⟨rfl, rfl⟩))
        go_ret
        exact ⟨rfl, rfl⟩
    | false =>
      have e : selW v lo hi so = 1065353216 := by unfold selW; rw [if_neg (by rw [c1]; simp), if_neg (by rw [c2]; simp)]
      rw [e]
      unfold ltB at c1
      clear e hv hl hh hs hb
      go_enter Try.func114, Try.ntmps114
      go_wp2
      go_ret
      exact ⟨rfl, rfl⟩

set_option maxHeartbeats 1000000 in
theorem ter1_any (v st sh : Nat) (x y : Int) (p1 p2 : Nat) (w : World) (k1 : w.heap[p1]? = some (flObj st)) (k2 : w.heap[p2]? = some (flObj sh)) (hv : hgtB v = true) (hs : StepOk st) (hsh : ShOk sh) :
    Calls Try.prog 115 #[.float .f32 v, .int .i64 x, .int .i64 y, .pointer (some ⟨p1, 0, none⟩), .pointer (some ⟨p2, 0, none⟩)] w fun e w' => e = .returned (.float .f32 (terW v st sh)) ∧ w = w' := by
  obtain ⟨q, d, c, u, xx, yy, j, r, T⟩ := ter_parts hv hs hsh
  rw [T.w]
  obtain ⟨aq, haq⟩ := T.fq
  have FL := Lib.hid (fun w => floor_any q 30 aq haq T.bq (by omega) w)
  obtain ⟨cP, fP, zP⟩ := blkC k1
  obtain ⟨cQ, fQ, zQ⟩ := blkC k2
  have a1 := fun (W : World) => run_float_arith (P := Try.prog) W .quo 37 .f32 v st q T.q1
  have a2 := fun (W : World) => run_float_arith (P := Try.prog) W .sub 37 .f32 q (flW q) d T.d1
  have a3 := fun (W : World) => run_float_arith (P := Try.prog) W .sub 37 .f32 d sh u T.u1
  have a4 := fun (W : World) => run_float_arith (P := Try.prog) W .sub 37 .f32 1065353216 sh xx T.x1
  have a5 := fun (W : World) => run_float_arith (P := Try.prog) W .quo 37 .f32 u xx yy T.y1
  have a7 := fun (W : World) => run_float_arith (P := Try.prog) W .mul 37 .f32 j st r T.r1
  have c1 := T.c1
  unfold ltB at c1
  cases c with
  | true =>
    have ej := T.j3 rfl
    subst ej
    generalize flW q = fq at *
    clear T haq hv hs hsh k1 k2
    go_enter Try.func115, Try.ntmps115
    go_wp2_with (first | (go_at_call 116; refine (FL.out _).mono ?_; rintro e w' ⟨rfl, rfl⟩))
    go_ret
    exact ⟨rfl, rfl⟩
  | false =>
    have a6 := fun (W : World) => run_float_arith (P := Try.prog) W .add 37 .f32 (flW q) yy j (T.j1 rfl)
    generalize flW q = fq at *
    clear T haq hv hs hsh k1 k2
    go_enter Try.func115, Try.ntmps115
    go_wp2_with (first | (go_at_call 116; refine (FL.out _).mono ?_; rintro e w' ⟨rfl, rfl⟩))
    go_ret
    exact ⟨rfl, rfl⟩

set_option maxHeartbeats 1000000 in
theorem terraced_any (v st sh : Nat) (w : World) (hv : hgtB v = true) (hs : StepOk st) (hsh : ShOk sh) :
    Calls Try.prog 119 #[.float .f32 v, .float .f32 st, .float .f32 sh] w fun e w' => e = .returned (.float .f32 (terW v st sh)) ∧ w = w' := by
  obtain ⟨q, d, c, u, xx, yy, j, r, T⟩ := ter_parts hv hs hsh
  rw [T.w]
  obtain ⟨aq, haq⟩ := T.fq
  have FL := Lib.hid (fun w => refFloor_any q 30 aq haq T.bq (by omega) w)
  have D1 := Lib.hid (fun w => refDiv_any 30 v st q T.q2 T.q1 w)
  have S1 := Lib.hid (fun w => refSub_any 32 q (flW q) d T.d2 T.d1 w)
  have S2 := Lib.hid (fun w => refSub_any 33 d sh u T.u2 T.u1 w)
  have S3 := Lib.hid (fun w => refSub_any 1 1065353216 sh xx T.x2 T.x1 w)
  have D2 := Lib.hid (fun w => refDiv_any 60 u xx yy T.y2 T.y1 w)
  have ML := Lib.hid (fun w => refMul_any 72 j st r T.r2 T.r1 w)
  have c1 := T.c1
  unfold ltB at c1
  cases c with
  | true =>
    have ej := T.j3 rfl
    subst ej
    generalize flW q = fq at *
    clear T haq hv hs hsh
    go_enter Try.func119, Try.ntmps119
    go_wp2_with (first | (go_at_call 182; refine (FL.out _).mono ?_; rintro e w' ⟨rfl, rfl⟩) | (go_at_call 105; (with_reducible refine (D1.out _).mono ?_); rintro e w' ⟨rfl, rfl⟩) | (go_at_call 86; (with_reducible refine (S1.out _).mono ?_); rintro e w' ⟨rfl, rfl⟩) | (go_at_call 81; refine (ML.out _).mono ?_; rintro e w' ⟨rfl, rfl⟩))
    go_ret
    exact ⟨rfl, rfl⟩
  | false =>
    have AD := Lib.hid (fun w => refAdd_any 61 (flW q) yy j (T.j2 rfl) (T.j1 rfl) w)
    generalize flW q = fq at *
    clear T haq hv hs hsh
    go_enter Try.func119, Try.ntmps119
    go_wp2_with (first | (go_at_call 182; refine (FL.out _).mono ?_; rintro e w' ⟨rfl, rfl⟩) | (go_at_call 105; (with_reducible refine (D1.out _).mono ?_); rintro e w' ⟨rfl, rfl⟩) | (go_at_call 105; (with_reducible refine (D2.out _).mono ?_); rintro e w' ⟨rfl, rfl⟩) | (go_at_call 86; (with_reducible refine (S1.out _).mono ?_); rintro e w' ⟨rfl, rfl⟩) | (go_at_call 86; (with_reducible refine (S2.out _).mono ?_); rintro e w' ⟨rfl, rfl⟩) | (go_at_call 86; (with_reducible refine (S3.out _).mono ?_); rintro e w' ⟨rfl, rfl⟩) | (go_at_call 80; refine (AD.out _).mono ?_; rintro e w' ⟨rfl, rfl⟩) | (go_at_call 81; refine (ML.out _).mono ?_; rintro e w' ⟨rfl, rfl⟩))
    go_ret
    exact ⟨rfl, rfl⟩
end Go.Proofs.Ytjjhhnoeiglnhab
