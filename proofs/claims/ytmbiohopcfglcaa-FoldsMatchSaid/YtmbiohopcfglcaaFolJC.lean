/- Lemmas and contracts for the proof that the last text of this claim holds. -/
import Derived.Test.YtmbiohopcfglcaaFolJB
import Derived.StillTailTactics
import Derived.Deep.AppendLies
import Derived.Deep.RegionLaw
import Derived.RegionTactic
import Derived.ChangeAlike

/- Contracts: shape's ease and fade, the closures of Select and Terrace; selected and terraced of the reference. -/
namespace Go.Proofs.Ytmbiohopcfglcaa
open Go.RowKit Fl
set_option linter.unusedVariables false

set_option maxHeartbeats 400000 in
theorem sease_any (t p q r v : Nat) (E : EaseAt t p q r v) (h : wiE t 0 1065353216 = 0) (w : World) :
    Calls Try.prog 188 #[.float .f32 t] w fun e w' => e = .returned (.float .f32 (easeW t)) ∧ w = w' := by
  have EX := Lib.hid (fun w => easeX_ok t p q r v E h w)
  clear E h
  go_enter Try.func188, Try.ntmps188
  go_wp2_with (first | (go_at_call 218; refine (EX.out _).mono ?_; rintro e w' ⟨rfl, rfl⟩))
  go_ret
  exact ⟨rfl, rfl⟩

set_option maxHeartbeats 400000 in
theorem fade_any (d so : Nat) (a b : Int) (hd : vS d = some a) (hs : vS so = some b) (a0 : 0 ≤ a) (w : World) :
    Calls Try.prog 106 #[.float .f32 d, .float .f32 so] w fun e w' => e = .returned (.float .f32 (fadeW d so)) ∧ w = w' := by
  unfold fadeW
  cases hc : ltB d so with
  | true =>
    have hab : a < b := by unfold ltB at hc; rw [f32f, lss_val hd hs] at hc; simpa using hc
    obtain ⟨q, p1, q1, r1, e, r, A⟩ := fade_parts hd hs a0 hab
    rw [if_pos rfl, A.w]
    have g1 : (FloatKind.f32.format.order d so == some .gt || FloatKind.f32.format.order d so == some .eq) = false := by rw [f32f, geq_val hd hs]; simp; omega
    have a1 := fun (W : World) => run_float_arith (P := Try.prog) W .quo 22 .f32 d so q A.q1'
    have a2 := fun (W : World) => run_float_arith (P := Try.prog) W .sub 22 .f32 1065353216 e r A.r1'
    have SE := Lib.hid (fun w => sease_any q p1 q1 r1 e A.ea A.wi w)
    rw [A.ea.w] at SE
    clear A hc hab hd hs a0
    go_enter Try.func106, Try.ntmps106
    go_wp2_with (first | (go_at_call 188; refine (SE.out _).mono ?_; rintro e w' ⟨rfl, rfl⟩))
    go_ret
    exact ⟨rfl, rfl⟩
  | false =>
    have hab : ¬ a < b := by unfold ltB at hc; rw [f32f, lss_val hd hs] at hc; simpa using hc
    have g1 : (FloatKind.f32.format.order d so == some .gt || FloatKind.f32.format.order d so == some .eq) = true := by rw [f32f, geq_val hd hs]; simp; omega
    rw [if_neg (by simp)]
    clear hc hab hd hs a0
    go_enter Try.func106, Try.ntmps106
    go_wp2
    go_ret
    exact ⟨rfl, rfl⟩

set_option maxHeartbeats 1000000 in
theorem sel1_any (v lo hi so : Nat) (x y : Int) (p1 p2 p3 : Nat) (w : World) (k1 : w.heap[p1]? = some (flObj lo)) (k2 : w.heap[p2]? = some (flObj hi)) (k3 : w.heap[p3]? = some (flObj so))
    (hv : hgtB v = true) (hl : hgtB lo = true) (hh : hgtB hi = true) (hs : hgtB so = true) :
    Calls Try.prog 105 #[.float .f32 v, .int .i64 x, .int .i64 y, .pointer (some ⟨p1, 0, none⟩), .pointer (some ⟨p3, 0, none⟩), .pointer (some ⟨p2, 0, none⟩)] w fun e w' => e = .returned (.float .f32 (selW v lo hi so)) ∧ w = w' := by
  obtain ⟨b, hb, _⟩ := hgt_val hs
  obtain ⟨cP, fP, zP⟩ := blkC k1
  obtain ⟨cQ, fQ, zQ⟩ := blkC k2
  obtain ⟨cR, fR, zR⟩ := blkC k3
  cases c1 : ltB v lo with
  | true =>
    obtain ⟨d, a, e1, _, hd, a0, _⟩ := diff_pos hv hl c1
    have e : selW v lo hi so = fadeW d so := by unfold selW; rw [if_pos c1]; unfold subW; rw [e1]; rfl
    rw [e]
    have FD := Lib.hid (fun w => fade_any d so a b hd hb a0 w)
    generalize fadeW d so = r at *
    have a1 := fun (W : World) => run_float_arith (P := Try.prog) W .sub 22 .f32 lo v d e1
    unfold ltB at c1
    clear e k1 k2 k3 hv hl hh hs hb hd a0 e1
    go_enter Try.func105, Try.ntmps105
    go_wp2_with (first | (go_at_call 106; refine (FD.out _).mono ?_; rintro e w' ⟨rfl, rfl⟩))
    go_ret
    exact ⟨rfl, rfl⟩
  | false =>
    cases c2 : (FloatKind.f32.format.order v hi == some .gt) with
    | true =>
      obtain ⟨av, hav, _⟩ := hgt_val hv
      obtain ⟨ah, hah, _⟩ := hgt_val hh
      have c3 : ltB hi v = true := by
        have c := c2
        rw [f32f, gtr_val hav hah] at c
        unfold ltB; rw [f32f, lss_val hah hav]; simpa using c
      obtain ⟨d, a, e1, _, hd, a0, _⟩ := diff_pos hh hv c3
      have e : selW v lo hi so = fadeW d so := by unfold selW; rw [if_neg (by rw [c1]; simp), if_pos c2]; unfold subW; rw [e1]; rfl
      rw [e]
      have FD := Lib.hid (fun w => fade_any d so a b hd hb a0 w)
      generalize fadeW d so = r at *
      have a1 := fun (W : World) => run_float_arith (P := Try.prog) W .sub 22 .f32 v hi d e1
      unfold ltB at c1
      clear e k1 k2 k3 hv hl hh hs hb hd a0 e1 c3 hav hah
      go_enter Try.func105, Try.ntmps105
      go_wp2_with (first | (go_at_call 106; refine (FD.out _).mono ?_; rintro e w' ⟨rfl, rfl⟩))
      go_ret
      exact ⟨rfl, rfl⟩
    | false =>
      have e : selW v lo hi so = 1065353216 := by unfold selW; rw [if_neg (by rw [c1]; simp), if_neg (by rw [c2]; simp)]
      rw [e]
      unfold ltB at c1
      clear e k1 k2 k3 hv hl hh hs hb
      go_enter Try.func105, Try.ntmps105
      go_wp2
      go_ret
      exact ⟨rfl, rfl⟩

set_option maxHeartbeats 1000000 in
theorem rfade_tail (d so : Nat) (a b : Int) (hd : vS d = some a) (hs : vS so = some b) (a0 : 0 ≤ a) (hc : ltB d so = true) :
    ∃ q e r, (∀ w, Calls Try.prog 102 #[.float .f32 d, .float .f32 so] w fun e w' => e = .returned (.float .f32 q) ∧ w = w') ∧ (∀ w, Calls Try.prog 189 #[.float .f32 q] w fun e' w' => e' = .returned (.float .f32 e) ∧ w = w') ∧
      (∀ w, Calls Try.prog 101 #[.float .f32 1065353216, .float .f32 e] w fun e w' => e = .returned (.float .f32 r) ∧ w = w') ∧ fadeW d so = r := by
  have hab : a < b := by unfold ltB at hc; rw [f32f, lss_val hd hs] at hc; simpa using hc
  obtain ⟨q, p1, q1, r1, e, r, A⟩ := fade_parts hd hs a0 hab
  refine ⟨q, e, r, fun w => refDiv_any 0 d so q A.q2' A.q1' w, fun w => ?_, fun w => refSub_any 4 1065353216 e r A.r2' A.r1' w, by unfold fadeW; rw [if_pos hc, A.w]⟩
  have := refEase_any q p1 q1 r1 e A.ea w
  rw [A.ea.w] at this
  exact this

set_option maxHeartbeats 1000000 in
theorem selected_any (v lo hi so : Nat) (w : World) (hv : hgtB v = true) (hl : hgtB lo = true) (hh : hgtB hi = true) (hs : hgtB so = true) :
    Calls Try.prog 109 #[.float .f32 v, .float .f32 lo, .float .f32 hi, .float .f32 so] w fun e w' => e = .returned (.float .f32 (selW v lo hi so)) ∧ w = w' := by
  obtain ⟨b, hb, _⟩ := hgt_val hs
  cases c1 : ltB v lo with
  | true =>
    obtain ⟨d, a, e1, s1, hd, a0, _⟩ := diff_pos hv hl c1
    have e : selW v lo hi so = fadeW d so := by unfold selW; rw [if_pos c1]; unfold subW; rw [e1]; rfl
    rw [e]
    have SB := Lib.hid (fun w => refSub_any 21 lo v d s1 e1 w)
    cases c4 : ltB d so with
    | true =>
      obtain ⟨q, ee, r, D1, D2, D3, e4⟩ := rfade_tail d so a b hd hb a0 c4
      rw [e4]
      have DV := Lib.hid D1
      have EA := Lib.hid D2
      have S2 := Lib.hid D3
      unfold ltB at c1 c4
      clear e hv hl hh hs hb hd a0 e1 s1 D1 D2 D3 e4
      go_enter Try.func109, Try.ntmps109
      go_wp2_with (first | (go_at_call 101; (with_reducible refine (SB.out _).mono ?_); rintro e w' ⟨rfl, rfl⟩) | (go_at_call 101; (with_reducible refine (S2.out _).mono ?_); rintro e w' ⟨rfl, rfl⟩) | (go_at_call 102; refine (DV.out _).mono ?_; rintro e w' ⟨rfl, rfl⟩) | (go_at_call 189; refine (EA.out _).mono ?_; rintro e w' ⟨rfl, rfl⟩))
      go_ret
      exact ⟨rfl, rfl⟩
    | false =>
      have e4 : fadeW d so = 0 := by unfold fadeW; rw [if_neg (by rw [c4]; simp)]
      rw [e4]
      unfold ltB at c1 c4
      clear e hv hl hh hs hb hd a0 e1 s1 e4
      go_enter Try.func109, Try.ntmps109
      go_wp2_with (first | (go_at_call 101; (with_reducible refine (SB.out _).mono ?_); rintro e w' ⟨rfl, rfl⟩))
      go_ret
      exact ⟨rfl, rfl⟩
  | false =>
    cases c2 : (FloatKind.f32.format.order v hi == some .gt) with
    | true =>
      obtain ⟨av, hav, _⟩ := hgt_val hv
      obtain ⟨ah, hah, _⟩ := hgt_val hh
      have c3 : ltB hi v = true := by
        have c := c2
        rw [f32f, gtr_val hav hah] at c
        unfold ltB; rw [f32f, lss_val hah hav]; simpa using c
      obtain ⟨d, a, e1, s1, hd, a0, _⟩ := diff_pos hh hv c3
      have e : selW v lo hi so = fadeW d so := by unfold selW; rw [if_neg (by rw [c1]; simp), if_pos c2]; unfold subW; rw [e1]; rfl
      rw [e]
      have SB := Lib.hid (fun w => refSub_any 21 v hi d s1 e1 w)
      cases c4 : ltB d so with
      | true =>
        obtain ⟨q, ee, r, D1, D2, D3, e4⟩ := rfade_tail d so a b hd hb a0 c4
        rw [e4]
        have DV := Lib.hid D1
        have EA := Lib.hid D2
        have S2 := Lib.hid D3
        unfold ltB at c1 c4
        clear e hv hl hh hs hb hd a0 e1 s1 D1 D2 D3 e4 c3 hav hah
        go_enter Try.func109, Try.ntmps109
        go_wp2_with (first | (go_at_call 101; (with_reducible refine (SB.out _).mono ?_); rintro e w' ⟨rfl, rfl⟩) | (go_at_call 101; (with_reducible refine (S2.out _).mono ?_); rintro e w' ⟨rfl, rfl⟩) | (go_at_call 102; refine (DV.out _).mono ?_; rintro e w' ⟨rfl, rfl⟩) | (go_at_call 189; refine (EA.out _).mono ?_; rintro e w' ⟨rfl, rfl⟩))
        go_ret
        exact ⟨rfl, rfl⟩
      | false =>
        have e4 : fadeW d so = 0 := by unfold fadeW; rw [if_neg (by rw [c4]; simp)]
        rw [e4]
        unfold ltB at c1 c4
        clear e hv hl hh hs hb hd a0 e1 s1 e4 c3 hav hah
        go_enter Try.func109, Try.ntmps109
        go_wp2_with (first | (go_at_call 101; (with_reducible refine (SB.out _).mono ?_); rintro e w' ⟨rfl, rfl⟩))
        go_ret
        exact ⟨rfl, rfl⟩
    | false =>
      have e : selW v lo hi so = 1065353216 := by unfold selW; rw [if_neg (by rw [c1]; simp), if_neg (by rw [c2]; simp)]
      rw [e]
      unfold ltB at c1
      clear e hv hl hh hs hb
      go_enter Try.func109, Try.ntmps109
      go_wp2
      go_ret
      exact ⟨rfl, rfl⟩

set_option maxHeartbeats 1000000 in
theorem ter1_any (v st sh : Nat) (x y : Int) (p1 p2 : Nat) (w : World) (k1 : w.heap[p1]? = some (flObj st)) (k2 : w.heap[p2]? = some (flObj sh)) (hv : hgtB v = true) (hs : StepOk st) (hsh : ShOk sh) :
    Calls Try.prog 110 #[.float .f32 v, .int .i64 x, .int .i64 y, .pointer (some ⟨p1, 0, none⟩), .pointer (some ⟨p2, 0, none⟩)] w fun e w' => e = .returned (.float .f32 (terW v st sh)) ∧ w = w' := by
  obtain ⟨q, d, c, u, xx, yy, j, r, T⟩ := ter_parts hv hs hsh
  rw [T.w]
  obtain ⟨aq, haq⟩ := T.fq
  have FL := Lib.hid (fun w => floor_any q 30 aq haq T.bq (by omega) w)
  obtain ⟨cP, fP, zP⟩ := blkC k1
  obtain ⟨cQ, fQ, zQ⟩ := blkC k2
  have a1 := fun (W : World) => run_float_arith (P := Try.prog) W .quo 22 .f32 v st q T.q1
  have a2 := fun (W : World) => run_float_arith (P := Try.prog) W .sub 22 .f32 q (flW q) d T.d1
  have a3 := fun (W : World) => run_float_arith (P := Try.prog) W .sub 22 .f32 d sh u T.u1
  have a4 := fun (W : World) => run_float_arith (P := Try.prog) W .sub 22 .f32 1065353216 sh xx T.x1
  have a5 := fun (W : World) => run_float_arith (P := Try.prog) W .quo 22 .f32 u xx yy T.y1
  have a7 := fun (W : World) => run_float_arith (P := Try.prog) W .mul 22 .f32 j st r T.r1
  have c1 := T.c1
  unfold ltB at c1
  cases c with
  | true =>
    have ej := T.j3 rfl
    subst ej
    generalize flW q = fq at *
    clear T haq hv hs hsh k1 k2
    go_enter Try.func110, Try.ntmps110
    go_wp2_with (first | (go_at_call 111; refine (FL.out _).mono ?_; rintro e w' ⟨rfl, rfl⟩))
    go_ret
    exact ⟨rfl, rfl⟩
  | false =>
    have a6 := fun (W : World) => run_float_arith (P := Try.prog) W .add 22 .f32 (flW q) yy j (T.j1 rfl)
    generalize flW q = fq at *
    clear T haq hv hs hsh k1 k2
    go_enter Try.func110, Try.ntmps110
    go_wp2_with (first | (go_at_call 111; refine (FL.out _).mono ?_; rintro e w' ⟨rfl, rfl⟩))
    go_ret
    exact ⟨rfl, rfl⟩

set_option maxHeartbeats 1000000 in
theorem terraced_any (v st sh : Nat) (w : World) (hv : hgtB v = true) (hs : StepOk st) (hsh : ShOk sh) :
    Calls Try.prog 114 #[.float .f32 v, .float .f32 st, .float .f32 sh] w fun e w' => e = .returned (.float .f32 (terW v st sh)) ∧ w = w' := by
  obtain ⟨q, d, c, u, xx, yy, j, r, T⟩ := ter_parts hv hs hsh
  rw [T.w]
  obtain ⟨aq, haq⟩ := T.fq
  have FL := Lib.hid (fun w => refFloor_any q 30 aq haq T.bq (by omega) w)
  have D1 := Lib.hid (fun w => refDiv_any 30 v st q T.q2 T.q1 w)
  have S1 := Lib.hid (fun w => refSub_any 32 q (flW q) d T.d2 T.d1 w)
  have S2 := Lib.hid (fun w => refSub_any 33 d sh u T.u2 T.u1 w)
  have S3 := Lib.hid (fun w => refSub_any 1 1065353216 sh xx T.x2 T.x1 w)
  have D2 := Lib.hid (fun w => refDiv_any 60 u xx yy T.y2 T.y1 w)
  have ML := Lib.hid (fun w => refMul_any 72 j st r T.r2 T.r1 w)
  have c1 := T.c1
  unfold ltB at c1
  cases c with
  | true =>
    have ej := T.j3 rfl
    subst ej
    generalize flW q = fq at *
    clear T haq hv hs hsh
    go_enter Try.func114, Try.ntmps114
    go_wp2_with (first | (go_at_call 191; refine (FL.out _).mono ?_; rintro e w' ⟨rfl, rfl⟩) | (go_at_call 102; (with_reducible refine (D1.out _).mono ?_); rintro e w' ⟨rfl, rfl⟩) | (go_at_call 101; (with_reducible refine (S1.out _).mono ?_); rintro e w' ⟨rfl, rfl⟩) | (go_at_call 97; refine (ML.out _).mono ?_; rintro e w' ⟨rfl, rfl⟩))
    go_ret
    exact ⟨rfl, rfl⟩
  | false =>
    have AD := Lib.hid (fun w => refAdd_any 61 (flW q) yy j (T.j2 rfl) (T.j1 rfl) w)
    generalize flW q = fq at *
    clear T haq hv hs hsh
    go_enter Try.func114, Try.ntmps114
    go_wp2_with (first | (go_at_call 191; refine (FL.out _).mono ?_; rintro e w' ⟨rfl, rfl⟩) | (go_at_call 102; (with_reducible refine (D1.out _).mono ?_); rintro e w' ⟨rfl, rfl⟩) | (go_at_call 102; (with_reducible refine (D2.out _).mono ?_); rintro e w' ⟨rfl, rfl⟩) | (go_at_call 101; (with_reducible refine (S1.out _).mono ?_); rintro e w' ⟨rfl, rfl⟩) | (go_at_call 101; (with_reducible refine (S2.out _).mono ?_); rintro e w' ⟨rfl, rfl⟩) | (go_at_call 101; (with_reducible refine (S3.out _).mono ?_); rintro e w' ⟨rfl, rfl⟩) | (go_at_call 95; refine (AD.out _).mono ?_; rintro e w' ⟨rfl, rfl⟩) | (go_at_call 97; refine (ML.out _).mono ?_; rintro e w' ⟨rfl, rfl⟩))
    go_ret
    exact ⟨rfl, rfl⟩
end Go.Proofs.Ytmbiohopcfglcaa

/- Contract: byCell, whatever function it is given, with a state of its own in blocks that were there (a captured variable that it writes). -/
namespace Go.Proofs.Ytmbiohopcfglcaa
open Go.RowKit Fl
set_option linter.unusedVariables false

/-- As Below, but the blocks M may differ. -/
structure BelowM (M : Nat → Prop) (B : Nat) (w w' : World) : Prop where
  os : w'.os = w.os
  tape : w'.tape = w.tape
  output : w'.output = w.output
  size : w.heap.size ≤ w'.heap.size
  block : ∀ k, k < B → ¬ M k → w'.heap[k]? = w.heap[k]?

theorem BelowM.refl (M : Nat → Prop) (B : Nat) (w : World) : BelowM M B w w := ⟨rfl, rfl, rfl, Nat.le_refl _, fun _ _ _ => rfl⟩
theorem BelowM.trans {M : Nat → Prop} {B : Nat} {a b c : World} (h : BelowM M B a b) (k : BelowM M B b c) : BelowM M B a c :=
  ⟨k.os.trans h.os, k.tape.trans h.tape, k.output.trans h.output, Nat.le_trans h.size k.size, fun i hi hm => (k.block i hi hm).trans (h.block i hi hm)⟩
theorem BelowM.mono {M : Nat → Prop} {B B' : Nat} {w w' : World} (h : BelowM M B w w') (hB : B' ≤ B) : BelowM M B' w w' := ⟨h.os, h.tape, h.output, h.size, fun k hk hm => h.block k (Nat.lt_of_lt_of_le hk hB) hm⟩
theorem Below.toM {M : Nat → Prop} {B : Nat} {w w' : World} (h : Below B w w') : BelowM M B w w' := ⟨h.os, h.tape, h.output, h.size, fun k hk _ => h.block k hk⟩
theorem BelowM.drew {M : Nat → Prop} {B : Nat} {a w : World} (h : BelowM M B a w) : BelowM M B a w.drew := ⟨h.os, h.tape, h.output, h.size, h.block⟩
theorem BelowM.alloc {M : Nat → Prop} {B : Nat} {a w : World} (h : BelowM M B a w) (hB : B ≤ w.heap.size) (o : Obj) : BelowM M B a (w.alloc o) :=
  h.trans (Below.toM ((Below.refl _ _).alloc hB o))
theorem BelowM.setCell {M : Nat → Prop} {B : Nat} {a w : World} (h : BelowM M B a w) {p : Addr} (hp : B ≤ p.block ∨ M p.block) (u : Value) : BelowM M B a (w.setCell p u) :=
  h.trans ⟨rfl, rfl, rfl, by simp [World.setCell], fun k hk hm => Below.heap_setCell _ _ _ _ (by rcases hp with q | q; omega; intro e; exact hm (e ▸ q))⟩
theorem blkStayM {M : Nat → Prop} {W w' : World} {b : Nat} {o : Obj} (h : W.heap[b]? = some o) (hb : BelowM M W.heap.size W w') (hm : ¬ M b) : w'.heap[b]? = some o := by
  rw [hb.block b ?_ hm, h]
  rcases Nat.lt_or_ge b W.heap.size with h' | h'
  · exact h'
  · simp [Array.getElem?_eq_none h'] at h
theorem set5_belowM {M : Nat → Prop} {w wr : World} {B : Nat} (hb : BelowM M B w wr) (b : Nat) (u1 u2 u3 u4 u5 : Value) (h : B ≤ b) : BelowM M B w (set5 wr b u1 u2 u3 u4 u5) :=
  ((((hb.setCell (p := ⟨b, 0, none⟩) (.inl h) u1).setCell (p := ⟨b, 1, none⟩) (.inl h) u2).setCell (p := ⟨b, 2, none⟩) (.inl h) u3).setCell (p := ⟨b, 3, none⟩) (.inl h) u4).setCell (p := ⟨b, 4, none⟩) (.inl h) u5

/-- What a state is good for: it lies in the blocks M, which are older than w; it hangs on them alone. -/
structure State (M : Nat → Prop) (Inv : Nat → World → Prop) (w : World) : Prop where
  old : ∀ k, M k → k < w.heap.size
  hang : ∀ i W W', Inv i W → (∀ k, M k → W'.heap[k]? = W.heap[k]?) → Inv i W'

/-- A function of a cell's number, with a state. -/
def Clos1M (M : Nat → Prop) (Inv : Nat → World → Prop) (g : Nat) (caps : Array Value) (n : Nat) (f : Nat → Nat) (w : World) : Prop :=
  ∀ (i : Nat) (W : World), i < n → BelowM M w.heap.size w W → Inv i W → Calls Try.prog g (#[.int .i64 i] ++ caps) W fun e W' => e = .returned (.float .f32 (f i)) ∧ Inv (i + 1) W' ∧ BelowM M W.heap.size W W'

def MadePostM (M : Nat → Prop) (Inv : Nat → World → Prop) (w : World) (X Y W H : Int) (n : Nat) (f : Nat → Nat) (e : Ending) (w' : World) : Prop :=
  Inv n w' ∧ BelowM M w.heap.size w w' ∧
  ((allB n (fun i => hgtB (f i)) = true ∧ ∃ b cap, e = .returned (.tuple #[fldV X Y W H (.slice (some ⟨b, 0, none⟩) n cap), .int .i64 0]) ∧ w.heap.size ≤ b ∧ b < w'.heap.size ∧ FlAt w' b 0 n f) ∨
  (allB n (fun i => hgtB (f i)) = false ∧ e = .returned (.tuple #[fldV 0 0 0 0 (.slice none 0 0), .int .i64 3])))

set_option maxHeartbeats 2000000 in
theorem byCellM_any (M : Nat → Prop) (Inv : Nat → World → Prop) (X Y W H : Int) (n : Nat) (g : Nat) (caps : Array Value) (f : Nat → Nat) (w : World) (hst : State M Inv w) (h0 : Inv 0 w) (hcall : Enters g) (hcl : Clos1M M Inv g caps n f w) (hn : (n : Int) = W * H) (hn1 : 1 ≤ n) (hn2 : n ≤ 65536) :
    Calls Try.prog 221 #[reg X Y W H, .func (.func g) #[] caps] w (MadePostM M Inv w X Y W H n f) := by
  have en : wrap64 (W * H) = (n : Int) := by rw [← hn]; exact IntWalk.wrap64_in _ ⟨by omega, by omega⟩
  have hmk := make_f32 n hn2
  have HCL := Lib.hid hcl
  have ST := Lib.hid hst
  have NM := Lib.hid (show ∀ k, w.heap.size ≤ k → ¬ M k from fun k hk hm => by have := hst.old k hm; omega)
  have I0 := Lib.hid h0
  unfold Enters at hcall
  clear hn hcl hst h0
  have hsf := fun (w : World) (a : Addr) (m : Mode) (k : FloatKind) (b : Nat) => run_store_float (P := Try.prog) (w := w) (a := a) (m := m) k b
  go_enter Try.func221, Try.ntmps221
  go_wp2
  clear en hmk
  go_loopw [17] (fun i wr => ∃ k : Nat, k ≤ n ∧ i = .int .i64 k ∧ RowPart wr (w.heap.size + 1 + 1) n k f ∧ wr.heap[w.heap.size]? = some (regObj X Y W H) ∧ wr.heap[w.heap.size + 1]? = some (fldO 0 0 0 0 (.slice none 0 0)) ∧ Inv k wr ∧ BelowM M w.heap.size w wr) (fun i _ => n - (intOf i).toNat)
  case atStart =>
    refine ⟨0, Nat.zero_le _, rfl, ⟨madeCells #[Value.float .f32 0] n, ?_, by rw [size_madeCells]; exact Nat.le_refl _, fun j hj => by omega⟩, ?_, ?_, ?_, Below.toM (by repeat (first | exact Below.refl _ _ | refine Below.alloc ?_ (by first | omega | (simp; done) | (simp; omega)) _ | refine Below.setCell ?_ (by first | omega | (simp; done) | (simp; omega)) _ | refine Below.drew ?_))⟩
    · simp only [heap_alloc_get, heap_size_alloc]; simp <;> omega
    · simp only [heap_alloc_get, heap_size_alloc]; simp <;> omega
    · simp only [heap_alloc_get, heap_size_alloc]; simp <;> omega
    · exact ST.out.hang 0 w _ I0.out (fun k hk => (show Below w.heap.size w _ from (by repeat (first | exact Below.refl _ _ | refine Below.alloc ?_ (by first | omega | (simp; done) | (simp; omega)) _ | refine Below.setCell ?_ (by first | omega | (simp; done) | (simp; omega)) _ | refine Below.drew ?_))).block k (ST.out.old k hk))
  case round =>
    obtain ⟨k, hk, rfl, hrow, hbox, hres, hinv, hbel⟩ := hrel
    have HR := Lib.hid hrow
    have HB := Lib.hid hbox
    have HS := Lib.hid hres
    have HI := Lib.hid hinv
    have HL := Lib.hid hbel
    clear hrow hbox hres hinv hbel
    by_cases hlt : k < n
    · have CC := Lib.hid (HCL.out k wr hlt HL.out HI.out)
      go_wp2_with fail
      refine CC.out.mono ?_
      rintro e w2 ⟨rfl, hi2, hb2⟩
      have R2 := Lib.hid (HR.out.congr (hb2.block _ HR.out.lt (NM.out _ (by omega))))
      have B2 := Lib.hid (blkStayM HB.out hb2 (NM.out _ (Nat.le_refl _)))
      have S2 := Lib.hid (blkStayM HS.out hb2 (NM.out _ (by omega)))
      have L2 := Lib.hid (HL.out.trans (hb2.mono HL.out.size))
      have J2 := Lib.hid hi2
      have z2 := R2.out.lt
      have f2 := R2.out.free k
      obtain ⟨x0, hx0⟩ := R2.out.cell hlt
      clear hb2 hi2 CC HR HB HS HI HL
      go_wp2
      go_roundw
      case rel =>
        exact ⟨k + 1, by omega, by go_num, R2.out.put hlt, (Below.heap_setCell _ _ _ _ (show w.heap.size ≠ w.heap.size + 1 + 1 by omega)).trans B2.out, (Below.heap_setCell _ _ _ _ (show w.heap.size + 1 ≠ w.heap.size + 1 + 1 by omega)).trans S2.out, ST.out.hang _ _ _ J2.out (fun q hq => Below.heap_setCell _ _ _ _ (by have := ST.out.old q hq; show q ≠ w.heap.size + 1 + 1; omega)), L2.out.setCell (p := ⟨w.heap.size + 1 + 1, k, none⟩) (.inl (show w.heap.size ≤ w.heap.size + 1 + 1 by omega)) _⟩
      case measure => simp [intOf]; omega
    · have hkn : k = n := by omega
      subst hkn
      obtain ⟨cB, fB, zB⟩ := blkC HB.out
      obtain ⟨cS, fS, zS⟩ := blkC HS.out
      have HF := HR.out.flAt
      have CH := Lib.hid (checkRange_row (w.heap.size + 1 + 1) 0 k k f (by omega) wr HF)
      clear HF
      have HI5 := Lib.hid (fun u1 u2 u3 u4 u5 => ST.out.hang k wr (set5 wr (w.heap.size + 1) u1 u2 u3 u4 u5) HI.out (fun q hq => set5_heap wr (w.heap.size + 1) q u1 u2 u3 u4 u5 (by have := ST.out.old q hq; omega)))
      cases hall : allB k (fun i => hgtB (f i)) with
      | true =>
        have e : hgtE k f = 0 := by unfold hgtE; rw [hall]; rfl
        rw [e] at CH
        clear e
        go_wp2_with (go_at_call 180; refine CH.out.mono ?_; rintro e w' ⟨rfl, rfl⟩)
        refine bodyPost_ret (v := .tuple #[fldV X Y W H (.slice (some ⟨w.heap.size + 1 + 1, 0, none⟩) k k), .int .i64 0]) (by simp [results, Try.results221, go_sem, cS]) rfl ?_
        exact ⟨HI5.out _ _ _ _ _, set5_belowM HL.out (w.heap.size + 1) _ _ _ _ _ (by omega), .inl ⟨hall, w.heap.size + 1 + 1, k, rfl, by omega, by rw [set5_size]; exact HR.out.lt, (HR.out.congr (set5_heap wr (w.heap.size + 1) (w.heap.size + 1 + 1) _ _ _ _ _ (by omega))).flAt⟩⟩
      | false =>
        have e : hgtE k f = 3 := by unfold hgtE; rw [hall]; rfl
        rw [e] at CH
        clear e
        go_wp2_with (go_at_call 180; refine CH.out.mono ?_; rintro e w' ⟨rfl, rfl⟩)
        refine bodyPost_ret (v := .tuple #[fldV 0 0 0 0 (.slice none 0 0), .int .i64 3]) (by simp [results, Try.results221, go_sem, cS]) rfl ?_
        exact ⟨HI5.out _ _ _ _ _, set5_belowM HL.out (w.heap.size + 1) _ _ _ _ _ (by omega), .inr ⟨hall, rfl⟩⟩
end Go.Proofs.Ytmbiohopcfglcaa

/- Contract: byPlace, whatever function it is given, with a state of its own. -/
namespace Go.Proofs.Ytmbiohopcfglcaa
open Go.RowKit Fl
set_option linter.unusedVariables false

/-- A function of a cell's place, with a state. -/
def Clos2M (M : Nat → Prop) (Inv : Nat → World → Prop) (g : Nat) (caps : Array Value) (X Y W H : Int) (f : Nat → Nat) (w : World) : Prop :=
  ∀ (x y : Int) (i : Nat) (W' : World), X ≤ x → x < X + W → Y ≤ y → y < Y + H → (i : Int) = (y - Y) * W + (x - X) → BelowM M w.heap.size w W' → Inv i W' →
    Calls Try.prog g (#[.int .i64 x, .int .i64 y] ++ caps) W' fun e W'' => e = .returned (.float .f32 (f i)) ∧ Inv (i + 1) W'' ∧ BelowM M W'.heap.size W' W''

set_option maxHeartbeats 400000 in
set_option maxRecDepth 100000 in
theorem place1M_any (M : Nat → Prop) (Inv : Nat → World → Prop) (X Y : Int) (W H n : Nat) (g : Nat) (caps : Array Value) (f : Nat → Nat) (p q : Nat) (w : World) (hst : State M Inv w) (hcall : Enters g) (hcl : Clos2M M Inv g caps X Y W H f w)
    (hp : w.heap[p]? = some (fnObj g caps)) (hq : w.heap[q]? = some (regObj X Y W H)) (mp : ¬ M p) (mq : ¬ M q) (hX1 : -16777216 ≤ X) (hX2 : X ≤ 16777216) (hY1 : -16777216 ≤ Y) (hY2 : Y ≤ 16777216) (hW1 : 1 ≤ W) (hW2 : W ≤ 512) (hH2 : H ≤ 512) (hn : n = H * W) :
    Clos1M M Inv 222 #[.pointer (some ⟨p, 0, none⟩), .pointer (some ⟨q, 0, none⟩)] n f w := by
  intro i w2 hi hb hinv
  have hdm := Nat.div_add_mod i W
  have hml := Nat.mod_lt i (show 0 < W by omega)
  have hdl : i / W < H := Nat.div_lt_of_lt_mul (by rw [Nat.mul_comm]; omega)
  obtain ⟨a, ha⟩ : ∃ a : Nat, a = i % W := ⟨_, rfl⟩
  obtain ⟨b, hb'⟩ : ∃ b : Nat, b = i / W := ⟨_, rfl⟩
  rw [← ha, ← hb'] at hdm
  rw [← ha] at hml
  rw [← hb'] at hdl
  have ei : (i : Int) = ((Y + b) - Y) * W + ((X + a) - X) := by
    rw [show Y + (b : Int) - Y = b by omega, show X + (a : Int) - X = a by omega, ← hdm]; simp [Int.mul_comm]
  have CC := Lib.hid (hcl (X + a) (Y + b) i w2.drew (by omega) (by omega) (by omega) (by omega) ei hb.drew (hst.hang i w2 w2.drew hinv (fun _ _ => rfl)))
  have P := blkStayM hp hb mp
  have Q := blkStayM hq hb mq
  have HP := Lib.hid (show w2.drew.heap[p]? = some (fnObj g caps) from P)
  have HQ := Lib.hid (show w2.drew.heap[q]? = some (regObj X Y W H) from Q)
  have HD := Lib.hid (BelowM.drew (BelowM.refl M w2.heap.size w2))
  obtain ⟨cP, fP, zP⟩ := blkC P
  obtain ⟨cQ, fQ, zQ⟩ := blkC Q
  unfold Enters at hcall
  have t1 : (i : Int).tmod (W : Int) = (a : Int) := by rw [ha]; rw [Int.tmod_eq_emod_of_nonneg (by omega)]; simp
  have t2 : (i : Int).tdiv (W : Int) = (b : Int) := by rw [hb']; rw [Int.tdiv_eq_ediv_of_nonneg (by omega)]; simp
  have t3 : (i : Int) % (W : Int) = (a : Int) := by rw [ha]; simp
  have t4 : (i : Int) / (W : Int) = (b : Int) := by rw [hb']; simp
  have u1 : IntKind.i64.wrap (X + (a : Int)) = X + a := IntWalk.i64_in _ (by omega)
  have u2 : IntKind.i64.wrap (Y + (b : Int)) = Y + b := IntWalk.i64_in _ (by omega)
  have u3 : IntKind.i64.wrap (b : Int) = b := IntWalk.i64_in _ (by omega)
  have w0 : ¬ ((W : Int) = 0) := by omega
  have w0' : ¬ (W = 0) := by omega
  have t6 : i % W = a := ha.symm
  have t7 : i / W = b := hb'.symm
  have w1 : (1 : Int) ≤ (W : Int) := by omega
  have i0 : (0 : Int) ≤ (i : Int) := by omega
  have b1 : (a : Int) < 512 := by omega
  have b2 : (b : Int) < 512 := by omega
  clear hp hq P Q hb ei hdm hml hdl ha hb' hcl hst hinv mp mq
  go_enter Try.func222, Try.ntmps222
  go_wp2
  go_still_tail 15, (by kernel_rfl)
  change wpList _ _ _ _ _ w2.drew
  clear cP fP zP cQ fQ zQ
  generalize w2.drew = w3 at *
  obtain ⟨cP, fP, zP⟩ := blkC HP.out
  obtain ⟨cQ, fQ, zQ⟩ := blkC HQ.out
  go_wp2_with fail
  refine CC.out.mono ?_
  rintro e w4 ⟨rfl, hi9, hb9⟩
  have H9 := Lib.hid (And.intro hi9 (HD.out.trans (hb9.mono HD.out.size)))
  clear hi9 hb9 cP fP cQ fQ
  go_wp2
  go_ret
  exact ⟨rfl, H9.out⟩
end Go.Proofs.Ytmbiohopcfglcaa

/- Contract: byPlace, whatever function it is given, with a state of its own. -/
namespace Go.Proofs.Ytmbiohopcfglcaa
open Go.RowKit Fl
set_option linter.unusedVariables false

set_option maxHeartbeats 2000000 in
theorem byPlaceM_any (M : Nat → Prop) (Inv : Nat → World → Prop) (X Y : Int) (W H n : Nat) (g : Nat) (caps : Array Value) (f : Nat → Nat) (w : World) (hst : State M Inv w) (h0 : Inv 0 w) (hcall : Enters g) (hcl : Clos2M M Inv g caps X Y W H f w)
    (hX1 : -16777216 ≤ X) (hX2 : X ≤ 16777216) (hY1 : -16777216 ≤ Y) (hY2 : Y ≤ 16777216) (hW1 : 1 ≤ W) (hW2 : W ≤ 512) (hH1 : 1 ≤ H) (hH2 : H ≤ 512) (hn : n = H * W) (hn2 : n ≤ 65536) :
    Calls Try.prog 193 #[reg X Y W H, .func (.func g) #[] caps] w (MadePostM M Inv w X Y W H n f) := by
  have en : (n : Int) = (W : Int) * (H : Int) := by rw [hn, Nat.mul_comm]; simp
  have n1 : 1 ≤ n := by rw [hn]; exact Nat.mul_pos hH1 hW1
  have hBl : Below w.heap.size w (((w.alloc (regObj X Y W H)).alloc (fnObj g caps)).alloc (fldO 0 0 0 0 (.slice none 0 0))) := (by repeat (first | exact Below.refl _ _ | refine Below.alloc ?_ (by first | omega | (simp; done) | (simp; omega)) _ | refine Below.setCell ?_ (by first | omega | (simp; done) | (simp; omega)) _ | refine Below.drew ?_))
  have hst' : State M Inv (((w.alloc (regObj X Y W H)).alloc (fnObj g caps)).alloc (fldO 0 0 0 0 (.slice none 0 0))) := ⟨fun k hk => Nat.lt_of_lt_of_le (hst.old k hk) hBl.size, hst.hang⟩
  have h0' : Inv 0 (((w.alloc (regObj X Y W H)).alloc (fnObj g caps)).alloc (fldO 0 0 0 0 (.slice none 0 0))) := hst.hang 0 w _ h0 (fun k hk => hBl.block k (hst.old k hk))
  have ST := Lib.hid hst
  have BC := Lib.hid (byCellM_any M Inv X Y W H n 222 #[.pointer (some ⟨w.heap.size + 1, 0, none⟩), .pointer (some ⟨w.heap.size, 0, none⟩)] f _ hst' h0' enters_place1
    (place1M_any M Inv X Y W H n g caps f (w.heap.size + 1) w.heap.size _ hst' hcall (fun x y i W' h1 h2 h3 h4 h5 hb hi => hcl x y i W' h1 h2 h3 h4 h5 ((Below.toM hBl).trans (hb.mono hBl.size)) hi) (by ((simp only [heap_alloc_get, heap_size_alloc, if_true]) <;> ((repeat' split) <;> first | rfl | omega))) (by ((simp only [heap_alloc_get, heap_size_alloc, if_true]) <;> ((repeat' split) <;> first | rfl | omega))) (fun hm => by have := hst.old _ hm; omega) (fun hm => by have := hst.old _ hm; omega) hX1 hX2 hY1 hY2 hW1 hW2 hH2 hn) en n1 hn2)
  have HBL := Lib.hid hBl
  clear hcl hcall hn en hst hst' h0 h0' hBl
  go_enter Try.func193, Try.ntmps193
  go_wp2_with fail
  refine BC.out.mono ?_
  intro e w4 hmade
  obtain ⟨hinv, hbel, hmade⟩ := hmade
  have hS := Lib.hid (blkStayM (b := w.heap.size + 1 + 1) (o := fldO 0 0 0 0 (.slice none 0 0)) (by ((simp only [heap_alloc_get, heap_size_alloc, if_true]) <;> ((repeat' split) <;> first | rfl | omega))) hbel (fun hm => by have := ST.out.old _ hm; omega))
  have HB := Lib.hid ((Below.toM HBL.out).trans (hbel.mono HBL.out.size))
  have HI5 := Lib.hid (fun u1 u2 u3 u4 u5 => ST.out.hang n w4 (set5 w4 (w.heap.size + 1 + 1) u1 u2 u3 u4 u5) hinv (fun q hq => set5_heap w4 (w.heap.size + 1 + 1) q u1 u2 u3 u4 u5 (by have := ST.out.old q hq; omega)))
  clear hinv hbel
  obtain ⟨cS, fS, zS⟩ := blkC hS.out
  rcases hmade with ⟨hall, b', cap', rfl, hb', hlt', hrow⟩ | ⟨hall, rfl⟩
  · have HB' := Lib.hid (show w.heap.size + 3 ≤ b' by simp only [heap_size_alloc] at hb'; omega)
    clear hb'
    go_wp2
    refine bodyPost_ret (v := .tuple #[fldV X Y W H (.slice (some ⟨b', 0, none⟩) n cap'), .int .i64 0]) (by simp [results, Try.results193, go_sem, cS]) rfl ?_
    have hb' := HB'.out
    exact ⟨HI5.out _ _ _ _ _, set5_belowM HB.out _ _ _ _ _ _ (by omega), .inl ⟨hall, b', cap', rfl, by omega, by rw [set5_size]; exact hlt', flAt_congr hrow (set5_heap w4 _ _ _ _ _ _ _ (by omega))⟩⟩
  · go_wp2
    refine bodyPost_ret (v := .tuple #[fldV 0 0 0 0 (.slice none 0 0), .int .i64 3]) (by simp [results, Try.results193, go_sem, cS]) rfl ?_
    exact ⟨HI5.out _ _ _ _ _, set5_belowM HB.out _ _ _ _ _ _ (by omega), .inr ⟨hall, rfl⟩⟩
end Go.Proofs.Ytmbiohopcfglcaa

/- Contract: the reference's made, whatever function it is given, with a state of its own. -/
namespace Go.Proofs.Ytmbiohopcfglcaa
open Go.RowKit Fl
set_option linter.unusedVariables false

theorem ownsRow_belowM {M : Nat → Prop} {w w' : World} {base : Nat} {e : TypeId} {size : Nat} {v : Value} {n : Nat} {xs : List Value} (h : w.ownsRow base e size v n xs) (hb : BelowM M w.heap.size w w') (hm : ∀ k, base ≤ k → ¬ M k) : w'.ownsRow base e size v n xs := by
  obtain ⟨h1, h2⟩ := h
  refine ⟨h1, ?_⟩
  rcases h2 with h2 | ⟨g, cap, cur, hv, hg, hh, r⟩
  · exact .inl h2
  · exact .inr ⟨g, cap, cur, hv, hg, blkStayM hh hb (hm _ hg), r⟩

/-- What holds of the world at each head of made's loops, when k values have been made. -/
def MadeAtM (M : Nat → Prop) (Inv : Nat → World → Prop) (w : World) (X Y W H : Int) (f : Nat → Nat) (k : Nat) (wr : World) : Prop :=
  ∃ ov, wr.ownsRow (w.heap.size + 1 + 1 + 1) 22 1 ov k (rowL f k) ∧ wr.heap[w.heap.size]? = some (regObj X Y W H) ∧ wr.heap[w.heap.size + 1]? = some (fldO 0 0 0 0 (.slice none 0 0)) ∧
    wr.heap[w.heap.size + 1 + 1]? = some (fldO X Y W H ov) ∧ Inv k wr ∧ BelowM M w.heap.size w wr

theorem made_stepM {M : Nat → Prop} {Inv : Nat → World → Prop} {w wr w2 w3 : World} {X Y W H : Int} {f : Nat → Nat} {k gg cap : Nat} {ov : Value} {o : Obj}
    (ST : State M Inv w) (hI : Inv (k + 1) w2) (HO : wr.ownsRow (w.heap.size + 1 + 1 + 1) 22 1 ov k (rowL f k)) (HB : wr.heap[w.heap.size]? = some (regObj X Y W H)) (HS : wr.heap[w.heap.size + 1]? = some (fldO 0 0 0 0 (.slice none 0 0)))
    (HV : wr.heap[w.heap.size + 1 + 1]? = some (fldO X Y W H ov)) (hbel : BelowM M w.heap.size w wr) (hb2 : BelowM M wr.heap.size wr w2) (hgrow : (w2.alloc o).grownBy w3 ov.ownBlock)
    (hown3 : w3.ownsRow (w.heap.size + 1 + 1 + 1) 22 1 (.slice (some ⟨gg, 0, none⟩) (k + 1) cap) (k + 1) (rowL f k ++ [.float .f32 (f k)])) :
    MadeAtM M Inv w X Y W H f (k + 1) (w3.setCell ⟨w.heap.size + 1 + 1, 4, none⟩ (.slice (some ⟨gg, 0, none⟩) (k + 1) cap)) := by
  have NM : ∀ k, w.heap.size ≤ k → ¬ M k := fun k hk hm => by have := ST.old k hm; omega
  have go : ∀ b o', wr.heap[b]? = some o' → w.heap.size ≤ b → b < w.heap.size + 1 + 1 + 1 → w3.heap[b]? = some o' := by
    intro b o' h hb0 hb
    have h2 := blkStayM h hb2 (NM b hb0)
    have hlt : b < w2.heap.size := by
      rcases Nat.lt_or_ge b w2.heap.size with x | x
      · exact x
      · rw [Array.getElem?_eq_none x] at h2; cases h2
    rw [hgrow.block b (by rw [heap_size_alloc]; omega) (ownsRow_far HO hb), heap_alloc_old _ _ hlt, h2]
  refine ⟨.slice (some ⟨gg, 0, none⟩) (k + 1) cap, ?_, ?_, ?_, ?_, ?_, ?_⟩
  · rw [rowL_succ]; exact ownsRow_setCell_below hown3 (show w.heap.size + 1 + 1 < w.heap.size + 1 + 1 + 1 by omega) _
  · exact (Below.heap_setCell _ _ _ _ (show w.heap.size ≠ w.heap.size + 1 + 1 by omega)).trans (go _ _ HB (by omega) (by omega))
  · exact (Below.heap_setCell _ _ _ _ (show w.heap.size + 1 ≠ w.heap.size + 1 + 1 by omega)).trans (go _ _ HS (by omega) (by omega))
  · rw [heap_setCell_same w3 (w.heap.size + 1 + 1) 4 _ _ _ (go _ _ HV (by omega) (by omega))]; rfl
  · refine ST.hang (k + 1) w2 _ hI (fun q hq => ?_)
    have q1 := ST.old q hq
    have q2 := hbel.size
    have q3 := hb2.size
    rw [Below.heap_setCell _ _ _ _ (show q ≠ w.heap.size + 1 + 1 by omega), hgrow.block q (by rw [heap_size_alloc]; omega) (ownsRow_far HO (by omega)), heap_alloc_old _ _ (by omega)]
  · have h2 : BelowM M w.heap.size w w2 := hbel.trans (hb2.mono hbel.size)
    have g3 : Below w.heap.size (w2.alloc o) w3 := (Below.refl _ _).grown hgrow (by rw [heap_size_alloc]; have := h2.size; omega) (fun b hb => by
      rcases HO.2 with ⟨rfl, _⟩ | ⟨g, _, _, rfl, hg, _⟩
      · cases hb
      · have : b = g := by simpa [Value.ownBlock] using hb.symm
        omega)
    exact ((h2.alloc h2.size o).trans (Below.toM g3)).setCell (p := ⟨w.heap.size + 1 + 1, 4, none⟩) (.inl (show w.heap.size ≤ w.heap.size + 1 + 1 by omega)) _

set_option maxRecDepth 100000 in
set_option maxHeartbeats 4000000 in
theorem madeM_any (M : Nat → Prop) (Inv : Nat → World → Prop) (X Y : Int) (W H n : Nat) (g : Nat) (caps : Array Value) (f : Nat → Nat) (w : World) (hst : State M Inv w) (hi0 : Inv 0 w) (hcall : Enters g) (hcl : Clos2M M Inv g caps X Y W H f w) (hwf : wf32 n f) (hX1 : -16777216 ≤ X) (hX2 : X ≤ 16777216) (hY1 : -16777216 ≤ Y) (hY2 : Y ≤ 16777216) (hW1 : 1 ≤ W) (hW2 : W ≤ 512) (hH1 : 1 ≤ H) (hH2 : H ≤ 512) (hn : n = H * W) :
    Calls Try.prog 93 #[reg X Y W H, .func (.func g) #[] caps] w (MadePostM M Inv w X Y W H n f) := by
  have HCL := Lib.hid hcl
  have ST := Lib.hid hst
  have I0 := Lib.hid hi0
  have HWF := Lib.hid hwf
  unfold Enters at hcall
  have HN := Lib.hid hn
  have hinfo : (Try.prog.info? 22).map (fun i => (i.zero, i.size, i.bytes)) = some (some (.float .f32 0), 1, 4) := by kernel_rfl
  obtain ⟨i0, hi, hz0, hz1, hz2⟩ := info_parts hinfo
  clear hcl hn hinfo hwf hst hi0
  go_enter Try.func93, Try.ntmps93
  go_wp2
  go_loopw [7, 8] (fun y x wr => ∃ j : Nat, j ≤ H ∧ y = .int .i64 (Y + j) ∧ MadeAtM M Inv w X Y W H f (j * W) wr) (fun y _ _ => (Y + H - intOf y).toNat)
  case atStart =>
    refine ⟨0, by omega, by simp, .slice none 0 0, ⟨by simp [rowL], .inl ⟨rfl, by simp⟩⟩, ?_, ?_, ?_, ?_, Below.toM (by repeat (first | exact Below.refl _ _ | refine Below.alloc ?_ (by first | omega | (simp; done) | (simp; omega)) _ | refine Below.setCell ?_ (by first | omega | (simp; done) | (simp; omega)) _ | refine Below.drew ?_))⟩
    · simp only [heap_alloc_get, heap_size_alloc]; simp <;> omega
    · simp only [heap_alloc_get, heap_size_alloc]; simp <;> omega
    · simp only [heap_alloc_get, heap_size_alloc]; simp <;> omega
    · have e : ∀ z : Nat, z = 0 → Inv z w := fun z hz => by rw [hz]; exact I0.out
      exact ST.out.hang _ w _ (e _ (by simp)) (fun k hk => (show Below w.heap.size w _ from (by repeat (first | exact Below.refl _ _ | refine Below.alloc ?_ (by first | omega | (simp; done) | (simp; omega)) _ | refine Below.setCell ?_ (by first | omega | (simp; done) | (simp; omega)) _ | refine Below.drew ?_))).block k (ST.out.old k hk))
  case round =>
    obtain ⟨j, hj, rfl, hmade⟩ := hrel
    have HM := Lib.hid hmade
    obtain ⟨_, _, hbox, _⟩ := hmade
    obtain ⟨cB, fB, zB⟩ := blkC hbox
    clear hbox
    by_cases hlt : j < H
    · go_wp2
      clear cB fB zB
      obtain ⟨w1, rfl⟩ : ∃ w1, w1 = wr := ⟨_, rfl⟩
      go_loopw [8] (fun x wr => ∃ i : Nat, i ≤ W ∧ x = .int .i64 (X + i) ∧ MadeAtM M Inv w X Y W H f (j * W + i) wr) (fun x _ => (X + W - intOf x).toNat)
      case atStart => exact ⟨0, by omega, by simp, HM.out⟩
      case round =>
        obtain ⟨i, hi1, rfl, hmi⟩ := hrel
        have HMi := Lib.hid hmi
        obtain ⟨ov, hown, hbox, hres, hout, hinv, hbel⟩ := hmi
        have HI := Lib.hid hinv
        clear hinv
        have HO := Lib.hid hown
        have HB := Lib.hid hbox
        have HS := Lib.hid hres
        have HV := Lib.hid hout
        obtain ⟨cB, fB, zB⟩ := blkC hbox
        obtain ⟨cV, fV, zV⟩ := blkC hout
        clear hbox hown hres hout
        by_cases hlt2 : i < W
        · have CC := Lib.hid (fun W' hb hi => HCL.out (X + i) (Y + j) (j * W + i) W' (by omega) (by omega) (by omega) (by omega) (by rw [show (Y + (j : Int) - Y) = j by omega, show (X + (i : Int) - X) = i by omega]; simp) hb hi)
          have hk : j * W + i < 262144 := by
            have : j * W ≤ 511 * 512 := Nat.mul_le_mul (by omega) hW2
            omega
          have hx : f (j * W + i) < 4294967296 := HWF.out _ (by
            rw [HN.out]
            have : (j + 1) * W ≤ H * W := Nat.mul_le_mul_right _ hlt
            rw [Nat.succ_mul] at this; omega)
          obtain ⟨k, hke⟩ : ∃ k, j * W + i = k := ⟨_, rfl⟩
          rw [hke] at CC hk hx HO HI
          have KE := Lib.hid (show j * W + (i + 1) = k + 1 by omega)
          clear hke
          have hrd : BelowM M w.heap.size w wr.drew := hbel.drew
          have hri : Inv k wr.drew := ST.out.hang k wr wr.drew HI.out (fun _ _ => rfl)
          have hb1 : k + 1 ≤ maxLen := by unfold maxLen; omega
          have hb2 : (k + 1) * 4 ≤ 140737488355328 := by omega
          have HB1 := Lib.hid hb1
          have HB2 := Lib.hid hb2
          clear hb1 hb2
          go_wp2_with fail
          go_region_law (first
            | (go_simp; (with_reducible refine (CC.out _ hrd hri).mono ?_); rintro e w2 ⟨rfl, hi2, hb2'⟩; have hb2 : BelowM M wr.heap.size wr w2 := ⟨hb2'.os, hb2'.tape, hb2'.output, hb2'.size, hb2'.block⟩; have own2 := Lib.hid (ownsRow_belowM HO.out hb2 (fun k hk hm => by have := ST.out.old k hm; omega)); have out2 := Lib.hid (blkStayM HV.out hb2 (fun hm => by have := ST.out.old _ hm; omega)); obtain ⟨cV2, fV2, zV2⟩ := blkC out2.out)
            | (refine step_append_lies _ (by rfl) _ _ _ (by rfl) (w.heap.size + 1 + 1 + 1) 22 i0 _ 1 4 Try.underlying27 hi hz0 hz1 hz2 rfl (by omega) ov k (rowL f k) (by rfl) (own2.out.alloc _) ⟨w2.heap.size, 0, none⟩ 1 1 [.float .f32 (f k)] (by rfl) (by rfl) (World.news_of_block (cs := #[.float .f32 (f k)]) (t := 22) (fr := (0, 0)) (heap_alloc_new w2 _)) (by simp [Value.oneCell']) (by omega) HB1.out HB2.out (by simp; omega) (w2.heap.size + 1) (by simp) ?_; intro gg cap w3 hown3 hgrow hat hlt3; have hF := ownsRow_far HO.out (show w.heap.size + 1 + 1 < w.heap.size + 1 + 1 + 1 by omega); have out3 := Lib.hid ((hgrow.block (w.heap.size + 1 + 1) (by rw [heap_size_alloc]; omega) hF).trans ((heap_alloc_old _ _ zV2).trans out2.out)); obtain ⟨cV3, fV3, zV3⟩ := blkC out3.out))
          all_goals
            have HM2 := Lib.hid (made_stepM ST.out hi2 HO.out HB.out HS.out HV.out hbel hb2 hgrow hown3)
            clear hown3 hgrow hat hlt3 hF cV3 fV3 zV3 cV2 fV2 zV2 cV fV zV
            go_wp2
            go_roundw
            case rel => exact ⟨i + 1, by omega, by go_num, by rw [KE.out]; exact HM2.out⟩
            case measure => simp [intOf]; omega
        · have hiW : i = W := by omega
          have HM3 : Hid (MadeAtM M Inv w X Y W H f ((j + 1) * W) wr) := by
            have h := HMi.out
            rw [hiW, ← Nat.succ_mul] at h
            exact h
          have hge : ¬ X + (i : Int) < X + W := by omega
          clear hiW
          go_wp2
          go_roundw
          case rel => exact ⟨j + 1, by omega, by go_num, HM3.out⟩
          case measure => simp [intOf]; omega
    · have hjH : j = H := by omega
      have hn1 : 0 < n := by rw [HN.out]; exact Nat.mul_pos hH1 hW1
      have hn2 : n ≤ 262144 := by rw [HN.out]; exact Nat.le_trans (Nat.mul_le_mul hH2 hW2) (by omega)
      have hm := HM.out
      rw [hjH, ← HN.out] at hm
      obtain ⟨ov, hown, hbox, hres, hout, hinv, hbel⟩ := hm
      have HI5 := Lib.hid (fun u1 u2 u3 u4 u5 => ST.out.hang n wr (set5 wr (w.heap.size + 1) u1 u2 u3 u4 u5) hinv (fun q hq => set5_heap wr (w.heap.size + 1) q u1 u2 u3 u4 u5 (by have := ST.out.old q hq; omega)))
      clear hinv
      obtain ⟨gb, cap, rfl, hgb, _⟩ := hown.form hn1
      obtain ⟨hfl, hgl, _⟩ := ownsRow_flAt hown hn1
      obtain ⟨cV, fV, zV⟩ := blkC hout
      obtain ⟨cS, fS, zS⟩ := blkC hres
      have HF := Lib.hid hfl
      have OUT := Lib.hid (refOut_row gb 0 cap n f (by omega) wr hfl HWF.out)
      have HBL := Lib.hid hbel
      clear hjH hown hbox hres hout hfl hbel
      cases hall : allB n (fun i => hgtB (f i)) with
      | true =>
        have HA := Lib.hid hall
        rw [hall] at OUT
        clear hall
        go_wp2_with (go_at_call 184; refine OUT.out.mono ?_; rintro e w' ⟨rfl, rfl⟩)
        refine bodyPost_ret (v := .tuple #[fldV X Y W H (.slice (some ⟨gb, 0, none⟩) n cap), .int .i64 0]) (by simp [results, Try.results93, go_sem, cS]) rfl ?_
        exact ⟨HI5.out _ _ _ _ _, set5_belowM HBL.out (w.heap.size + 1) _ _ _ _ _ (by omega), .inl ⟨HA.out, gb, cap, rfl, by omega, by rw [set5_size]; exact hgl, flAt_congr HF.out (set5_heap wr (w.heap.size + 1) gb _ _ _ _ _ (by omega))⟩⟩
      | false =>
        have HA := Lib.hid hall
        rw [hall] at OUT
        clear hall
        go_wp2_with (go_at_call 184; refine OUT.out.mono ?_; rintro e w' ⟨rfl, rfl⟩)
        refine bodyPost_ret (v := .tuple #[fldV 0 0 0 0 (.slice none 0 0), .int .i64 3]) (by simp [results, Try.results93, go_sem, cS]) rfl ?_
        exact ⟨HI5.out _ _ _ _ _, set5_belowM HBL.out (w.heap.size + 1) _ _ _ _ _ (by omega), .inr ⟨HA.out, rfl⟩⟩

end Go.Proofs.Ytmbiohopcfglcaa

/- Contracts: Divide of the program, quotient of the reference; the share of a rest. -/
namespace Go.Proofs.Ytmbiohopcfglcaa
open Go.RowKit Fl
set_option linter.unusedVariables false

/-- The share of a rest, as a word. -/
def shW (r b : Int) : Nat := (floatBits .quo .f32 (floatOfInt .f32 r) (floatOfInt .f32 b)).getD 0
/-- int_val, up to 2 ^ 24 itself. -/
theorem int_val' {n : Int} (h : n.natAbs ≤ 16777216) : vS (Go.floatOfInt .f32 n) = some (n * (one : Int)) := by
  rcases Nat.lt_or_ge n.natAbs 16777216 with c | c
  · exact (int_val c).1
  · obtain ⟨j, hj⟩ : ∃ j : Nat, j = 1074 := ⟨_, rfl⟩
    have e : 2 ^ (25 + j) = 33554432 * one := by rw [one_pow hj, Nat.pow_add]
    have p := one_pos
    have hn : (n * (one : Int)).natAbs < 2 ^ (25 + j) := by
      rw [Int.natAbs_mul, Int.natAbs_natCast, e]
      exact Nat.mul_lt_mul_of_pos_right (by omega) p
    have v := vS_int hn (by omega)
    obtain ⟨t, ht⟩ : ∃ t, t = n / 2 := ⟨_, rfl⟩
    have ht2 : n = t * 2 := by omega
    rw [rdS_exact t (j + 1) (by omega) (by omega) (by rw [ht2, one_pow hj, Nat.pow_succ, Int.natCast_mul, Int.mul_assoc, Int.mul_comm 2]; rfl)] at v
    exact v
theorem sh_parts {r b : Int} (r0 : 0 ≤ r) (r1 : r < b) (b2 : b ≤ 16777216) : floatBits .quo .f32 (floatOfInt .f32 r) (floatOfInt .f32 b) = some (shW r b) ∧ Same2 .quo 0 (floatOfInt .f32 r) (floatOfInt .f32 b) ∧ Bd 1 (shW r b) := by
  obtain ⟨vr, _⟩ := int_val (n := r) (by omega)
  have vb := int_val' (n := b) (by omega)
  have hp := one_pos
  have hb : (b * (one : Int)) ≠ 0 := by
    have := Int.mul_pos (show 0 < b by omega) (Int.natCast_pos.2 hp); omega
  have S : Same2 .quo 0 (floatOfInt .f32 r) (floatOfInt .f32 b) := div_val vr vb hb (by omega) (by
    rw [Nat.pow_zero, Nat.mul_one, Int.natAbs_mul, Int.natAbs_mul, Int.natAbs_natCast]
    exact Nat.mul_le_mul_right _ (by omega))
  obtain ⟨_, _, _, s, _, _, _, _, e, bs⟩ := S.ex
  have hs : shW r b = s := by unfold shW; rw [e]; rfl
  rw [hs]
  exact ⟨e, S, bd_up bs (by omega)⟩

theorem tparts (a b : Int) (b1 : 1 ≤ b) : a = b * a.tdiv b + a.tmod b ∧ -b < a.tmod b ∧ a.tmod b < b := by
  have h := Int.mul_tdiv_add_tmod a b
  have n : (a.tmod b).natAbs = a.natAbs % b.natAbs := Int.natAbs_tmod a b
  have l := Nat.mod_lt a.natAbs (show 0 < b.natAbs by omega)
  exact ⟨by omega, by omega, by omega⟩

theorem tquo_bd {a b : Int} (b1 : 1 ≤ b) (a1 : -1099511627776 ≤ a) (a2 : a ≤ 1099511627776) : -1099511627776 ≤ a.tdiv b ∧ a.tdiv b ≤ 1099511627776 := by
  have n : (a.tdiv b).natAbs = a.natAbs / b.natAbs := Int.natAbs_tdiv a b
  have l := Nat.div_le_self a.natAbs b.natAbs
  omega

set_option maxHeartbeats 1000000 in
theorem divide_any (a b : Int) (w : World) (b1 : 1 ≤ b) (b2 : b ≤ 16777216) (a1 : -1099511627776 ≤ a) (a2 : a ≤ 1099511627776) :
    Calls Try.prog 200 #[.int .i64 a, .int .i64 b] w fun e w' => e = .returned (.tuple #[.int .i64 (a / b), .float .f32 (shW (a % b) b)]) ∧ Below w.heap.size w w' := by
  obtain ⟨h1, h2, h3⟩ := tparts a b b1
  obtain ⟨q1, q2⟩ := tquo_bd b1 a1 a2
  have hm0 := Int.emod_nonneg a (show b ≠ 0 by omega)
  have hm1 := Int.emod_lt_of_pos a (show 0 < b by omega)
  obtain ⟨e1, _, _⟩ := sh_parts hm0 hm1 b2
  have x1 := fun (W : World) => run_float_arith (P := Try.prog) W .quo 22 .f32 (floatOfInt .f32 (a % b)) (floatOfInt .f32 b) (shW (a % b) b) e1
  have w0 : ¬ (b = 0) := by omega
  obtain ⟨q, hq⟩ : ∃ q, a.tdiv b = q := ⟨_, rfl⟩
  obtain ⟨r, hr⟩ : ∃ r, a.tmod b = r := ⟨_, rfl⟩
  rw [hq, hr] at h1
  rw [hr] at h2 h3
  rw [hq] at q1 q2
  have u3 : IntKind.i64.wrap q = q := IntWalk.i64_in _ (by omega)
  by_cases c : r < 0
  · obtain ⟨d1, d2⟩ := (Int.ediv_emod_unique (a := a) (b := b) (q := q - 1) (r := r + b) (by omega)).2 ⟨by rw [Int.mul_sub]; omega, by omega, by omega⟩
    rw [d1, d2]
    rw [d2] at x1
    clear h1 hm0 hm1 e1 d1 d2
    go_enter Try.func200, Try.ntmps200
    go_wp2
    go_quiet (fail)
    go_wp2
    go_ret2
    exact ⟨rfl, below_drewN _ _⟩
  · obtain ⟨d1, d2⟩ := (Int.ediv_emod_unique (a := a) (b := b) (q := q) (r := r) (by omega)).2 ⟨by omega, by omega, by omega⟩
    rw [d1, d2]
    rw [d2] at x1
    have c' : 0 ≤ r := by omega
    clear h1 hm0 hm1 e1 d1 d2 c
    go_enter Try.func200, Try.ntmps200
    go_wp2
    go_quiet (fail)
    go_wp2
    go_ret2
    exact ⟨rfl, below_drewN _ _⟩

set_option maxHeartbeats 1000000 in
theorem quotient2_any (n num b : Int) (w : World) (b1 : 1 ≤ b) (b2 : b ≤ 16777216) (p1 : -1099511627776 ≤ n * num) (p2 : n * num ≤ 1099511627776) :
    Calls Try.prog 201 #[.int .i64 n, .int .i64 num, .int .i64 b] w fun e w' => e = .returned (.tuple #[.int .i64 (n * num / b), .int .i64 (n * num % b)]) ∧ w = w' := by
  obtain ⟨a, ha⟩ : ∃ a, n * num = a := ⟨_, rfl⟩
  have e1 : wrap64 (n * num) = a := by rw [← ha]; exact IntWalk.wrap64_in _ ⟨by omega, by omega⟩
  rw [ha] at p1 p2 ⊢
  obtain ⟨h1, h2, h3⟩ := tparts a b b1
  obtain ⟨q1, q2⟩ := tquo_bd b1 p1 p2
  have w0 : ¬ (b = 0) := by omega
  obtain ⟨q, hq⟩ : ∃ q, a.tdiv b = q := ⟨_, rfl⟩
  obtain ⟨r, hr⟩ : ∃ r, a.tmod b = r := ⟨_, rfl⟩
  rw [hq, hr] at h1
  rw [hr] at h2 h3
  rw [hq] at q1 q2
  have u4 : wrap64 q = q := IntWalk.wrap64_in _ ⟨by omega, by omega⟩
  clear ha
  by_cases c : r < 0
  · obtain ⟨d1, d2⟩ := (Int.ediv_emod_unique (a := a) (b := b) (q := q - 1) (r := r + b) (by omega)).2 ⟨by rw [Int.mul_sub]; omega, by omega, by omega⟩
    rw [d1, d2]
    have f1 : wrap64 ((q - 1) * b) = a - (r + b) := by
      rw [show (q - 1) * b = a - (r + b) by rw [Int.sub_mul, Int.mul_comm q]; omega]; exact IntWalk.wrap64_in _ ⟨by omega, by omega⟩
    clear h1 d1 d2
    go_enter Try.func201, Try.ntmps201
    go_wp2
    go_ret2
    exact ⟨by rw [show a - (a - (r + b)) = r + b by omega]; rfl, rfl⟩
  · obtain ⟨d1, d2⟩ := (Int.ediv_emod_unique (a := a) (b := b) (q := q) (r := r) (by omega)).2 ⟨by omega, by omega, by omega⟩
    rw [d1, d2]
    have c' : 0 ≤ r := by omega
    have f1 : wrap64 (q * b) = a - r := by
      rw [show q * b = a - r by rw [Int.mul_comm]; omega]; exact IntWalk.wrap64_in _ ⟨by omega, by omega⟩
    clear h1 d1 d2 c
    go_enter Try.func201, Try.ntmps201
    go_wp2
    go_ret2
    exact ⟨by rw [show a - (a - r) = r by omega]; rfl, rfl⟩

theorem quotient_any (n num b : Int) (w : World) (b1 : 1 ≤ b) (b2 : b ≤ 4096) (m1 : 1 ≤ num) (m2 : num ≤ 64) (n1 : -16777216 ≤ n) (n2 : n ≤ 16777216) :
    Calls Try.prog 201 #[.int .i64 n, .int .i64 num, .int .i64 b] w fun e w' => e = .returned (.tuple #[.int .i64 (n * num / b), .int .i64 (n * num % b)]) ∧ w = w' :=
  quotient2_any n num b w b1 (by omega)
    (by have := Int.mul_le_mul_of_nonneg_right n1 (show 0 ≤ num by omega); omega)
    (by have := Int.mul_le_mul_of_nonneg_right n2 (show 0 ≤ num by omega); omega)
end Go.Proofs.Ytmbiohopcfglcaa

/- The root of a single lies between whole numbers whose squares lie around it. -/
namespace Go.Proofs.Ytmbiohopcfglcaa.Fl
open Ieee

/-- Digits of a root, with what is left over told by one more digit, against a whole number. -/
theorem root_between {n w G : Nat} (h1 : w * w ≤ n) (h2 : n < (w + 1) * (w + 1)) :
    (n ≤ G * G → 2 * w + (w * w != n).toNat ≤ 2 * G) ∧ (G * G ≤ n → 2 * G ≤ 2 * w + (w * w != n).toNat) := by
  constructor
  · intro h
    have hw : w ≤ G := by
      rcases Nat.lt_or_ge G w with c | c
      · have : (G + 1) * (G + 1) ≤ w * w := Nat.mul_le_mul c c
        have e : (G + 1) * (G + 1) = G * G + 2 * G + 1 := by rw [Nat.add_mul, Nat.mul_add]; omega
        omega
      · exact c
    rcases Nat.lt_or_ge w G with c | c
    · have := Bool.toNat_le (w * w != n); omega
    · have : w = G := by omega
      subst this
      have : w * w = n := by omega
      rw [this]; simp
  · intro h
    have : G < w + 1 := by
      rcases Nat.lt_or_ge G (w + 1) with c | c
      · exact c
      · have := Nat.mul_le_mul c c; omega
    omega

theorem rootW_of {x X Z r : Nat} (c : Go.floatToFloatBits .f32 x .f64 = some X) (h : double.sqrt X = some Z) (d : Go.floatToFloatBits .f64 Z .f32 = some r) : rootW x = r := by
  unfold rootW
  rw [c, Option.bind_some, h, Option.bind_some, d, Option.getD_some]

theorem root_num {d M mo0 mo n w : Nat} {I : Int} (hM : M ≠ 0) (h0 : 2 * d - M.log2 = mo0) (h1 : mo0 + ((I - (mo0 : Int)) % 2).toNat = mo) (h2 : M <<< mo = n) (h3 : Datum.rootFrom n (n.log2 / 2 + 1) 0 = w) :
    Datum.root d (.number false M I) = some (.number false (2 * w + (w * w != n).toNat) ((I - (mo : Int)) / 2 - 1)) := by
  unfold Datum.root
  simp only [hM, if_false, Bool.false_eq_true, h0, h1, h2, h3]

theorem root_parts {x : Nat} {a : Int} {k : Nat} (h : vS x = some a) (a0 : 0 ≤ a) (hb : Bd k x) (hk : k ≤ 60) : ∃ X Z c, RootAt x a X Z c := by
  obtain ⟨s, m, p, e, rfl⟩ := vS_some h
  obtain ⟨X, M, I, c1, c2, c3, c4, c5⟩ := toD e
  have g := read_single e
  obtain ⟨A, hA⟩ : ∃ A, A = m * 2 ^ (p + 1074).toNat := ⟨_, rfl⟩
  have hv : vOf s m p = (if s then -1 else 1) * (A : Int) := by rw [vOf_mag, hA]
  have hbA : A ≤ 2 ^ (1074 + k) := by
    obtain ⟨s', m', p', e', b'⟩ := hb
    rw [e] at e'; cases e'
    rw [hA]; exact b'
  rw [← hA] at c4
  rcases Nat.eq_zero_or_pos M with zM | hM
  · -- nought
    subst zM
    have zA : A = 0 := by rw [← c4]; simp
    have hz : vOf s m p = 0 := by rw [hv, zA]; simp
    have hq : double.sqrt X = some (wordAt double 0 s 0) := by
      show ((double.read X).root _).map double.write = _
      rw [c2]
      unfold Datum.root
      simp only [if_true, Option.map_some]
      show some (double.nearest s 0 _) = _
      rw [nearest_zero, wordAt_zero]
    have hd : Go.floatToFloatBits .f64 (wordAt double 0 s 0) .f32 = some (wordAt single 925 s 0) := back (B := 1) (by omega) (by omega) (by show rungOf single 925 (rd double 0 0) = _; rw [rd_zero])
    have hw : rootW x = wordAt single 925 s 0 := rootW_of c1 hq hd
    have hvz := vS_word (sg := s) (V := 0) (B := 1) (by omega) (by omega)
    rw [rd_zero] at hvz
    simp only [Int.natCast_zero, Int.mul_zero] at hvz
    refine ⟨X, _, 0, c1, hq, by rw [hw]; exact hd, by rw [hw]; exact hvz, by omega, fun G _ _ => Int.mul_nonneg (by omega) (by omega), fun G _ hg => ?_⟩
    rw [hz] at hg
    have hp := one_pos
    have : G * G * one ≤ 0 := by
      have : ((G * G * one : Nat) : Int) ≤ ((0 : Nat) : Int) := by rw [Int.natCast_mul]; exact hg
      exact Int.ofNat_le.1 this
    have : G = 0 := by
      rcases Nat.eq_zero_or_pos G with z | z
      · exact z
      · have := Nat.mul_pos (Nat.mul_pos z z) hp; omega
    subst this; simp
  · have hm : 0 < A := by rw [← c4]; exact Nat.mul_pos hM (Nat.two_pow_pos _)
    have hs : s = false := by
      cases s
      · rfl
      · rw [hv] at a0; simp only [if_true] at a0; omega
    subst hs
    have hva : vOf false m p = (A : Int) := by rw [hv]; simp
    rw [hva]
    have hI := c5 (by omega)
    -- the dividend
    obtain ⟨mo0, hmo0⟩ : ∃ mo0, mo0 = 2 * (double.fractionBits + 2) - M.log2 := ⟨_, rfl⟩
    obtain ⟨mo, hmo⟩ : ∃ mo, mo = mo0 + ((I - (mo0 : Int)) % 2).toNat := ⟨_, rfl⟩
    obtain ⟨n, hn⟩ : ∃ n, n = M <<< mo := ⟨_, rfl⟩
    obtain ⟨w, hw⟩ : ∃ w, w = Datum.rootFrom n (n.log2 / 2 + 1) 0 := ⟨_, rfl⟩
    obtain ⟨d1, d2⟩ := root_digits n
    rw [← hw] at d1 d2
    have hr : (double.read X).root (double.fractionBits + 2) = some (.number false (2 * w + (w * w != n).toNat) ((I - (mo : Int)) / 2 - 1)) := by
      rw [c2]; exact root_num (by omega) hmo0.symm hmo.symm hn.symm hw.symm
    -- the place is even
    have heven : (I - (mo : Int)) % 2 = 0 := by
      rw [hmo]; have := Int.emod_two_eq (I - (mo0 : Int)); omega
    obtain ⟨hh, hhh⟩ : ∃ hh : Int, hh = (I - (mo : Int)) / 2 := ⟨_, rfl⟩
    have hI2 : I - (mo : Int) = 2 * hh := by omega
    rw [← hhh] at hr
    have l53 : M.log2 + (I + 1074).toNat < 1074 + k + 1 := by
      have := log_units (m := M) (B := 1074 + k + 1) (e := (I + 1074).toNat) hM (by rw [c4]; exact Nat.lt_of_le_of_lt hbA (Nat.pow_lt_pow_right (by omega) (by omega)))
      exact this
    rw [fbD] at hmo0
    have e1 : hh ≤ 0 := by omega
    have e2 : -400 ≤ hh := by omega
    -- units
    obtain ⟨E, hE⟩ : ∃ E : Nat, (E : Int) = hh + 1073 := ⟨(hh + 1073).toNat, by omega⟩
    obtain ⟨T, hT⟩ : ∃ T : Nat, T = 1074 := ⟨_, rfl⟩
    have hET : E + 1 ≤ T := by omega
    have hZ : double.sqrt X = some (wordAt double 0 false ((2 * w + (w * w != n).toNat) * 2 ^ E)) := by
      show ((double.read X).root _).map double.write = _
      rw [hr]
      show some (double.nearest false _ (hh - 1)) = _
      rw [nearest_val double false (-1074) 0 leastD _ (p := hh - 1) (by omega), show (hh - 1 - -1074).toNat = E by omega]
    -- the square in units
    have hsq : n * (2 ^ (E + 1) * 2 ^ (E + 1)) = A * 2 ^ T := by
      rw [hn, Nat.shiftLeft_eq, ← c4, Nat.mul_assoc, Nat.mul_assoc, ← Nat.pow_add, ← Nat.pow_add, ← Nat.pow_add]
      congr 2; omega
    have key : ∀ g : Nat, ∃ G : Nat, g * one = G * 2 ^ (E + 1) ∧ (A ≤ g * g * one ↔ n ≤ G * G) ∧ (g * g * one ≤ A ↔ G * G ≤ n) := by
      intro g
      refine ⟨g * 2 ^ (T - (E + 1)), ?_, ?_, ?_⟩
      · rw [one_pow hT, Nat.mul_assoc, ← Nat.pow_add, Nat.sub_add_cancel hET]
      all_goals
        have hp : 0 < 2 ^ (E + 1) * 2 ^ (E + 1) := Nat.mul_pos (Nat.two_pow_pos _) (Nat.two_pow_pos _)
        have e : g * 2 ^ (T - (E + 1)) * (g * 2 ^ (T - (E + 1))) * (2 ^ (E + 1) * 2 ^ (E + 1)) = g * g * one * 2 ^ T := by
          have e' : 2 ^ (T - (E + 1)) * 2 ^ (E + 1) = 2 ^ T := by rw [← Nat.pow_add, Nat.sub_add_cancel hET]
          rw [one_pow hT]
          calc g * 2 ^ (T - (E + 1)) * (g * 2 ^ (T - (E + 1))) * (2 ^ (E + 1) * 2 ^ (E + 1)) = g * g * ((2 ^ (T - (E + 1)) * 2 ^ (E + 1)) * (2 ^ (T - (E + 1)) * 2 ^ (E + 1))) := by
                simp only [Nat.mul_assoc, Nat.mul_left_comm, Nat.mul_comm]
            _ = g * g * 2 ^ T * 2 ^ T := by rw [e']; simp only [Nat.mul_assoc]
        constructor
        · intro q
          refine Nat.le_of_mul_le_mul_right ?_ hp
          rw [hsq, e]; exact Nat.mul_le_mul_right _ q
        · intro q
          have := Nat.mul_le_mul_right (2 ^ (E + 1) * 2 ^ (E + 1)) q
          rw [hsq, e] at this
          exact Nat.le_of_mul_le_mul_right this (Nat.two_pow_pos T)
    obtain ⟨V, hV⟩ : ∃ V, V = (2 * w + (w * w != n).toNat) * 2 ^ E := ⟨_, rfl⟩
    rw [← hV] at hZ
    have cmp : ∀ g : Nat, (A ≤ g * g * one → V ≤ g * one) ∧ (g * g * one ≤ A → g * one ≤ V) := by
      intro g
      obtain ⟨G, k1, k2, k3⟩ := key g
      obtain ⟨b1, b2⟩ := root_between (G := G) d1 d2
      have k4 : g * one = 2 * G * 2 ^ E := by rw [k1, Nat.pow_succ, Nat.mul_comm 2 G, Nat.mul_assoc, Nat.mul_comm 2 (2 ^ E)]
      rw [k4, hV]
      exact ⟨fun q => Nat.mul_le_mul_right _ (b1 (k2.1 q)), fun q => Nat.mul_le_mul_right _ (b2 (k3.1 q))⟩
    -- V is small
    have hVB : V < 2 ^ (T + 61) := by
      obtain ⟨L, hL⟩ : ∃ L : Nat, L = 60 := ⟨_, rfl⟩
      have e6 : A ≤ 2 ^ L * 2 ^ L * one := by
        refine Nat.le_trans hbA ?_
        rw [one_pow hT, ← Nat.pow_add, ← Nat.pow_add]
        exact two_le (by omega)
      have := (cmp (2 ^ L)).1 e6
      rw [one_pow hT, ← Nat.pow_add] at this
      exact Nat.lt_of_le_of_lt this (Nat.pow_lt_pow_right (by omega) (by omega))
    obtain ⟨q1, q2⟩ := down_word hVB (by omega)
    have hw2 : rootW x = wordAt single 925 false (rd double 0 V) := rootW_of c1 hZ q1
    -- whole numbers are not rounded
    have fix : ∀ g : Nat, g < 16777216 → rd double 0 (g * one) = g * one ∧ rd single 925 (g * one) = g * one := by
      intro g hg
      rw [one_pow hT]
      exact ⟨rd_exact double 0 g T (by rw [fbD]; exact Nat.lt_of_lt_of_le hg (by decide)) (by omega), rd_exact single 925 g T (by rw [fbS]; exact hg) (by omega)⟩
    refine ⟨X, _, _, c1, hZ, by rw [hw2]; exact q1, by rw [hw2]; exact q2, by omega, fun g hg ha => ?_, fun g hg ha => ?_⟩
    · have ha' : A ≤ g * g * one := by
        have : (A : Int) ≤ ((g * g * one : Nat) : Int) := by rw [Int.natCast_mul]; exact ha
        exact Int.ofNat_le.1 this
      have h1 := rdD_mono ((cmp g).1 ha')
      rw [(fix g hg).1] at h1
      have h2 := rd_mono h1
      rw [(fix g hg).2] at h2
      rw [← Int.natCast_mul]; exact Int.ofNat_le.2 h2
    · have ha' : g * g * one ≤ A := by
        have : ((g * g * one : Nat) : Int) ≤ (A : Int) := by rw [Int.natCast_mul]; exact ha
        exact Int.ofNat_le.1 this
      have h1 := rdD_mono ((cmp g).2 ha')
      rw [(fix g hg).1] at h1
      have h2 := rd_mono h1
      rw [(fix g hg).2] at h2
      rw [← Int.natCast_mul]; exact Int.ofNat_le.2 h2
end Go.Proofs.Ytmbiohopcfglcaa.Fl

/- Contracts: math.Sqrt, and the roots of both sides. -/
namespace Go.Proofs.Ytmbiohopcfglcaa
open Go.RowKit Fl
set_option linter.unusedVariables false

theorem extSqrt (X Z : Nat) (h : FloatKind.f64.format.sqrt X = some Z) : Extern.MathSqrt.sqrt #[.float .f64 X] = pure (.float .f64 Z) := by
  conv => lhs; whnf
  rw [h]

theorem sqrt_num (X Z : Nat) (h : Ieee.double.sqrt X = some Z) (w : World) :
    (callFunc 217 #[.float .f64 X]).run Try.prog w = .ok (.value (.float .f64 Z)) w := by
  rw [run_callFunc_extern Try.func217 (by kernel_rfl) (by kernel_rfl) (by kernel_rfl) (e := Extern.MathSqrt.sqrt) (by kernel_rfl), extSqrt X Z h]
  rfl

set_option maxHeartbeats 400000 in
theorem mathSqrt_num (X Z : Nat) (h : Ieee.double.sqrt X = some Z) (w : World) :
    Calls Try.prog 187 #[.float .f64 X] w fun e w' => e = .returned (.float .f64 Z) ∧ w = w' := by
  have a1 := sqrt_num X Z h
  clear h
  go_enter Try.func187, Try.ntmps187
  go_wp2
  go_ret
  exact ⟨rfl, rfl⟩

set_option maxHeartbeats 400000 in
theorem root_any {x : Nat} {a c : Int} {X Z : Nat} (R : RootAt x a X Z c) (w : World) :
    Calls Try.prog 181 #[.float .f32 x] w fun e w' => e = .returned (.float .f32 (rootW x)) ∧ w = w' := by
  have d1 := fun (W : World) => run_convert_float_float (P := Try.prog) W 22 182 .f32 .f64 x X (by kernel_rfl) Try.underlying182 R.up
  have d2 := fun (W : World) => run_convert_float_float (P := Try.prog) W 182 22 .f64 .f32 Z (rootW x) (by kernel_rfl) Try.underlying22 R.dn
  have MS := Lib.hid (fun w => mathSqrt_num X Z R.sq w)
  generalize rootW x = r at *
  clear R
  go_enter Try.func181, Try.ntmps181
  go_wp2_with (go_at_call 187; refine (MS.out _).mono ?_; rintro e w' ⟨rfl, rfl⟩)
  go_ret
  exact ⟨rfl, rfl⟩

set_option maxHeartbeats 400000 in
theorem refRoot_any {x : Nat} {a c : Int} {X Z : Nat} (R : RootAt x a X Z c) (w : World) :
    Calls Try.prog 103 #[.float .f32 x] w fun e w' => e = .returned (.float .f32 (rootW x)) ∧ w = w' := by
  have d1 := fun (W : World) => run_convert_float_float (P := Try.prog) W 22 182 .f32 .f64 x X (by kernel_rfl) Try.underlying182 R.up
  have d2 := fun (W : World) => run_convert_float_float (P := Try.prog) W 182 22 .f64 .f32 Z (rootW x) (by kernel_rfl) Try.underlying22 R.dn
  have MS := Lib.hid (fun w => mathSqrt_num X Z R.sq w)
  generalize rootW x = r at *
  clear R
  go_enter Try.func103, Try.ntmps103
  go_wp2_with (go_at_call 187; refine (MS.out _).mono ?_; rintro e w' ⟨rfl, rfl⟩)
  go_ret
  exact ⟨rfl, rfl⟩
end Go.Proofs.Ytmbiohopcfglcaa

/- A single with its sign turned; magnitudes of quotients by what is at least 1. -/
namespace Go.Proofs.Ytmbiohopcfglcaa.Fl
open Ieee

theorem xor_add {r : Nat} (h : r < 2147483648) : r ^^^ 2147483648 = r + 2147483648 := by
  have e : 2 ^ 31 * 1 + r = 2 ^ 31 * 1 ||| r := Nat.two_pow_add_eq_or_of_lt h 1
  have e' : r + 2147483648 = 2147483648 ||| r := by
    rw [Nat.add_comm]; simpa using e
  rw [e']
  apply Nat.eq_of_testBit_eq
  intro i
  rw [Nat.testBit_xor, Nat.testBit_or]
  have t : (2147483648 : Nat) = 2 ^ 31 := by decide
  rw [t, Nat.testBit_two_pow]
  by_cases c : 31 = i
  · subst c
    have : r.testBit 31 = false := Nat.testBit_lt_two_pow (by rw [← t]; exact h)
    rw [this]; simp
  · simp [c]

theorem xor31 {b : Nat} (h : b < 4294967296) : b ^^^ 2147483648 = if b < 2147483648 then b + 2147483648 else b - 2147483648 := by
  split
  · rename_i c; exact xor_add c
  · rename_i c
    have e := xor_add (r := b - 2147483648) (by omega)
    have e2 : b = (b - 2147483648) ^^^ 2147483648 := by rw [e]; omega
    have e3 : b ^^^ 2147483648 = ((b - 2147483648) ^^^ 2147483648) ^^^ 2147483648 := congrArg (· ^^^ 2147483648) e2
    rw [e3, Nat.xor_assoc, Nat.xor_self, Nat.xor_zero]

theorem read_opp {b : Nat} (h : b < 4294967296) : single.read (b ^^^ 2147483648) = (single.read b).opposite := by
  rw [xor31 h]
  by_cases c : b < 2147483648
  · rw [if_pos c]
    have d1 : (b + 2147483648) / 2147483648 = 1 := by omega
    have d2 : (b + 2147483648) % 2147483648 = b := by omega
    have d3 : b / 2147483648 = 0 := by omega
    have d4 : b % 2147483648 = b := by omega
    unfold Format.read
    simp only [swS, d1, d2, d3, d4]
    repeat' split
    all_goals simp_all [Datum.opposite]
  · rw [if_neg c]
    have d1 : (b - 2147483648) / 2147483648 = 0 := by omega
    have d2 : (b - 2147483648) % 2147483648 = b - 2147483648 := by omega
    have d3 : b / 2147483648 = 1 := by omega
    have d4 : b % 2147483648 = b - 2147483648 := by omega
    unfold Format.read
    simp only [swS, d1, d2, d3, d4]
    repeat' split
    all_goals simp_all [Datum.opposite]

/-- A single, its sign turned. -/
def negW (b : Nat) : Nat := b ^^^ 2147483648
theorem neg_val {b : Nat} {a : Int} (h : b < 4294967296) (hv : vS b = some a) : vS (negW b) = some (-a) := by
  obtain ⟨s, m, p, e, rfl⟩ := vS_some hv
  have r : single.read (negW b) = .number (!s) m p := by unfold negW; rw [read_opp h, e]; rfl
  rw [vS_num r, vOf_opp]
theorem neg_bd {b k : Nat} (h : b < 4294967296) (hb : Bd k b) : Bd k (negW b) := by
  obtain ⟨s, m, p, e, l⟩ := hb
  exact ⟨!s, m, p, by unfold negW; rw [read_opp h, e]; rfl, l⟩
theorem negFloat_eq (b : Nat) : Go.Op.negFloat .f32 b = negW b := rfl
end Go.Proofs.Ytmbiohopcfglcaa.Fl

/- The shade of one cell, as a word; what its steps come to. -/
namespace Go.Proofs.Ytmbiohopcfglcaa
open Go.RowKit Fl
set_option linter.unusedVariables false

/-- By how much the ground rises from one neighbour to the opposite one. -/
def riseW (a b : Nat) : Nat := mulW (subW a b) 1056964608
/-- The square of the rise, and the length of the normal before it is made 1. -/
def sqrW (dx dy : Nat) : Nat := addW (mulW dx dx) (mulW dy dy)
def nrmW (dx dy : Nat) : Nat := rootW (addW (sqrW dx dy) 1065353216)

theorem vS_half {j : Nat} (hj : j = 1073) : vS 1056964608 = some ((2 ^ j : Nat) : Int) := by
  have h : Ieee.single.read 1056964608 = .number false 8388608 (-24) := by decide
  rw [vS_lit (t := 1) (k := 23) (j := j) h (by decide) (by rw [hj]; decide)]; simp
theorem bd_half : Bd 0 1056964608 := by
  obtain ⟨j, hj⟩ : ∃ j : Nat, j = 1073 := ⟨_, rfl⟩
  obtain ⟨J, hJ⟩ : ∃ J : Nat, J = 1074 := ⟨_, rfl⟩
  exact bd_val' (j := J) (vS_half hj) (by omega) (by rw [Int.natAbs_natCast]; exact Nat.pow_le_pow_right (by omega) (by omega))

structure RiseAt (a b d r : Nat) : Prop where
  d1 : floatBits .sub .f32 a b = some d
  d2 : Same2 .sub 21 a b
  r1 : floatBits .mul .f32 d 1056964608 = some r
  r2 : Same2 .mul 21 d 1056964608
  bd : Bd 21 r
  w : riseW a b = r
  lt : r < 4294967296
theorem rise_parts {a b : Nat} (ha : hgtB a = true) (hb : hgtB b = true) : ∃ d r, RiseAt a b d r := by
  have d2 : Same2 .sub 21 a b := sub_same (k := 20) (by omega) (hgt_bd ha) (hgt_bd hb)
  obtain ⟨d, d1, bd⟩ := same_ex d2
  have r2 : Same2 .mul (21 + 0) d 1056964608 := mul_same (by omega) bd bd_half
  obtain ⟨r, r1, br⟩ := same_ex r2
  exact ⟨d, r, d1, d2, r1, r2, br, by unfold riseW subW mulW; rw [d1]; show (floatBits .mul .f32 d 1056964608).getD 0 = r; rw [r1]; rfl, mul_lt r1⟩

theorem square_nn {t r k : Nat} {B : Nat} (hb : Bd k t) (e : floatBits .mul .f32 t t = some r) (hB : 1074 + k + k < B) (hB' : B < 1202) : ∃ d, vS r = some d ∧ 0 ≤ d := by
  obtain ⟨a, h, ha⟩ := val_bd hb
  obtain ⟨P, hP⟩ := mul_unit h h
  have hone : (0 : Int) < (one : Int) := Int.natCast_pos.2 one_pos
  have sq : 0 ≤ a * a := by rw [← Int.natAbs_mul_self' a]; exact Int.mul_nonneg (Int.natCast_nonneg _) (Int.natCast_nonneg _)
  have P0 : 0 ≤ P := by
    rw [hP] at sq
    exact Int.le_of_mul_le_mul_right (by rw [Int.zero_mul]; exact sq) hone
  obtain ⟨J, hJ⟩ : ∃ J : Nat, J = 1074 := ⟨_, rfl⟩
  have lt : P.natAbs < 2 ^ B := by
    have e1 : a.natAbs * a.natAbs = P.natAbs * one := by rw [← Int.natAbs_mul, hP, Int.natAbs_mul, Int.natAbs_natCast]
    have e2 : a.natAbs * a.natAbs ≤ 2 ^ (J + k) * 2 ^ (J + k) := by rw [hJ]; exact Nat.mul_le_mul ha ha
    rw [e1, one_pow hJ, show 2 ^ (J + k) * 2 ^ (J + k) = 2 ^ (J + k + k) * 2 ^ J by rw [← Nat.pow_add, ← Nat.pow_add]; exact congrArg (2 ^ ·) (by omega)] at e2
    have e3 := Nat.le_of_mul_le_mul_right e2 (Nat.two_pow_pos J)
    exact Nat.lt_of_le_of_lt e3 (Nat.pow_lt_pow_right (by omega) (by omega))
  exact ⟨_, vS_mul (B := B) e h h hP lt (by omega), rdS_nonneg P0⟩

structure NrmAt (dx dy p q s u : Nat) (a : Int) (X Z : Nat) (c : Int) : Prop where
  p1 : floatBits .mul .f32 dx dx = some p
  p2 : Same2 .mul 42 dx dx
  q1 : floatBits .mul .f32 dy dy = some q
  q2 : Same2 .mul 42 dy dy
  s1 : floatBits .add .f32 p q = some s
  s2 : Same2 .add 43 p q
  u1 : floatBits .add .f32 s 1065353216 = some u
  u2 : Same2 .add 44 s 1065353216
  rt : RootAt u a X Z c
  c1 : (one : Int) ≤ c
  ws : sqrW dx dy = s
  w : nrmW dx dy = rootW u

theorem nrm_parts {dx dy : Nat} (hx : Bd 21 dx) (hy : Bd 21 dy) : ∃ p q s u a X Z c, NrmAt dx dy p q s u a X Z c := by
  have p2 : Same2 .mul (21 + 21) dx dx := mul_same (by omega) hx hx
  obtain ⟨p, p1, bp⟩ := same_ex p2
  have q2 : Same2 .mul (21 + 21) dy dy := mul_same (by omega) hy hy
  obtain ⟨q, q1, bq⟩ := same_ex q2
  have s2 : Same2 .add 43 p q := add_same (k := 42) (by omega) bp bq
  obtain ⟨s, s1, bs⟩ := same_ex s2
  have u2 : Same2 .add 44 s 1065353216 := add_same (k := 43) (by omega) bs (bd_one 43)
  obtain ⟨u, u1, bu⟩ := same_ex u2
  obtain ⟨B, hB⟩ : ∃ B : Nat, B = 1150 := ⟨_, rfl⟩
  obtain ⟨ap, vp, p0⟩ := square_nn (B := B) hx p1 (by omega) (by omega)
  obtain ⟨aq, vq, q0⟩ := square_nn (B := B) hy q1 (by omega) (by omega)
  obtain ⟨J, hJ⟩ : ∃ J : Nat, J = 1074 := ⟨_, rfl⟩
  have up : ∀ {x k : Nat} {a : Int}, Bd k x → vS x = some a → k ≤ 60 → a.natAbs < 2 ^ (J + 61) := by
    intro x k a hb hv hk
    obtain ⟨a', h', l'⟩ := val_bd hb
    rw [hv] at h'
    have := Option.some.inj h'
    subst this
    rw [← hJ] at l'
    exact Nat.lt_of_le_of_lt l' (Nat.pow_lt_pow_right (by omega) (by omega))
  have l1 := up bp vp (by omega)
  have l2 := up bq vq (by omega)
  have vs : vS s = some (rdS (ap + aq)) := vS_add (B := J + 62) s1 vp vq (by rw [show J + 62 = J + 61 + 1 by omega, Nat.pow_succ]; generalize 2 ^ (J + 61) = T at *; omega) (by omega)
  have s0 : 0 ≤ rdS (ap + aq) := rdS_nonneg (by omega)
  have l3 := up bs vs (by omega)
  have lo : one < 2 ^ (J + 61) := one_lt (by omega)
  have vu : vS u = some (rdS (rdS (ap + aq) + (one : Int))) := vS_add (B := J + 62) u1 vs vS_one (by rw [show J + 62 = J + 61 + 1 by omega, Nat.pow_succ]; generalize 2 ^ (J + 61) = T at *; generalize one = O at *; omega) (by omega)
  have u0 : (one : Int) ≤ rdS (rdS (ap + aq) + (one : Int)) := by
    have := rdS_mono (show (one : Int) ≤ rdS (ap + aq) + (one : Int) by generalize one = O at *; omega)
    rwa [rdS_self vS_one] at this
  obtain ⟨X, Z, c, RT⟩ := root_parts vu (by generalize one = O at *; omega) bu (by omega)
  have hc : (one : Int) ≤ c := by
    have := RT.lo 1 (by omega) (by simpa using u0)
    simpa using this
  have es : sqrW dx dy = s := by unfold sqrW mulW addW; rw [p1, q1]; show (floatBits .add .f32 p q).getD 0 = s; rw [s1]; rfl
  exact ⟨p, q, s, u, _, X, Z, c, p1, p2, q1, q2, s1, s2, u1, u2, RT, hc, es, by unfold nrmW addW; rw [es, u1]; rfl⟩

/-- The light on a cell ahead of the greater one of it and 0, and the shade. -/
def litW (M : Nat) (lx ly lz : Int) (dx dy : Nat) : Nat :=
  quoW (addW (addW (mulW (quoW (negW dx) (nrmW dx dy)) (floatOfInt .f32 lx)) (mulW (quoW (negW dy) (nrmW dx dy)) (floatOfInt .f32 ly))) (mulW (quoW 1065353216 (nrmW dx dy)) (floatOfInt .f32 lz))) M
def shdW (x : Nat) : Nat := if (FloatKind.f32.format.order 0 x == some .lt) = true then x else 0

/-- A length of a direction: its value is at least 1. -/
def LenOk (M : Nat) : Prop := ∃ c, vS M = some c ∧ (one : Int) ≤ c

structure LitAt (M : Nat) (lx ly lz : Int) (dx dy m nx ny nz a b s d t r : Nat) : Prop where
  nx1 : floatBits .quo .f32 (negW dx) m = some nx
  nx2 : Same2 .quo 21 (negW dx) m
  ny1 : floatBits .quo .f32 (negW dy) m = some ny
  ny2 : Same2 .quo 21 (negW dy) m
  nz1 : floatBits .quo .f32 1065353216 m = some nz
  nz2 : Same2 .quo 0 1065353216 m
  a1 : floatBits .mul .f32 nx (floatOfInt .f32 lx) = some a
  a2 : Same2 .mul 45 nx (floatOfInt .f32 lx)
  b1 : floatBits .mul .f32 ny (floatOfInt .f32 ly) = some b
  b2 : Same2 .mul 45 ny (floatOfInt .f32 ly)
  s1 : floatBits .add .f32 a b = some s
  s2 : Same2 .add 46 a b
  d1 : floatBits .mul .f32 nz (floatOfInt .f32 lz) = some d
  d2 : Same2 .mul 24 nz (floatOfInt .f32 lz)
  t1 : floatBits .add .f32 s d = some t
  t2 : Same2 .add 47 s d
  r1 : floatBits .quo .f32 t M = some r
  r2 : Same2 .quo 47 t M
  w : litW M lx ly lz dx dy = r
  v : ∃ a, vS r = some a
  lt : r < 4294967296

theorem quo_lt {x y r : Nat} (h : floatBits .quo .f32 x y = some r) : r < 4294967296 := opt_lt (d := (Ieee.single.read x).quotient _ (Ieee.single.read y)) h
theorem div_by {x m k : Nat} {c : Int} (hk : k ≤ 120) (hb : Bd k x) (hm : vS m = some c) (c1 : (one : Int) ≤ c) : Same2 .quo k x m := by
  obtain ⟨a, ha, l⟩ := val_bd hb
  have hp := one_pos
  refine div_val ha hm (by generalize one = O at *; omega) hk (Nat.le_trans l ?_)
  obtain ⟨J, hJ⟩ : ∃ J : Nat, J = 1074 := ⟨_, rfl⟩
  rw [show 1074 + k = J + k by omega, Nat.pow_add, ← one_pow hJ]
  exact Nat.mul_le_mul_right _ (by generalize one = O at *; omega)

theorem lit_parts {M dx dy m : Nat} {lx ly lz c : Int} (hx : Bd 21 dx) (hy : Bd 21 dy) (x1 : dx < 4294967296) (y1 : dy < 4294967296) (hm : nrmW dx dy = m) (vm : vS m = some c) (c1 : (one : Int) ≤ c) (hM : LenOk M)
    (l1 : lx.natAbs ≤ 1000) (l2 : ly.natAbs ≤ 1000) (l3 : lz.natAbs ≤ 1000) : ∃ nx ny nz a b s d t r, LitAt M lx ly lz dx dy m nx ny nz a b s d t r := by
  obtain ⟨cM, vM, cM1⟩ := hM
  obtain ⟨_, bx⟩ := int_val (n := lx) (by omega)
  obtain ⟨_, by'⟩ := int_val (n := ly) (by omega)
  obtain ⟨_, bz⟩ := int_val (n := lz) (by omega)
  have nx2 := div_by (k := 21) (by omega) (neg_bd x1 hx) vm c1
  obtain ⟨nx, nx1, bnx⟩ := same_ex nx2
  have ny2 := div_by (k := 21) (by omega) (neg_bd y1 hy) vm c1
  obtain ⟨ny, ny1, bny⟩ := same_ex ny2
  have nz2 := div_by (k := 0) (by omega) (bd_one 0) vm c1
  obtain ⟨nz, nz1, bnz⟩ := same_ex nz2
  have a2 : Same2 .mul (21 + 24) nx (floatOfInt .f32 lx) := mul_same (by omega) bnx bx
  obtain ⟨a, a1, ba⟩ := same_ex a2
  have b2 : Same2 .mul (21 + 24) ny (floatOfInt .f32 ly) := mul_same (by omega) bny by'
  obtain ⟨b, b1, bb⟩ := same_ex b2
  have s2 : Same2 .add 46 a b := add_same (k := 45) (by omega) ba bb
  obtain ⟨s, s1, bs⟩ := same_ex s2
  have d2 : Same2 .mul (0 + 24) nz (floatOfInt .f32 lz) := mul_same (by omega) bnz bz
  obtain ⟨d, d1, bd⟩ := same_ex d2
  have t2 : Same2 .add 47 s d := add_same (k := 46) (by omega) bs (bd_up bd (by omega))
  obtain ⟨t, t1, bt⟩ := same_ex t2
  have r2 := div_by (k := 47) (by omega) bt vM cM1
  obtain ⟨r, r1, br⟩ := same_ex r2
  obtain ⟨ar, vr, _⟩ := val_bd br
  refine ⟨nx, ny, nz, a, b, s, d, t, r, nx1, nx2, ny1, ny2, nz1, nz2, a1, a2, b1, b2, s1, s2, d1, d2, t1, t2, r1, r2, ?_, ⟨ar, vr⟩, quo_lt r1⟩
  unfold litW
  rw [hm]
  have e1 : quoW (negW dx) m = nx := by unfold quoW; rw [nx1]; rfl
  have e2 : quoW (negW dy) m = ny := by unfold quoW; rw [ny1]; rfl
  have e3 : quoW 1065353216 m = nz := by unfold quoW; rw [nz1]; rfl
  have e4 : mulW nx (floatOfInt .f32 lx) = a := by unfold mulW; rw [a1]; rfl
  have e5 : mulW ny (floatOfInt .f32 ly) = b := by unfold mulW; rw [b1]; rfl
  have e6 : addW a b = s := by unfold addW; rw [s1]; rfl
  have e7 : mulW nz (floatOfInt .f32 lz) = d := by unfold mulW; rw [d1]; rfl
  have e8 : addW s d = t := by unfold addW; rw [t1]; rfl
  rw [e1, e2, e3, e4, e5, e6, e7, e8]
  unfold quoW; rw [r1]; rfl

/-- A shade is not below 0. -/
theorem shd_nn {x : Nat} {a : Int} (h : vS x = some a) : (FloatKind.f32.format.order (shdW x) 0 == some .lt) = false := by
  unfold shdW
  split
  · rename_i c
    rw [f32f, lss_val vS_zero h] at c
    rw [f32f, lss_val h vS_zero]
    simp at c ⊢; omega
  · rw [f32f, lss_val vS_zero vS_zero]; simp
theorem shd_lt {x : Nat} (h : x < 4294967296) : shdW x < 4294967296 := by unfold shdW; split <;> first | exact h | decide
end Go.Proofs.Ytmbiohopcfglcaa

/- Contracts: Same$1, EqualFunc, Same, same. -/
namespace Go.Proofs.Ytmbiohopcfglcaa
open Go.RowKit Fl
set_option linter.unusedVariables false

theorem enters_Same1 : Enters 186 := by intro args W; simp [callFunc, Try.func186, Try.f186]

set_option maxHeartbeats 400000 in
theorem same1_self (x : Nat) (w : World) :
    Calls Try.prog 186 #[.float .f32 x, .float .f32 x] w fun e w' => e = .returned (.bool true) ∧ w = w' := by
  have h1 := f32bits
  go_enter Try.func186, Try.ntmps186
  go_wp2
  go_ret
  exact ⟨rfl, rfl⟩

set_option maxHeartbeats 1000000 in
theorem equalFunc_row (b b' cap cap' n : Nat) (v : Nat → Nat) (hl : n ≤ 9223372036854775807) (w : World) (hc : FlAt w b 0 n v) (hc' : FlAt w b' 0 n v) :
    Calls Try.prog 185 #[.slice (some ⟨b, 0, none⟩) n cap, .slice (some ⟨b', 0, none⟩) n cap', .func (.func 186) #[] #[]] w fun e w' => e = .returned (.bool true) ∧ w = w' := by
  have hcall := enters_Same1
  unfold Enters at hcall
  go_enter Try.func185, Try.ntmps185
  go_wp2
  go_loop [17] (fun i => ∃ k : Nat, k ≤ n ∧ i = .int .i64 k) (fun i => n - (intOf i).toNat)
  case atStart => exact ⟨0, Nat.zero_le _, rfl⟩
  case round =>
    obtain ⟨k, hk, rfl⟩ := hrel
    by_cases hlt : k < n
    · have hcell := hc k hlt
      have hcell' := hc' k hlt
      rw [Nat.zero_add] at hcell hcell'
      have IH := Lib.hid (fun w => same1_self (v k) w)
      go_wp2_with fail
      refine (IH.out _).mono ?_
      rintro e w' ⟨rfl, rfl⟩
      go_wp2
      go_round
      case rel => exact ⟨k + 1, by omega, by go_num⟩
      case measure => simp [intOf]; omega
    · go_wp2
      go_ret
      exact ⟨rfl, rfl⟩

set_option maxHeartbeats 1000000 in
theorem same_ok (X Y W H : Int) (b b' cap cap' n : Nat) (v : Nat → Nat) (hl : n ≤ 9223372036854775807) (h1 : 1 ≤ n) (w : World) (hc : FlAt w b 0 n v) (hc' : FlAt w b' 0 n v) :
    Calls Try.prog 98 #[fldV X Y W H (.slice (some ⟨b, 0, none⟩) n cap), fldV X Y W H (.slice (some ⟨b', 0, none⟩) n cap')] w fun e w' => e = .returned (.bool true) ∧ Below w.heap.size w w' := by
  have z := World.block_lt_of_cell? w _ (hc 0 h1)
  have z' := World.block_lt_of_cell? w _ (hc' 0 h1)
  have EF := Lib.hid (fun W' (hb : Below w.heap.size w W') => equalFunc_row b b' cap cap' n v hl W' (flAt_congr hc (hb.block _ z)) (flAt_congr hc' (hb.block _ z')))
  clear hc hc'
  go_enter Try.func98, Try.ntmps98
  go_wp2_with (first | (go_at_call 185; refine (EF.out _ (by repeat (first | exact Below.refl _ _ | refine Below.alloc ?_ (by first | omega | (simp; done) | (simp; omega)) _ | refine Below.setCell ?_ (by first | omega | (simp; done) | (simp; omega)) _ | refine Below.drew ?_))).mono ?_; rintro e w' ⟨rfl, rfl⟩))
  go_ret
  exact ⟨rfl, (by repeat (first | exact Below.refl _ _ | refine Below.alloc ?_ (by first | omega | (simp; done) | (simp; omega)) _ | refine Below.setCell ?_ (by first | omega | (simp; done) | (simp; omega)) _ | refine Below.drew ?_))⟩

set_option maxHeartbeats 1000000 in
theorem law_same_ok (X Y W H : Int) (b b' cap cap' n : Nat) (v : Nat → Nat) (hl : n ≤ 9223372036854775807) (h1 : 1 ≤ n) (w : World) (hc : FlAt w b 0 n v) (hc' : FlAt w b' 0 n v) :
    Calls Try.prog 22 #[fldV X Y W H (.slice (some ⟨b, 0, none⟩) n cap), .int .i64 0, fldV X Y W H (.slice (some ⟨b', 0, none⟩) n cap'), .int .i64 0] w fun e w' => e = .returned (.bool true) ∧ Below w.heap.size w w' := by
  have z := World.block_lt_of_cell? w _ (hc 0 h1)
  have z' := World.block_lt_of_cell? w _ (hc' 0 h1)
  have SM := Lib.hid (fun W' (hb : Below w.heap.size w W') => same_ok X Y W H b b' cap cap' n v hl h1 W' (flAt_congr hc (hb.block _ z)) (flAt_congr hc' (hb.block _ z')))
  clear hc hc'
  go_enter Try.func22, Try.ntmps22
  go_wp2_with (first | (go_at_call 98; refine (SM.out _ (by repeat (first | exact Below.refl _ _ | refine Below.alloc ?_ (by first | omega | (simp; done) | (simp; omega)) _ | refine Below.setCell ?_ (by first | omega | (simp; done) | (simp; omega)) _ | refine Below.drew ?_))).mono ?_; rintro e w2 ⟨rfl, hb2⟩))
  go_ret
  exact ⟨rfl, Below.trans (by repeat (first | exact Below.refl _ _ | refine Below.alloc ?_ (by first | omega | (simp; done) | (simp; omega)) _ | refine Below.setCell ?_ (by first | omega | (simp; done) | (simp; omega)) _ | refine Below.drew ?_)) (Below.mono hb2 (by simp; try omega))⟩

set_option maxHeartbeats 1000000 in
theorem law_same_err (e1 : Int) (he : e1 ≠ 0) (w : World) :
    Calls Try.prog 22 #[fldV 0 0 0 0 (.slice none 0 0), .int .i64 e1, fldV 0 0 0 0 (.slice none 0 0), .int .i64 e1] w fun e w' => e = .returned (.bool true) ∧ Below w.heap.size w w' := by
  have hb : (e1 != 0) = true := by simp [he]
  go_enter Try.func22, Try.ntmps22
  go_wp2
  go_ret
  exact ⟨rfl, (by repeat (first | exact Below.refl _ _ | refine Below.alloc ?_ (by first | omega | (simp; done) | (simp; omega)) _ | refine Below.setCell ?_ (by first | omega | (simp; done) | (simp; omega)) _ | refine Below.drew ?_))⟩

end Go.Proofs.Ytmbiohopcfglcaa

/- What the two sides answer, told alike: so the law's walk has one way. -/
namespace Go.Proofs.Ytmbiohopcfglcaa
open Go.RowKit Fl
set_option linter.unusedVariables false

/-- A result (the field x y u h s, the error k) of a function that makes f over a region, behind the error er. -/
def Res (lo : Nat) (w : World) (X Y W H : Int) (n : Nat) (f : Nat → Nat) (er : Int) (x y u h : Int) (s : Value) (k : Int) : Prop :=
  (er ≠ 0 ∧ x = 0 ∧ y = 0 ∧ u = 0 ∧ h = 0 ∧ s = .slice none 0 0 ∧ k = er) ∨
  (er = 0 ∧ allB n (fun i => hgtB (f i)) = true ∧ x = X ∧ y = Y ∧ u = W ∧ h = H ∧ (∃ b cap, s = .slice (some ⟨b, 0, none⟩) n cap ∧ lo ≤ b ∧ b < w.heap.size ∧ FlAt w b 0 n f) ∧ k = 0) ∨
  (er = 0 ∧ allB n (fun i => hgtB (f i)) = false ∧ x = 0 ∧ y = 0 ∧ u = 0 ∧ h = 0 ∧ s = .slice none 0 0 ∧ k = 3)
theorem Res.stay {lo : Nat} {w w' : World} {X Y W H : Int} {n : Nat} {f : Nat → Nat} {er x y u h : Int} {s : Value} {k : Int} (r : Res lo w X Y W H n f er x y u h s k) (hb : Below w.heap.size w w') : Res lo w' X Y W H n f er x y u h s k := by
  rcases r with r | ⟨r1, r2, r3, r4, r5, r6, ⟨b, cap, r7, r0, r8, r9⟩, r10⟩ | r
  · exact .inl r
  · exact .inr (.inl ⟨r1, r2, r3, r4, r5, r6, ⟨b, cap, r7, r0, Nat.lt_of_lt_of_le r8 hb.size, flAt_congr r9 (hb.block _ r8)⟩, r10⟩)
  · exact .inr (.inr r)
theorem Res.heap {lo : Nat} {w w' : World} {X Y W H : Int} {n : Nat} {f : Nat → Nat} {er x y u h : Int} {s : Value} {k : Int} (r : Res lo w X Y W H n f er x y u h s k) {p : Nat} (hz : w.heap.size ≤ w'.heap.size) (hne : p < lo) (hb : ∀ b, b ≠ p → b < w.heap.size → w'.heap[b]? = w.heap[b]?) : Res lo w' X Y W H n f er x y u h s k := by
  rcases r with r | ⟨r1, r2, r3, r4, r5, r6, ⟨b, cap, r7, r0, r8, r9⟩, r10⟩ | r
  · exact .inl r
  · exact .inr (.inl ⟨r1, r2, r3, r4, r5, r6, ⟨b, cap, r7, r0, Nat.lt_of_lt_of_le r8 hz, flAt_congr r9 (hb _ (by omega) r8)⟩, r10⟩)
  · exact .inr (.inr r)

theorem made_res {w w' : World} {X Y W H : Int} {n : Nat} {f : Nat → Nat} {er : Int} {e : Ending} (h : ScPost w X Y W H n f er e w') :
    ∃ x y u hh : Int, ∃ a : Option Addr, ∃ l cp : Nat, ∃ k : Int, e = .returned (.tuple #[fldV x y u hh (.slice a l cp), .int .i64 k]) ∧ Res w.heap.size w' X Y W H n f er x y u hh (.slice a l cp) k ∧ Below w.heap.size w w' := by
  rcases h with ⟨h1, h2, h3⟩ | ⟨h1, ⟨h2, b, cap, h3, h4, h5, h6, h7⟩ | ⟨h2, h3, h4⟩⟩
  · exact ⟨_, _, _, _, _, _, _, _, h2, .inl ⟨h1, rfl, rfl, rfl, rfl, rfl, rfl⟩, h3⟩
  · exact ⟨_, _, _, _, _, _, _, _, h3, .inr (.inl ⟨h1, h2, rfl, rfl, rfl, rfl, ⟨b, cap, rfl, h4, h5, h6⟩, rfl⟩), h7⟩
  · exact ⟨_, _, _, _, _, _, _, _, h3, .inr (.inr ⟨h1, h2, rfl, rfl, rfl, rfl, rfl, rfl⟩), h4⟩

/-- Two results of one thing are the same to the law. -/
theorem same_res {W0 : World} {X Y W H : Int} {n : Nat} {f : Nat → Nat} {er x y u h x' y' u' h' : Int} {s s' : Value} {k k' : Int} (hn : 1 ≤ n) (hl : n ≤ 9223372036854775807)
    {lo lo' : Nat} (r : Res lo W0 X Y W H n f er x y u h s k) (r' : Res lo' W0 X Y W H n f er x' y' u' h' s' k') :
    Calls Try.prog 22 #[fldV x y u h s, .int .i64 k, fldV x' y' u' h' s', .int .i64 k'] W0 fun e w' => e = .returned (.bool true) ∧ Below W0.heap.size W0 w' := by
  rcases r with ⟨a1, rfl, rfl, rfl, rfl, rfl, rfl⟩ | ⟨a1, a2, rfl, rfl, rfl, rfl, ⟨b, cap, rfl, _, _, c⟩, rfl⟩ | ⟨a1, a2, rfl, rfl, rfl, rfl, rfl, rfl⟩ <;>
  rcases r' with ⟨b1, rfl, rfl, rfl, rfl, rfl, rfl⟩ | ⟨b1, b2, rfl, rfl, rfl, rfl, ⟨b', cap', rfl, _, _, c'⟩, rfl⟩ | ⟨b1, b2, rfl, rfl, rfl, rfl, rfl, rfl⟩
  · exact law_same_err _ a1 W0
  · exact absurd b1 a1
  · exact absurd b1 a1
  · exact absurd a1 b1
  · exact law_same_ok _ _ _ _ b b' cap cap' n f hl hn W0 c c'
  · rw [a2] at b2; cases b2
  · exact absurd a1 b1
  · rw [a2] at b2; cases b2
  · exact law_same_err 3 (by decide) W0

theorem set5_self {wr : World} {b : Nat} {a1 a2 a3 a4 a5 : Value} {t : TypeId} (u1 u2 u3 u4 u5 : Value) (h : wr.heap[b]? = some (.cells #[a1, a2, a3, a4, a5] t (0, 0))) :
    (set5 wr b u1 u2 u3 u4 u5).heap[b]? = some (.cells #[u1, u2, u3, u4, u5] t (0, 0)) := by
  have h1 := heap_setCell_same wr b 0 _ _ u1 h
  have h2 := heap_setCell_same _ b 1 _ _ u2 h1
  have h3 := heap_setCell_same _ b 2 _ _ u3 h2
  have h4 := heap_setCell_same _ b 3 _ _ u4 h3
  have h5 := heap_setCell_same _ b 4 _ _ u5 h4
  exact h5
/-- A field stored into a block of its own: what stands elsewhere stays. -/
theorem box_old (wr : World) (o : Obj) (u1 u2 u3 u4 u5 : Value) {k : Nat} (h : k < wr.heap.size) : (set5 (wr.alloc o) wr.heap.size u1 u2 u3 u4 u5).heap[k]? = wr.heap[k]? := by
  rw [set5_heap _ _ _ _ _ _ _ _ (by omega), heap_alloc_old _ _ h]
theorem box_below (wr : World) (o : Obj) (u1 u2 u3 u4 u5 : Value) : Below wr.heap.size wr (set5 (wr.alloc o) wr.heap.size u1 u2 u3 u4 u5) :=
  set5_below ((Below.refl _ _).alloc (Nat.le_refl _) o) _ _ _ _ _ _ (Nat.le_refl _)

/-- What a fit field is, its singles by a function. -/
theorem fit_fn {w : World} {b n : Nat} (h : FitRow w b n n) : ∃ v : Nat → Nat, FlAt w b 0 n v ∧ wf32 n v ∧ allB n (fun i => hgtB (v i)) = true ∧ b < w.heap.size := by
  obtain ⟨cs, h1, h2, h3⟩ := h
  refine ⟨fun j => if hj : j < n then (h3 j hj).choose else 0, fun i hi => ?_, fun i hi => ?_, allB_iff.2 fun i hi => ?_, (blkC h1).2.2⟩
  · rw [Nat.zero_add, (blkC h1).1 i]; simp only [dif_pos hi]; exact (h3 i hi).choose_spec.1
  · simp only [dif_pos hi]; exact (h3 i hi).choose_spec.2.1
  · simp only [dif_pos hi]; exact (h3 i hi).choose_spec.2.2 hi
theorem fit_check {X Y : Int} {W H n : Nat} (x1 : -5000 ≤ X) (x2 : X ≤ 5000) (y1 : -5000 ≤ Y) (y2 : Y ≤ 5000) (w1 : (1 : Int) ≤ W) (w2 : (W : Int) ≤ 16) (h1 : (1 : Int) ≤ H) (h2 : (H : Int) ≤ 16) (hn : (n : Int) = W * H) (hn2 : n ≤ 256) : checkR X Y W H = 0 := by
  unfold checkR
  rw [if_neg (by omega), if_neg (by rw [← hn]; omega), if_neg (by omega)]

end Go.Proofs.Ytmbiohopcfglcaa

/- Contracts: shrink, crossAt, rise, square, normal of the program. -/
namespace Go.Proofs.Ytmbiohopcfglcaa
open Go.RowKit Fl
set_option linter.unusedVariables false

set_option maxHeartbeats 1000000 in
theorem shrink_any (X Y W H : Int) (w : World) (x1 : -4194304 ≤ X) (x2 : X ≤ 4194304) (y1 : -4194304 ≤ Y) (y2 : Y ≤ 4194304) (w1 : 1 ≤ W) (w2 : W ≤ 512) (h1 : 1 ≤ H) (h2 : H ≤ 512) :
    Calls Try.prog 192 #[reg X Y W H, .int .i64 1] w fun e w' => e = .returned (.tuple #[reg (X + 1) (Y + 1) (W - 2) (H - 2), .bool (decide (3 ≤ W ∧ 3 ≤ H))]) ∧ Below w.heap.size w w' := by
  cases c1 : decide (2 < W) with
  | false =>
    have e : decide (3 ≤ W ∧ 3 ≤ H) = false := by simp at c1 ⊢; omega
    rw [e]
    clear e
    go_enter Try.func192, Try.ntmps192
    go_wp2
    go_region
    all_goals go_wp2
    all_goals refine bodyPost_ret (v := .tuple #[reg (X + 1) (Y + 1) (W - 2) (H - 2), .bool false]) (by simp [results, Try.results192, go_sem]) rfl ?_
    all_goals exact ⟨rfl, by repeat (first | exact Below.refl _ _ | refine Below.drew ?_ | refine Below.alloc ?_ (by simp; try omega) _ | refine Below.setCell ?_ (by simp; try omega) _)⟩
  | true =>
    cases c2 : decide (2 < H) with
    | false =>
      have e : decide (3 ≤ W ∧ 3 ≤ H) = false := by simp at c1 c2 ⊢; omega
      rw [e]
      clear e
      go_enter Try.func192, Try.ntmps192
      go_wp2
      go_region
      all_goals go_wp2
      all_goals refine bodyPost_ret (v := .tuple #[reg (X + 1) (Y + 1) (W - 2) (H - 2), .bool false]) (by simp [results, Try.results192, go_sem]) rfl ?_
      all_goals exact ⟨rfl, by repeat (first | exact Below.refl _ _ | refine Below.drew ?_ | refine Below.alloc ?_ (by simp; try omega) _ | refine Below.setCell ?_ (by simp; try omega) _)⟩
    | true =>
      have e : decide (3 ≤ W ∧ 3 ≤ H) = true := by simp at c1 c2 ⊢; omega
      rw [e]
      clear e
      go_enter Try.func192, Try.ntmps192
      go_wp2
      go_region
      all_goals go_wp2
      all_goals refine bodyPost_ret (v := .tuple #[reg (X + 1) (Y + 1) (W - 2) (H - 2), .bool true]) (by simp [results, Try.results192, go_sem]) rfl ?_
      all_goals exact ⟨rfl, by repeat (first | exact Below.refl _ _ | refine Below.drew ?_ | refine Below.alloc ?_ (by simp; try omega) _ | refine Below.setCell ?_ (by simp; try omega) _)⟩

theorem blkDrew {w : World} {b : Nat} {o : Obj} (h : w.heap[b]? = some o) : w.drew.heap[b]? = some o := h
theorem store_fl {w : World} {p o x : Nat} {cs : Array Value} {t : TypeId} {m : Mode} (h : w.heap[p]? = some (.cells cs t (0, 0))) (ho : o < cs.size) :
    (store ⟨p, o, none⟩ (.float .f32 x) m).run Try.prog w = .ok () (w.setCell ⟨p, o, none⟩ (.float .f32 x)) := by
  obtain ⟨c, f, z⟩ := blkC h
  have c0 := c o
  have f0 := f o
  rw [run_store_float]
  have : cs[o]? = some cs[o] := Array.getElem?_eq_getElem ho
  rw [this] at c0
  simp [stored, c0, f0]

theorem store_fld {w : World} {p o x : Nat} {cs : Array Value} {t : TypeId} {m : Mode} (h : w.heap[p]? = some (.cells cs t (0, 0))) (ho : o < cs.size) :
    (store ⟨p, o, none⟩ (.float .f32 x) m).run Try.prog w.drew = .ok () (w.setCell ⟨p, o, none⟩ (.float .f32 x)).drew := store_fl (blkDrew h) ho
theorem store5_fl {w : World} {p : Nat} {z0 z1 z2 z3 z4 : Value} {t : TypeId} (h : w.heap[p]? = some (.cells #[z0, z1, z2, z3, z4] t (0, 0))) (a b c d e : Nat) :
    (store ⟨p, 0, none⟩ (.float .f32 a) .plain).run Try.prog w.drew = .ok () (w.setCell ⟨p, 0, none⟩ (.float .f32 a)).drew ∧
    (store ⟨p, 1, none⟩ (.float .f32 b) .plain).run Try.prog (w.setCell ⟨p, 0, none⟩ (.float .f32 a)).drew = .ok () ((w.setCell ⟨p, 0, none⟩ (.float .f32 a)).setCell ⟨p, 1, none⟩ (.float .f32 b)).drew ∧
    (store ⟨p, 2, none⟩ (.float .f32 c) .plain).run Try.prog ((w.setCell ⟨p, 0, none⟩ (.float .f32 a)).setCell ⟨p, 1, none⟩ (.float .f32 b)).drew = .ok () (((w.setCell ⟨p, 0, none⟩ (.float .f32 a)).setCell ⟨p, 1, none⟩ (.float .f32 b)).setCell ⟨p, 2, none⟩ (.float .f32 c)).drew ∧
    (store ⟨p, 3, none⟩ (.float .f32 d) .plain).run Try.prog (((w.setCell ⟨p, 0, none⟩ (.float .f32 a)).setCell ⟨p, 1, none⟩ (.float .f32 b)).setCell ⟨p, 2, none⟩ (.float .f32 c)).drew = .ok () ((((w.setCell ⟨p, 0, none⟩ (.float .f32 a)).setCell ⟨p, 1, none⟩ (.float .f32 b)).setCell ⟨p, 2, none⟩ (.float .f32 c)).setCell ⟨p, 3, none⟩ (.float .f32 d)).drew ∧
    (store ⟨p, 4, none⟩ (.float .f32 e) .plain).run Try.prog ((((w.setCell ⟨p, 0, none⟩ (.float .f32 a)).setCell ⟨p, 1, none⟩ (.float .f32 b)).setCell ⟨p, 2, none⟩ (.float .f32 c)).setCell ⟨p, 3, none⟩ (.float .f32 d)).drew = .ok () (((((w.setCell ⟨p, 0, none⟩ (.float .f32 a)).setCell ⟨p, 1, none⟩ (.float .f32 b)).setCell ⟨p, 2, none⟩ (.float .f32 c)).setCell ⟨p, 3, none⟩ (.float .f32 d)).setCell ⟨p, 4, none⟩ (.float .f32 e)).drew := by
  have h1 := heap_setCell_same w p 0 _ _ (.float .f32 a) h
  have h2 := heap_setCell_same _ p 1 _ _ (.float .f32 b) h1
  have h3 := heap_setCell_same _ p 2 _ _ (.float .f32 c) h2
  have h4 := heap_setCell_same _ p 3 _ _ (.float .f32 d) h3
  exact ⟨store_fld h (by simp), store_fld h1 (by simp), store_fld h2 (by simp), store_fld h3 (by simp), store_fld h4 (by simp)⟩

/-- A cell with its neighbours, as a value. -/
abbrev crossO : Obj := .cells #[.float .f32 0, .float .f32 0, .float .f32 0, .float .f32 0, .float .f32 0] 141
abbrev crossV (c n w e s : Nat) : Value := .agg #[.float .f32 c, .float .f32 n, .float .f32 w, .float .f32 e, .float .f32 s]

set_option maxHeartbeats 4000000 in
set_option maxRecDepth 100000 in
theorem crossAt_any (X Y : Int) (W H n b cap i : Nat) (v : Nat → Nat) (x y : Int) (w : World) (h0 : checkR X Y W H = 0) (hn : n = H * W) (hcap : n ≤ cap) (hcp : cap ≤ 9223372036854775807) (hc : FlAt w b 0 n v)
    (h1 : X + 1 ≤ x) (h2 : x + 1 < X + W) (h3 : Y + 1 ≤ y) (h4 : y + 1 < Y + H) (hi : (i : Int) = (y - Y) * W + (x - X)) :
    Calls Try.prog 120 #[fldV X Y W H (.slice (some ⟨b, 0, none⟩) n cap), .int .i64 x, .int .i64 y] w fun e w' => e = .returned (crossV (v i) (v (i - W)) (v (i - 1)) (v (i + 1)) (v (i + W))) ∧ Below w.heap.size w w' := by
  obtain ⟨b1, b2, b3, b4, b5, b6, b7, b8, b9⟩ := checkR_zero h0
  have hn2 : n ≤ 65536 := by
    have : ((W : Int) * (H : Int)) = (n : Int) := by rw [hn, Nat.mul_comm]; simp
    omega
  have q0 : (W : Int) ≤ (y - Y) * W := by
    have := Int.mul_le_mul_of_nonneg_right (show (1 : Int) ≤ y - Y by omega) (show (0 : Int) ≤ W by omega); omega
  have q1 : (y - Y) * W ≤ (n : Int) - 2 * W := by
    have a : (y - Y) * W ≤ ((H : Int) - 2) * W := Int.mul_le_mul_of_nonneg_right (by omega) (by omega)
    have b : ((H : Int) - 2) * W = (n : Int) - 2 * W := by rw [hn, Int.sub_mul]; simp
    omega
  have IX := Lib.hid (fun w => index_any X Y W H i x y w (by omega) (by omega) (by omega) (by omega) (by omega) (by omega) (by omega) (by omega) (by omega) (by omega) (by omega) hi (by omega))
  obtain ⟨iN, eN⟩ : ∃ k, k = i - W := ⟨_, rfl⟩
  obtain ⟨iW, eW⟩ : ∃ k, k = i - 1 := ⟨_, rfl⟩
  obtain ⟨iE, eE⟩ : ∃ k, k = i + 1 := ⟨_, rfl⟩
  obtain ⟨iS, eS⟩ : ∃ k, k = i + W := ⟨_, rfl⟩
  rw [← eN, ← eW, ← eE, ← eS]
  have cell : ∀ k, k < n → w.cell? ⟨b, k, none⟩ = some (.float .f32 (v k)) := fun k hk => by have := hc k hk; rwa [Nat.zero_add] at this
  have k0 := cell i (by omega)
  have k1 := cell iN (by omega)
  have k2 := cell iW (by omega)
  have k3 := cell iE (by omega)
  have k4 := cell iS (by omega)
  have zb : b < w.heap.size := World.block_lt_of_cell? w _ k0
  have f1 : (i : Int) - (W : Int) = (iN : Int) := by omega
  have f2 : (i : Int) - 1 = (iW : Int) := by omega
  have f3 : (i : Int) + 1 = (iE : Int) := by omega
  have f4 : (i : Int) + (W : Int) = (iS : Int) := by omega
  have u1 : IntKind.i64.wrap (iN : Int) = iN := IntWalk.i64_in _ (by omega)
  have u2 : IntKind.i64.wrap (iW : Int) = iW := IntWalk.i64_in _ (by omega)
  have u3 : IntKind.i64.wrap (iE : Int) = iE := IntWalk.i64_in _ (by omega)
  have u4 : IntKind.i64.wrap (iS : Int) = iS := IntWalk.i64_in _ (by omega)
  have g0 : (i : Int) < (n : Int) := by omega
  have g1 : (iN : Int) < (n : Int) := by omega
  have g2 : (iW : Int) < (n : Int) := by omega
  have g3 : (iE : Int) < (n : Int) := by omega
  have g4 : (iS : Int) < (n : Int) := by omega
  have p0 : (0 : Int) ≤ (i : Int) := by omega
  have p1 : (0 : Int) ≤ (iN : Int) := by omega
  have p2 : (0 : Int) ≤ (iW : Int) := by omega
  have p3 : (0 : Int) ≤ (iE : Int) := by omega
  have p4 : (0 : Int) ≤ (iS : Int) := by omega
  clear hc h0 hi q0 q1 b1 b2 b3 b4 b5 b6 b7 b8 b9 h1 h2 h3 h4 hn hn2 eN eW eE eS cell
  go_enter Try.func120, Try.ntmps120
  go_wp2_with (first | (go_at_call 183; refine (IX.out _).mono ?_; rintro e w3 ⟨rfl, hw3⟩; have hB3 : Below w.heap.size w w3 := (by rw [← hw3]; exact (by repeat (first | exact Below.refl _ _ | refine Below.alloc ?_ (by first | omega | (simp; done) | (simp; omega)) _ | refine Below.setCell ?_ (by first | omega | (simp; done) | (simp; omega)) _ | refine Below.drew ?_))); have HF3 := Lib.hid (show w3.heap[w.heap.size]? = some (fldO X Y W H (.slice (some ⟨b, 0, none⟩) n cap)) by rw [← hw3]; ((simp only [heap_alloc_get, heap_size_alloc, if_true]) <;> ((repeat' split) <;> first | rfl | omega))); have HR3 := Lib.hid (show w3.heap[w.heap.size + 1]? = some crossO by rw [← hw3]; ((simp only [heap_alloc_get, heap_size_alloc, if_true]) <;> ((repeat' split) <;> first | rfl | omega))); clear hw3; obtain ⟨cF, fF, zF⟩ := blkC HF3.out; obtain ⟨cR, fR, zR⟩ := blkC HR3.out; have j0 := (Below.cell (p := ⟨b, i, none⟩) hB3 zb).trans k0; have j1 := (Below.cell (p := ⟨b, iN, none⟩) hB3 zb).trans k1; have j2 := (Below.cell (p := ⟨b, iW, none⟩) hB3 zb).trans k2; have j3 := (Below.cell (p := ⟨b, iE, none⟩) hB3 zb).trans k3; have j4 := (Below.cell (p := ⟨b, iS, none⟩) hB3 zb).trans k4; clear k0 k1 k2 k3 k4))
  obtain ⟨s0, s1, s2, s3, s4⟩ := store5_fl HR3.out (v i) (v iN) (v iW) (v iE) (v iS)
  clear IX hcap hcp
  have HRES := (blkC (blkDrew (set5_self (.float .f32 (v i)) (.float .f32 (v iN)) (.float .f32 (v iW)) (.float .f32 (v iE)) (.float .f32 (v iS)) HR3.out))).1
  simp only [set5] at HRES
  have HBEL := Lib.hid (set5_below hB3 (w.heap.size + 1) (.float .f32 (v i)) (.float .f32 (v iN)) (.float .f32 (v iW)) (.float .f32 (v iE)) (.float .f32 (v iS)) (by omega)).drew
  simp only [set5] at HBEL
  go_still_tail 36, (by kernel_rfl)
  change wpList _ _ _ _ _ w3.drew
  go_wp2
  refine bodyPost_ret (v := crossV (v i) (v iN) (v iW) (v iE) (v iS)) (by simp [results, Try.results120, go_sem, HRES]) rfl ?_
  exact ⟨rfl, HBEL.out⟩
end Go.Proofs.Ytmbiohopcfglcaa

/- Contracts: rise, square, normal, inner of the program. -/
namespace Go.Proofs.Ytmbiohopcfglcaa
open Go.RowKit Fl
set_option linter.unusedVariables false

theorem dwBox (w : World) (o : Obj) (k : Nat) {w' : World} (h : w' = (w.alloc o).drewN k) : Below w.heap.size w w' := by
  rw [h]
  exact ((Below.refl _ _).alloc (Nat.le_refl _) _).trans ((below_drewN _ _).mono (by simp))

set_option maxHeartbeats 1000000 in
theorem rise_any (c n ww e s : Nat) (w : World) (hn : hgtB n = true) (hw : hgtB ww = true) (he : hgtB e = true) (hs : hgtB s = true) :
    Calls Try.prog 194 #[crossV c n ww e s] w fun e' w' => e' = .returned (.tuple #[.float .f32 (riseW e ww), .float .f32 (riseW s n)]) ∧ Below w.heap.size w w' := by
  obtain ⟨d, r, A⟩ := rise_parts he hw
  obtain ⟨d', r', B⟩ := rise_parts hs hn
  rw [A.w, B.w]
  have a1 := fun (W : World) => run_float_arith (P := Try.prog) W .sub 22 .f32 e ww d A.d1
  have a2 := fun (W : World) => run_float_arith (P := Try.prog) W .mul 22 .f32 d 1056964608 r A.r1
  have a3 := fun (W : World) => run_float_arith (P := Try.prog) W .sub 22 .f32 s n d' B.d1
  have a4 := fun (W : World) => run_float_arith (P := Try.prog) W .mul 22 .f32 d' 1056964608 r' B.r1
  clear A B hn hw he hs
  go_enter Try.func194, Try.ntmps194
  go_wp2
  go_quiet (fail)
  go_wp2
  go_ret2
  exact ⟨rfl, dwBox w _ _ rfl⟩

set_option maxHeartbeats 1000000 in
theorem square_cross (c n ww e s : Nat) (w : World) (hn : hgtB n = true) (hw : hgtB ww = true) (he : hgtB e = true) (hs : hgtB s = true) {p q u v : Nat} {a cc : Int} {X Z : Nat} (N : NrmAt (riseW e ww) (riseW s n) p q u v a X Z cc) :
    Calls Try.prog 195 #[crossV c n ww e s] w fun e' w' => e' = .returned (.float .f32 u) ∧ Below w.heap.size w w' := by
  have RI := Lib.hid (fun w => rise_any c n ww e s w hn hw he hs)
  have a1 := fun (W : World) => run_float_arith (P := Try.prog) W .mul 22 .f32 _ _ p N.p1
  have a2 := fun (W : World) => run_float_arith (P := Try.prog) W .mul 22 .f32 _ _ q N.q1
  have a3 := fun (W : World) => run_float_arith (P := Try.prog) W .add 22 .f32 p q u N.s1
  clear N
  generalize riseW e ww = dx at *
  generalize riseW s n = dy at *
  clear hn hw he hs
  go_enter Try.func195, Try.ntmps195
  go_wp2_with (first | (go_at_call 194; refine (RI.out _).mono ?_; rintro e2 w2 ⟨rfl, hb2⟩; have hB2 : Below w.heap.size w w2 := Below.trans (by repeat (first | exact Below.refl _ _ | refine Below.alloc ?_ (by first | omega | (simp; done) | (simp; omega)) _ | refine Below.setCell ?_ (by first | omega | (simp; done) | (simp; omega)) _ | refine Below.drew ?_)) (Below.mono hb2 (by first | omega | (simp; done) | (simp; omega))); clear hb2))
  go_ret
  exact ⟨rfl, hB2⟩

theorem run_neg_f32 (w : World) (b : Nat) : (Op.unary .neg (.float .f32 b)).run Try.prog w = .ok (.float .f32 (negW b)) w := rfl

set_option maxHeartbeats 1000000 in
theorem normal_any (c n ww e s : Nat) (w : World) (hn : hgtB n = true) (hw : hgtB ww = true) (he : hgtB e = true) (hs : hgtB s = true) {p q u v : Nat} {a cc : Int} {X Z : Nat} (N : NrmAt (riseW e ww) (riseW s n) p q u v a X Z cc) {nx ny nz : Nat}
    (e1 : floatBits .quo .f32 (negW (riseW e ww)) (rootW v) = some nx) (e2 : floatBits .quo .f32 (negW (riseW s n)) (rootW v) = some ny) (e3 : floatBits .quo .f32 1065353216 (rootW v) = some nz) :
    Calls Try.prog 121 #[crossV c n ww e s] w fun e' w' => e' = .returned (.tuple #[.float .f32 nx, .float .f32 ny, .float .f32 nz]) ∧ Below w.heap.size w w' := by
  have RI := Lib.hid (fun w => rise_any c n ww e s w hn hw he hs)
  have SQ := Lib.hid (fun w => square_cross c n ww e s w hn hw he hs N)
  have RT := Lib.hid (fun w => root_any N.rt w)
  have a1 := fun (W : World) => run_float_arith (P := Try.prog) W .add 22 .f32 u 1065353216 v N.u1
  have a2 := fun (W : World) => run_float_arith (P := Try.prog) W .quo 22 .f32 _ _ nx e1
  have a3 := fun (W : World) => run_float_arith (P := Try.prog) W .quo 22 .f32 _ _ ny e2
  have a4 := fun (W : World) => run_float_arith (P := Try.prog) W .quo 22 .f32 _ _ nz e3
  have ng := run_neg_f32
  clear N e1 e2 e3
  generalize riseW e ww = dx at *
  generalize riseW s n = dy at *
  generalize rootW v = m at *
  clear hn hw he hs
  go_enter Try.func121, Try.ntmps121
  go_wp2_with (first | (go_at_call 194; refine (RI.out _).mono ?_; rintro e2 w2 ⟨rfl, hb2⟩; have HC2 := Lib.hid (blkStay (b := w.heap.size) (o := .cells #[.float .f32 c, .float .f32 n, .float .f32 ww, .float .f32 e, .float .f32 s] 141) (by ((simp only [heap_alloc_get, if_true]) <;> ((repeat' split) <;> first | rfl | omega))) hb2); have hB2 : Below w.heap.size w w2 := Below.trans (by repeat (first | exact Below.refl _ _ | refine Below.alloc ?_ (by first | omega | (simp; done) | (simp; omega)) _ | refine Below.setCell ?_ (by first | omega | (simp; done) | (simp; omega)) _ | refine Below.drew ?_)) (Below.mono hb2 (by first | omega | (simp; done) | (simp; omega))); obtain ⟨cC, fC, zC⟩ := blkC HC2.out; clear hb2) | (go_at_call 195; refine (SQ.out _).mono ?_; rintro e3 w3 ⟨rfl, hb3⟩; have hB3 := hB2.trans (hb3.mono hB2.size); clear hb3) | (go_at_call 181; refine (RT.out _).mono ?_; rintro e' w' ⟨rfl, rfl⟩))
  refine bodyPost_ret (v := .tuple #[.float .f32 nx, .float .f32 ny, .float .f32 nz]) (by simp [results, Try.results121, go_sem]) rfl ?_
  exact ⟨rfl, hB3⟩

/-- A region's four cells stored into block b. -/
abbrev set4 (wr : World) (b : Nat) (u1 u2 u3 u4 : Value) : World := (((wr.setCell ⟨b, 0, none⟩ u1).setCell ⟨b, 1, none⟩ u2).setCell ⟨b, 2, none⟩ u3).setCell ⟨b, 3, none⟩ u4
theorem set4_size (wr : World) (b : Nat) (u1 u2 u3 u4 : Value) : (set4 wr b u1 u2 u3 u4).heap.size = wr.heap.size := by simp [set4]
theorem set4_self {wr : World} {b : Nat} {a1 a2 a3 a4 : Value} {t : TypeId} (u1 u2 u3 u4 : Value) (h : wr.heap[b]? = some (.cells #[a1, a2, a3, a4] t (0, 0))) :
    (set4 wr b u1 u2 u3 u4).heap[b]? = some (.cells #[u1, u2, u3, u4] t (0, 0)) := by
  have h1 := heap_setCell_same wr b 0 _ _ u1 h
  have h2 := heap_setCell_same _ b 1 _ _ u2 h1
  have h3 := heap_setCell_same _ b 2 _ _ u3 h2
  exact heap_setCell_same _ b 3 _ _ u4 h3

/-- The region without its rim, and the error where nothing is left. -/
def innB (W H : Int) : Bool := decide (3 ≤ W ∧ 3 ≤ H)

set_option maxHeartbeats 1000000 in
theorem inner_any (X Y : Int) (W H n b cap : Nat) (v : Nat → Nat) (w : World) (h0 : checkR X Y W H = 0) (hn : n = W * H) (hc : FlAt w b 0 n v) (hh : allB n (fun i => hgtB (v i)) = true) :
    Calls Try.prog 115 #[fldV X Y W H (.slice (some ⟨b, 0, none⟩) n cap)] w fun e w' => e = .returned (.tuple #[if innB W H then reg (X + 1) (Y + 1) (W - 2) (H - 2) else reg 0 0 0 0, .int .i64 (if innB W H then 0 else 10)]) ∧ Below w.heap.size w w' := by
  obtain ⟨b1, b2, b3, b4, b5, b6, b7, b8, b9⟩ := checkR_zero h0
  have h1 : 1 ≤ n := by rw [hn]; exact Nat.mul_pos (by omega) (by omega)
  have hlt : b < w.heap.size := World.block_lt_of_cell? w _ (hc 0 h1)
  have CK := Lib.hid (fun W' (hb : Below w.heap.size w W') => check_ok X Y W H n b cap v W' h0 hn (flAt_congr hc (hb.block _ hlt)) hh)
  have SH := Lib.hid (fun w => shrink_any X Y W H w (by omega) (by omega) (by omega) (by omega) (by omega) (by omega) (by omega) (by omega))
  unfold innB
  cases c : decide (3 ≤ (W : Int) ∧ 3 ≤ (H : Int)) with
  | true =>
    rw [c] at SH
    clear h0 hn hc hh c b1 b2 b3 b4 b5 b6 b7 b8 b9 h1 hlt
    go_enter Try.func115, Try.ntmps115
    go_wp2_with (first | (go_at_call 90; refine (CK.out _ (by repeat (first | exact Below.refl _ _ | refine Below.alloc ?_ (by first | omega | (simp; done) | (simp; omega)) _ | refine Below.setCell ?_ (by first | omega | (simp; done) | (simp; omega)) _ | refine Below.drew ?_))).mono ?_; rintro e w2 ⟨rfl, hb2⟩; have HF2 := Lib.hid (blkStay (b := w.heap.size) (o := fldO X Y W H (.slice (some ⟨b, 0, none⟩) n cap)) (by ((simp only [heap_alloc_get, heap_size_alloc, if_true]) <;> ((repeat' split) <;> first | rfl | omega))) hb2); have HS2 := Lib.hid (blkStay (b := w.heap.size + 1) (o := regObj 0 0 0 0) (by ((simp only [heap_alloc_get, heap_size_alloc, if_true]) <;> ((repeat' split) <;> first | rfl | omega))) hb2); have hB2 : Below w.heap.size w w2 := Below.trans (by repeat (first | exact Below.refl _ _ | refine Below.alloc ?_ (by first | omega | (simp; done) | (simp; omega)) _ | refine Below.setCell ?_ (by first | omega | (simp; done) | (simp; omega)) _ | refine Below.drew ?_)) (Below.mono hb2 (by first | omega | (simp; done) | (simp; omega))); obtain ⟨cF, fF, zF⟩ := blkC HF2.out; clear hb2) | (go_at_call 192; refine (SH.out _).mono ?_; rintro e w3 ⟨rfl, hb3⟩; have HS3 := Lib.hid (blkStay HS2.out hb3); have hB3 := hB2.trans (hb3.mono hB2.size); clear hb3 cF fF zF HF2; obtain ⟨cS, fS, zS⟩ := blkC HS3.out))
    have HRES := fun (u1 u2 u3 u4 : Value) (o : Obj) => (blkC ((heap_alloc_old (set4 w3 (w.heap.size + 1) u1 u2 u3 u4) o (by rw [set4_size]; exact zS)).trans (set4_self u1 u2 u3 u4 HS3.out))).1
    simp only [set4] at HRES
    refine bodyPost_ret (v := .tuple #[reg (X + 1) (Y + 1) (W - 2) (H - 2), .int .i64 0]) (by simp [results, Try.results115, go_sem, HRES]) rfl ?_
    exact ⟨rfl, by repeat (first | exact hB3 | refine Below.alloc ?_ (by first | omega | (simp; done) | (simp; omega)) _ | refine Below.setCell ?_ (by first | omega | (simp; done) | (simp; omega)) _)⟩
  | false =>
    rw [c] at SH
    clear h0 hn hc hh c b1 b2 b3 b4 b5 b6 b7 b8 b9 h1 hlt
    go_enter Try.func115, Try.ntmps115
    go_wp2_with (first | (go_at_call 90; refine (CK.out _ (by repeat (first | exact Below.refl _ _ | refine Below.alloc ?_ (by first | omega | (simp; done) | (simp; omega)) _ | refine Below.setCell ?_ (by first | omega | (simp; done) | (simp; omega)) _ | refine Below.drew ?_))).mono ?_; rintro e w2 ⟨rfl, hb2⟩; have HF2 := Lib.hid (blkStay (b := w.heap.size) (o := fldO X Y W H (.slice (some ⟨b, 0, none⟩) n cap)) (by ((simp only [heap_alloc_get, heap_size_alloc, if_true]) <;> ((repeat' split) <;> first | rfl | omega))) hb2); have HS2 := Lib.hid (blkStay (b := w.heap.size + 1) (o := regObj 0 0 0 0) (by ((simp only [heap_alloc_get, heap_size_alloc, if_true]) <;> ((repeat' split) <;> first | rfl | omega))) hb2); have hB2 : Below w.heap.size w w2 := Below.trans (by repeat (first | exact Below.refl _ _ | refine Below.alloc ?_ (by first | omega | (simp; done) | (simp; omega)) _ | refine Below.setCell ?_ (by first | omega | (simp; done) | (simp; omega)) _ | refine Below.drew ?_)) (Below.mono hb2 (by first | omega | (simp; done) | (simp; omega))); obtain ⟨cF, fF, zF⟩ := blkC HF2.out; clear hb2) | (go_at_call 192; refine (SH.out _).mono ?_; rintro e w3 ⟨rfl, hb3⟩; have HS3 := Lib.hid (blkStay HS2.out hb3); have hB3 := hB2.trans (hb3.mono hB2.size); clear hb3 cF fF zF HF2; obtain ⟨cS, fS, zS⟩ := blkC HS3.out))
    have HRES := fun (u1 u2 u3 u4 : Value) (o : Obj) => (blkC ((heap_alloc_old (set4 w3 (w.heap.size + 1) u1 u2 u3 u4) o (by rw [set4_size]; exact zS)).trans (set4_self u1 u2 u3 u4 HS3.out))).1
    simp only [set4] at HRES
    refine bodyPost_ret (v := .tuple #[reg 0 0 0 0, .int .i64 10]) (by simp [results, Try.results115, go_sem, HRES]) rfl ?_
    exact ⟨rfl, by repeat (first | exact hB3 | refine Below.alloc ?_ (by first | omega | (simp; done) | (simp; omega)) _ | refine Below.setCell ?_ (by first | omega | (simp; done) | (simp; omega)) _)⟩
end Go.Proofs.Ytmbiohopcfglcaa

/- Contracts: inner, around, inclines, normal, greater of the reference. -/
namespace Go.Proofs.Ytmbiohopcfglcaa
open Go.RowKit Fl
set_option linter.unusedVariables false

set_option maxHeartbeats 1000000 in
theorem rinner_any (X Y : Int) (W H n b cap : Nat) (w : World) (h0 : checkR X Y W H = 0) :
    Calls Try.prog 122 #[fldV X Y W H (.slice (some ⟨b, 0, none⟩) n cap), .int .i64 1] w fun e w' => e = .returned (.tuple #[if innB W H then reg (X + 1) (Y + 1) (W - 2) (H - 2) else reg 0 0 0 0, .int .i64 (if innB W H then 0 else 10)]) ∧ Below w.heap.size w w' := by
  obtain ⟨b1, b2, b3, b4, b5, b6, b7, b8, b9⟩ := checkR_zero h0
  have GR := Lib.hid (fun w => show Calls Try.prog 196 #[reg X Y W H, .int .i64 (-1)] w fun e w' => e = .returned (reg (X + 1) (Y + 1) (W - 2) (H - 2)) ∧ Below w.heap.size w w' by
    have := refGrown_any X Y W H (-1) w (by omega) (by omega) (by omega) (by omega) (by omega) (by omega) (by omega) (by omega) (by omega) (by omega)
    simpa [Int.sub_eq_add_neg] using this)
  unfold innB
  by_cases c1 : (W : Int) < 3
  · have e : decide (3 ≤ (W : Int) ∧ 3 ≤ (H : Int)) = false := by simp; omega
    rw [e]
    clear e
    go_enter Try.func122, Try.ntmps122
    go_wp2_with (first | (go_at_call 196; refine (GR.out _).mono ?_; rintro e w3 ⟨rfl, hb3⟩; have HS3 := Lib.hid (blkStay (b := w.heap.size + 1) (o := regObj 0 0 0 0) (by ((simp only [heap_alloc_get, heap_size_alloc, if_true]) <;> ((repeat' split) <;> first | rfl | omega))) hb3); have hB3 : Below w.heap.size w w3 := Below.trans (by repeat (first | exact Below.refl _ _ | refine Below.alloc ?_ (by first | omega | (simp; done) | (simp; omega)) _ | refine Below.setCell ?_ (by first | omega | (simp; done) | (simp; omega)) _ | refine Below.drew ?_)) (Below.mono hb3 (by first | omega | (simp; done) | (simp; omega))); clear hb3; obtain ⟨cS, fS, zS⟩ := blkC HS3.out))
    all_goals
      have HRES := fun (u1 u2 u3 u4 : Value) (o : Obj) => (blkC ((heap_alloc_old (set4 w3 (w.heap.size + 1) u1 u2 u3 u4) o (by rw [set4_size]; exact zS)).trans (set4_self u1 u2 u3 u4 HS3.out))).1
      simp only [set4] at HRES
      refine bodyPost_ret (v := .tuple #[reg 0 0 0 0, .int .i64 10]) (by simp [results, Try.results122, go_sem, HRES]) rfl ?_
      exact ⟨rfl, by repeat (first | exact hB3 | refine Below.alloc ?_ (by first | omega | (simp; done) | (simp; omega)) _ | refine Below.setCell ?_ (by first | omega | (simp; done) | (simp; omega)) _)⟩
  · by_cases c2 : (H : Int) < 3
    · have e : decide (3 ≤ (W : Int) ∧ 3 ≤ (H : Int)) = false := by simp; omega
      rw [e]
      clear e
      go_enter Try.func122, Try.ntmps122
      go_wp2_with (first | (go_at_call 196; refine (GR.out _).mono ?_; rintro e w3 ⟨rfl, hb3⟩; have HS3 := Lib.hid (blkStay (b := w.heap.size + 1) (o := regObj 0 0 0 0) (by ((simp only [heap_alloc_get, heap_size_alloc, if_true]) <;> ((repeat' split) <;> first | rfl | omega))) hb3); have hB3 : Below w.heap.size w w3 := Below.trans (by repeat (first | exact Below.refl _ _ | refine Below.alloc ?_ (by first | omega | (simp; done) | (simp; omega)) _ | refine Below.setCell ?_ (by first | omega | (simp; done) | (simp; omega)) _ | refine Below.drew ?_)) (Below.mono hb3 (by first | omega | (simp; done) | (simp; omega))); clear hb3; obtain ⟨cS, fS, zS⟩ := blkC HS3.out))
      all_goals
        have HRES := fun (u1 u2 u3 u4 : Value) (o : Obj) => (blkC ((heap_alloc_old (set4 w3 (w.heap.size + 1) u1 u2 u3 u4) o (by rw [set4_size]; exact zS)).trans (set4_self u1 u2 u3 u4 HS3.out))).1
        simp only [set4] at HRES
        refine bodyPost_ret (v := .tuple #[reg 0 0 0 0, .int .i64 10]) (by simp [results, Try.results122, go_sem, HRES]) rfl ?_
        exact ⟨rfl, by repeat (first | exact hB3 | refine Below.alloc ?_ (by first | omega | (simp; done) | (simp; omega)) _ | refine Below.setCell ?_ (by first | omega | (simp; done) | (simp; omega)) _)⟩
    · have e : decide (3 ≤ (W : Int) ∧ 3 ≤ (H : Int)) = true := by simp; omega
      rw [e]
      clear e
      go_enter Try.func122, Try.ntmps122
      go_wp2_with (first | (go_at_call 196; refine (GR.out _).mono ?_; rintro e w3 ⟨rfl, hb3⟩; have HS3 := Lib.hid (blkStay (b := w.heap.size + 1) (o := regObj 0 0 0 0) (by ((simp only [heap_alloc_get, heap_size_alloc, if_true]) <;> ((repeat' split) <;> first | rfl | omega))) hb3); have hB3 : Below w.heap.size w w3 := Below.trans (by repeat (first | exact Below.refl _ _ | refine Below.alloc ?_ (by first | omega | (simp; done) | (simp; omega)) _ | refine Below.setCell ?_ (by first | omega | (simp; done) | (simp; omega)) _ | refine Below.drew ?_)) (Below.mono hb3 (by first | omega | (simp; done) | (simp; omega))); clear hb3; obtain ⟨cS, fS, zS⟩ := blkC HS3.out))
      all_goals
        have HRES := fun (u1 u2 u3 u4 : Value) (o : Obj) => (blkC ((heap_alloc_old (set4 w3 (w.heap.size + 1) u1 u2 u3 u4) o (by rw [set4_size]; exact zS)).trans (set4_self u1 u2 u3 u4 HS3.out))).1
        simp only [set4] at HRES
        refine bodyPost_ret (v := .tuple #[reg (X + 1) (Y + 1) (W - 2) (H - 2), .int .i64 0]) (by simp [results, Try.results122, go_sem, HRES]) rfl ?_
        exact ⟨rfl, by repeat (first | exact hB3 | refine Below.alloc ?_ (by first | omega | (simp; done) | (simp; omega)) _ | refine Below.setCell ?_ (by first | omega | (simp; done) | (simp; omega)) _)⟩

set_option maxHeartbeats 4000000 in
set_option maxRecDepth 100000 in
theorem around_any (X Y : Int) (W H n b cap i : Nat) (v : Nat → Nat) (x y : Int) (w : World) (h0 : checkR X Y W H = 0) (hn : n = H * W) (hc : FlAt w b 0 n v)
    (h1 : X + 1 ≤ x) (h2 : x + 1 < X + W) (h3 : Y + 1 ≤ y) (h4 : y + 1 < Y + H) (hi : (i : Int) = (y - Y) * W + (x - X)) :
    Calls Try.prog 145 #[fldV X Y W H (.slice (some ⟨b, 0, none⟩) n cap), .int .i64 x, .int .i64 y] w fun e w' => e = .returned (.tuple #[.float .f32 (v i), .float .f32 (v (i - W)), .float .f32 (v (i + W)), .float .f32 (v (i + 1)), .float .f32 (v (i - 1))]) ∧ Below w.heap.size w w' := by
  obtain ⟨b1, b2, b3, b4, b5, b6, b7, b8, b9⟩ := checkR_zero h0
  have hn2 : n ≤ 65536 := by
    have : ((W : Int) * (H : Int)) = (n : Int) := by rw [hn, Nat.mul_comm]; simp
    omega
  have q0 : (W : Int) ≤ (y - Y) * W := by
    have := Int.mul_le_mul_of_nonneg_right (show (1 : Int) ≤ y - Y by omega) (show (0 : Int) ≤ W by omega); omega
  have q1 : (y - Y) * W ≤ (n : Int) - 2 * W := by
    have a : (y - Y) * W ≤ ((H : Int) - 2) * W := Int.mul_le_mul_of_nonneg_right (by omega) (by omega)
    have b : ((H : Int) - 2) * W = (n : Int) - 2 * W := by rw [hn, Int.sub_mul]; simp
    omega
  have zb : b < w.heap.size := World.block_lt_of_cell? w _ (hc i (by omega))
  have A0 := Lib.hid (fun W' (hb : Below w.heap.size w W') => refAt_any X Y W H n b cap i v x y W' (by omega) (by omega) (by omega) (by omega) (by omega) (by omega) (by omega) (by omega) (by omega) (by omega) (by omega) hi (by omega) hn2 (flAt_congr hc (hb.block _ zb)))
  have A1 := Lib.hid (fun W' (hb : Below w.heap.size w W') => refAt_any X Y W H n b cap (i - W) v x (y - 1) W' (by omega) (by omega) (by omega) (by omega) (by omega) (by omega) (by omega) (by omega) (by omega) (by omega) (by omega) (by rw [show y - 1 - Y = (y - Y) - 1 by omega, Int.sub_mul]; omega) (by omega) hn2 (flAt_congr hc (hb.block _ zb)))
  have A2 := Lib.hid (fun W' (hb : Below w.heap.size w W') => refAt_any X Y W H n b cap (i + W) v x (y + 1) W' (by omega) (by omega) (by omega) (by omega) (by omega) (by omega) (by omega) (by omega) (by omega) (by omega) (by omega) (by rw [show y + 1 - Y = (y - Y) + 1 by omega, Int.add_mul]; omega) (by omega) hn2 (flAt_congr hc (hb.block _ zb)))
  have A3 := Lib.hid (fun W' (hb : Below w.heap.size w W') => refAt_any X Y W H n b cap (i + 1) v (x + 1) y W' (by omega) (by omega) (by omega) (by omega) (by omega) (by omega) (by omega) (by omega) (by omega) (by omega) (by omega) (by omega) (by omega) hn2 (flAt_congr hc (hb.block _ zb)))
  have A4 := Lib.hid (fun W' (hb : Below w.heap.size w W') => refAt_any X Y W H n b cap (i - 1) v (x - 1) y W' (by omega) (by omega) (by omega) (by omega) (by omega) (by omega) (by omega) (by omega) (by omega) (by omega) (by omega) (by omega) (by omega) hn2 (flAt_congr hc (hb.block _ zb)))
  have u1 : IntKind.i64.wrap (y - 1) = y - 1 := IntWalk.i64_in _ (by omega)
  have u2 : IntKind.i64.wrap (y + 1) = y + 1 := IntWalk.i64_in _ (by omega)
  have u3 : IntKind.i64.wrap (x + 1) = x + 1 := IntWalk.i64_in _ (by omega)
  have u4 : IntKind.i64.wrap (x - 1) = x - 1 := IntWalk.i64_in _ (by omega)
  have GF := Lib.hid (show (w.alloc (fldO X Y W H (.slice (some ⟨b, 0, none⟩) n cap))).heap[w.heap.size]? = some (fldO X Y W H (.slice (some ⟨b, 0, none⟩) n cap)) from heap_alloc_new _ _)
  have zF : w.heap.size < (w.alloc (fldO X Y W H (.slice (some ⟨b, 0, none⟩) n cap))).heap.size := by simp
  clear hc h0 hi q0 q1 b1 b2 b3 b4 b5 b6 b7 b8 b9 h1 h2 h3 h4 hn hn2
  generalize v i = v0 at *
  generalize v (i - W) = v1 at *
  generalize v (i + W) = v2 at *
  generalize v (i + 1) = v3 at *
  generalize v (i - 1) = v4 at *
  go_enter Try.func145, Try.ntmps145
  go_wp2
  go_region_held3 (fun w' => (∀ o, w'.cell? ⟨w.heap.size, o, none⟩ = #[.int .i64 X, .int .i64 Y, .int .i64 W, .int .i64 H, .slice (some ⟨b, 0, none⟩) n cap][o]?) ∧ Below (w.alloc (fldO X Y W H (.slice (some ⟨b, 0, none⟩) n cap))).heap.size (w.alloc (fldO X Y W H (.slice (some ⟨b, 0, none⟩) n cap))) w') (first | exact ⟨(blkC (blkStay GF.out (by repeat (first | exact Below.refl _ _ | refine Below.alloc ?_ (by first | omega | (simp; done) | (simp; omega)) _ | refine Below.setCell ?_ (by first | omega | (simp; done) | (simp; omega)) _ | refine Below.drew ?_)))).1, (by repeat (first | exact Below.refl _ _ | refine Below.alloc ?_ (by first | omega | (simp; done) | (simp; omega)) _ | refine Below.setCell ?_ (by first | omega | (simp; done) | (simp; omega)) _ | refine Below.drew ?_))⟩) (first
    | (go_at_call 96; (with_reducible refine Calls.mono (A0.out _ ?_) ?_); exact (by repeat (first | exact Below.refl _ _ | refine Below.alloc ?_ (by first | omega | (simp; done) | (simp; omega)) _ | refine Below.setCell ?_ (by first | omega | (simp; done) | (simp; omega)) _ | refine Below.drew ?_)); rintro e w' ⟨rfl, rfl⟩)
    | (go_at_call 96; (with_reducible refine Calls.mono (A1.out _ ?_) ?_); exact (by repeat (first | exact Below.refl _ _ | refine Below.alloc ?_ (by first | omega | (simp; done) | (simp; omega)) _ | refine Below.setCell ?_ (by first | omega | (simp; done) | (simp; omega)) _ | refine Below.drew ?_)); rintro e w' ⟨rfl, rfl⟩)
    | (go_at_call 96; (with_reducible refine Calls.mono (A2.out _ ?_) ?_); exact (by repeat (first | exact Below.refl _ _ | refine Below.alloc ?_ (by first | omega | (simp; done) | (simp; omega)) _ | refine Below.setCell ?_ (by first | omega | (simp; done) | (simp; omega)) _ | refine Below.drew ?_)); rintro e w' ⟨rfl, rfl⟩)
    | (go_at_call 96; (with_reducible refine Calls.mono (A3.out _ ?_) ?_); exact (by repeat (first | exact Below.refl _ _ | refine Below.alloc ?_ (by first | omega | (simp; done) | (simp; omega)) _ | refine Below.setCell ?_ (by first | omega | (simp; done) | (simp; omega)) _ | refine Below.drew ?_)); rintro e w' ⟨rfl, rfl⟩)
    | (go_at_call 96; (with_reducible refine Calls.mono (A4.out _ ?_) ?_); exact (by repeat (first | exact Below.refl _ _ | refine Below.alloc ?_ (by first | omega | (simp; done) | (simp; omega)) _ | refine Below.setCell ?_ (by first | omega | (simp; done) | (simp; omega)) _ | refine Below.drew ?_)); rintro e w' ⟨rfl, rfl⟩))
  rename_i wh hHeld
  go_wp2
  refine bodyPost_ret (v := .tuple #[.float .f32 v0, .float .f32 v1, .float .f32 v2, .float .f32 v3, .float .f32 v4]) (by simp [results, Try.results145, go_sem]) rfl ?_
  exact ⟨rfl, Below.trans ((Below.refl _ _).alloc (Nat.le_refl _) _) (hHeld.2.mono (by simp))⟩
end Go.Proofs.Ytmbiohopcfglcaa

/- Contracts: inclines, normal, greater of the reference; the closures of Shade on both sides. -/
namespace Go.Proofs.Ytmbiohopcfglcaa
open Go.RowKit Fl
set_option linter.unusedVariables false

theorem enters_Shade1 : Enters 119 := by intro args W; simp [callFunc, Try.func119, Try.f119]
theorem enters_rShade1 : Enters 124 := by intro args W; simp [callFunc, Try.func124, Try.f124]

/-- A cell that has all four neighbours: its place and its number. -/
structure InCell (X Y : Int) (W H n i : Nat) (x y : Int) : Prop where
  h1 : X + 1 ≤ x
  h2 : x + 1 < X + W
  h3 : Y + 1 ≤ y
  h4 : y + 1 < Y + H
  hi : (i : Int) = (y - Y) * W + (x - X)
  a0 : i < n
  a1 : i - W < n
  a2 : i + W < n
  a3 : i + 1 < n
  a4 : i - 1 < n

theorem in_cell {X Y : Int} {W H n i : Nat} {x y : Int} (hn : n = H * W) (h1 : X + 1 ≤ x) (h2 : x + 1 < X + W) (h3 : Y + 1 ≤ y) (h4 : y + 1 < Y + H) (hi : (i : Int) = (y - Y) * W + (x - X)) : InCell X Y W H n i x y := by
  have q0 : (W : Int) ≤ (y - Y) * W := by
    have := Int.mul_le_mul_of_nonneg_right (show (1 : Int) ≤ y - Y by omega) (show (0 : Int) ≤ W by omega); omega
  have q1 : (y - Y) * W ≤ (n : Int) - 2 * W := by
    have a : (y - Y) * W ≤ ((H : Int) - 2) * W := Int.mul_le_mul_of_nonneg_right (by omega) (by omega)
    have b : ((H : Int) - 2) * W = (n : Int) - 2 * W := by rw [hn, Int.sub_mul]; simp
    omega
  exact ⟨h1, h2, h3, h4, hi, by omega, by omega, by omega, by omega, by omega⟩

set_option maxHeartbeats 1000000 in
theorem inclines_any (X Y : Int) (W H n b cap i : Nat) (v : Nat → Nat) (x y : Int) (w : World) (h0 : checkR X Y W H = 0) (hn : n = H * W) (hc : FlAt w b 0 n v) (hh : allB n (fun i => hgtB (v i)) = true) (I : InCell X Y W H n i x y) :
    Calls Try.prog 142 #[fldV X Y W H (.slice (some ⟨b, 0, none⟩) n cap), .int .i64 x, .int .i64 y] w fun e w' => e = .returned (.tuple #[.float .f32 (riseW (v (i + 1)) (v (i - 1))), .float .f32 (riseW (v (i + W)) (v (i - W)))]) ∧ Below w.heap.size w w' := by
  have zb : b < w.heap.size := World.block_lt_of_cell? w _ (hc i I.a0)
  have AR := Lib.hid (fun W' (hb : Below w.heap.size w W') => around_any X Y W H n b cap i v x y W' h0 hn (flAt_congr hc (hb.block _ zb)) I.h1 I.h2 I.h3 I.h4 I.hi)
  obtain ⟨d, r, A⟩ := rise_parts (allB_iff.1 hh _ I.a3) (allB_iff.1 hh _ I.a4)
  obtain ⟨d', r', B⟩ := rise_parts (allB_iff.1 hh _ I.a2) (allB_iff.1 hh _ I.a1)
  rw [A.w, B.w]
  have S1 := Lib.hid (fun w => refSub_any 21 _ _ d A.d2 A.d1 w)
  have M1 := Lib.hid (fun w => refMul_any 21 d _ r A.r2 A.r1 w)
  have S2 := Lib.hid (fun w => refSub_any 21 _ _ d' B.d2 B.d1 w)
  have M2 := Lib.hid (fun w => refMul_any 21 d' _ r' B.r2 B.r1 w)
  clear A B I hc hh h0 hn zb
  generalize v i = v0 at *
  generalize v (i - W) = v1 at *
  generalize v (i + W) = v2 at *
  generalize v (i + 1) = v3 at *
  generalize v (i - 1) = v4 at *
  go_enter Try.func142, Try.ntmps142
  go_wp2_with (first | (go_at_call 145; refine (AR.out _ (by repeat (first | exact Below.refl _ _ | refine Below.alloc ?_ (by first | omega | (simp; done) | (simp; omega)) _ | refine Below.setCell ?_ (by first | omega | (simp; done) | (simp; omega)) _ | refine Below.drew ?_))).mono ?_; rintro e w2 ⟨rfl, hb2⟩; have hB2 : Below w.heap.size w w2 := Below.trans (by repeat (first | exact Below.refl _ _ | refine Below.alloc ?_ (by first | omega | (simp; done) | (simp; omega)) _ | refine Below.setCell ?_ (by first | omega | (simp; done) | (simp; omega)) _ | refine Below.drew ?_)) (Below.mono hb2 (by first | omega | (simp; done) | (simp; omega))); clear hb2) | (go_at_call 101; (with_reducible refine (S1.out _).mono ?_); rintro e w' ⟨rfl, rfl⟩) | (go_at_call 101; (with_reducible refine (S2.out _).mono ?_); rintro e w' ⟨rfl, rfl⟩) | (go_at_call 97; (with_reducible refine (M1.out _).mono ?_); rintro e w' ⟨rfl, rfl⟩) | (go_at_call 97; (with_reducible refine (M2.out _).mono ?_); rintro e w' ⟨rfl, rfl⟩))
  go_ret2
  exact ⟨rfl, hB2⟩

set_option maxHeartbeats 1000000 in
theorem rnormal_any (X Y : Int) (W H n b cap i : Nat) (v : Nat → Nat) (x y : Int) (w : World) (h0 : checkR X Y W H = 0) (hn : n = H * W) (hc : FlAt w b 0 n v) (hh : allB n (fun i => hgtB (v i)) = true) (I : InCell X Y W H n i x y)
    {p q u m : Nat} {a cc : Int} {X' Z : Nat} (N : NrmAt (riseW (v (i + 1)) (v (i - 1))) (riseW (v (i + W)) (v (i - W))) p q u m a X' Z cc) {nx ny nz : Nat}
    (e1 : floatBits .quo .f32 (negW (riseW (v (i + 1)) (v (i - 1)))) (rootW m) = some nx) (t1 : Same2 .quo 21 (negW (riseW (v (i + 1)) (v (i - 1)))) (rootW m))
    (e2 : floatBits .quo .f32 (negW (riseW (v (i + W)) (v (i - W)))) (rootW m) = some ny) (t2 : Same2 .quo 21 (negW (riseW (v (i + W)) (v (i - W)))) (rootW m))
    (e3 : floatBits .quo .f32 1065353216 (rootW m) = some nz) (t3 : Same2 .quo 0 1065353216 (rootW m)) :
    Calls Try.prog 125 #[fldV X Y W H (.slice (some ⟨b, 0, none⟩) n cap), .int .i64 x, .int .i64 y] w fun e w' => e = .returned (.tuple #[.float .f32 nx, .float .f32 ny, .float .f32 nz]) ∧ Below w.heap.size w w' := by
  have zb : b < w.heap.size := World.block_lt_of_cell? w _ (hc i I.a0)
  have IC := Lib.hid (fun W' (hb : Below w.heap.size w W') => inclines_any X Y W H n b cap i v x y W' h0 hn (flAt_congr hc (hb.block _ zb)) hh I)
  have M1 := Lib.hid (fun w => refMul_any 42 _ _ p N.p2 N.p1 w)
  have M2 := Lib.hid (fun w => refMul_any 42 _ _ q N.q2 N.q1 w)
  have A1 := Lib.hid (fun w => refAdd_any 43 p q u N.s2 N.s1 w)
  have A2 := Lib.hid (fun w => refAdd_any 44 u _ m N.u2 N.u1 w)
  have RT := Lib.hid (fun w => refRoot_any N.rt w)
  have D1 := Lib.hid (fun w => refDiv_any 21 _ _ nx t1 e1 w)
  have D2 := Lib.hid (fun w => refDiv_any 21 _ _ ny t2 e2 w)
  have D3 := Lib.hid (fun w => refDiv_any 0 _ _ nz t3 e3 w)
  have ng := run_neg_f32
  clear N e1 e2 e3 t1 t2 t3 I hc hh h0 hn zb
  generalize riseW (v (i + 1)) (v (i - 1)) = dx at *
  generalize riseW (v (i + W)) (v (i - W)) = dy at *
  generalize rootW m = mm at *
  go_enter Try.func125, Try.ntmps125
  go_wp2_with (first | (go_at_call 142; refine (IC.out _ (by repeat (first | exact Below.refl _ _ | refine Below.alloc ?_ (by first | omega | (simp; done) | (simp; omega)) _ | refine Below.setCell ?_ (by first | omega | (simp; done) | (simp; omega)) _ | refine Below.drew ?_))).mono ?_; rintro e w2 ⟨rfl, hb2⟩; have hB2 : Below w.heap.size w w2 := Below.trans (by repeat (first | exact Below.refl _ _ | refine Below.alloc ?_ (by first | omega | (simp; done) | (simp; omega)) _ | refine Below.setCell ?_ (by first | omega | (simp; done) | (simp; omega)) _ | refine Below.drew ?_)) (Below.mono hb2 (by first | omega | (simp; done) | (simp; omega))); clear hb2) | (go_at_call 97; (with_reducible refine (M1.out _).mono ?_); rintro e w' ⟨rfl, rfl⟩) | (go_at_call 97; (with_reducible refine (M2.out _).mono ?_); rintro e w' ⟨rfl, rfl⟩) | (go_at_call 95; (with_reducible refine (A1.out _).mono ?_); rintro e w' ⟨rfl, rfl⟩) | (go_at_call 95; (with_reducible refine (A2.out _).mono ?_); rintro e w' ⟨rfl, rfl⟩) | (go_at_call 103; refine (RT.out _).mono ?_; rintro e w' ⟨rfl, rfl⟩) | (go_at_call 102; (with_reducible refine (D1.out _).mono ?_); rintro e w' ⟨rfl, rfl⟩) | (go_at_call 102; (with_reducible refine (D2.out _).mono ?_); rintro e w' ⟨rfl, rfl⟩) | (go_at_call 102; (with_reducible refine (D3.out _).mono ?_); rintro e w' ⟨rfl, rfl⟩))
  refine bodyPost_ret (v := .tuple #[.float .f32 nx, .float .f32 ny, .float .f32 nz]) (by simp [results, Try.results125, go_sem]) rfl ?_
  exact ⟨rfl, hB2⟩

set_option maxHeartbeats 400000 in
theorem rgreater_zero (x : Nat) {a : Int} (hv : vS x = some a) (w : World) :
    Calls Try.prog 126 #[.float .f32 0, .float .f32 x] w fun e w' => e = .returned (.float .f32 (shdW x)) ∧ w = w' := by
  unfold shdW
  cases c : (FloatKind.f32.format.order 0 x == some .lt) with
  | true =>
    have g : (FloatKind.f32.format.order x 0 == some .gt) = true := by
      rw [f32f, lss_val vS_zero hv] at c; rw [f32f, gtr_val hv vS_zero]; simpa using c
    rw [if_pos rfl]
    go_enter Try.func126, Try.ntmps126
    go_wp2
    go_ret
    exact ⟨rfl, rfl⟩
  | false =>
    have g : (FloatKind.f32.format.order x 0 == some .gt) = false := by
      rw [f32f, lss_val vS_zero hv] at c; rw [f32f, gtr_val hv vS_zero]; simpa using c
    rw [if_neg (by simp)]
    go_enter Try.func126, Try.ntmps126
    go_wp2
    go_ret
    exact ⟨rfl, rfl⟩

/-- The builtin max of 0 and a single. -/
theorem run_max_zero (ts : Array TypeId) (t : TypeId) (x : Nat) {a : Int} (hv : vS x = some a) (w : World) :
    (Builtin.max_ ts t #[.float .f32 0, .float .f32 x]).run Try.prog w = .ok (.float .f32 (shdW x)) w := by
  have o := order_val vS_zero hv
  have o' : FloatKind.f32.format.order 0 x = some (compare 0 a) := o
  unfold shdW
  rw [o']
  show (([Value.float .f32 x]).foldlM Builtin.max2 (Value.float .f32 0)).run Try.prog w = _
  simp only [List.foldlM]
  have m : Builtin.max2 (.float .f32 0) (.float .f32 x) = pure (.float .f32 (if (some (compare 0 a) == some Ordering.lt) = true then x else 0)) := by
    unfold Builtin.max2
    dsimp only
    rw [o']
    rcases h : compare 0 a with _ | _ | _
    · rfl
    · rfl
    · rfl
  rw [m]
  rfl
end Go.Proofs.Ytmbiohopcfglcaa

/- The closures of Shade on both sides. -/
namespace Go.Proofs.Ytmbiohopcfglcaa
open Go.RowKit Fl
set_option linter.unusedVariables false

/-- An integer in a box. -/
abbrev inObj (z : Int) : Obj := .cells #[.int .i64 z] 3
/-- What Shade makes of the cell number j of the region without the rim; i is the cell's number in the field. -/
def shaW (M : Nat) (lx ly lz : Int) (v : Nat → Nat) (W i : Nat) : Nat := shdW (litW M lx ly lz (riseW (v (i + 1)) (v (i - 1))) (riseW (v (i + W)) (v (i - W))))
def rimI (W : Nat) (j : Nat) : Nat := (j / (W - 2) + 1) * W + (j % (W - 2) + 1)
def shaF (M : Nat) (lx ly lz : Int) (v : Nat → Nat) (W : Nat) (j : Nat) : Nat := shaW M lx ly lz v W (rimI W j)

structure ShaAt (M : Nat) (lx ly lz : Int) (v : Nat → Nat) (W i p q u m : Nat) (a : Int) (X Z : Nat) (c : Int) (nx ny nz e f s d t r : Nat) : Prop where
  nm : NrmAt (riseW (v (i + 1)) (v (i - 1))) (riseW (v (i + W)) (v (i - W))) p q u m a X Z c
  lt : LitAt M lx ly lz (riseW (v (i + 1)) (v (i - 1))) (riseW (v (i + W)) (v (i - W))) (rootW m) nx ny nz e f s d t r
  w : shaW M lx ly lz v W i = shdW r

theorem sha_parts {M : Nat} {lx ly lz : Int} {v : Nat → Nat} {X Y : Int} {W H n i : Nat} {x y : Int} (hh : allB n (fun i => hgtB (v i)) = true) (I : InCell X Y W H n i x y) (hM : LenOk M) (l1 : lx.natAbs ≤ 1000) (l2 : ly.natAbs ≤ 1000) (l3 : lz.natAbs ≤ 1000) :
    ∃ p q u m a X' Z c nx ny nz e f s d t r, ShaAt M lx ly lz v W i p q u m a X' Z c nx ny nz e f s d t r := by
  obtain ⟨_, r1, A⟩ := rise_parts (allB_iff.1 hh _ I.a3) (allB_iff.1 hh _ I.a4)
  obtain ⟨_, r2, B⟩ := rise_parts (allB_iff.1 hh _ I.a2) (allB_iff.1 hh _ I.a1)
  have bx : Bd 21 (riseW (v (i + 1)) (v (i - 1))) := by rw [A.w]; exact A.bd
  have by' : Bd 21 (riseW (v (i + W)) (v (i - W))) := by rw [B.w]; exact B.bd
  have lx' : riseW (v (i + 1)) (v (i - 1)) < 4294967296 := by rw [A.w]; exact A.lt
  have ly' : riseW (v (i + W)) (v (i - W)) < 4294967296 := by rw [B.w]; exact B.lt
  obtain ⟨p, q, u, m, a, X', Z, c, N⟩ := nrm_parts bx by'
  obtain ⟨nx, ny, nz, e, f, s, d, t, r, L⟩ := lit_parts bx by' lx' ly' N.w N.rt.val N.c1 hM l1 l2 l3
  exact ⟨p, q, u, m, a, X', Z, c, nx, ny, nz, e, f, s, d, t, r, N, L, by unfold shaW; rw [L.w]⟩

/-- What Shade's closures hold: the field, the direction, its length. -/
structure ShCaps (w : World) (X Y : Int) (W H n b cap : Nat) (v : Nat → Nat) (p pm : Nat) (lx ly lz : Int) (M : Nat) : Prop where
  fld : w.heap[p]? = some (fldO X Y W H (.slice (some ⟨b, 0, none⟩) n cap))
  k1 : w.heap[p + 1]? = some (inObj lx)
  k2 : w.heap[p + 1 + 1]? = some (inObj ly)
  k3 : w.heap[p + 1 + 1 + 1]? = some (inObj lz)
  km : w.heap[pm]? = some (flObj M)
  row : FlAt w b 0 n v
theorem ShCaps.stay {w w' : World} {X Y : Int} {W H n b cap : Nat} {v : Nat → Nat} {p pm : Nat} {lx ly lz : Int} {M : Nat} (h : ShCaps w X Y W H n b cap v p pm lx ly lz M) (hn : 1 ≤ n) (hb : Below w.heap.size w w') : ShCaps w' X Y W H n b cap v p pm lx ly lz M :=
  ⟨blkStay h.fld hb, blkStay h.k1 hb, blkStay h.k2 hb, blkStay h.k3 hb, blkStay h.km hb, flAt_congr h.row (hb.block _ (World.block_lt_of_cell? w _ (h.row 0 hn)))⟩

theorem rim_num {X Y x y : Int} {W j : Nat} (hW : 3 ≤ W) (h1 : X + 1 ≤ x) (h2 : x < X + 1 + ((W : Int) - 2)) (h3 : Y + 1 ≤ y) (hj : (j : Int) = (y - (Y + 1)) * ((W : Int) - 2) + (x - (X + 1))) : ((rimI W j : Nat) : Int) = (y - Y) * W + (x - X) := by
  obtain ⟨W2, e2⟩ : ∃ W2 : Nat, W2 = W - 2 := ⟨_, rfl⟩
  have e3 : ((W : Int) - 2) = (W2 : Int) := by omega
  rw [e3] at hj h2
  obtain ⟨ex, ey⟩ := place_of (X := X + 1) (Y := Y + 1) (x := x) (y := y) (W := W2) (i := j) (by omega) h1 h2 h3 hj
  unfold rimI
  rw [← e2]
  have : (((j / W2 + 1) * W + (j % W2 + 1) : Nat) : Int) = (((j / W2 : Nat) : Int) + 1) * W + (((j % W2 : Nat) : Int) + 1) := by simp
  rw [this, show ((j / W2 : Nat) : Int) + 1 = y - Y by omega, show ((j % W2 : Nat) : Int) + 1 = x - X by omega]

set_option maxHeartbeats 4000000 in
theorem shade1_any (X Y : Int) (W H n b cap : Nat) (v : Nat → Nat) (p pm : Nat) (lx ly lz : Int) (M : Nat) (w : World) (K : ShCaps w X Y W H n b cap v p pm lx ly lz M) (h0 : checkR X Y W H = 0) (hn : n = H * W) (hcap : n ≤ cap) (hcp : cap ≤ 9223372036854775807) (hh : allB n (fun i => hgtB (v i)) = true)
    (hW : 3 ≤ W) (hH : 3 ≤ H) (hM : LenOk M) (l1 : lx.natAbs ≤ 1000) (l2 : ly.natAbs ≤ 1000) (l3 : lz.natAbs ≤ 1000) :
    Clos2 119 #[.pointer (some ⟨p, 0, none⟩), .pointer (some ⟨p + 1, 0, none⟩), .pointer (some ⟨p + 1 + 1, 0, none⟩), .pointer (some ⟨p + 1 + 1 + 1, 0, none⟩), .pointer (some ⟨pm, 0, none⟩)] (X + 1) (Y + 1) ((W : Int) - 2) ((H : Int) - 2) (shaF M lx ly lz v W) w := by
  intro x y j w2 h1 h2 h3 h4 hj hb
  have n1 : 1 ≤ n := by rw [hn]; exact Nat.mul_pos (by omega) (by omega)
  have K2 := K.stay n1 hb
  have hi := rim_num hW h1 h2 h3 hj
  unfold shaF
  obtain ⟨i, hi'⟩ : ∃ i, rimI W j = i := ⟨_, rfl⟩
  rw [hi'] at hi ⊢
  have I := in_cell hn h1 (show x + 1 < X + W by omega) h3 (show y + 1 < Y + H by omega) hi
  obtain ⟨pp, q, u, m, a, X', Z, c, nx, ny, nz, e, f, s, d, t, r, S⟩ := sha_parts hh I hM l1 l2 l3
  rw [S.w]
  have zb : b < w2.heap.size := World.block_lt_of_cell? w2 _ (K2.row i I.a0)
  have CA := Lib.hid (fun W' (hb : Below w2.heap.size w2 W') => crossAt_any X Y W H n b cap i v x y W' h0 hn hcap hcp (flAt_congr K2.row (hb.block _ zb)) I.h1 I.h2 I.h3 I.h4 I.hi)
  have NO := Lib.hid (fun w => normal_any (v i) (v (i - W)) (v (i - 1)) (v (i + 1)) (v (i + W)) w (allB_iff.1 hh _ I.a1) (allB_iff.1 hh _ I.a4) (allB_iff.1 hh _ I.a3) (allB_iff.1 hh _ I.a2) S.nm S.lt.nx1 S.lt.ny1 S.lt.nz1)
  have a1 := fun (W : World) => run_float_arith (P := Try.prog) W .mul 22 .f32 nx _ e S.lt.a1
  have a2 := fun (W : World) => run_float_arith (P := Try.prog) W .mul 22 .f32 ny _ f S.lt.b1
  have a3 := fun (W : World) => run_float_arith (P := Try.prog) W .add 22 .f32 e f s S.lt.s1
  have a4 := fun (W : World) => run_float_arith (P := Try.prog) W .mul 22 .f32 nz _ d S.lt.d1
  have a5 := fun (W : World) => run_float_arith (P := Try.prog) W .add 22 .f32 s d t S.lt.t1
  have a6 := fun (W : World) => run_float_arith (P := Try.prog) W .quo 22 .f32 t M r S.lt.r1
  obtain ⟨ar, hr⟩ := S.lt.v
  have mx := fun (ts : Array TypeId) (t : TypeId) (W : World) => run_max_zero ts t r hr W
  have GF := Lib.hid K2.fld
  have G1 := Lib.hid K2.k1
  have G2 := Lib.hid K2.k2
  have G3 := Lib.hid K2.k3
  have GM := Lib.hid K2.km
  obtain ⟨cF, fF, zF⟩ := blkC GF.out
  clear S K K2 h0 hn hcap hcp hh hW hH hM l1 l2 l3 hb hi hi' I h1 h2 h3 h4 hj hr
  generalize v i = v0 at *
  generalize v (i - W) = v1 at *
  generalize v (i + W) = v2 at *
  generalize v (i + 1) = v3 at *
  generalize v (i - 1) = v4 at *
  go_enter Try.func119, Try.ntmps119
  go_wp2_with (first | (go_at_call 120; refine (CA.out _ (by repeat (first | exact Below.refl _ _ | refine Below.alloc ?_ (by first | omega | (simp; done) | (simp; omega)) _ | refine Below.setCell ?_ (by first | omega | (simp; done) | (simp; omega)) _ | refine Below.drew ?_))).mono ?_; rintro e' w3 ⟨rfl, hb3⟩; have B3 := Lib.hid hb3; clear cF fF zF) | (go_at_call 121; refine (NO.out _).mono ?_; rintro e' w4 ⟨rfl, hb4⟩; have B4 := Lib.hid (B3.out.trans (hb4.mono B3.out.size)); clear hb3 hb4; obtain ⟨d1, f1, z1⟩ := blkC (blkStay G1.out B4.out); obtain ⟨d2, f2, z2⟩ := blkC (blkStay G2.out B4.out); obtain ⟨d3, f3, z3⟩ := blkC (blkStay G3.out B4.out); obtain ⟨dM, fM, zM⟩ := blkC (blkStay GM.out B4.out)))
  go_ret
  exact ⟨rfl, B4.out⟩
end Go.Proofs.Ytmbiohopcfglcaa
