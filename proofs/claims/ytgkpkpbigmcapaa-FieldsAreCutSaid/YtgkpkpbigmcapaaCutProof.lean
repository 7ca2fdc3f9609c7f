/- FieldsAreCut, for every two fields, every region and every single: what Fill, Cut, Paste and Same answer is what the references answer, bit by bit. No condition. -/
import Derived.Test.YtgkpkpbigmcapaaCutLaw2
import Derived.Test.YtgkpkpbigmcapaaCutLaw3
import Derived.Test.YtgkpkpbigmcapaaCutLaw4
import Derived.Test.YtgkpkpbigmcapaaOpenF
namespace Go.Proofs.Ytgkpkpbigmcapaa.fieldsAreCut
open Go.ChangeShapes Go.WideShapes Go.ChangeAt Go.RowKit Go.Joins
set_option linter.unusedVariables false

theorem own : ownKnob Try.prog.godebug = none := by kernel_rfl

theorem fieldsAreCut_any (X0 Y0 W0 H0 : Int) (sl : Value) (X1 Y1 W1 H1 : Int) (sl1 : Value) (rx ry rw rh : Int) (h : Nat) (w : World) (hh : h < 4294967296)
    (hfit : ∀ W', Below w.heap.size w W' → Calls Try.prog 9 #[fldV X0 Y0 W0 H0 sl] W' (FitPost W')) (hfit1 : ∀ W', Below w.heap.size w W' → Calls Try.prog 9 #[fldV X1 Y1 W1 H1 sl1] W' (FitPost W')) :
    Calls Try.prog 4 #[fldV X0 Y0 W0 H0 sl, fldV X1 Y1 W1 H1 sl1, reg rx ry rw rh, .float .f32 h] w fun e w' => e = .returned (.bool true) ∧ Below w.heap.size w w' := by
  by_cases hz : checkR rx ry rw rh = 0
  · by_cases hf : fldE 1 (fun _ => h) = 0
    · exact fieldsAreCut_2 X0 Y0 W0 H0 sl X1 Y1 W1 H1 sl1 rx ry rw rh h w hh hz hf hfit hfit1
    · exact fieldsAreCut_1 X0 Y0 W0 H0 sl X1 Y1 W1 H1 sl1 rx ry rw rh h w hh hz hf hfit hfit1
  · exact fieldsAreCut_0 X0 Y0 W0 H0 sl X1 Y1 W1 H1 sl1 rx ry rw rh h w hh hz hfit hfit1

set_option maxRecDepth 100000 in
theorem lifted (os : Os) (started : os.Started) (H : Type) (enc : TypeId × Value → H) :
    ReturnsInHanded {} Try.checked os 4 .any (Rows.fieldsAreCutSpec.pre6 enc Try.prog Try.f4 Rows.fieldsAreCutRow.domain false) (Rows.fieldsAreCutSpec.post enc Try.prog Try.f4 false true false false) := by
  refine returnsInHanded_of_change (C := Try.checked) own started (by kernel_rfl) Try.func4
    (ChangeSpec.witness6 (enc := enc) (C := Try.checked) false ⟨#[], #[fldV 0 0 0 0 (.slice none 0 0), fldV 0 0 0 0 (.slice none 0 0), reg 0 0 0 0, .float .f32 0], []⟩ 8 (by kernel_rfl) (by kernel_rfl) (by kernel_rfl) (by kernel_rfl)) ?_
  intro W base args ds gs before hval0 hW hcnd _
  have hval : ∀ (j : Nat) t v, Try.f4.params[j]? = some t → args[j]? = some v → Value.okWide Try.prog W .any base t v := hval0
  have hW' := hW
  have hplt : ∀ x ∈ before, x.block < W.heap.size := fun x hx => by simpa using hW'.lt x hx
  obtain ⟨p, q, hA0, hV, rfl, hfz, hnd⟩ := hW
  have hA : DataW.TrodAll enc Try.prog W 0 (fun _ => true) true Try.f4.params.toList args.toList ds p := hA0
  rw [Try.params4] at hA hval
  obtain ⟨v0, vs0, d0, ds0, p0, q0, hargs, rfl, rfl, h0, r0⟩ := trodAll_cons hA
  obtain ⟨v1, vs1, d1, ds1, p1, q1, rfl, rfl, rfl, h1, r1⟩ := trodAll_cons r0
  obtain ⟨v2, vs2, d2, ds2, p2, q2, rfl, rfl, rfl, h2, r2⟩ := trodAll_cons r1
  obtain ⟨v3, vs3, d3, ds3, p3, q3, rfl, rfl, rfl, h3, r3⟩ := trodAll_cons r2
  obtain ⟨rfl, rfl, rfl⟩ := trodAll_nil r3
  obtain rfl : args = #[v0, v1, v2, v3] := by cases args; simp_all
  obtain ⟨rfl, rfl⟩ := trodVars_none hV
  obtain ⟨X, Y, W0, H0, s, rfl, hs⟩ := open_field (hval 0 26 v0 rfl rfl) h0
  obtain ⟨X1, Y1, W1, H1, s1, rfl, hs1⟩ := open_field (hval 1 26 v1 rfl rfl) h1
  obtain ⟨a0, a1, a2, a3, y0, y1, y2, y3, m0, rfl, rfl, rfl, g0, g1, g2, g3⟩ := open_agg4 Try.underlying23 (by kernel_rfl) cellsR (hval 2 23 v2 rfl rfl) h2
  obtain ⟨x0, e0, rfl, w0⟩ := DataW.trod_int Try.underlying3 g0
  obtain ⟨x1, e1, rfl, w1⟩ := DataW.trod_int Try.underlying3 g1
  obtain ⟨x2, e2, rfl, w2⟩ := DataW.trod_int Try.underlying3 g2
  obtain ⟨x3, e3, rfl, w3⟩ := DataW.trod_int Try.underlying3 g3
  simp at e0 e1 e2 e3
  subst e0 e1 e2 e3
  obtain ⟨c, rfl, rfl, rfl, wc⟩ := open_float Try.underlying30 (hval 3 30 v3 rfl rfl) h3
  have lc : c < 4294967296 := by simpa [Lit.wf] using wc
  have hlt : ∀ x ∈ p0, x.block < W.heap.size := fun x hx => hplt x (by simp [hx])
  have hlt1 : ∀ x ∈ p1, x.block < W.heap.size := fun x hx => hplt x (by simp [hx])
  clear hA0 hval0 hplt
  simp only [List.append_nil] at hW'
  have regReads : ∀ (W' : World) (sp : Nat → Bool) (x0 x1 x2 x3 : Int), (Lit.int .i64 x0).wf = true → (Lit.int .i64 x1).wf = true → (Lit.int .i64 x2).wf = true → (Lit.int .i64 x3).wf = true →
      DataW.Trod enc Try.prog W' 0 sp true 23 (reg x0 x1 x2 x3) (.agg [.lit (.int .i64 x0), .lit (.int .i64 x1), .lit (.int .i64 x2), .lit (.int .i64 x3)]) [] := fun W' sp x0 x1 x2 x3 w0 w1 w2 w3 =>
    shut_agg4 (y0 := (.lit (.int .i64 x0), [])) (y1 := (.lit (.int .i64 x1), [])) (y2 := (.lit (.int .i64 x2), [])) (y3 := (.lit (.int .i64 x3), [])) Try.underlying23 (by kernel_rfl) cellsR
      ⟨1, by simp [DataW.trod, Try.underlying3, w0]⟩ ⟨1, by simp [DataW.trod, Try.underlying3, w1]⟩ ⟨1, by simp [DataW.trod, Try.underlying3, w2]⟩ ⟨1, by simp [DataW.trod, Try.underlying3, w3]⟩
  refine (fieldsAreCut_any X Y W0 H0 s X1 Y1 W1 H1 s1 x0 x1 x2 x3 c W lc (fun W' hb => fit_any (hs.stay hb)) (fun W' hb => fit_any (hs1.stay hb))).mono fun e W' ⟨he, hb⟩ => ?_
  subst he
  exact ⟨_, rfl, _, _, _, [], _, [], hW', trodAll_cons_mk (shut_bool Try.underlying4 _) trodAll_mk0, trodAll_cons_mk (Below.trod laidOut (by kernel_rfl) (of_decide_eq_true (by kernel_rfl)) h0 hb hlt) (trodAll_cons_mk (Below.trod laidOut (by kernel_rfl) (of_decide_eq_true (by kernel_rfl)) h1 hb hlt1) (trodAll_cons_mk (regReads _ _ _ _ _ _ w0 w1 w2 w3) (trodAll_cons_mk (shut_float Try.underlying30 wc) trodAll_mk0))), rfl, hb.frame _, fun h => by cases h⟩

theorem over : Rows.fieldsAreCutRow.holds Try.pinned (OpenSpec.ofChange Rows.fieldsAreCutSpec) :=
  OpenClaim.holds_of_wide 4 Try.f4 rfl rfl rfl rfl rfl rfl rfl ⟨rfl, rfl, rfl, rfl, rfl⟩ rfl rfl rfl rfl rfl (by kernel_rfl) Try.func4 (by kernel_rfl)
    (of_decide_eq_true (by kernel_rfl)) (by unfold Func.isWrapper; rw [if_neg (of_decide_eq_false (by kernel_rfl))]; exact ⟨rfl, rfl⟩)
    (fun os started H enc _ => lifted os started H enc)

theorem proved : Rows.FieldsAreCutSaid :=
  over
#print axioms proved
end Go.Proofs.Ytgkpkpbigmcapaa.fieldsAreCut
