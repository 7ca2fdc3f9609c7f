/- ShowersArePlaces, for every region, every seed and every whole number, the list of directions being what the program's text lays: the tied card. No condition. -/
import Derived.Test.YtnbpapbpiknnnabDoorShw3
import Derived.Test.YtnbpapbpiknnnabDoorOpenF
import Derived.Test.YtnbpapbpiknnnabDoorTie
import Derived.Test.YtnbpapbpiknnnabDoorCards
import Derived.LaidMore
import Derived.LaidLaws
import Derived.LaidHandle
import Derived.Stop.Joined
import Derived.SevenTiedAt
namespace Go.Proofs.YtnbpapbpiknnnabDoor.showersArePlaces
open Go.ChangeShapes Go.WideShapes Go.ChangeAt Go.RowKit Go.Joins
set_option linter.unusedVariables false

theorem own : ownKnob Tryd.prog.godebug = none := by kernel_rfl
theorem gDirs : Tryd.prog.globalNamed "tarnfell/water.directions" = some 1 := by kernel_rfl
theorem tDirs : (Tryd.prog.globals[1]?).map (·.type) = some 164 := by kernel_rfl
theorem cellsP : Tryd.prog.cellsOf 48 = 2 := by kernel_rfl
theorem cellsI : Tryd.prog.cellsOf 3 = 1 := by kernel_rfl
theorem cellsD : Tryd.prog.cellsOf 164 = 16 := by kernel_rfl

/-- A listed variable's condition. -/
abbrev laidX : List (String × DataW Unit) := [("tarnfell/water.directions", Rows.laid_tarnfell_water_directions)]
theorem door_met (os : Os) (args : Array Value) : laidMetH Tryd.prog laidX ((World.doorLaid Tryd.prog 400 os).forCall (fun _ _ => 0) ⟨#[], args, []⟩).memory :=
  laidMetH_of_parts3 (fuel := 8) (laidMet_of_run' 8 (by kernel_rfl) (by kernel_rfl)) (by kernel_rfl) (by kernel_rfl)

/-- A place's two cells. -/
theorem point_cells {H : Type} {enc : TypeId × Value → H} {w : World} {base : Nat} {sp : Nat → Bool} {held : Bool} {fuel : Nat} {cs : List Value} {a b : Int} {x : DataW H × List MemPlace} (h : DataW.trod enc Tryd.prog w base sp held fuel 48 cs = some x) (hx : x.1 = .agg [.lit (.int .i64 a), .lit (.int .i64 b)]) : cs = [.int .i64 a, .int .i64 b] := by
  obtain ⟨y0, y1, n, rfl, hl, e0, e1⟩ := trod_struct2 Tryd.underlying48 h
  rw [cellsP] at hl
  rw [cellsI] at e0 e1
  obtain ⟨x0, f0, g0, _⟩ := DataW.trod_int Tryd.underlying3 e0
  obtain ⟨x1, f1, g1, _⟩ := DataW.trod_int Tryd.underlying3 e1
  rw [g0, g1] at hx
  simp only [DataW.agg.injEq, List.cons.injEq, DataW.lit.injEq, Lit.int.injEq, true_and, and_true] at hx
  obtain ⟨rfl, rfl⟩ := hx
  match cs, hl with
  | [c0, c1], _ =>
    simp at f0 f1
    subst f0 f1
    rfl

theorem dirs_of_laid {W : World} (h : laidMetH Tryd.prog laidX W) : DirsAt W := by
  rw [MakeChecks.laidMetH_plain _ _ _ (by kernel_rfl)] at h
  obtain ⟨ps, ⟨g0, t0, cs0, f0, p0, q0, hg0, ht0, hv0, hd0, _⟩, _, _⟩ := h
  obtain rfl := Option.some.inj (gDirs.symm.trans hg0)
  obtain rfl := Option.some.inj (tDirs.symm.trans ht0)
  obtain ⟨xs, m1, rfl, hx1, hlen, hn, hel⟩ := DataW.trod_array Tryd.underlying164 hd0
  simp only [Prod.mk.injEq] at hx1
  have hx2 := hx1.1
  have hc := fun o => World.var?_cell hg0 hv0 o
  intro d hd
  rw [cellsP] at hel
  have e := DataW.agg.inj (show DataW.agg _ = DataW.agg _ from hx2)
  have hm : (xs.map (·.1))[d]? = some (.agg [.lit (.int .i64 (dxI d)), .lit (.int .i64 (dyI d))]) := by
    rw [← e]
    have : d = 0 ∨ d = 1 ∨ d = 2 ∨ d = 3 ∨ d = 4 ∨ d = 5 ∨ d = 6 ∨ d = 7 := by omega
    rcases this with rfl | rfl | rfl | rfl | rfl | rfl | rfl | rfl <;> rfl
  rw [List.getElem?_map] at hm
  cases hq : xs[d]? with
  | none => rw [hq] at hm; cases hm
  | some x =>
    rw [hq] at hm
    have q := point_cells ((hel d hd).trans hq) (Option.some.inj hm)
    have a := congrArg (fun l => l[0]?) q
    have b := congrArg (fun l => l[1]?) q
    simp only [List.getElem?_take, List.getElem?_drop] at a b
    refine ⟨(hc _).trans ?_, (hc _).trans ?_⟩
    · rw [← Array.getElem?_toList]; simpa using a
    · rw [← Array.getElem?_toList]; simpa using b

set_option maxRecDepth 100000 in
theorem lifted (os : Os) (started : os.Started) (H : Type) (enc : TypeId × Value → H) :
    ReturnsInHanded {} Tryd.checked os 11 .any (fun w args => (Rows.showersArePlacesSpec.pre enc Tryd.prog Tryd.f11 [] false w args ∧ laidMetH Tryd.prog laidX w) ∧ sizedMet enc Tryd.prog Tryd.f11 (OpenSpec.ofChange Rows.showersArePlacesSpec) false w args)
      (Rows.showersArePlacesSpec.post enc Tryd.prog Tryd.f11 false true false false) := by
  refine returnsInHanded_of_change_and (C := Tryd.checked) (X := fun w _ => laidMetH Tryd.prog laidX w) (fun _ _ _ hh h => h.of_heap hh) own started (by kernel_rfl) Tryd.func11
    (ChangeSpec.witness_shaped (enc := enc) (C := Tryd.checked) (os := os) (X := fun w _ => laidMetH Tryd.prog laidX w) false (World.doorLaid Tryd.prog 400 os) #[reg 0 0 0 0, .int .u32 0, .int .i64 0] 8 rfl (World.shaped_of_RefB (by kernel_rfl) (by kernel_rfl)) (by kernel_rfl) (by kernel_rfl) (by kernel_rfl) (door_met os _)) ?_
  intro W base args ds gs before hval0 hW _ _ hL _
  have hval : ∀ (j : Nat) t v, Tryd.f11.params[j]? = some t → args[j]? = some v → Value.okWide Tryd.prog W .any base t v := hval0
  have hW' := hW
  obtain ⟨p, q, hA0, hV, rfl, hfz, hnd⟩ := hW
  have hA : DataW.TrodAll enc Tryd.prog W 0 (fun _ => true) true Tryd.f11.params.toList args.toList ds p := hA0
  rw [Tryd.params11] at hA hval
  obtain ⟨v0, vs0, d0, ds0, p0, q0, hargs, rfl, rfl, h0, r0⟩ := trodAll_cons hA
  obtain ⟨v1, vs1, d1, ds1, p1, q1, rfl, rfl, rfl, h1, r1⟩ := trodAll_cons r0
  obtain ⟨v2, vs2, d2, ds2, p2, q2, rfl, rfl, rfl, h2, r2⟩ := trodAll_cons r1
  obtain ⟨rfl, rfl, rfl⟩ := trodAll_nil r2
  obtain rfl : args = #[v0, v1, v2] := by cases args; simp_all
  obtain ⟨rfl, rfl⟩ := trodVars_none hV
  obtain ⟨a0, a1, a2, a3, y0, y1, y2, y3, m0, rfl, rfl, rfl, g0, g1, g2, g3⟩ := open_agg4 Tryd.underlying23 (by kernel_rfl) cellsR (hval 0 23 v0 rfl rfl) h0
  obtain ⟨m, rfl, rfl, rfl, wm⟩ := open_int Tryd.underlying74 (hval 1 74 v1 rfl rfl) h1
  obtain ⟨n, rfl, rfl, rfl, wn⟩ := open_int Tryd.underlying3 (hval 2 3 v2 rfl rfl) h2
  obtain ⟨x0, e0, rfl, w0⟩ := DataW.trod_int Tryd.underlying3 g0
  obtain ⟨x1, e1, rfl, w1⟩ := DataW.trod_int Tryd.underlying3 g1
  obtain ⟨x2, e2, rfl, w2⟩ := DataW.trod_int Tryd.underlying3 g2
  obtain ⟨x3, e3, rfl, w3⟩ := DataW.trod_int Tryd.underlying3 g3
  simp at e0 e1 e2 e3
  subst e0 e1 e2 e3
  clear hA0 hval0
  simp only [List.append_nil] at hW'
  have regReads : ∀ (W' : World) (sp : Nat → Bool) (x0 x1 x2 x3 : Int), (Lit.int .i64 x0).wf = true → (Lit.int .i64 x1).wf = true → (Lit.int .i64 x2).wf = true → (Lit.int .i64 x3).wf = true →
      DataW.Trod enc Tryd.prog W' 0 sp true 23 (reg x0 x1 x2 x3) (.agg [.lit (.int .i64 x0), .lit (.int .i64 x1), .lit (.int .i64 x2), .lit (.int .i64 x3)]) [] := fun W' sp x0 x1 x2 x3 w0 w1 w2 w3 =>
    shut_agg4 (y0 := (.lit (.int .i64 x0), [])) (y1 := (.lit (.int .i64 x1), [])) (y2 := (.lit (.int .i64 x2), [])) (y3 := (.lit (.int .i64 x3), [])) Tryd.underlying23 (by kernel_rfl) cellsR
      ⟨1, by simp [DataW.trod, Tryd.underlying3, w0]⟩ ⟨1, by simp [DataW.trod, Tryd.underlying3, w1]⟩ ⟨1, by simp [DataW.trod, Tryd.underlying3, w2]⟩ ⟨1, by simp [DataW.trod, Tryd.underlying3, w3]⟩
  refine (showersLaw_any x0 x1 x2 x3 m n W (dirs_of_laid hL)).mono fun e W' ⟨he, hb⟩ => ?_
  subst he
  exact ⟨_, rfl, _, _, _, [], [], [], hW', trodAll_cons_mk (shut_bool Tryd.underlying4 _) trodAll_mk0, trodAll_cons_mk (regReads _ _ _ _ _ _ w0 w1 w2 w3) (trodAll_cons_mk (shut_int Tryd.underlying74 wm) (trodAll_cons_mk (shut_int Tryd.underlying3 wn) trodAll_mk0)), rfl, hb.frame _, fun h => by cases h⟩

theorem over : Rows.ShowersArePlacesSaid :=
  OpenClaim.holds_of_wide 11 Tryd.f11 rfl rfl rfl rfl rfl rfl rfl ⟨rfl, rfl, rfl, rfl, rfl⟩ rfl rfl rfl rfl rfl (by kernel_rfl) Tryd.func11 (by kernel_rfl)
    (of_decide_eq_true (by kernel_rfl)) (by unfold Func.isWrapper; rw [if_neg (of_decide_eq_false (by kernel_rfl))]; exact ⟨rfl, rfl⟩)
    (fun os started H enc _ => lifted os started H enc)

theorem proved : Rows.ShowersArePlacesCardSaid :=
  Claim7.holds_tied_plain_at .later [] [.data] true (true, "6fdcf3f2f78e6d341d136240db9de05bdb82b17003d6628a22dbf52f7b54976f") true
    over (fun _ h => by cases h) (by kernel_rfl) (fun _ h => by cases h) showersArePlaces_row_tie rfl ⟨rfl, rfl⟩ (by kernel_rfl) rfl
    (fun f fn hf hfn => by
      obtain rfl : f = 11 := Option.some.inj ((show Tryd.prog.funcNamed "tarnfell/tarnlaw2.ShowersArePlaces" = some 11 by kernel_rfl).symm.trans hf) |>.symm
      obtain rfl : fn = Tryd.f11 := (Option.some.inj (Tryd.func11.symm.trans hfn)).symm
      exact ⟨by kernel_rfl, fun j t ht => by
        rw [Tryd.params11] at ht
        have hm : t ∈ [23, 74, 3] := by simpa using Array.mem_of_getElem? ht
        have hall : ([23, 74, 3].all fun u => !Tryd.prog.wantsStandIn u) = true := by kernel_rfl
        exact (show Tryd.prog.wantsStandIn t = false by simpa using List.all_eq_true.1 hall t hm)⟩)
    (by kernel_rfl)
#print axioms proved
end Go.Proofs.YtnbpapbpiknnnabDoor.showersArePlaces
