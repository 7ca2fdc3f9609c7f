/- Slack of the program, of the reference; the law's grows. -/
import Derived.Test.YtkjpjppfmfifeaaSlk
namespace Go.Proofs.Ytkjpjppfmfifeaa
open Go.RowKit Fl
set_option linter.unusedVariables false

theorem slk_lo {v l h s d q r : Nat} {a : Int} (c : ltB v l = true) (D : DifAt v l d a) (F : FadAt d s q r) : slkW v l h s = r := by unfold slkW; rw [if_pos c, D.w, F.w]
theorem slk_lo0 {v l h s d : Nat} {a : Int} (c : ltB v l = true) (D : DifAt v l d a) (F : ltB d s = false) : slkW v l h s = 0 := by unfold slkW; rw [if_pos c, D.w]; unfold fadW; rw [if_neg (by simp [F])]
theorem slk_hi {v l h s d q r : Nat} {a : Int} (c : ltB v l = false) (c2 : (FloatKind.f32.format.order v h == some .gt) = true) (D : DifAt h v d a) (F : FadAt d s q r) : slkW v l h s = r := by unfold slkW; rw [if_neg (by simp [c]), if_pos c2, D.w, F.w]
theorem slk_hi0 {v l h s d : Nat} {a : Int} (c : ltB v l = false) (c2 : (FloatKind.f32.format.order v h == some .gt) = true) (D : DifAt h v d a) (F : ltB d s = false) : slkW v l h s = 0 := by unfold slkW; rw [if_neg (by simp [c]), if_pos c2, D.w]; unfold fadW; rw [if_neg (by simp [F])]
theorem slk_in {v l h s : Nat} (c : ltB v l = false) (c2 : (FloatKind.f32.format.order v h == some .gt) = false) : slkW v l h s = 1065353216 := by unfold slkW; rw [if_neg (by simp [c]), if_neg (by simp [c2])]

/-- What the word of Slack is. -/
structure SlkIn (v l h s : Nat) : Prop where
  bd : Bd 1 (slkW v l h s)
  lt : slkW v l h s < 4294967296
theorem bd_zeroK (k : Nat) : Bd k 0 := bd_val vS_zero (by simp)
theorem bd_zero1 : Bd 1 0 := bd_zeroK 1

/-- All ways of Slack, with their tests. -/
theorem slk_ways {v l h s : Nat} (hv : hgtB v = true) (hl : hgtB l = true) (hh : hgtB h = true) {z : Int} (vs : vS s = some z) (ho : ltB h l = false) {P : Prop}
    (A : ∀ d q r d' c c', ltB v l = true → (FloatKind.f32.format.order l v == some .lt || FloatKind.f32.format.order l v == some .eq) = false → DifAt v l d c → floatBits .sub .f32 v h = some d' → vS d' = some c' → c' < c →
      ((FloatKind.f32.format.order d s == some .gt || FloatKind.f32.format.order d s == some .eq) = false ∧ ltB d s = true ∧ FadAt d s q r ∨ (FloatKind.f32.format.order d s == some .gt || FloatKind.f32.format.order d s == some .eq) = true ∧ ltB d s = false ∧ r = 0) → slkW v l h s = r → P)
    (B : ∀ d q r d' c c', ltB v l = false → (FloatKind.f32.format.order v h == some .gt) = true → (FloatKind.f32.format.order l v == some .lt || FloatKind.f32.format.order l v == some .eq) = true → (FloatKind.f32.format.order v h == some .lt || FloatKind.f32.format.order v h == some .eq) = false → DifAt h v d c → floatBits .sub .f32 l v = some d' → vS d' = some c' → c' < c →
      ((FloatKind.f32.format.order d s == some .gt || FloatKind.f32.format.order d s == some .eq) = false ∧ ltB d s = true ∧ FadAt d s q r ∨ (FloatKind.f32.format.order d s == some .gt || FloatKind.f32.format.order d s == some .eq) = true ∧ ltB d s = false ∧ r = 0) → slkW v l h s = r → P)
    (C : ltB v l = false → (FloatKind.f32.format.order v h == some .gt) = false → (FloatKind.f32.format.order l v == some .lt || FloatKind.f32.format.order l v == some .eq) = true → (FloatKind.f32.format.order v h == some .lt || FloatKind.f32.format.order v h == some .eq) = true → slkW v l h s = 1065353216 → P) : P := by
  obtain ⟨a, va, _⟩ := hgt_val hv
  obtain ⟨b, vb, _⟩ := hgt_val hl
  obtain ⟨c, vc, _⟩ := hgt_val hh
  have fade : ∀ d x, vS d = some x → 0 ≤ x → ∃ q r, ((FloatKind.f32.format.order d s == some .gt || FloatKind.f32.format.order d s == some .eq) = false ∧ ltB d s = true ∧ FadAt d s q r ∨ (FloatKind.f32.format.order d s == some .gt || FloatKind.f32.format.order d s == some .eq) = true ∧ ltB d s = false ∧ r = 0) := by
    intro d x vd x0
    by_cases k : x < z
    · obtain ⟨q, r, F⟩ := fad_parts vd vs x0 k
      exact ⟨q, r, .inl ⟨by rw [f32fmt, geq_val vd vs]; simp; omega, by unfold ltB; rw [f32fmt, lss_val vd vs]; simp; omega, F⟩⟩
    · exact ⟨0, 0, .inr ⟨by rw [f32fmt, geq_val vd vs]; simp; omega, by unfold ltB; rw [f32fmt, lss_val vd vs]; simp; omega, rfl⟩⟩
  have ho' : b ≤ c := by
    unfold ltB at ho
    rw [f32fmt, lss_val vc vb] at ho
    simpa using ho
  by_cases k1 : a < b
  · have t1 : ltB v l = true := by unfold ltB; rw [f32fmt, lss_val va vb]; simpa using k1
    obtain ⟨d, x, D⟩ := dif_parts hv hl va vb k1
    obtain ⟨d', x', e', v', n'⟩ := dif_any hh hv vc va
    obtain ⟨q, r, F⟩ := fade d x D.v (by have := D.p; omega)
    refine A d q r d' x x' t1 (by rw [f32fmt, leq_val vb va]; simp; omega) D e' v' (by have := D.p; have := n' (by omega); omega) F ?_
    rcases F with ⟨_, f, F⟩ | ⟨_, f, rfl⟩
    · exact slk_lo t1 D F
    · exact slk_lo0 t1 D f
  · have t1 : ltB v l = false := by unfold ltB; rw [f32fmt, lss_val va vb]; simpa using k1
    by_cases k2 : c < a
    · have t2 : (FloatKind.f32.format.order v h == some .gt) = true := by rw [f32fmt, gtr_val va vc]; simpa using k2
      obtain ⟨d, x, D⟩ := dif_parts hh hv vc va k2
      obtain ⟨d', x', e', v', n'⟩ := dif_any hv hl va vb
      obtain ⟨q, r, F⟩ := fade d x D.v (by have := D.p; omega)
      refine B d q r d' x x' t1 t2 (by rw [f32fmt, leq_val vb va]; simp; omega) (by rw [f32fmt, leq_val va vc]; simp; omega) D e' v' (by have := D.p; have := n' (by omega); omega) F ?_
      rcases F with ⟨_, f, F⟩ | ⟨_, f, rfl⟩
      · exact slk_hi t1 t2 D F
      · exact slk_hi0 t1 t2 D f
    · have t2 : (FloatKind.f32.format.order v h == some .gt) = false := by rw [f32fmt, gtr_val va vc]; simpa using k2
      exact C t1 t2 (by rw [f32fmt, leq_val vb va]; simp; omega) (by rw [f32fmt, leq_val va vc]; simp; omega) (slk_in t1 t2)

theorem slk_inn {v l h s : Nat} (hv : hgtB v = true) (hl : hgtB l = true) (hh : hgtB h = true) {z : Int} (vs : vS s = some z) (ho : ltB h l = false) : SlkIn v l h s := by
  refine slk_ways hv hl hh vs ho (fun d q r d' c c' _ _ D _ _ _ F w => ?_) (fun d q r d' c c' _ _ _ _ D _ _ _ F w => ?_) (fun _ _ _ _ w => ?_)
  · rcases F with ⟨_, _, F⟩ | ⟨_, _, rfl⟩
    · exact ⟨by rw [w]; exact F.bd, by rw [w]; exact F.lt⟩
    · exact ⟨by rw [w]; exact bd_zero1, by rw [w]; decide⟩
  · rcases F with ⟨_, _, F⟩ | ⟨_, _, rfl⟩
    · exact ⟨by rw [w]; exact F.bd, by rw [w]; exact F.lt⟩
    · exact ⟨by rw [w]; exact bd_zero1, by rw [w]; decide⟩
  · exact ⟨by rw [w]; exact bd_one 1, by rw [w]; decide⟩

set_option maxHeartbeats 2000000 in
theorem slack_any (v l h s : Nat) (w : World) (hv : hgtB v = true) (hl : hgtB l = true) (hh : hgtB h = true) {z : Int} (vs : vS s = some z) (ho : ltB h l = false) :
    Calls Try.prog 100 #[.float .f32 v, .float .f32 l, .float .f32 h, .float .f32 s] w fun e w' => e = .returned (.float .f32 (slkW v l h s)) ∧ w = w' := by
  refine slk_ways hv hl hh vs ho (fun d q r d' c c' t1 t2 D e' v' lt F hw => ?_) (fun d q r d' c c' t1 t2 t3 t4 D e' v' lt F hw => ?_) (fun t1 t2 t3 t4 hw => ?_)
  · obtain ⟨m, em, _, mx, _⟩ := run_max_two #[] 0 D.v v'
    obtain rfl := mx lt
    have mx : ∀ (ts : Array TypeId) (t : TypeId) (w : World), (Builtin.max_ ts t #[.float .f32 m, .float .f32 d']).run Try.prog w = .ok (.float .f32 m) w := fun _ _ w => em w
    have a1 := fun (W : World) => run_float_arith (P := Try.prog) W .sub 30 .f32 l v m D.e
    have a2 := fun (W : World) => run_float_arith (P := Try.prog) W .sub 30 .f32 v h d' e'
    rcases F with ⟨f, _, F⟩ | ⟨f, _, rfl⟩
    · have a3 := fun (W : World) => run_float_arith (P := Try.prog) W .quo 30 .f32 m s q F.q1
      have a4 := fun (W : World) => run_float_arith (P := Try.prog) W .sub 30 .f32 1065353216 q r F.r1
      rw [hw]
      clear hv hl hh vs ho D e' v' lt F hw em t1
      go_enter Try.func100, Try.ntmps100
      go_wp2
      go_ret
      exact ⟨rfl, rfl⟩
    · rw [hw]
      clear hv hl hh vs ho D e' v' lt hw em t1
      go_enter Try.func100, Try.ntmps100
      go_wp2
      go_ret
      exact ⟨rfl, rfl⟩
  · obtain ⟨m, em, _, _, mx, _⟩ := run_max_two #[] 0 v' D.v
    obtain rfl := mx lt
    have mx : ∀ (ts : Array TypeId) (t : TypeId) (w : World), (Builtin.max_ ts t #[.float .f32 d', .float .f32 m]).run Try.prog w = .ok (.float .f32 m) w := fun _ _ w => em w
    have a1 := fun (W : World) => run_float_arith (P := Try.prog) W .sub 30 .f32 v h m D.e
    have a2 := fun (W : World) => run_float_arith (P := Try.prog) W .sub 30 .f32 l v d' e'
    rcases F with ⟨f, _, F⟩ | ⟨f, _, rfl⟩
    · have a3 := fun (W : World) => run_float_arith (P := Try.prog) W .quo 30 .f32 m s q F.q1
      have a4 := fun (W : World) => run_float_arith (P := Try.prog) W .sub 30 .f32 1065353216 q r F.r1
      rw [hw]
      clear hv hl hh vs ho D e' v' lt F hw em t1 t2
      go_enter Try.func100, Try.ntmps100
      go_wp2
      go_ret
      exact ⟨rfl, rfl⟩
    · rw [hw]
      clear hv hl hh vs ho D e' v' lt hw em t1 t2
      go_enter Try.func100, Try.ntmps100
      go_wp2
      go_ret
      exact ⟨rfl, rfl⟩
  · rw [hw]
    clear hv hl hh vs ho hw t1 t2
    go_enter Try.func100, Try.ntmps100
    go_wp2
    go_ret
    exact ⟨rfl, rfl⟩

set_option maxHeartbeats 2000000 in
theorem qSlackOf_any (v l h s : Nat) (w : World) (hv : hgtB v = true) (hl : hgtB l = true) (hh : hgtB h = true) {z : Int} (vs : vS s = some z) (ho : ltB h l = false) :
    Calls Try.prog 46 #[.float .f32 v, .float .f32 l, .float .f32 h, .float .f32 s] w fun e w' => e = .returned (.float .f32 (slkW v l h s)) ∧ w = w' := by
  refine slk_ways hv hl hh vs ho (fun d q r d' c c' t1 t2 D e' v' lt F hw => ?_) (fun d q r d' c c' t1 t2 t3 t4 D e' v' lt F hw => ?_) (fun t1 t2 t3 t4 hw => ?_)
  · have a1 := fun (W : World) => run_float_arith (P := Try.prog) W .sub 30 .f32 l v d D.e
    unfold ltB at t1
    rw [hw]
    rcases F with ⟨_, f, F⟩ | ⟨_, f, rfl⟩
    · have a3 := fun (W : World) => run_float_arith (P := Try.prog) W .quo 30 .f32 d s q F.q1
      have a4 := fun (W : World) => run_float_arith (P := Try.prog) W .sub 30 .f32 1065353216 q r F.r1
      unfold ltB at f
      clear hv hl hh vs ho D e' v' lt F hw t2
      go_enter Try.func46, Try.ntmps46
      go_wp2
      go_ret
      exact ⟨rfl, rfl⟩
    · unfold ltB at f
      clear hv hl hh vs ho D e' v' lt hw t2
      go_enter Try.func46, Try.ntmps46
      go_wp2
      go_ret
      exact ⟨rfl, rfl⟩
  · have a1 := fun (W : World) => run_float_arith (P := Try.prog) W .sub 30 .f32 v h d D.e
    unfold ltB at t1
    rw [hw]
    rcases F with ⟨_, f, F⟩ | ⟨_, f, rfl⟩
    · have a3 := fun (W : World) => run_float_arith (P := Try.prog) W .quo 30 .f32 d s q F.q1
      have a4 := fun (W : World) => run_float_arith (P := Try.prog) W .sub 30 .f32 1065353216 q r F.r1
      unfold ltB at f
      clear hv hl hh vs ho D e' v' lt F hw t3 t4
      go_enter Try.func46, Try.ntmps46
      go_wp2
      go_ret
      exact ⟨rfl, rfl⟩
    · unfold ltB at f
      clear hv hl hh vs ho D e' v' lt hw t3 t4
      go_enter Try.func46, Try.ntmps46
      go_wp2
      go_ret
      exact ⟨rfl, rfl⟩
  · unfold ltB at t1
    rw [hw]
    clear hv hl hh vs ho hw t3 t4
    go_enter Try.func46, Try.ntmps46
    go_wp2
    go_ret
    exact ⟨rfl, rfl⟩
end Go.Proofs.Ytkjpjppfmfifeaa
