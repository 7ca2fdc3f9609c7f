/- Select and Terrace of one cell, as words; what their steps come to. -/
import Derived.Test.YtncgcjeihihkfaaWithin
import Derived.Test.YtncgcjeihihkfaaFl18
import Derived.Test.YtncgcjeihihkfaaOps
namespace Go.Proofs.Ytncgcjeihihkfaa
open Go.RowKit Fl
set_option linter.unusedVariables false

theorem wi_unit {t : Nat} {c : Int} (h : vS t = some c) (c0 : 0 ≤ c) (c1 : c ≤ (one : Int)) : wiE t 0 1065353216 = 0 := by
  unfold wiE
  rw [if_neg (by unfold finB; rw [h]; simp), if_neg]
  rw [f32f, lss_val h vS_zero, gtr_val h vS_one]
  simp; omega

/-- What is left at the distance d of what fades over so. -/
def fadeW (d so : Nat) : Nat := if ltB d so = true then subW 1065353216 (easeW (quoW d so)) else 0
structure FadeAt (d so q p1 q1 r1 e r : Nat) : Prop where
  q1' : floatBits .quo .f32 d so = some q
  q2' : Same2 .quo 0 d so
  ea : EaseAt q p1 q1 r1 e
  wi : wiE q 0 1065353216 = 0
  r1' : floatBits .sub .f32 1065353216 e = some r
  r2' : Same2 .sub 4 1065353216 e
  lt : r < 4294967296
  w : subW 1065353216 (easeW (quoW d so)) = r

theorem fade_parts {d so : Nat} {a b : Int} (hd : vS d = some a) (hs : vS so = some b) (a0 : 0 ≤ a) (hab : a < b) : ∃ q p1 q1 r1 e r, FadeAt d so q p1 q1 r1 e r := by
  have q2 : Same2 .quo 0 d so := div_val hd hs (by omega) (by omega) (by omega)
  obtain ⟨q, q1, bq⟩ := same_ex q2
  obtain ⟨c, hc, hcb⟩ := val_bd bq
  have c0 := quo_sign q1 hd hs hc a0 (by omega)
  obtain ⟨J, hJ⟩ : ∃ J : Nat, J = 1074 := ⟨_, rfl⟩
  have c1 : c ≤ (one : Int) := by
    rw [one_pow hJ]; rw [Nat.add_zero, ← hJ] at hcb; omega
  obtain ⟨p, q', r', e, E⟩ := ease_parts (bd_unit hc (by omega) c1)
  obtain ⟨_, e1, be⟩ := same_ex E.v2
  rw [E.v1] at e1
  have e1' := Option.some.inj e1
  rw [← e1'] at be
  have r2 : Same2 .sub 4 1065353216 e := sub_same (k := 3) (by omega) (bd_one 3) be
  obtain ⟨r, r1, _⟩ := same_ex r2
  refine ⟨q, p, q', r', e, r, q1, q2, E, wi_unit hc c0 c1, r1, r2, sub_lt r1, ?_⟩
  unfold subW quoW
  rw [q1]
  show (floatBits .sub .f32 1065353216 (easeW q)).getD 0 = r
  rw [E.w, r1]; rfl

/-- Select of one value. -/
def selW (v lo hi so : Nat) : Nat := if ltB v lo = true then fadeW (subW lo v) so else if (FloatKind.f32.format.order v hi == some .gt) = true then fadeW (subW v hi) so else 1065353216

theorem diff_pos {x y : Nat} (hx : hgtB x = true) (hy : hgtB y = true) (h : ltB x y = true) : ∃ d a, floatBits .sub .f32 y x = some d ∧ Same2 .sub 21 y x ∧ vS d = some a ∧ 0 ≤ a ∧ d < 4294967296 := by
  obtain ⟨a, ha, xa⟩ := hgt_val hx
  obtain ⟨b, hb, xb⟩ := hgt_val hy
  unfold ltB at h
  rw [f32f, lss_val ha hb] at h
  have s : Same2 .sub 21 y x := sub_same (k := 20) (by omega) (hgt_bd hy) (hgt_bd hx)
  obtain ⟨d, e, bd⟩ := same_ex s
  obtain ⟨c, hc, _⟩ := val_bd bd
  obtain ⟨B, hB⟩ : ∃ B : Nat, B = 1100 := ⟨_, rfl⟩
  have hv : vS d = some (rdS (b - a)) := by
    have h' : a < b := by simpa using h
    refine vS_sub (B := B) e hb ha (small_of (n := 21) (by omega) ?_ (by omega)) (by omega)
    rw [show ((2 ^ 21 : Nat) : Int) = 2097152 by decide]
    generalize one = O at *
    omega
  exact ⟨d, rdS (b - a), e, s, hv, rdS_nonneg (by simp at h; omega), sub_lt e⟩

theorem sel_lt {v lo hi so : Nat} (hv : hgtB v = true) (hl : hgtB lo = true) (hh : hgtB hi = true) (hs : hgtB so = true) : selW v lo hi so < 4294967296 := by
  have F : ∀ {x y : Nat}, hgtB x = true → hgtB y = true → ltB x y = true → fadeW (subW y x) so < 4294967296 := by
    intro x y hx hy h
    obtain ⟨d, a, e, _, hd, a0, _⟩ := diff_pos hx hy h
    obtain ⟨b, hb, _⟩ := hgt_val hs
    have ed : subW y x = d := by unfold subW; rw [e]; rfl
    unfold fadeW
    rw [ed]
    split
    · rename_i c
      unfold ltB at c
      rw [f32f, lss_val hd hb] at c
      obtain ⟨q, p1, q1, r1, e, r, A⟩ := fade_parts hd hb a0 (by simpa using c)
      rw [A.w]; exact A.lt
    · decide
  unfold selW
  split
  · rename_i c; exact F hv hl c
  · split
    · rename_i c
      refine F hh hv ?_
      obtain ⟨a, ha, _⟩ := hgt_val hv
      obtain ⟨b, hb, _⟩ := hgt_val hh
      rw [f32f, gtr_val ha hb] at c
      unfold ltB; rw [f32f, lss_val hb ha]; simpa using c
    · decide

/-- A right sharpness: its value is from 0 to below 1. -/
def ShOk (sh : Nat) : Prop := ∃ b, vS sh = some b ∧ 0 ≤ b ∧ b < (one : Int)

/-- Terrace of one value. -/
def terW (v st sh : Nat) : Nat :=
  if ltB (subW (quoW v st) (flW (quoW v st))) sh = true then mulW (flW (quoW v st)) st
  else mulW (addW (flW (quoW v st)) (quoW (subW (subW (quoW v st) (flW (quoW v st))) sh) (subW 1065353216 sh))) st

structure TerAt (v st sh q d : Nat) (c : Bool) (u x y j r : Nat) : Prop where
  q1 : floatBits .quo .f32 v st = some q
  q2 : Same2 .quo 30 v st
  fq : ∃ a, vS q = some a
  bq : Bd 30 q
  d1 : floatBits .sub .f32 q (flW q) = some d
  d2 : Same2 .sub 32 q (flW q)
  c1 : ltB d sh = c
  u1 : floatBits .sub .f32 d sh = some u
  u2 : Same2 .sub 33 d sh
  x1 : floatBits .sub .f32 1065353216 sh = some x
  x2 : Same2 .sub 1 1065353216 sh
  y1 : floatBits .quo .f32 u x = some y
  y2 : Same2 .quo 60 u x
  j1 : c = false → floatBits .add .f32 (flW q) y = some j
  j2 : c = false → Same2 .add 61 (flW q) y
  j3 : c = true → j = flW q
  r1 : floatBits .mul .f32 j st = some r
  r2 : Same2 .mul 72 j st
  w : terW v st sh = r
  lt : r < 4294967296

theorem below_one {e : Int} {sh j : Nat} (h : vS sh = some e) (e0 : 0 ≤ e) (e1 : e < (one : Int)) (hj : j = 1050) : ((2 ^ j : Nat) : Int) ≤ (one : Int) - e := by
  obtain ⟨t, i, ht, hi, he⟩ := vS_form h
  have p := Nat.two_pow_pos i
  have t0 : 0 ≤ t := by
    rcases Int.lt_or_le t 0 with c | c
    · have : t * ((2 ^ i : Nat) : Int) < 0 := Int.mul_neg_of_neg_of_pos c (Int.natCast_pos.2 p)
      omega
    · exact c
  obtain ⟨u, rfl⟩ := Int.eq_ofNat_of_zero_le t0
  have he' : e = ((u * 2 ^ i : Nat) : Int) := by rw [he, Int.natCast_mul]
  have hu : u < 16777216 := by simpa using ht
  have e24 : one = 16777216 * 2 ^ j := by rw [one_split (a := 24) (j := j) (by omega)]
  have hlt : u * 2 ^ i < one := by omega
  have goal : 2 ^ j + u * 2 ^ i ≤ one := by
    rcases Nat.le_total j i with c | c
    · have e2 : 2 ^ i = 2 ^ (i - j) * 2 ^ j := by rw [← Nat.pow_add, Nat.sub_add_cancel c]
      rw [e2, ← Nat.mul_assoc] at hlt ⊢
      rw [e24] at hlt ⊢
      have := Nat.lt_of_mul_lt_mul_right hlt
      rw [show 2 ^ j + u * 2 ^ (i - j) * 2 ^ j = (1 + u * 2 ^ (i - j)) * 2 ^ j by rw [Nat.add_mul, Nat.one_mul]]
      exact Nat.mul_le_mul_right _ (by omega)
    · rcases Nat.eq_or_lt_of_le c with z | z
      · subst z
        rw [e24]
        rw [show 2 ^ i + u * 2 ^ i = (1 + u) * 2 ^ i by rw [Nat.add_mul, Nat.one_mul]]
        exact Nat.mul_le_mul_right _ (by omega)
      · obtain ⟨J, hJ⟩ : ∃ J, j = J + 1 := ⟨j - 1, by omega⟩
        have e3 : 2 ^ i ≤ 2 ^ J := Nat.pow_le_pow_right (by omega) (by omega)
        have e5 : u * 2 ^ i ≤ 16777215 * 2 ^ J := Nat.mul_le_mul (by omega) e3
        have e4 : 2 ^ j = 2 * 2 ^ J := by rw [hJ]; exact Nat.pow_succ'
        rw [e24, e4]
        generalize 2 ^ J = U at *
        generalize u * 2 ^ i = V at *
        omega
  rw [he']; omega

theorem ter_parts {v st sh : Nat} (hv : hgtB v = true) (hs : StepOk st) (hsh : ShOk sh) : ∃ q d c u x y j r, TerAt v st sh q d c u x y j r := by
  obtain ⟨a, ha, hab⟩ := hgt_val hv
  have hs' := hs
  obtain ⟨b, hb, hb1, hb2⟩ := hs'
  obtain ⟨e, he, e0, e1⟩ := hsh
  have op := one_pos
  have q2 : Same2 .quo 30 v st := by
    refine div_val ha hb ?_ (by omega) ?_
    · generalize one = O at *; omega
    · rw [show (2 : Nat) ^ 30 = 1073741824 by decide]; generalize one = O at *; omega
  obtain ⟨q, q1, bq⟩ := same_ex q2
  obtain ⟨aq, haq, _⟩ := val_bd bq
  have bf := fl_bd bq (by omega)
  have d2 : Same2 .sub 32 q (flW q) := sub_same (k := 31) (by omega) (bd_up bq (by omega)) bf
  obtain ⟨d, d1, bd⟩ := same_ex d2
  have bsh : Bd 0 sh := bd_unit he (by omega) (by omega)
  have u2 : Same2 .sub 33 d sh := sub_same (k := 32) (by omega) bd (bd_up bsh (by omega))
  obtain ⟨u, u1, bu⟩ := same_ex u2
  have x2 : Same2 .sub 1 1065353216 sh := sub_same (k := 0) (by omega) (bd_one 0) bsh
  obtain ⟨x, x1, bx⟩ := same_ex x2
  obtain ⟨J, hJ⟩ : ∃ J : Nat, J = 1050 := ⟨_, rfl⟩
  obtain ⟨B, hB⟩ : ∃ B : Nat, B = 1100 := ⟨_, rfl⟩
  have vx : vS x = some (rdS ((one : Int) - e)) := vS_sub (B := B) x1 vS_one he (by
    have : one < 2 ^ B := one_lt (by omega)
    omega) (by omega)
  have lx : ((2 ^ J : Nat) : Int) ≤ rdS ((one : Int) - e) := by
    have := rdS_mono (below_one he e0 e1 hJ)
    rwa [rdS_exact (c := ((2 ^ J : Nat) : Int)) 1 J (by decide) (by omega) (by simp)] at this
  obtain ⟨au, hau, hub⟩ := val_bd bu
  have y2 : Same2 .quo 60 u x := by
    have pj := Nat.two_pow_pos J
    refine div_val hau vx (by omega) (by omega) (Nat.le_trans hub ?_)
    rw [show 1074 + 33 = J + 57 by omega, Nat.pow_add]
    refine Nat.mul_le_mul (by omega) (Nat.pow_le_pow_right (by omega) (by omega))
  obtain ⟨y, y1, by'⟩ := same_ex y2
  have j2 : Same2 .add 61 (flW q) y := add_same (k := 60) (by omega) (bd_up bf (by omega)) by'
  obtain ⟨j, j1, bj⟩ := same_ex j2
  have eq : quoW v st = q := by unfold quoW; rw [q1]; rfl
  have ed : subW q (flW q) = d := by unfold subW; rw [d1]; rfl
  have eu : subW d sh = u := by unfold subW; rw [u1]; rfl
  have ex : subW 1065353216 sh = x := by unfold subW; rw [x1]; rfl
  have ey : quoW u x = y := by unfold quoW; rw [y1]; rfl
  have ej : addW (flW q) y = j := by unfold addW; rw [j1]; rfl
  cases hc : ltB d sh with
  | true =>
    have r2 : Same2 .mul (61 + 11) (flW q) st := mul_same (by omega) (bd_up bf (by omega)) (step_bd hs)
    obtain ⟨r, r1, _⟩ := same_ex r2
    refine ⟨q, d, true, u, x, y, flW q, r, q1, q2, ⟨aq, haq⟩, bq, d1, d2, hc, u1, u2, x1, x2, y1, y2, (fun h => by cases h), (fun h => by cases h), fun _ => rfl, r1, r2, ?_, mul_lt r1⟩
    unfold terW
    rw [eq, ed, if_pos hc]; unfold mulW; rw [r1]; rfl
  | false =>
    have r2 : Same2 .mul (61 + 11) j st := mul_same (by omega) bj (step_bd hs)
    obtain ⟨r, r1, _⟩ := same_ex r2
    refine ⟨q, d, false, u, x, y, j, r, q1, q2, ⟨aq, haq⟩, bq, d1, d2, hc, u1, u2, x1, x2, y1, y2, fun _ => j1, fun _ => j2, (fun h => by cases h), r1, r2, ?_, mul_lt r1⟩
    unfold terW
    rw [eq, ed, if_neg (by rw [hc]; simp), eu, ex, ey, ej]; unfold mulW; rw [r1]; rfl
end Go.Proofs.Ytncgcjeihihkfaa
