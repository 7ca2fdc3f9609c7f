/- Lemmas and contracts for the proof that the last text of this claim holds. -/
import Derived.Test.YtjjafjdjdjonfaaLinJB
import Derived.Deep.AppendLies
import Derived.Deep.RegionLaw
import Derived.Deep.RegionHeld3
import Derived.StillTailTactics
import Derived.Laws.Bits64b
import Derived.IntWalk

/- The sign of a quotient of singles; the root of a single, by the model's own root of a double: what it lies between. -/
namespace Go.Proofs.Ytjjafjdjdjonfaa.Fl
open Ieee

theorem word_sign {sg : Bool} {V : Nat} {c : Int} (h : vS (wordAt single 925 sg V) = some c) : ∃ n : Nat, c = (if sg then -1 else 1) * (n : Int) := by
  by_cases hr : rungOf single 925 V < single.infRung
  · obtain ⟨M, I, q1, _, q3⟩ := read_val single sg (-1074) 925 leastS V hr
    rw [vS_num q1] at h
    have h' := Option.some.inj h
    rw [← h']; unfold vOf; rw [signed_eq]; exact ⟨_, rfl⟩
  · have e : wordAt single 925 sg V = single.word sg single.infRung := by unfold wordAt; rw [Nat.min_eq_right (by omega)]
    rw [e] at h
    have r : single.read (single.word sg single.infRung) = .infinity sg := by cases sg <;> decide
    unfold vS at h; rw [r] at h; cases h

theorem vOf_mag (s : Bool) (m : Nat) (p : Int) : vOf s m p = (if s then -1 else 1) * ((m * 2 ^ (p + 1074).toNat : Nat) : Int) := by unfold vOf; rw [signed_eq]

/-- A quotient of what is not below 0 by what is above 0 is not below 0. -/
theorem quo_sign {x y q : Nat} {a b c : Int} (h : Go.floatBits .quo .f32 x y = some q) (hx : vS x = some a) (hy : vS y = some b) (hc : vS q = some c) (a0 : 0 ≤ a) (b0 : 0 < b) : 0 ≤ c := by
  obtain ⟨s, m, i, e1, rfl⟩ := vS_some hx
  obtain ⟨t, n, j, e2, rfl⟩ := vS_some hy
  have g1 := read_single e1
  have g2 := read_single e2
  have l1 := g1.low
  have l2 := g2.low
  have q1 := g1.high
  have q2 := g2.high
  have s1 := g1.small
  have s2 := g2.small
  rw [vOf_mag] at a0 b0
  have p2 := Nat.two_pow_pos (j + 1074).toNat
  have ht : t = false := by
    cases t with
    | false => rfl
    | true =>
      rw [if_pos rfl] at b0
      have : (0 : Int) ≤ ((n * 2 ^ (j + 1074).toNat : Nat) : Int) := Int.natCast_nonneg _
      omega
  subst ht
  have hn : 0 < n := by
    rcases Nat.eq_zero_or_pos n with z | z
    · subst z; simp at b0
    · exact z
  have h' : ((single.read x).quotient (single.fractionBits + 2) (single.read y)).map single.write = some q := h
  rw [e1, e2] at h'
  rcases Nat.eq_zero_or_pos m with z | hm
  · subst z
    unfold Datum.quotient at h'
    simp only at h'
    rw [if_neg (by omega)] at h'
    simp only [Nat.zero_shiftLeft, Nat.zero_div, Nat.zero_mod, bne_self_eq_false, Bool.toNat_false, Nat.mul_zero, Nat.add_zero, Option.map_some] at h'
    have h2 : single.nearest (s ^^ false) 0 _ = q := Option.some.inj h'
    rw [nearest_zero, ← wordAt_zero single 925] at h2
    rw [← h2] at hc
    have := vS_word (sg := s ^^ false) (V := 0) (B := 1) (by omega) (by omega)
    rw [this, rd_zero] at hc
    have := Option.some.inj hc
    rw [← this]; simp
  · have hs : s = false := by
      cases s
      · rfl
      · have := Nat.mul_pos hm (Nat.two_pow_pos (i + 1074).toNat)
        simp only [if_true] at a0
        omega
    subst hs
    obtain ⟨T, hT⟩ : ∃ T : Nat, T = 1074 := ⟨_, rfl⟩
    have ln24 : n.log2 < 24 := log_lt (by rw [show (2 : Nat) ^ 24 = 16777216 by decide]; exact s2) (by omega)
    obtain ⟨ls, ks, hS, wS⟩ := quot_word single 925 leastS (s := false) (t := false) (m := m) (n := n) (i := i) (j := j) hm hn (by omega) (by omega) (by rw [fbS]; omega) hT
    rw [wS] at h'
    have h2 := Option.some.inj h'
    rw [← h2] at hc
    obtain ⟨u, hu⟩ := word_sign hc
    rw [hu]; simp

/-- The root's digits. -/
theorem rootFrom_spec (n : Nat) : ∀ (todo root : Nat), root * root ≤ n → n < (root + 2 ^ todo) * (root + 2 ^ todo) →
    (Datum.rootFrom n todo root) * (Datum.rootFrom n todo root) ≤ n ∧ n < (Datum.rootFrom n todo root + 1) * (Datum.rootFrom n todo root + 1)
  | 0, root, h1, h2 => by
    unfold Datum.rootFrom
    rw [Nat.pow_zero] at h2
    exact ⟨h1, h2⟩
  | todo + 1, root, h1, h2 => by
    unfold Datum.rootFrom
    simp only
    rw [Nat.one_shiftLeft]
    split
    · rename_i c
      refine rootFrom_spec n todo _ c ?_
      rw [Nat.pow_succ] at h2
      rw [show root + 2 ^ todo + 2 ^ todo = root + 2 ^ todo * 2 by omega]; exact h2
    · rename_i c
      exact rootFrom_spec n todo _ h1 (by omega)

theorem root_digits (n : Nat) : (Datum.rootFrom n (n.log2 / 2 + 1) 0) * (Datum.rootFrom n (n.log2 / 2 + 1) 0) ≤ n ∧ n < (Datum.rootFrom n (n.log2 / 2 + 1) 0 + 1) * (Datum.rootFrom n (n.log2 / 2 + 1) 0 + 1) := by
  refine rootFrom_spec n _ 0 (by simp) ?_
  rw [Nat.zero_add, ← Nat.pow_add]
  have : n < 2 ^ (n.log2 + 1) := Nat.lt_log2_self
  exact Nat.lt_of_lt_of_le this (two_le (by omega))

/-- The root of a single, as a word: the root of the double, turned into a single. -/
def rootW (x : Nat) : Nat := (((Go.floatToFloatBits .f32 x .f64).bind fun X => double.sqrt X).bind fun Z => Go.floatToFloatBits .f64 Z .f32).getD 0

/-- What the root of the single x with the value a comes to. -/
structure RootAt (x : Nat) (a : Int) (X Z : Nat) (c : Int) : Prop where
  up : Go.floatToFloatBits .f32 x .f64 = some X
  sq : double.sqrt X = some Z
  dn : Go.floatToFloatBits .f64 Z .f32 = some (rootW x)
  val : vS (rootW x) = some c
  nn : 0 ≤ c
  hi : ∀ g : Nat, g < 16777216 → a ≤ ((g * g : Nat) : Int) * (one : Int) → c ≤ (g : Int) * (one : Int)
  lo : ∀ g : Nat, g < 16777216 → ((g * g : Nat) : Int) * (one : Int) ≤ a → (g : Int) * (one : Int) ≤ c

theorem rdD_mono {V W : Nat} (h : V ≤ W) : rd double 0 V ≤ rd double 0 W := by
  rcases Nat.eq_zero_or_pos V with z | z
  · subst z; rw [rd_zero]; exact Nat.zero_le _
  have z' : 0 < W := by omega
  obtain ⟨l1, l2, l3⟩ := last_le double 0 V z
  obtain ⟨k1, k2, k3⟩ := last_le double 0 W z'
  unfold rd
  generalize lastOf double 0 V = l at *
  generalize lastOf double 0 W = k at *
  rw [fbD] at l2 l3 k2 k3
  have pl : 0 < 2 ^ l := Nat.two_pow_pos l
  have pk : 0 < 2 ^ k := Nat.two_pow_pos k
  rcases Nat.lt_trichotomy l k with c | c | c
  · -- W reaches a higher binade
    have a : rnq V (2 ^ l) ≤ 2 ^ 53 := by
      have := rnq_mono (M := 2 ^ l) pl (N := V) (N' := 2 ^ 53 * 2 ^ l) (by rw [← Nat.pow_add]; exact Nat.le_of_lt (by rwa [show 53 + l = l + 52 + 1 by omega]))
      rwa [rnq_mul _ _ pl] at this
    have b : 2 ^ 52 ≤ rnq W (2 ^ k) := by
      have e : 2 ^ (k + 52) ≤ W := by rcases k3 with x | x; omega; exact x
      have := rnq_mono (M := 2 ^ k) pk (N := 2 ^ 52 * 2 ^ k) (N' := W) (by rw [← Nat.pow_add, show 52 + k = k + 52 by omega]; exact e)
      rwa [rnq_mul _ _ pk] at this
    calc rnq V (2 ^ l) * 2 ^ l ≤ 2 ^ 53 * 2 ^ l := Nat.mul_le_mul_right _ a
      _ = 2 ^ (53 + l) := by rw [Nat.pow_add]
      _ ≤ 2 ^ (52 + k) := Nat.pow_le_pow_right (by omega) (by omega)
      _ = 2 ^ 52 * 2 ^ k := by rw [Nat.pow_add]
      _ ≤ rnq W (2 ^ k) * 2 ^ k := Nat.mul_le_mul_right _ b
  · subst c
    exact Nat.mul_le_mul_right _ (rnq_mono pl h)
  · exfalso
    rcases l3 with x | x
    · omega
    · have : 2 ^ (l + 52) < 2 ^ (k + 52 + 1) := Nat.lt_of_le_of_lt (Nat.le_trans x h) k2
      have := (Nat.pow_lt_pow_iff_right (by omega : 1 < 2)).1 this
      omega

theorem down_word {V B : Nat} (hB : V < 2 ^ B) (hB' : B < 1200) :
    Go.floatToFloatBits .f64 (wordAt double 0 false V) .f32 = some (wordAt single 925 false (rd double 0 V)) ∧ vS (wordAt single 925 false (rd double 0 V)) = some ((rd single 925 (rd double 0 V) : Nat) : Int) := by
  obtain ⟨M, I, r1, r2, r3⟩ := read_val double false (-1074) 0 leastD V (rungD_lt hB (by omega))
  have hl : double.leastPlace = -1074 := by decide
  rw [hl] at r2
  have hn := nearest_val single false (-1074) 925 leastS M (p := I) (by omega)
  rw [r3] at hn
  have hd : rd double 0 V ≤ 2 ^ B := by
    have e : rd double 0 (1 * 2 ^ B) = 1 * 2 ^ B := rd_exact double 0 1 B (by rw [fbD]; decide) (by omega)
    have m : rd double 0 V ≤ rd double 0 (1 * 2 ^ B) := rdD_mono (by omega)
    rw [e] at m; omega
  have hd' : rd double 0 V < 2 ^ (B + 1) := Nat.lt_of_le_of_lt hd (Nat.pow_lt_pow_right (by omega) (by omega))
  have hv := vS_word (sg := false) hd' (by omega)
  simp only [Bool.false_eq_true, if_false, Int.one_mul] at hv
  refine ⟨?_, hv⟩
  obtain ⟨M', I', q1, _, _⟩ := read_val single false (-1074) 925 leastS (rd double 0 V) (rungS_lt hd' (by omega))
  unfold Go.floatToFloatBits
  rw [if_neg (by decide)]
  have d : Go.FloatKind.f64.decode (wordAt double 0 false V) = .number false M I := r1
  simp only [d]
  have w : Go.FloatKind.f32.encode (.number false M I) = wordAt single 925 false (rd double 0 V) := hn
  rw [w]
  have d2 : Go.FloatKind.f32.decode (wordAt single 925 false (rd double 0 V)) = .number false M' I' := q1
  rw [d2]; rfl
end Go.Proofs.Ytjjafjdjdjonfaa.Fl

/- Select and Terrace of one cell, as words; what their steps come to. -/
namespace Go.Proofs.Ytjjafjdjdjonfaa
open Go.RowKit Fl
set_option linter.unusedVariables false

theorem wi_unit {t : Nat} {c : Int} (h : vS t = some c) (c0 : 0 ≤ c) (c1 : c ≤ (one : Int)) : wiE t 0 1065353216 = 0 := by
  unfold wiE
  rw [if_neg (by unfold finB; rw [h]; simp), if_neg]
  rw [f32f, lss_val h vS_zero, gtr_val h vS_one]
  simp; omega

/-- What is left at the distance d of what fades over so. -/
def fadeW (d so : Nat) : Nat := if ltB d so = true then subW 1065353216 (easeW (quoW d so)) else 0
structure FadeAt (d so q p1 q1 r1 e r : Nat) : Prop where
  q1' : floatBits .quo .f32 d so = some q
  q2' : Same2 .quo 0 d so
  ea : EaseAt q p1 q1 r1 e
  wi : wiE q 0 1065353216 = 0
  r1' : floatBits .sub .f32 1065353216 e = some r
  r2' : Same2 .sub 4 1065353216 e
  lt : r < 4294967296
  w : subW 1065353216 (easeW (quoW d so)) = r

theorem fade_parts {d so : Nat} {a b : Int} (hd : vS d = some a) (hs : vS so = some b) (a0 : 0 ≤ a) (hab : a < b) : ∃ q p1 q1 r1 e r, FadeAt d so q p1 q1 r1 e r := by
  have q2 : Same2 .quo 0 d so := div_val hd hs (by omega) (by omega) (by omega)
  obtain ⟨q, q1, bq⟩ := same_ex q2
  obtain ⟨c, hc, hcb⟩ := val_bd bq
  have c0 := quo_sign q1 hd hs hc a0 (by omega)
  obtain ⟨J, hJ⟩ : ∃ J : Nat, J = 1074 := ⟨_, rfl⟩
  have c1 : c ≤ (one : Int) := by
    rw [one_pow hJ]; rw [Nat.add_zero, ← hJ] at hcb; omega
  obtain ⟨p, q', r', e, E⟩ := ease_parts (bd_unit hc (by omega) c1)
  obtain ⟨_, e1, be⟩ := same_ex E.v2
  rw [E.v1] at e1
  have e1' := Option.some.inj e1
  rw [← e1'] at be
  have r2 : Same2 .sub 4 1065353216 e := sub_same (k := 3) (by omega) (bd_one 3) be
  obtain ⟨r, r1, _⟩ := same_ex r2
  refine ⟨q, p, q', r', e, r, q1, q2, E, wi_unit hc c0 c1, r1, r2, sub_lt r1, ?_⟩
  unfold subW quoW
  rw [q1]
  show (floatBits .sub .f32 1065353216 (easeW q)).getD 0 = r
  rw [E.w, r1]; rfl

/-- Select of one value. -/
def selW (v lo hi so : Nat) : Nat := if ltB v lo = true then fadeW (subW lo v) so else if (FloatKind.f32.format.order v hi == some .gt) = true then fadeW (subW v hi) so else 1065353216

theorem diff_pos {x y : Nat} (hx : hgtB x = true) (hy : hgtB y = true) (h : ltB x y = true) : ∃ d a, floatBits .sub .f32 y x = some d ∧ Same2 .sub 21 y x ∧ vS d = some a ∧ 0 ≤ a ∧ d < 4294967296 := by
  obtain ⟨a, ha, xa⟩ := hgt_val hx
  obtain ⟨b, hb, xb⟩ := hgt_val hy
  unfold ltB at h
  rw [f32f, lss_val ha hb] at h
  have s : Same2 .sub 21 y x := sub_same (k := 20) (by omega) (hgt_bd hy) (hgt_bd hx)
  obtain ⟨d, e, bd⟩ := same_ex s
  obtain ⟨c, hc, _⟩ := val_bd bd
  obtain ⟨B, hB⟩ : ∃ B : Nat, B = 1100 := ⟨_, rfl⟩
  have hv : vS d = some (rdS (b - a)) := by
    have h' : a < b := by simpa using h
    refine vS_sub (B := B) e hb ha (small_of (n := 21) (by omega) ?_ (by omega)) (by omega)
    rw [show ((2 ^ 21 : Nat) : Int) = 2097152 by decide]
    generalize one = O at *
    omega
  exact ⟨d, rdS (b - a), e, s, hv, rdS_nonneg (by simp at h; omega), sub_lt e⟩

theorem sel_lt {v lo hi so : Nat} (hv : hgtB v = true) (hl : hgtB lo = true) (hh : hgtB hi = true) (hs : hgtB so = true) : selW v lo hi so < 4294967296 := by
  have F : ∀ {x y : Nat}, hgtB x = true → hgtB y = true → ltB x y = true → fadeW (subW y x) so < 4294967296 := by
    intro x y hx hy h
    obtain ⟨d, a, e, _, hd, a0, _⟩ := diff_pos hx hy h
    obtain ⟨b, hb, _⟩ := hgt_val hs
    have ed : subW y x = d := by unfold subW; rw [e]; rfl
    unfold fadeW
    rw [ed]
    split
    · rename_i c
      unfold ltB at c
      rw [f32f, lss_val hd hb] at c
      obtain ⟨q, p1, q1, r1, e, r, A⟩ := fade_parts hd hb a0 (by simpa using c)
      rw [A.w]; exact A.lt
    · decide
  unfold selW
  split
  · rename_i c; exact F hv hl c
  · split
    · rename_i c
      refine F hh hv ?_
      obtain ⟨a, ha, _⟩ := hgt_val hv
      obtain ⟨b, hb, _⟩ := hgt_val hh
      rw [f32f, gtr_val ha hb] at c
      unfold ltB; rw [f32f, lss_val hb ha]; simpa using c
    · decide

/-- A right sharpness: its value is from 0 to below 1. -/
def ShOk (sh : Nat) : Prop := ∃ b, vS sh = some b ∧ 0 ≤ b ∧ b < (one : Int)

/-- Terrace of one value. -/
def terW (v st sh : Nat) : Nat :=
  if ltB (subW (quoW v st) (flW (quoW v st))) sh = true then mulW (flW (quoW v st)) st
  else mulW (addW (flW (quoW v st)) (quoW (subW (subW (quoW v st) (flW (quoW v st))) sh) (subW 1065353216 sh))) st

structure TerAt (v st sh q d : Nat) (c : Bool) (u x y j r : Nat) : Prop where
  q1 : floatBits .quo .f32 v st = some q
  q2 : Same2 .quo 30 v st
  fq : ∃ a, vS q = some a
  bq : Bd 30 q
  d1 : floatBits .sub .f32 q (flW q) = some d
  d2 : Same2 .sub 32 q (flW q)
  c1 : ltB d sh = c
  u1 : floatBits .sub .f32 d sh = some u
  u2 : Same2 .sub 33 d sh
  x1 : floatBits .sub .f32 1065353216 sh = some x
  x2 : Same2 .sub 1 1065353216 sh
  y1 : floatBits .quo .f32 u x = some y
  y2 : Same2 .quo 60 u x
  j1 : c = false → floatBits .add .f32 (flW q) y = some j
  j2 : c = false → Same2 .add 61 (flW q) y
  j3 : c = true → j = flW q
  r1 : floatBits .mul .f32 j st = some r
  r2 : Same2 .mul 72 j st
  w : terW v st sh = r
  lt : r < 4294967296

theorem below_one {e : Int} {sh j : Nat} (h : vS sh = some e) (e0 : 0 ≤ e) (e1 : e < (one : Int)) (hj : j = 1050) : ((2 ^ j : Nat) : Int) ≤ (one : Int) - e := by
  obtain ⟨t, i, ht, hi, he⟩ := vS_form h
  have p := Nat.two_pow_pos i
  have t0 : 0 ≤ t := by
    rcases Int.lt_or_le t 0 with c | c
    · have : t * ((2 ^ i : Nat) : Int) < 0 := Int.mul_neg_of_neg_of_pos c (Int.natCast_pos.2 p)
      omega
    · exact c
  obtain ⟨u, rfl⟩ := Int.eq_ofNat_of_zero_le t0
  have he' : e = ((u * 2 ^ i : Nat) : Int) := by rw [he, Int.natCast_mul]
  have hu : u < 16777216 := by simpa using ht
  have e24 : one = 16777216 * 2 ^ j := by rw [one_split (a := 24) (j := j) (by omega)]
  have hlt : u * 2 ^ i < one := by omega
  have goal : 2 ^ j + u * 2 ^ i ≤ one := by
    rcases Nat.le_total j i with c | c
    · have e2 : 2 ^ i = 2 ^ (i - j) * 2 ^ j := by rw [← Nat.pow_add, Nat.sub_add_cancel c]
      rw [e2, ← Nat.mul_assoc] at hlt ⊢
      rw [e24] at hlt ⊢
      have := Nat.lt_of_mul_lt_mul_right hlt
      rw [show 2 ^ j + u * 2 ^ (i - j) * 2 ^ j = (1 + u * 2 ^ (i - j)) * 2 ^ j by rw [Nat.add_mul, Nat.one_mul]]
      exact Nat.mul_le_mul_right _ (by omega)
    · rcases Nat.eq_or_lt_of_le c with z | z
      · subst z
        rw [e24]
        rw [show 2 ^ i + u * 2 ^ i = (1 + u) * 2 ^ i by rw [Nat.add_mul, Nat.one_mul]]
        exact Nat.mul_le_mul_right _ (by omega)
      · obtain ⟨J, hJ⟩ : ∃ J, j = J + 1 := ⟨j - 1, by omega⟩
        have e3 : 2 ^ i ≤ 2 ^ J := Nat.pow_le_pow_right (by omega) (by omega)
        have e5 : u * 2 ^ i ≤ 16777215 * 2 ^ J := Nat.mul_le_mul (by omega) e3
        have e4 : 2 ^ j = 2 * 2 ^ J := by rw [hJ]; exact Nat.pow_succ'
        rw [e24, e4]
        generalize 2 ^ J = U at *
        generalize u * 2 ^ i = V at *
        omega
  rw [he']; omega

theorem ter_parts {v st sh : Nat} (hv : hgtB v = true) (hs : StepOk st) (hsh : ShOk sh) : ∃ q d c u x y j r, TerAt v st sh q d c u x y j r := by
  obtain ⟨a, ha, hab⟩ := hgt_val hv
  have hs' := hs
  obtain ⟨b, hb, hb1, hb2⟩ := hs'
  obtain ⟨e, he, e0, e1⟩ := hsh
  have op := one_pos
  have q2 : Same2 .quo 30 v st := by
    refine div_val ha hb ?_ (by omega) ?_
    · generalize one = O at *; omega
    · rw [show (2 : Nat) ^ 30 = 1073741824 by decide]; generalize one = O at *; omega
  obtain ⟨q, q1, bq⟩ := same_ex q2
  obtain ⟨aq, haq, _⟩ := val_bd bq
  have bf := fl_bd bq (by omega)
  have d2 : Same2 .sub 32 q (flW q) := sub_same (k := 31) (by omega) (bd_up bq (by omega)) bf
  obtain ⟨d, d1, bd⟩ := same_ex d2
  have bsh : Bd 0 sh := bd_unit he (by omega) (by omega)
  have u2 : Same2 .sub 33 d sh := sub_same (k := 32) (by omega) bd (bd_up bsh (by omega))
  obtain ⟨u, u1, bu⟩ := same_ex u2
  have x2 : Same2 .sub 1 1065353216 sh := sub_same (k := 0) (by omega) (bd_one 0) bsh
  obtain ⟨x, x1, bx⟩ := same_ex x2
  obtain ⟨J, hJ⟩ : ∃ J : Nat, J = 1050 := ⟨_, rfl⟩
  obtain ⟨B, hB⟩ : ∃ B : Nat, B = 1100 := ⟨_, rfl⟩
  have vx : vS x = some (rdS ((one : Int) - e)) := vS_sub (B := B) x1 vS_one he (by
    have : one < 2 ^ B := one_lt (by omega)
    omega) (by omega)
  have lx : ((2 ^ J : Nat) : Int) ≤ rdS ((one : Int) - e) := by
    have := rdS_mono (below_one he e0 e1 hJ)
    rwa [rdS_exact (c := ((2 ^ J : Nat) : Int)) 1 J (by decide) (by omega) (by simp)] at this
  obtain ⟨au, hau, hub⟩ := val_bd bu
  have y2 : Same2 .quo 60 u x := by
    have pj := Nat.two_pow_pos J
    refine div_val hau vx (by omega) (by omega) (Nat.le_trans hub ?_)
    rw [show 1074 + 33 = J + 57 by omega, Nat.pow_add]
    refine Nat.mul_le_mul (by omega) (Nat.pow_le_pow_right (by omega) (by omega))
  obtain ⟨y, y1, by'⟩ := same_ex y2
  have j2 : Same2 .add 61 (flW q) y := add_same (k := 60) (by omega) (bd_up bf (by omega)) by'
  obtain ⟨j, j1, bj⟩ := same_ex j2
  have eq : quoW v st = q := by unfold quoW; rw [q1]; rfl
  have ed : subW q (flW q) = d := by unfold subW; rw [d1]; rfl
  have eu : subW d sh = u := by unfold subW; rw [u1]; rfl
  have ex : subW 1065353216 sh = x := by unfold subW; rw [x1]; rfl
  have ey : quoW u x = y := by unfold quoW; rw [y1]; rfl
  have ej : addW (flW q) y = j := by unfold addW; rw [j1]; rfl
  cases hc : ltB d sh with
  | true =>
    have r2 : Same2 .mul (61 + 11) (flW q) st := mul_same (by omega) (bd_up bf (by omega)) (step_bd hs)
    obtain ⟨r, r1, _⟩ := same_ex r2
    refine ⟨q, d, true, u, x, y, flW q, r, q1, q2, ⟨aq, haq⟩, bq, d1, d2, hc, u1, u2, x1, x2, y1, y2, (fun h => by cases h), (fun h => by cases h), fun _ => rfl, r1, r2, ?_, mul_lt r1⟩
    unfold terW
    rw [eq, ed, if_pos hc]; unfold mulW; rw [r1]; rfl
  | false =>
    have r2 : Same2 .mul (61 + 11) j st := mul_same (by omega) bj (step_bd hs)
    obtain ⟨r, r1, _⟩ := same_ex r2
    refine ⟨q, d, false, u, x, y, j, r, q1, q2, ⟨aq, haq⟩, bq, d1, d2, hc, u1, u2, x1, x2, y1, y2, fun _ => j1, fun _ => j2, (fun h => by cases h), r1, r2, ?_, mul_lt r1⟩
    unfold terW
    rw [eq, ed, if_neg (by rw [hc]; simp), eu, ex, ey, ej]; unfold mulW; rw [r1]; rfl
end Go.Proofs.Ytjjafjdjdjonfaa

/- The root of a single lies between whole numbers whose squares lie around it. -/
namespace Go.Proofs.Ytjjafjdjdjonfaa.Fl
open Ieee

/-- Digits of a root, with what is left over told by one more digit, against a whole number. -/
theorem root_between {n w G : Nat} (h1 : w * w ≤ n) (h2 : n < (w + 1) * (w + 1)) :
    (n ≤ G * G → 2 * w + (w * w != n).toNat ≤ 2 * G) ∧ (G * G ≤ n → 2 * G ≤ 2 * w + (w * w != n).toNat) := by
  constructor
  · intro h
    have hw : w ≤ G := by
      rcases Nat.lt_or_ge G w with c | c
      · have : (G + 1) * (G + 1) ≤ w * w := Nat.mul_le_mul c c
        have e : (G + 1) * (G + 1) = G * G + 2 * G + 1 := by rw [Nat.add_mul, Nat.mul_add]; omega
        omega
      · exact c
    rcases Nat.lt_or_ge w G with c | c
    · have := Bool.toNat_le (w * w != n); omega
    · have : w = G := by omega
      subst this
      have : w * w = n := by omega
      rw [this]; simp
  · intro h
    have : G < w + 1 := by
      rcases Nat.lt_or_ge G (w + 1) with c | c
      · exact c
      · have := Nat.mul_le_mul c c; omega
    omega

theorem rootW_of {x X Z r : Nat} (c : Go.floatToFloatBits .f32 x .f64 = some X) (h : double.sqrt X = some Z) (d : Go.floatToFloatBits .f64 Z .f32 = some r) : rootW x = r := by
  unfold rootW
  rw [c, Option.bind_some, h, Option.bind_some, d, Option.getD_some]

theorem root_num {d M mo0 mo n w : Nat} {I : Int} (hM : M ≠ 0) (h0 : 2 * d - M.log2 = mo0) (h1 : mo0 + ((I - (mo0 : Int)) % 2).toNat = mo) (h2 : M <<< mo = n) (h3 : Datum.rootFrom n (n.log2 / 2 + 1) 0 = w) :
    Datum.root d (.number false M I) = some (.number false (2 * w + (w * w != n).toNat) ((I - (mo : Int)) / 2 - 1)) := by
  unfold Datum.root
  simp only [hM, if_false, Bool.false_eq_true, h0, h1, h2, h3]

theorem root_parts {x : Nat} {a : Int} {k : Nat} (h : vS x = some a) (a0 : 0 ≤ a) (hb : Bd k x) (hk : k ≤ 60) : ∃ X Z c, RootAt x a X Z c := by
  obtain ⟨s, m, p, e, rfl⟩ := vS_some h
  obtain ⟨X, M, I, c1, c2, c3, c4, c5⟩ := toD e
  have g := read_single e
  obtain ⟨A, hA⟩ : ∃ A, A = m * 2 ^ (p + 1074).toNat := ⟨_, rfl⟩
  have hv : vOf s m p = (if s then -1 else 1) * (A : Int) := by rw [vOf_mag, hA]
  have hbA : A ≤ 2 ^ (1074 + k) := by
    obtain ⟨s', m', p', e', b'⟩ := hb
    rw [e] at e'; cases e'
    rw [hA]; exact b'
  rw [← hA] at c4
  rcases Nat.eq_zero_or_pos M with zM | hM
  · -- nought
    subst zM
    have zA : A = 0 := by rw [← c4]; simp
    have hz : vOf s m p = 0 := by rw [hv, zA]; simp
    have hq : double.sqrt X = some (wordAt double 0 s 0) := by
      show ((double.read X).root _).map double.write = _
      rw [c2]
      unfold Datum.root
      simp only [if_true, Option.map_some]
      show some (double.nearest s 0 _) = _
      rw [nearest_zero, wordAt_zero]
    have hd : Go.floatToFloatBits .f64 (wordAt double 0 s 0) .f32 = some (wordAt single 925 s 0) := back (B := 1) (by omega) (by omega) (by show rungOf single 925 (rd double 0 0) = _; rw [rd_zero])
    have hw : rootW x = wordAt single 925 s 0 := rootW_of c1 hq hd
    have hvz := vS_word (sg := s) (V := 0) (B := 1) (by omega) (by omega)
    rw [rd_zero] at hvz
    simp only [Int.natCast_zero, Int.mul_zero] at hvz
    refine ⟨X, _, 0, c1, hq, by rw [hw]; exact hd, by rw [hw]; exact hvz, by omega, fun G _ _ => Int.mul_nonneg (by omega) (by omega), fun G _ hg => ?_⟩
    rw [hz] at hg
    have hp := one_pos
    have : G * G * one ≤ 0 := by
      have : ((G * G * one : Nat) : Int) ≤ ((0 : Nat) : Int) := by rw [Int.natCast_mul]; exact hg
      exact Int.ofNat_le.1 this
    have : G = 0 := by
      rcases Nat.eq_zero_or_pos G with z | z
      · exact z
      · have := Nat.mul_pos (Nat.mul_pos z z) hp; omega
    subst this; simp
  · have hm : 0 < A := by rw [← c4]; exact Nat.mul_pos hM (Nat.two_pow_pos _)
    have hs : s = false := by
      cases s
      · rfl
      · rw [hv] at a0; simp only [if_true] at a0; omega
    subst hs
    have hva : vOf false m p = (A : Int) := by rw [hv]; simp
    rw [hva]
    have hI := c5 (by omega)
    -- the dividend
    obtain ⟨mo0, hmo0⟩ : ∃ mo0, mo0 = 2 * (double.fractionBits + 2) - M.log2 := ⟨_, rfl⟩
    obtain ⟨mo, hmo⟩ : ∃ mo, mo = mo0 + ((I - (mo0 : Int)) % 2).toNat := ⟨_, rfl⟩
    obtain ⟨n, hn⟩ : ∃ n, n = M <<< mo := ⟨_, rfl⟩
    obtain ⟨w, hw⟩ : ∃ w, w = Datum.rootFrom n (n.log2 / 2 + 1) 0 := ⟨_, rfl⟩
    obtain ⟨d1, d2⟩ := root_digits n
    rw [← hw] at d1 d2
    have hr : (double.read X).root (double.fractionBits + 2) = some (.number false (2 * w + (w * w != n).toNat) ((I - (mo : Int)) / 2 - 1)) := by
      rw [c2]; exact root_num (by omega) hmo0.symm hmo.symm hn.symm hw.symm
    -- the place is even
    have heven : (I - (mo : Int)) % 2 = 0 := by
      rw [hmo]; have := Int.emod_two_eq (I - (mo0 : Int)); omega
    obtain ⟨hh, hhh⟩ : ∃ hh : Int, hh = (I - (mo : Int)) / 2 := ⟨_, rfl⟩
    have hI2 : I - (mo : Int) = 2 * hh := by omega
    rw [← hhh] at hr
    have l53 : M.log2 + (I + 1074).toNat < 1074 + k + 1 := by
      have := log_units (m := M) (B := 1074 + k + 1) (e := (I + 1074).toNat) hM (by rw [c4]; exact Nat.lt_of_le_of_lt hbA (Nat.pow_lt_pow_right (by omega) (by omega)))
      exact this
    rw [fbD] at hmo0
    have e1 : hh ≤ 0 := by omega
    have e2 : -400 ≤ hh := by omega
    -- units
    obtain ⟨E, hE⟩ : ∃ E : Nat, (E : Int) = hh + 1073 := ⟨(hh + 1073).toNat, by omega⟩
    obtain ⟨T, hT⟩ : ∃ T : Nat, T = 1074 := ⟨_, rfl⟩
    have hET : E + 1 ≤ T := by omega
    have hZ : double.sqrt X = some (wordAt double 0 false ((2 * w + (w * w != n).toNat) * 2 ^ E)) := by
      show ((double.read X).root _).map double.write = _
      rw [hr]
      show some (double.nearest false _ (hh - 1)) = _
      rw [nearest_val double false (-1074) 0 leastD _ (p := hh - 1) (by omega), show (hh - 1 - -1074).toNat = E by omega]
    -- the square in units
    have hsq : n * (2 ^ (E + 1) * 2 ^ (E + 1)) = A * 2 ^ T := by
      rw [hn, Nat.shiftLeft_eq, ← c4, Nat.mul_assoc, Nat.mul_assoc, ← Nat.pow_add, ← Nat.pow_add, ← Nat.pow_add]
      congr 2; omega
    have key : ∀ g : Nat, ∃ G : Nat, g * one = G * 2 ^ (E + 1) ∧ (A ≤ g * g * one ↔ n ≤ G * G) ∧ (g * g * one ≤ A ↔ G * G ≤ n) := by
      intro g
      refine ⟨g * 2 ^ (T - (E + 1)), ?_, ?_, ?_⟩
      · rw [one_pow hT, Nat.mul_assoc, ← Nat.pow_add, Nat.sub_add_cancel hET]
      all_goals
        have hp : 0 < 2 ^ (E + 1) * 2 ^ (E + 1) := Nat.mul_pos (Nat.two_pow_pos _) (Nat.two_pow_pos _)
        have e : g * 2 ^ (T - (E + 1)) * (g * 2 ^ (T - (E + 1))) * (2 ^ (E + 1) * 2 ^ (E + 1)) = g * g * one * 2 ^ T := by
          have e' : 2 ^ (T - (E + 1)) * 2 ^ (E + 1) = 2 ^ T := by rw [← Nat.pow_add, Nat.sub_add_cancel hET]
          rw [one_pow hT]
          calc g * 2 ^ (T - (E + 1)) * (g * 2 ^ (T - (E + 1))) * (2 ^ (E + 1) * 2 ^ (E + 1)) = g * g * ((2 ^ (T - (E + 1)) * 2 ^ (E + 1)) * (2 ^ (T - (E + 1)) * 2 ^ (E + 1))) := by
                simp only [Nat.mul_assoc, Nat.mul_left_comm, Nat.mul_comm]
            _ = g * g * 2 ^ T * 2 ^ T := by rw [e']; simp only [Nat.mul_assoc]
        constructor
        · intro q
          refine Nat.le_of_mul_le_mul_right ?_ hp
          rw [hsq, e]; exact Nat.mul_le_mul_right _ q
        · intro q
          have := Nat.mul_le_mul_right (2 ^ (E + 1) * 2 ^ (E + 1)) q
          rw [hsq, e] at this
          exact Nat.le_of_mul_le_mul_right this (Nat.two_pow_pos T)
    obtain ⟨V, hV⟩ : ∃ V, V = (2 * w + (w * w != n).toNat) * 2 ^ E := ⟨_, rfl⟩
    rw [← hV] at hZ
    have cmp : ∀ g : Nat, (A ≤ g * g * one → V ≤ g * one) ∧ (g * g * one ≤ A → g * one ≤ V) := by
      intro g
      obtain ⟨G, k1, k2, k3⟩ := key g
      obtain ⟨b1, b2⟩ := root_between (G := G) d1 d2
      have k4 : g * one = 2 * G * 2 ^ E := by rw [k1, Nat.pow_succ, Nat.mul_comm 2 G, Nat.mul_assoc, Nat.mul_comm 2 (2 ^ E)]
      rw [k4, hV]
      exact ⟨fun q => Nat.mul_le_mul_right _ (b1 (k2.1 q)), fun q => Nat.mul_le_mul_right _ (b2 (k3.1 q))⟩
    -- V is small
    have hVB : V < 2 ^ (T + 61) := by
      obtain ⟨L, hL⟩ : ∃ L : Nat, L = 60 := ⟨_, rfl⟩
      have e6 : A ≤ 2 ^ L * 2 ^ L * one := by
        refine Nat.le_trans hbA ?_
        rw [one_pow hT, ← Nat.pow_add, ← Nat.pow_add]
        exact two_le (by omega)
      have := (cmp (2 ^ L)).1 e6
      rw [one_pow hT, ← Nat.pow_add] at this
      exact Nat.lt_of_le_of_lt this (Nat.pow_lt_pow_right (by omega) (by omega))
    obtain ⟨q1, q2⟩ := down_word hVB (by omega)
    have hw2 : rootW x = wordAt single 925 false (rd double 0 V) := rootW_of c1 hZ q1
    -- whole numbers are not rounded
    have fix : ∀ g : Nat, g < 16777216 → rd double 0 (g * one) = g * one ∧ rd single 925 (g * one) = g * one := by
      intro g hg
      rw [one_pow hT]
      exact ⟨rd_exact double 0 g T (by rw [fbD]; exact Nat.lt_of_lt_of_le hg (by decide)) (by omega), rd_exact single 925 g T (by rw [fbS]; exact hg) (by omega)⟩
    refine ⟨X, _, _, c1, hZ, by rw [hw2]; exact q1, by rw [hw2]; exact q2, by omega, fun g hg ha => ?_, fun g hg ha => ?_⟩
    · have ha' : A ≤ g * g * one := by
        have : (A : Int) ≤ ((g * g * one : Nat) : Int) := by rw [Int.natCast_mul]; exact ha
        exact Int.ofNat_le.1 this
      have h1 := rdD_mono ((cmp g).1 ha')
      rw [(fix g hg).1] at h1
      have h2 := rd_mono h1
      rw [(fix g hg).2] at h2
      rw [← Int.natCast_mul]; exact Int.ofNat_le.2 h2
    · have ha' : g * g * one ≤ A := by
        have : ((g * g * one : Nat) : Int) ≤ (A : Int) := by rw [Int.natCast_mul]; exact ha
        exact Int.ofNat_le.1 this
      have h1 := rdD_mono ((cmp g).2 ha')
      rw [(fix g hg).1] at h1
      have h2 := rd_mono h1
      rw [(fix g hg).2] at h2
      rw [← Int.natCast_mul]; exact Int.ofNat_le.2 h2
end Go.Proofs.Ytjjafjdjdjonfaa.Fl

/- Contracts: math.Sqrt, and the roots of both sides. -/
namespace Go.Proofs.Ytjjafjdjdjonfaa
open Go.RowKit Fl
set_option linter.unusedVariables false

theorem extSqrt (X Z : Nat) (h : FloatKind.f64.format.sqrt X = some Z) : Extern.MathSqrt.sqrt #[.float .f64 X] = pure (.float .f64 Z) := by
  conv => lhs; whnf
  rw [h]

end Go.Proofs.Ytjjafjdjdjonfaa

/- The weight of a brush, as a word; what its steps come to; it lies from 0 to 1. -/
namespace Go.Proofs.Ytjjafjdjdjonfaa
open Go.RowKit Fl
set_option linter.unusedVariables false

/-- The square of the distance of two places. -/
def sqD (x y X Y : Int) : Int := (x - X) * (x - X) + (y - Y) * (y - Y)
def coneW (n R : Int) : Nat := subW 1065353216 (quoW (rootW (floatOfInt .f32 n)) (floatOfInt .f32 R))
def bellT (n F : Int) : Nat := subW 1065353216 (quoW (floatOfInt .f32 n) (floatOfInt .f32 F))
/-- The weight, by the square of the distance. -/
def weiW (k n R : Int) : Nat := if R * R ≤ n then 0 else if k = 2 then coneW n R else if k = 3 then mulW (bellT n (R * R)) (bellT n (R * R)) else 1065353216

theorem one_minus {q : Nat} {c : Int} (hb : Bd 0 q) (hc : vS q = some c) (c0 : 0 ≤ c) : ∃ r, floatBits .sub .f32 1065353216 q = some r ∧ Same2 .sub 1 1065353216 q ∧ ∃ d, vS r = some d ∧ 0 ≤ d ∧ d ≤ (one : Int) := by
  obtain ⟨a, ha, hab⟩ := val_bd hb
  rw [hc] at ha
  have ha' := Option.some.inj ha
  subst ha'
  obtain ⟨J, hJ⟩ : ∃ J : Nat, J = 1074 := ⟨_, rfl⟩
  have c1 : c ≤ (one : Int) := by
    rw [one_pow hJ]; rw [Nat.add_zero, ← hJ] at hab; omega
  have s : Same2 .sub 1 1065353216 q := sub_same (k := 0) (by omega) (bd_one 0) hb
  obtain ⟨r, e, _⟩ := same_ex s
  obtain ⟨B, hB⟩ : ∃ B : Nat, B = 1100 := ⟨_, rfl⟩
  have lt : one < 2 ^ B := one_lt (by omega)
  have v : vS r = some (rdS ((one : Int) - c)) := vS_sub (B := B) e vS_one hc (by omega) (by omega)
  refine ⟨r, e, s, _, v, rdS_nonneg (by omega), ?_⟩
  have := rdS_mono (show (one : Int) - c ≤ (one : Int) by omega)
  rwa [rdS_self vS_one] at this

structure ConeAt (n R : Int) (X Z : Nat) (c : Int) (q r : Nat) : Prop where
  rt : RootAt (floatOfInt .f32 n) (n * (one : Int)) X Z c
  q1 : floatBits .quo .f32 (rootW (floatOfInt .f32 n)) (floatOfInt .f32 R) = some q
  q2 : Same2 .quo 0 (rootW (floatOfInt .f32 n)) (floatOfInt .f32 R)
  r1 : floatBits .sub .f32 1065353216 q = some r
  r2 : Same2 .sub 1 1065353216 q
  w : coneW n R = r
  v : ∃ d, vS r = some d ∧ 0 ≤ d ∧ d ≤ (one : Int)

theorem cone_parts {n R : Int} (n0 : 0 ≤ n) (r1 : 1 ≤ R) (r2 : R ≤ 256) (h : n < R * R) : ∃ X Z c q r, ConeAt n R X Z c q r := by
  have hR : R * R ≤ 65536 := by
    have := Int.mul_le_mul r2 r2 (by omega) (by omega); omega
  obtain ⟨vn, bn⟩ := int_val (n := n) (by omega)
  obtain ⟨vr, _⟩ := int_val (n := R) (by omega)
  have hp : (0 : Int) < (one : Int) := Int.natCast_pos.2 one_pos
  obtain ⟨X, Z, c, RT⟩ := root_parts vn (Int.mul_nonneg n0 (by omega)) bn (by omega)
  obtain ⟨g, hg⟩ : ∃ g : Nat, R = g := ⟨R.toNat, by omega⟩
  have cR : c ≤ R * (one : Int) := by
    rw [hg]
    refine RT.hi g (by omega) ?_
    rw [Int.natCast_mul, ← hg]
    exact Int.mul_le_mul_of_nonneg_right (by omega) (by omega)
  have c0 := RT.nn
  have Rp : 0 < R * (one : Int) := Int.mul_pos (by omega) hp
  have q2 : Same2 .quo 0 (rootW (floatOfInt .f32 n)) (floatOfInt .f32 R) := div_val RT.val vr (by omega) (by omega) (by rw [Nat.pow_zero, Nat.mul_one]; omega)
  obtain ⟨q, q1, bq⟩ := same_ex q2
  obtain ⟨cq, hcq, _⟩ := val_bd bq
  obtain ⟨r, e1, e2, v⟩ := one_minus bq hcq (quo_sign q1 RT.val vr hcq c0 Rp)
  exact ⟨X, Z, c, q, r, RT, q1, q2, e1, e2, by unfold coneW quoW subW; rw [q1]; show (floatBits .sub .f32 1065353216 q).getD 0 = r; rw [e1]; rfl, v⟩

structure BellAt (n F : Int) (q t r : Nat) : Prop where
  q1 : floatBits .quo .f32 (floatOfInt .f32 n) (floatOfInt .f32 F) = some q
  q2 : Same2 .quo 0 (floatOfInt .f32 n) (floatOfInt .f32 F)
  t1 : floatBits .sub .f32 1065353216 q = some t
  t2 : Same2 .sub 1 1065353216 q
  r1 : floatBits .mul .f32 t t = some r
  r2 : Same2 .mul 0 t t
  w : mulW (bellT n F) (bellT n F) = r
  v : ∃ d, vS r = some d ∧ 0 ≤ d ∧ d ≤ (one : Int)

theorem unit_square {t : Nat} {a : Int} (h : vS t = some a) (a0 : 0 ≤ a) (a1 : a ≤ (one : Int)) : ∃ r, floatBits .mul .f32 t t = some r ∧ Same2 .mul 0 t t ∧ ∃ d, vS r = some d ∧ 0 ≤ d ∧ d ≤ (one : Int) := by
  have bt := bd_unit h (by omega) a1
  have s : Same2 .mul 0 t t := mul_same (a := 0) (b := 0) (by omega) bt bt
  obtain ⟨r, e, _⟩ := same_ex s
  obtain ⟨P, hP⟩ := mul_unit h h
  have hone : (0 : Int) < (one : Int) := Int.natCast_pos.2 one_pos
  have P0 : 0 ≤ P := by
    have := Int.mul_nonneg a0 a0
    rw [hP] at this
    exact Int.le_of_mul_le_mul_right (by rw [Int.zero_mul]; exact this) hone
  have P1 : P ≤ (one : Int) := by
    have := Int.mul_le_mul a1 a1 a0 (Int.le_of_lt hone)
    rw [hP] at this
    exact Int.le_of_mul_le_mul_right this hone
  obtain ⟨B, hB⟩ : ∃ B : Nat, B = 1100 := ⟨_, rfl⟩
  have lt : one < 2 ^ B := one_lt (by omega)
  have v := vS_mul (B := B) e h h hP (by omega) (by omega)
  refine ⟨r, e, s, _, v, rdS_nonneg P0, ?_⟩
  have := rdS_mono P1
  rwa [rdS_self vS_one] at this

theorem bell_parts {n F : Int} (n0 : 0 ≤ n) (f2 : F ≤ 65536) (h : n < F) : ∃ q t r, BellAt n F q t r := by
  obtain ⟨vn, bn⟩ := int_val (n := n) (by omega)
  obtain ⟨vf, _⟩ := int_val (n := F) (by omega)
  have hp : (0 : Int) < (one : Int) := Int.natCast_pos.2 one_pos
  have Fp : 0 < F * (one : Int) := Int.mul_pos (by omega) hp
  have N0 : 0 ≤ n * (one : Int) := Int.mul_nonneg n0 (by omega)
  have NF : n * (one : Int) ≤ F * (one : Int) := Int.mul_le_mul_of_nonneg_right (by omega) (by omega)
  have q2 : Same2 .quo 0 (floatOfInt .f32 n) (floatOfInt .f32 F) := div_val vn vf (by omega) (by omega) (by rw [Nat.pow_zero, Nat.mul_one]; omega)
  obtain ⟨q, q1, bq⟩ := same_ex q2
  obtain ⟨cq, hcq, _⟩ := val_bd bq
  obtain ⟨t, t1, t2, d, vd, d0, d1⟩ := one_minus bq hcq (quo_sign q1 vn vf hcq N0 Fp)
  obtain ⟨r, r1, r2, v⟩ := unit_square vd d0 d1
  have et : bellT n F = t := by unfold bellT quoW subW; rw [q1]; show (floatBits .sub .f32 1065353216 q).getD 0 = t; rw [t1]; rfl
  exact ⟨q, t, r, q1, q2, t1, t2, r1, r2, by rw [et]; unfold mulW; rw [r1]; rfl, v⟩

/-- A weight lies from 0 to 1. -/
theorem wei_in {k n R : Int} (n0 : 0 ≤ n) (r1 : 1 ≤ R) (r2 : R ≤ 256) : ∃ d, vS (weiW k n R) = some d ∧ 0 ≤ d ∧ d ≤ (one : Int) := by
  have hp := one_pos
  have hR : R * R ≤ 65536 := by
    have := Int.mul_le_mul r2 r2 (by omega) (by omega); omega
  unfold weiW
  split
  · exact ⟨0, vS_zero, by omega, by omega⟩
  · rename_i h
    split
    · obtain ⟨X, Z, c, q, r, C⟩ := cone_parts n0 r1 r2 (by omega)
      rw [C.w]; exact C.v
    · split
      · obtain ⟨q, t, r, C⟩ := bell_parts n0 hR (by omega)
        rw [C.w]; exact C.v
      · exact ⟨_, vS_one, by omega, by omega⟩
end Go.Proofs.Ytjjafjdjdjonfaa

/- Contracts: slices.Contains of the three kinds, CheckPlace, CheckBrush of both sides, the boxes. -/
namespace Go.Proofs.Ytjjafjdjdjonfaa
open Go.RowKit Fl
set_option linter.unusedVariables false

abbrev kindsObj : Obj := .cells #[.int .i64 1, .int .i64 2, .int .i64 3] 3

/-- The error of a place. -/
def plcE (x y : Int) : Int := if withinB x (-4194304) 4194304 = true ∧ withinB y (-4194304) 4194304 = true then 0 else 5

set_option maxHeartbeats 400000 in
theorem isPlace_any (x : Int) (w : World) :
    Calls Try.prog 44 #[.int .i64 x] w fun e w' => e = .returned (.bool (withinB x (-4194304) 4194304)) ∧ w = w' := by
  go_enter Try.func44, Try.ntmps44
  go_wp2_with (go_at_call 39; refine (within_any _ _ _ _).mono ?_; rintro e w' ⟨rfl, rfl⟩)
  go_ret
  exact ⟨rfl, rfl⟩

set_option maxHeartbeats 400000 in
theorem checkPlace_any (x y : Int) (w : World) :
    Calls Try.prog 22 #[.int .i64 x, .int .i64 y] w fun e w' => e = .returned (.int .i64 (plcE x y)) ∧ w = w' := by
  have PX := Lib.hid (fun w => isPlace_any x w)
  have PY := Lib.hid (fun w => isPlace_any y w)
  unfold plcE
  generalize withinB x (-4194304) 4194304 = c at *
  generalize withinB y (-4194304) 4194304 = d at *
  cases c <;> cases d
  all_goals go_enter Try.func22, Try.ntmps22
  all_goals go_wp2_with (first | (go_at_call 44; (with_reducible refine (PX.out _).mono ?_); rintro e w' ⟨rfl, rfl⟩) | (go_at_call 44; (with_reducible refine (PY.out _).mono ?_); rintro e w' ⟨rfl, rfl⟩))
  all_goals go_ret
  all_goals exact ⟨rfl, rfl⟩

/-- A brush as a value; its cells. -/
abbrev bru (k X Y R : Int) (h : Nat) : Value := .agg #[.int .i64 k, .int .i64 X, .int .i64 Y, .int .i64 R, .float .f32 h]
/-- The error of a brush. -/
def bruE (k X Y R : Int) (h : Nat) : Int := if withinB k 1 3 = false then 1 else if plcE X Y ≠ 0 then plcE X Y else if withinB R 1 256 = false then 3 else fldE 1 (fun _ => h)

theorem plcE_cases (x y : Int) : plcE x y = 0 ∨ plcE x y = 5 := by unfold plcE; split <;> simp

end Go.Proofs.Ytjjafjdjdjonfaa

/- Contracts: far, onLine; the reference's Div. -/
namespace Go.Proofs.Ytjjafjdjdjonfaa
open Go.RowKit Fl
set_option linter.unusedVariables false

abbrev ptObj (x y : Int) : Obj := .cells #[.int .i64 x, .int .i64 y] 28
theorem run_maxI4 (ts : Array TypeId) (t : TypeId) (a b c d : Int) (w : World) :
    (Builtin.max_ ts t #[.int .i64 a, .int .i64 b, .int .i64 c, .int .i64 d]).run Try.prog w = .ok (.int .i64 (maxI (maxI (maxI a b) c) d)) w := by
  unfold maxI
  simp [Builtin.max_, Builtin.max2, List.foldlM, go_sem]
  <;> rfl

set_option maxHeartbeats 1000000 in
theorem far_any (ax ay cx cy : Int) (w : World) (a1 : -16777216 ≤ ax) (a2 : ax ≤ 16777216) (a3 : -16777216 ≤ ay) (a4 : ay ≤ 16777216) (c1 : -16777216 ≤ cx) (c2 : cx ≤ 16777216) (c3 : -16777216 ≤ cy) (c4 : cy ≤ 16777216) :
    Calls Try.prog 23 #[ptV ax ay, ptV cx cy] w fun e w' => e = .returned (.int .i64 (farI ⟨ax, ay⟩ ⟨cx, cy⟩)) ∧ Below w.heap.size w w' := by
  have hm := fun (W : World) (ts : Array TypeId) (t : TypeId) => run_maxI4 ts t (cx - ax) (ax - cx) (cy - ay) (ay - cy) W
  have HF := Lib.hid (show maxI (maxI (maxI (cx - ax) (ax - cx)) (cy - ay)) (ay - cy) = farI ⟨ax, ay⟩ ⟨cx, cy⟩ from rfl)
  rw [HF.out] at hm
  generalize farI ⟨ax, ay⟩ ⟨cx, cy⟩ = m at *
  go_enter Try.func23, Try.ntmps23
  go_wp2
  go_ret
  exact ⟨rfl, (by repeat (first | exact Below.refl _ _ | refine Below.alloc ?_ (by first | omega | (simp; done) | (simp; omega)) _ | refine Below.setCell ?_ (by first | omega | (simp; done) | (simp; omega)) _ | refine Below.drew ?_))⟩

set_option maxHeartbeats 4000000 in
theorem onLine_aux (ax ay cx cy i n m dx dy px py sx sy qx qy : Int) (f1 f2 : Nat) (w : World) (i0 : 0 ≤ i) (i1 : i ≤ 65536) (n1 : 1 ≤ n) (n2 : n ≤ 65536) (hm : 2 * n = m) (m1 : -4294967296 ≤ m) (m2 : m ≤ 4294967296)
    (hx : cx - ax = dx) (hy : cy - ay = dy) (x1 : -67108864 ≤ dx) (x2 : dx ≤ 67108864) (y1 : -67108864 ≤ dy) (y2 : dy ≤ 67108864)
    (px1 : wrap64 (2 * i * dx) = px) (py1 : wrap64 (2 * i * dy) = py) (px2 : -17179869184 ≤ px) (px3 : px ≤ 17179869184) (py2 : -17179869184 ≤ py) (py3 : py ≤ 17179869184)
    (hsx : px + n = sx) (hsy : py + n = sy)
    (DX : Hid (∀ w, Calls Try.prog 58 #[.int .i64 sx, .int .i64 m] w fun e w' => e = .returned (.tuple #[.int .i64 qx, .float .f32 f1]) ∧ Below w.heap.size w w'))
    (DY : Hid (∀ w, Calls Try.prog 58 #[.int .i64 sy, .int .i64 m] w fun e w' => e = .returned (.tuple #[.int .i64 qy, .float .f32 f2]) ∧ Below w.heap.size w w'))
    (a1 : -16777216 ≤ ax) (a2 : ax ≤ 16777216) (a3 : -16777216 ≤ ay) (a4 : ay ≤ 16777216) (c1 : -16777216 ≤ cx) (c2 : cx ≤ 16777216) (c3 : -16777216 ≤ cy) (c4 : cy ≤ 16777216)
    (q1 : -33554432 ≤ qx) (q2 : qx ≤ 33554432) (q3 : -33554432 ≤ qy) (q4 : qy ≤ 33554432) :
    Calls Try.prog 45 #[ptV ax ay, ptV cx cy, .int .i64 i, .int .i64 n] w fun e w' => e = .returned (ptV (ax + qx) (ay + qy)) ∧ Below w.heap.size w w' := by
  go_enter Try.func45, Try.ntmps45
  go_wp2_with (go_at_call 58; (first
    | ((with_reducible refine Calls.mono (DX.out _) ?_); rintro e w1 ⟨rfl, hb1⟩; have HA1 := Lib.hid (blkStay (b := w.heap.size) (o := ptObj ax ay) (by (first | (rw [heap_alloc_get, if_pos rfl]; done) | ((simp only [heap_alloc_get, heap_size_alloc, if_true]) <;> ((repeat' split) <;> first | rfl | omega)))) hb1); have HC1 := Lib.hid (blkStay (b := w.heap.size + 1) (o := ptObj cx cy) (by (first | (rw [heap_alloc_get, if_pos rfl]; done) | ((simp only [heap_alloc_get, heap_size_alloc, if_true]) <;> ((repeat' split) <;> first | rfl | omega)))) hb1); have HR1 := Lib.hid (blkStay (b := w.heap.size + 1 + 1) (o := ptObj 0 0) (by (first | (rw [heap_alloc_get, if_pos rfl]; done) | ((simp only [heap_alloc_get, heap_size_alloc, if_true]) <;> ((repeat' split) <;> first | rfl | omega)))) hb1); have B1 := Lib.hid (Below.trans (show Below w.heap.size w (((w.alloc (ptObj ax ay)).alloc (ptObj cx cy)).alloc (ptObj 0 0)) from (by repeat (first | exact Below.refl _ _ | refine Below.alloc ?_ (by first | omega | (simp; done) | (simp; omega)) _ | refine Below.setCell ?_ (by first | omega | (simp; done) | (simp; omega)) _ | refine Below.drew ?_))) (hb1.mono (by simp; omega))); clear hb1; obtain ⟨cA, fA, zA⟩ := blkC HA1.out; obtain ⟨cC, fC, zC⟩ := blkC HC1.out)
    | ((with_reducible refine Calls.mono (DY.out _) ?_); rintro e w2 ⟨rfl, hb2⟩; have HA2 := Lib.hid (blkStay HA1.out hb2); have HR2 := Lib.hid (blkStay HR1.out hb2); have B2 := Lib.hid (B1.out.trans (hb2.mono B1.out.size)); clear hb2 cA fA zA cC fC zC; obtain ⟨cA, fA, zA⟩ := blkC HA2.out; obtain ⟨cR, fR, zR⟩ := blkC HR2.out)))
  have zz := B2.out.size
  refine bodyPost_ret (v := ptV (ax + qx) (ay + qy)) (by simp [results, Try.results45, go_sem, cR]) rfl ⟨rfl, ?_⟩
  repeat (first | exact B2.out | refine Below.setCell ?_ (by first | omega | (simp; done) | (simp; omega)) _)

theorem onLine_any (ax ay cx cy i n : Int) (w : World) (a1 : -16777216 ≤ ax) (a2 : ax ≤ 16777216) (a3 : -16777216 ≤ ay) (a4 : ay ≤ 16777216) (c1 : -16777216 ≤ cx) (c2 : cx ≤ 16777216) (c3 : -16777216 ≤ cy) (c4 : cy ≤ 16777216)
    (hn : 1 ≤ n) (hn2 : n ≤ 65536) (i0 : 0 ≤ i) (i1 : i ≤ n) (d1 : -n ≤ cx - ax) (d2 : cx - ax ≤ n) (d3 : -n ≤ cy - ay) (d4 : cy - ay ≤ n) :
    Calls Try.prog 45 #[ptV ax ay, ptV cx cy, .int .i64 i, .int .i64 n] w fun e w' => e = .returned (ptV (lnC ax (cx - ax) n i) (lnC ay (cy - ay) n i)) ∧ Below w.heap.size w w' := by
  obtain ⟨p1, p2⟩ := ln_bd i0 i1 hn2 d1 d2
  obtain ⟨q1, q2⟩ := ln_bd i0 i1 hn2 d3 d4
  have h1 := lnC_in (p := ax) (d := cx - ax) hn i0 i1
  have h2 := lnC_in (p := ay) (d := cy - ay) hn i0 i1
  have LX : ax + (2 * i * (cx - ax) + n) / (2 * n) = lnC ax (cx - ax) n i := rfl
  have LY : ay + (2 * i * (cy - ay) + n) / (2 * n) = lnC ay (cy - ay) n i := rfl
  rw [← LX] at h1 ⊢
  rw [← LY] at h2 ⊢
  have u1 := IntWalk.wrap64_in (2 * i * (cx - ax)) ⟨by omega, by omega⟩
  have u2 := IntWalk.wrap64_in (2 * i * (cy - ay)) ⟨by omega, by omega⟩
  exact onLine_aux ax ay cx cy i n (2 * n) _ _ _ _ _ _ _ _ _ _ w i0 (by omega) hn hn2 rfl (by omega) (by omega) rfl rfl (by omega) (by omega) (by omega) (by omega) u1 u2 (by omega) (by omega) (by omega) (by omega) rfl rfl
    (Lib.hid fun w => divide_any _ _ w (by omega) (by omega) (by omega) (by omega)) (Lib.hid fun w => divide_any _ _ w (by omega) (by omega) (by omega) (by omega)) a1 a2 a3 a4 c1 c2 c3 c4 (by omega) (by omega) (by omega) (by omega)
end Go.Proofs.Ytjjafjdjdjonfaa

/- Contracts: line; Line. -/
namespace Go.Proofs.Ytjjafjdjdjonfaa
open Go.RowKit Fl
set_option linter.unusedVariables false

/-- What a line of places is. -/
def PtsPost (w : World) (n : Nat) (T : Nat → Pnt) (e : Ending) (w' : World) : Prop :=
  ∃ g cap, e = .returned (.slice (some ⟨g, 0, none⟩) n cap) ∧ w.heap.size ≤ g ∧ PtRow w' g n T ∧ Below w.heap.size w w'

/-- Behind the first append: one place is there. -/
def OnePt (w1 : World) (T : Nat → Pnt) (s6 : Value) (wx : World) : Prop := PtAt w1 w1.heap.size T 1 s6 wx

theorem ptDrew {w : World} {b : Nat} {o : Obj} (h : w.heap[b]? = some o) : w.drew.heap[b]? = some o := h
theorem take_two {cs : Array Value} (a b : Value) (h : 2 ≤ cs.size) : ((cs.setIfInBounds 0 a).setIfInBounds 1 b).toList.take 2 = [a, b] := by
  obtain ⟨l⟩ := cs
  match l, h with
  | x :: y :: r, _ => simp
theorem onePt_of {w1 w6 : World} {T : Nat → Pnt} {p n : Nat} {cs : Array Value} {x y : Int} (hn : n ≤ 65536) (hs : cs.size = (n + 1) * 2) (hL : (T 0).cells.toList = [.int .i64 x, .int .i64 y]) (hb : Below w1.heap.size w1 w6) (hp : w1.heap.size ≤ p)
    (h : w6.heap[p]? = some (.cells ((cs.setIfInBounds 0 (.int .i64 x)).setIfInBounds 1 (.int .i64 y)) 28 (0, 0))) : OnePt w1 T (.slice (some ⟨p, 0, none⟩) 1 (n + 1)) w6 :=
  ⟨⟨by simp [ptsL], .inr ⟨_, n + 1, _, rfl, hp, h, by omega, by unfold maxLen; omega, by simp [hs], by rw [show 1 * 2 = 2 by rfl, take_two _ _ (by omega)]; simp only [ptsL, List.nil_append]; exact hL.symm⟩⟩, hb, hb.size⟩

set_option maxRecDepth 100000 in
set_option maxHeartbeats 4000000 in
theorem line_any (ax ay cx cy : Int) (n : Nat) (w : World) (a1 : -16777216 ≤ ax) (a2 : ax ≤ 16777216) (a3 : -16777216 ≤ ay) (a4 : ay ≤ 16777216) (c1 : -16777216 ≤ cx) (c2 : cx ≤ 16777216) (c3 : -16777216 ≤ cy) (c4 : cy ≤ 16777216)
    (hf : farI ⟨ax, ay⟩ ⟨cx, cy⟩ = n) (hn : n ≤ 65535) :
    Calls Try.prog 24 #[ptV ax ay, ptV cx cy] w (PtsPost w (n + 1) (lnP ⟨ax, ay⟩ ⟨cx, cy⟩)) := by
  obtain ⟨f0, f1, f2, f3, f4⟩ := farI_parts ⟨ax, ay⟩ ⟨cx, cy⟩
  simp only at f1 f2 f3 f4
  rw [hf] at f1 f2 f3 f4
  have FA := Lib.hid (fun w => far_any ax ay cx cy w a1 a2 a3 a4 c1 c2 c3 c4)
  rw [hf] at FA
  have OL := Lib.hid (fun (i : Nat) (hi : i < n) w => onLine_any ax ay cx cy (i + 1) n w a1 a2 a3 a4 c1 c2 c3 c4 (by omega) (by omega) (by omega) (by omega) f1 f2 f3 f4)
  have LP := Lib.hid (fun i : Nat => show lnP ⟨ax, ay⟩ ⟨cx, cy⟩ i = ⟨lnC ax (cx - ax) n i, lnC ay (cy - ay) n i⟩ from by unfold lnP; rw [hf])
  have L0 := Lib.hid (show (lnP ⟨ax, ay⟩ ⟨cx, cy⟩ 0).cells.toList = [.int .i64 ax, .int .i64 ay] from by
    rw [LP.out 0]
    show [Value.int .i64 (lnC ax (cx - ax) n ((0 : Nat) : Int)), Value.int .i64 (lnC ay (cy - ay) n ((0 : Nat) : Int))] = _
    rw [Int.natCast_zero, lnC_zero _ _ _ (by omega), lnC_zero _ _ _ (by omega)])
  have hinfo : (Try.prog.info? 28).map (fun i => (i.zero, i.size, i.bytes)) = some (some (.agg #[.int .i64 0, .int .i64 0]), 2, 16) := by kernel_rfl
  obtain ⟨ti, hi, hz0, hz1, hz2⟩ := info_parts hinfo
  have HI := Lib.hid hi
  obtain ⟨cs, MK, cs0, cs1, cs2⟩ : ∃ cs : Array Value, (∀ W' : World, (Instr.makeSlice 29 (.int .i64 0) (.int .i64 ((n : Int) + 1))).run Try.prog W' = .ok (.slice (some ⟨W'.heap.size, 0, none⟩) 0 (n + 1)) (W'.alloc (.cells cs 28))) ∧ cs[0]? = some (.int .i64 0) ∧ cs[1]? = some (.int .i64 0) ∧ cs.size = (n + 1) * 2 := by
    refine ⟨madeCells #[Value.int .i64 0, Value.int .i64 0] ((n + 1) * 2), fun W' => ?_, ?_, ?_, size_madeCells _ _⟩
    · have h := make0_pt (n + 1) (by omega) W'
      rw [show (((n + 1 : Nat)) : Int) = (n : Int) + 1 by omega] at h
      exact h
    · unfold madeCells; simp
    · unfold madeCells; simp; exact ⟨1, by rw [Array.getElem?_eq_getElem (by rw [Array.size_range]; omega), Array.getElem_range], by simp⟩
  have CS := Lib.hid cs2
  clear cs2
  have HN := Lib.hid hn
  clear hinfo hi f0 f1 f2 f3 f4 hf
  generalize lnP ⟨ax, ay⟩ ⟨cx, cy⟩ = T at *
  go_enter Try.func24, Try.ntmps24
  go_upto_region 2 with (first | (go_at_call 23; refine (FA.out _).mono ?_; rintro e w1 ⟨rfl, hb1⟩; have HA1 := Lib.hid (blkStay (b := w.heap.size) (o := ptObj ax ay) (by (first | (rw [heap_alloc_get, if_pos rfl]; done) | ((simp only [heap_alloc_get, heap_size_alloc, if_true]) <;> ((repeat' split) <;> first | rfl | omega)))) hb1); have HC1 := Lib.hid (blkStay (b := w.heap.size + 1) (o := ptObj cx cy) (by (first | (rw [heap_alloc_get, if_pos rfl]; done) | ((simp only [heap_alloc_get, heap_size_alloc, if_true]) <;> ((repeat' split) <;> first | rfl | omega)))) hb1); have B1 := Lib.hid (Below.trans (show Below w.heap.size w ((w.alloc (ptObj ax ay)).alloc (ptObj cx cy)) from (by repeat (first | exact Below.refl _ _ | refine Below.alloc ?_ (by first | omega | (simp; done) | (simp; omega)) _ | refine Below.setCell ?_ (by first | omega | (simp; done) | (simp; omega)) _ | refine Below.drew ?_))) (hb1.mono (by simp; omega))); clear hb1; obtain ⟨cA, fA, zA⟩ := blkC HA1.out; obtain ⟨cC, fC, zC⟩ := blkC HC1.out) | fail)
  go_cut [6] from 11 to 17 (fun s6 wx => OnePt w1 T s6 wx)
  case first =>
    have hwn : IntKind.i64.wrap ((n : Int) + 1) = (n : Int) + 1 := IntWalk.i64_in _ (by have := HN.out; omega)
    go_region
    all_goals
      go_wp2_with fail
      go_meet
      case rel =>
        refine onePt_of (Nat.le_succ_of_le HN.out) CS.out L0.out (by repeat (first | exact Below.refl _ _ | refine Below.alloc ?_ (by first | omega | (simp; done) | (simp; omega)) _ | refine Below.setCell ?_ (by first | omega | (simp; done) | (simp; omega)) _ | refine Below.drew ?_)) (by omega) ?_
        exact ptDrew (by (first | (rw [heap_alloc_get, if_pos rfl]; done) | ((simp only [heap_alloc_get, heap_size_alloc, if_true]) <;> ((repeat' split) <;> first | rfl | omega))))
  case rest =>
    have H1 := Lib.hid (show PtAt w1 w1.heap.size T 1 _ wc from hcut)
    clear hcut cA fA zA cC fC zC MK cs0 cs1 CS
    go_wp2_with fail
    go_loopw [6, 18] (fun l s18 wr => ∃ (k : Nat) (ov : Value), k ≤ n ∧ s18 = .int .i64 k ∧ ov = l ∧ PtAt w1 w1.heap.size T (k + 1) ov wr) (fun _ s18 _ => n - (intOf s18).toNat)
    case atStart => exact ⟨0, _, by omega, rfl, rfl, H1.out⟩
    case round =>
      obtain ⟨k, ov, hk, rfl, rfl, hm⟩ := hrel
      have HM := Lib.hid hm
      obtain ⟨cA, fA, zA⟩ := blkC (blkStay HA1.out hm.bel)
      obtain ⟨cC, fC, zC⟩ := blkC (blkStay HC1.out hm.bel)
      clear hm
      by_cases hlt : k < n
      · have OLK := Lib.hid (OL.out k hlt)
        have TR := Lib.hid (show (T (k + 1)).cells.toList = [.int .i64 (lnC ax (cx - ax) n (k + 1)), .int .i64 (lnC ay (cy - ay) n (k + 1))] from by rw [LP.out (k + 1)]; simp)
        generalize lnC ax (cx - ax) (n : Int) ((k : Int) + 1) = t1 at *
        generalize lnC ay (cy - ay) (n : Int) ((k : Int) + 1) = t2 at *
        have hi := HI.out
        have HK := Lib.hid (show k + 1 ≤ 65536 by omega)
        go_wp2_with (first
          | (go_at_call 45; refine (OLK.out _).mono ?_; rintro e w5 ⟨rfl, hb5⟩; have HB5 := Lib.hid hb5; have OW5 := Lib.hid (ownsRow_below HM.out.own hb5); clear hb5)
          | (at_builtin; go_loud (refine wpList_append_lies _ rfl _ _ _ rfl w1.heap.size 28 ti _ 2 16 Try.underlying29 hi hz0 hz1 hz2 rfl (by omega) ov (k + 1) (ptsL T (k + 1)) (by rfl) (OW5.out.alloc _) ⟨w5.heap.size, 0, none⟩ 1 1 [.int .i64 t1, .int .i64 t2] (by rfl) (by rfl) (World.news_of_block (cs := #[.int .i64 t1, .int .i64 t2]) (t := 28) (fr := (0, 0)) (heap_alloc_new w5 _)) (by simp [Value.oneCell']) (by omega) (by have := HK.out; unfold maxLen; omega) (by have := HK.out; omega) (by have := HM.out.size; have := HB5.out.size; simp; omega) (w5.heap.size + 1) (by simp) ?_; intro g' cap' w6 hown6 hgrow hat hlt6; have HN6 := Lib.hid (PtAt.push HM.out HB5.out hgrow ((congrArg (fun l => w6.ownsRow w1.heap.size 28 2 (.slice (some ⟨g', 0, none⟩) (k + 1 + 1) cap') (k + 1 + 1) (ptsL T (k + 1) ++ l)) TR.out).mpr hown6)); clear hown6 hgrow hat hlt6)))
        go_roundw
        case rel => exact ⟨k + 1, _, by omega, by go_num, rfl, HN6.out⟩
        case measure => simp [intOf]; omega
      · have hkn : k = n := by omega
        subst hkn
        have hm := HM.out
        obtain ⟨g, cap, rfl, _⟩ := hm.own.form (by omega)
        obtain ⟨hrow, hlo⟩ := hm.cells
        have HR := Lib.hid hrow
        have HL := Lib.hid hlo
        have HB := Lib.hid (B1.out.trans (hm.bel.mono B1.out.size))
        clear hm hrow hlo
        go_wp2
        go_ret
        exact ⟨g, cap, rfl, by have := HL.out; have := B1.out.size; omega, HR.out, HB.out⟩
end Go.Proofs.Ytjjafjdjdjonfaa

/- Contracts: the reference's Div and LineOf. -/
namespace Go.Proofs.Ytjjafjdjdjonfaa
open Go.RowKit Fl
set_option linter.unusedVariables false

set_option maxHeartbeats 1000000 in
theorem qDiv_any (a b : Int) (w : World) (b1 : 1 ≤ b) (b2 : b ≤ 16777216) (a1 : -1099511627776 ≤ a) (a2 : a ≤ 1099511627776) :
    Calls Try.prog 29 #[.int .i64 a, .int .i64 b] w fun e w' => e = .returned (.int .i64 (a / b)) ∧ w = w' := by
  obtain ⟨h1, h2, h3⟩ := tparts a b b1
  obtain ⟨q1, q2⟩ := tquo_bd b1 a1 a2
  have w0 : ¬ (b = 0) := by omega
  obtain ⟨q, hq⟩ : ∃ q, a.tdiv b = q := ⟨_, rfl⟩
  obtain ⟨r, hr⟩ : ∃ r, a.tmod b = r := ⟨_, rfl⟩
  obtain ⟨p, hp⟩ : ∃ p, b * q = p := ⟨_, rfl⟩
  rw [hq, hr] at h1
  rw [hr] at h2 h3
  rw [hq] at q1 q2
  rw [hp] at h1
  have e1 : wrap64 (q * b) = p := by rw [Int.mul_comm, hp]; exact IntWalk.wrap64_in _ ⟨by omega, by omega⟩
  by_cases c : r < 0
  · obtain ⟨d1, d2⟩ := (Int.ediv_emod_unique (a := a) (b := b) (q := q - 1) (r := r + b) (by omega)).2 ⟨by rw [Int.mul_sub, hp]; omega, by omega, by omega⟩
    rw [d1]
    have t : a < p := by omega
    clear h1 h2 h3 d1 d2 hp hr c
    go_enter Try.func29, Try.ntmps29
    go_wp2
    go_ret
    exact ⟨rfl, rfl⟩
  · obtain ⟨d1, d2⟩ := (Int.ediv_emod_unique (a := a) (b := b) (q := q) (r := r) (by omega)).2 ⟨by rw [hp]; omega, by omega, by omega⟩
    rw [d1]
    have t : ¬ a < p := by omega
    clear h1 h2 h3 d1 d2 hp hr c
    go_enter Try.func29, Try.ntmps29
    go_wp2
    go_ret
    exact ⟨rfl, rfl⟩

theorem onePt_new {w1 w6 : World} {T : Nat → Pnt} {x y : Int} {b : Nat} (hL : (T 0).cells.toList = [.int .i64 x, .int .i64 y]) (hb : Below b w1 w6) (hz : b ≤ w6.heap.size)
    (h : w6.heap[b]? = some (ptObj x y)) : PtAt w1 b T 1 (.slice (some ⟨b, 0, none⟩) 1 1) w6 :=
  ⟨⟨by simp [ptsL], .inr ⟨_, 1, _, rfl, Nat.le_refl _, h, by omega, by unfold maxLen; omega, by simp, by simp only [ptsL, List.nil_append]; exact hL.symm⟩⟩, hb, hz⟩

set_option maxRecDepth 100000 in
set_option maxHeartbeats 4000000 in
theorem lineOf_aux (ax ay cx cy dx dy : Int) (n : Nat) (T : Nat → Pnt) (w : World) (a1 : -16777216 ≤ ax) (a2 : ax ≤ 16777216) (a3 : -16777216 ≤ ay) (a4 : ay ≤ 16777216) (c1 : -16777216 ≤ cx) (c2 : cx ≤ 16777216) (c3 : -16777216 ≤ cy) (c4 : cy ≤ 16777216)
    (hx : cx - ax = dx) (hy : cy - ay = dy) (hf : maxI (maxI (maxI dx (-dx)) dy) (-dy) = n) (hn : n ≤ 65535) (f1 : -(n : Int) ≤ dx) (f2 : dx ≤ n) (f3 : -(n : Int) ≤ dy) (f4 : dy ≤ n)
    (LP : Hid (∀ i : Nat, T i = ⟨lnC ax dx n i, lnC ay dy n i⟩)) :
    Calls Try.prog 12 #[ptV ax ay, ptV cx cy] w (PtsPost w (n + 1) T) := by
  have DV := Lib.hid (fun d (i : Nat) (hi : i < n) (d1 : -(n : Int) ≤ d) (d2 : d ≤ n) w => qDiv_any (2 * ((i : Int) + 1) * d + n) (2 * n) w (by omega) (by omega) (by have := ln_bd (d := d) (n := n) (i := (i : Int) + 1) (by omega) (by omega) (by omega) d1 d2; omega) (by have := ln_bd (d := d) (n := n) (i := (i : Int) + 1) (by omega) (by omega) (by omega) d1 d2; omega))
  have L0 := Lib.hid (show (T 0).cells.toList = [.int .i64 ax, .int .i64 ay] from by
    rw [LP.out 0]
    show [Value.int .i64 (lnC ax dx n ((0 : Nat) : Int)), Value.int .i64 (lnC ay dy n ((0 : Nat) : Int))] = _
    rw [Int.natCast_zero, lnC_zero _ _ _ (by omega), lnC_zero _ _ _ (by omega)])
  have BD := Lib.hid (fun (p d : Int) (i : Nat) (hi : i < n) (d1 : -(n : Int) ≤ d) (d2 : d ≤ n) => ln_bd (d := d) (n := n) (i := (i : Int) + 1) (by omega) (by omega) (by omega) d1 d2)
  have BQ := Lib.hid (fun (p d : Int) (i : Nat) (hi : i < n) (d1 : -(n : Int) ≤ d) (d2 : d ≤ n) => lnC_in (p := p) (d := d) (n := n) (i := (i : Int) + 1) (by omega) (by omega) (by omega))
  have hinfo : (Try.prog.info? 28).map (fun i => (i.zero, i.size, i.bytes)) = some (some (.agg #[.int .i64 0, .int .i64 0]), 2, 16) := by kernel_rfl
  obtain ⟨ti, hi, hz0, hz1, hz2⟩ := info_parts hinfo
  have HI := Lib.hid hi
  have HN := Lib.hid hn
  have hm := fun (W : World) (ts : Array TypeId) (t : TypeId) => run_maxI4 ts t dx (-dx) dy (-dy) W
  rw [hf] at hm
  clear hinfo hi hf hn
  go_enter Try.func12, Try.ntmps12
  go_wp2
  go_region
  all_goals go_wp2
  have HS := Lib.hid (onePt_new (w1 := (w.alloc (ptObj ax ay)).alloc (ptObj cx cy)) (w6 := (((w.alloc (ptObj ax ay)).alloc (ptObj cx cy)).alloc (ptObj ax ay)).drew) (b := w.heap.size + 1 + 1) L0.out (by repeat (first | exact Below.refl _ _ | refine Below.alloc ?_ (by first | omega | (simp; done) | (simp; omega)) _ | refine Below.setCell ?_ (by first | omega | (simp; done) | (simp; omega)) _ | refine Below.drew ?_)) (by simp) (ptDrew (by (first | (rw [heap_alloc_get, if_pos rfl]; done) | ((simp only [heap_alloc_get, heap_size_alloc, if_true]) <;> ((repeat' split) <;> first | rfl | omega))))))
  have HA1 := Lib.hid (show ((w.alloc (ptObj ax ay)).alloc (ptObj cx cy)).heap[w.heap.size]? = some (ptObj ax ay) from by (first | (rw [heap_alloc_get, if_pos rfl]; done) | ((simp only [heap_alloc_get, heap_size_alloc, if_true]) <;> ((repeat' split) <;> first | rfl | omega))))
  have HC1 := Lib.hid (show ((w.alloc (ptObj ax ay)).alloc (ptObj cx cy)).heap[w.heap.size + 1]? = some (ptObj cx cy) from by (first | (rw [heap_alloc_get, if_pos rfl]; done) | ((simp only [heap_alloc_get, heap_size_alloc, if_true]) <;> ((repeat' split) <;> first | rfl | omega))))
  have B1 := Lib.hid (show Below w.heap.size w ((w.alloc (ptObj ax ay)).alloc (ptObj cx cy)) from (by repeat (first | exact Below.refl _ _ | refine Below.alloc ?_ (by first | omega | (simp; done) | (simp; omega)) _ | refine Below.setCell ?_ (by first | omega | (simp; done) | (simp; omega)) _ | refine Below.drew ?_)))
  have Z1 := Lib.hid (show ((w.alloc (ptObj ax ay)).alloc (ptObj cx cy)).heap.size = w.heap.size + 1 + 1 from by simp)
  clear hx hy hm L0
  generalize (((w.alloc (ptObj ax ay)).alloc (ptObj cx cy)).alloc (ptObj ax ay)).drew = w3 at *
  generalize (w.alloc (ptObj ax ay)).alloc (ptObj cx cy) = w1 at *
  go_loopw [8, 9] (fun l s9 wr => ∃ (k : Nat) (ov : Value), k ≤ n ∧ s9 = .int .i64 ((k : Int) + 1) ∧ ov = l ∧ PtAt w1 (w.heap.size + 1 + 1) T (k + 1) ov wr) (fun _ s9 _ => ((n : Int) + 1 - intOf s9).toNat)
  case atStart => exact ⟨0, _, by omega, by simp, rfl, HS.out⟩
  case round =>
    obtain ⟨k, ov, hk, rfl, rfl, hm⟩ := hrel
    have HM := Lib.hid hm
    have BS := Lib.hid (show PtAt w1 (w.heap.size + 1 + 1) T (k + 1) ov wr from hm)
    obtain ⟨cA, fA, zA⟩ := blkC ((hm.bel.block w.heap.size (by omega)).trans HA1.out)
    clear hm
    have HKK := Lib.hid hk
    by_cases hlt : k < n
    · obtain ⟨p1, p2⟩ := BD.out ax dx k hlt f1 f2
      obtain ⟨p3, p4⟩ := BD.out ay dy k hlt f3 f4
      obtain ⟨q1, q2⟩ := BQ.out ax dx k hlt f1 f2
      obtain ⟨q3, q4⟩ := BQ.out ay dy k hlt f3 f4
      have TR := Lib.hid (show (T (k + 1)).cells.toList = [.int .i64 (ax + (2 * ((k : Int) + 1) * dx + n) / (2 * n)), .int .i64 (ay + (2 * ((k : Int) + 1) * dy + n) / (2 * n))] from by rw [LP.out (k + 1)]; simp [lnC])
      have DX := Lib.hid (DV.out dx k hlt f1 f2)
      have DY := Lib.hid (DV.out dy k hlt f3 f4)
      unfold lnC at q1 q2 q3 q4
      have hN := HN.out
      have u0 : IntKind.i64.wrap (2 * ((k : Int) + 1)) = 2 * ((k : Int) + 1) := IntWalk.i64_in _ (by omega)
      have u1 : IntKind.i64.wrap (2 * (n : Int)) = 2 * (n : Int) := IntWalk.i64_in _ (by omega)
      obtain ⟨px, hpx⟩ : ∃ px, 2 * ((k : Int) + 1) * dx = px := ⟨_, rfl⟩
      obtain ⟨py, hpy⟩ : ∃ py, 2 * ((k : Int) + 1) * dy = py := ⟨_, rfl⟩
      rw [hpx] at p1 p2 q1 q2 TR DX
      rw [hpy] at p3 p4 q3 q4 TR DY
      have u2 : IntKind.i64.wrap (2 * ((k : Int) + 1) * dx) = px := by rw [hpx]; exact IntWalk.i64_in _ (by omega)
      have u3 : IntKind.i64.wrap (2 * ((k : Int) + 1) * dy) = py := by rw [hpy]; exact IntWalk.i64_in _ (by omega)
      clear hpx hpy
      have u4 : IntKind.i64.wrap (px + n) = px + n := IntWalk.i64_in _ (by omega)
      have u5 : IntKind.i64.wrap (py + n) = py + n := IntWalk.i64_in _ (by omega)
      generalize (px + (n : Int)) / (2 * (n : Int)) = qx at *
      generalize (py + (n : Int)) / (2 * (n : Int)) = qy at *
      have u6 : IntKind.i64.wrap (ax + qx) = ax + qx := IntWalk.i64_in _ (by omega)
      have u7 : IntKind.i64.wrap (ay + qy) = ay + qy := IntWalk.i64_in _ (by omega)
      have hle : (k : Int) + 1 ≤ n := by omega
      have HK := Lib.hid (show k + 1 ≤ 65536 by have := HN.out; omega)
      have HLT := Lib.hid hlt
      have hi := HI.out
      clear p1 p2 p3 p4 q1 q2 q3 q4 hlt hk hN
      have OW := Lib.hid (fun o : Obj => (HM.out.own.alloc o : (wr.alloc o).ownsRow _ _ _ _ _ _))
      have HZ := Lib.hid HM.out.size
      go_wp2
      go_region_law (first
        | (go_simp; (with_reducible refine (DX.out _).mono ?_); rintro e w' ⟨rfl, rfl⟩)
        | (go_simp; (with_reducible refine (DY.out _).mono ?_); rintro e w' ⟨rfl, rfl⟩)
        | (refine step_append_lies _ (by rfl) _ _ _ (by rfl) (w.heap.size + 1 + 1) 28 ti _ 2 16 Try.underlying29 hi hz0 hz1 hz2 rfl (by omega) ov (k + 1) (ptsL T (k + 1)) (by rfl) (HM.out.own.alloc _) ⟨wr.heap.size, 0, none⟩ 1 1 [.int .i64 (ax + qx), .int .i64 (ay + qy)] (by rfl) (by rfl) (World.news_of_block (cs := #[.int .i64 (ax + qx), .int .i64 (ay + qy)]) (t := 28) (fr := (0, 0)) (heap_alloc_new wr _)) (by simp [Value.oneCell']) (by omega) (by have := HK.out; unfold maxLen; omega) (by have := HK.out; omega) (by have := HZ.out; simp; omega) (wr.heap.size + 1) (by simp) ?_; intro g' cap' w6 hown6 hgrow hat hlt6))
      all_goals
        have HN6 := Lib.hid (PtAt.push (o := ptObj (ax + qx) (ay + qy)) HM.out (Below.refl _ wr) ⟨hgrow.os, hgrow.tape, hgrow.output, hgrow.size, hgrow.block⟩ ((congrArg (fun l => w6.ownsRow (w.heap.size + 1 + 1) 28 2 (.slice (some ⟨g', 0, none⟩) (k + 1 + 1) cap') (k + 1 + 1) (ptsL T (k + 1) ++ l)) TR.out).mpr hown6))
        clear hown6 hgrow hat hlt6
        have hN2 : (k : Int) ≤ 65536 := by have := HK.out; omega
        go_wp2
        go_roundw
        case rel => exact ⟨k + 1, _, HLT.out, by go_num, rfl, HN6.out⟩
        case measure => have := HLT.out; simp [intOf]; omega
    · have hkn : k = n := by omega
      subst hkn
      have hm := HM.out
      obtain ⟨g, cap, rfl, _⟩ := hm.own.form (by omega)
      obtain ⟨hrow, hlo⟩ := hm.cells
      have HR := Lib.hid hrow
      have HL := Lib.hid hlo
      have HB := Lib.hid (B1.out.trans (hm.bel.mono (by omega)))
      clear hm hrow hlo
      go_wp2
      go_ret
      exact ⟨g, cap, rfl, by have := HL.out; omega, HR.out, HB.out⟩
end Go.Proofs.Ytjjafjdjdjonfaa

/- Contracts: Line. -/
namespace Go.Proofs.Ytjjafjdjdjonfaa
open Go.RowKit Fl
set_option linter.unusedVariables false

/-- What Line answers. -/
def linE (ax ay cx cy : Int) : Int := if plcE ax ay ≠ 0 then 5 else if plcE cx cy ≠ 0 then 5 else if 65536 ≤ farI ⟨ax, ay⟩ ⟨cx, cy⟩ then 4 else 0
theorem plcE_ok {x y : Int} (h : plcE x y = 0) : -4194304 ≤ x ∧ x ≤ 4194304 ∧ -4194304 ≤ y ∧ y ≤ 4194304 := by
  unfold plcE at h
  split at h
  · rename_i c
    have a := withinB_iff.1 c.1
    have b := withinB_iff.1 c.2
    omega
  · cases h
set_option maxRecDepth 100000 in
set_option maxHeartbeats 2000000 in
theorem line_a (ax ay cx cy : Int) (w : World) (h : plcE ax ay = 5) :
    Calls Try.prog 5 #[ptV ax ay, ptV cx cy] w fun e w' => e = .returned (.tuple #[.slice none 0 0, .int .i64 5]) ∧ Below w.heap.size w w' := by
  have CA := Lib.hid (fun w => checkPlace_any ax ay w)
  rw [h] at CA
  clear h
  have i0 : ∀ w, (Instr.index 54 (.agg #[.int .i64 ax, .int .i64 ay, .int .i64 cx, .int .i64 cy]) (.int .i64 0)).run Try.prog w = .ok (.agg #[.int .i64 ax, .int .i64 ay]) w := fun _ => by kernel_rfl
  have i1 : ∀ w, (Instr.index 54 (.agg #[.int .i64 ax, .int .i64 ay, .int .i64 cx, .int .i64 cy]) (.int .i64 1)).run Try.prog w = .ok (.agg #[.int .i64 cx, .int .i64 cy]) w := fun _ => by kernel_rfl
  go_enter Try.func5, Try.ntmps5
  go_wp2
  go_loopw [12] (fun s12 wr => (s12 = .int .i64 0) ∧ wr.heap[w.heap.size]? = some (ptObj ax ay) ∧ wr.heap[w.heap.size + 1]? = some (ptObj cx cy) ∧ Below w.heap.size w wr) (fun s12 _ => 3 - (intOf s12).toNat)
  case atStart => exact ⟨rfl, by (first | (rw [heap_alloc_get, if_pos rfl]; done) | ((simp only [heap_alloc_get, heap_size_alloc, if_true]) <;> ((repeat' split) <;> first | rfl | omega))), by (first | (rw [heap_alloc_get, if_pos rfl]; done) | ((simp only [heap_alloc_get, heap_size_alloc, if_true]) <;> ((repeat' split) <;> first | rfl | omega))), (by repeat (first | exact Below.refl _ _ | refine Below.alloc ?_ (by first | omega | (simp; done) | (simp; omega)) _ | refine Below.setCell ?_ (by first | omega | (simp; done) | (simp; omega)) _ | refine Below.drew ?_))⟩
  case round =>
    obtain ⟨hs, ha, hc, hb⟩ := hrel
    have HA := Lib.hid ha
    have HC := Lib.hid hc
    have HB := Lib.hid hb
    obtain ⟨cA, fA, zA⟩ := blkC ha
    obtain ⟨cC, fC, zC⟩ := blkC hc
    clear ha hc hb
    subst hs
    · go_wp2_with (go_at_call 22; refine (CA.out _).mono ?_; rintro e w' ⟨rfl, rfl⟩)
      go_ret2
      exact ⟨rfl, HB.out.alloc HB.out.size _⟩
set_option maxRecDepth 100000 in
set_option maxHeartbeats 2000000 in
theorem line_b (ax ay cx cy : Int) (w : World) (h : plcE ax ay = 0) (h2 : plcE cx cy = 5) :
    Calls Try.prog 5 #[ptV ax ay, ptV cx cy] w fun e w' => e = .returned (.tuple #[.slice none 0 0, .int .i64 5]) ∧ Below w.heap.size w w' := by
  have CA := Lib.hid (fun w => checkPlace_any ax ay w)
  have CC := Lib.hid (fun w => checkPlace_any cx cy w)
  rw [h] at CA
  rw [h2] at CC
  clear h h2
  have i0 : ∀ w, (Instr.index 54 (.agg #[.int .i64 ax, .int .i64 ay, .int .i64 cx, .int .i64 cy]) (.int .i64 0)).run Try.prog w = .ok (.agg #[.int .i64 ax, .int .i64 ay]) w := fun _ => by kernel_rfl
  have i1 : ∀ w, (Instr.index 54 (.agg #[.int .i64 ax, .int .i64 ay, .int .i64 cx, .int .i64 cy]) (.int .i64 1)).run Try.prog w = .ok (.agg #[.int .i64 cx, .int .i64 cy]) w := fun _ => by kernel_rfl
  go_enter Try.func5, Try.ntmps5
  go_wp2
  go_loopw [12] (fun s12 wr => (s12 = .int .i64 0 ∨ s12 = .int .i64 1) ∧ wr.heap[w.heap.size]? = some (ptObj ax ay) ∧ wr.heap[w.heap.size + 1]? = some (ptObj cx cy) ∧ Below w.heap.size w wr) (fun s12 _ => 3 - (intOf s12).toNat)
  case atStart => exact ⟨Or.inl rfl, by (first | (rw [heap_alloc_get, if_pos rfl]; done) | ((simp only [heap_alloc_get, heap_size_alloc, if_true]) <;> ((repeat' split) <;> first | rfl | omega))), by (first | (rw [heap_alloc_get, if_pos rfl]; done) | ((simp only [heap_alloc_get, heap_size_alloc, if_true]) <;> ((repeat' split) <;> first | rfl | omega))), (by repeat (first | exact Below.refl _ _ | refine Below.alloc ?_ (by first | omega | (simp; done) | (simp; omega)) _ | refine Below.setCell ?_ (by first | omega | (simp; done) | (simp; omega)) _ | refine Below.drew ?_))⟩
  case round =>
    obtain ⟨hs, ha, hc, hb⟩ := hrel
    have HA := Lib.hid ha
    have HC := Lib.hid hc
    have HB := Lib.hid hb
    obtain ⟨cA, fA, zA⟩ := blkC ha
    obtain ⟨cC, fC, zC⟩ := blkC hc
    clear ha hc hb
    rcases hs with rfl | rfl
    · go_wp2_with (go_at_call 22; refine (CA.out _).mono ?_; rintro e w' ⟨rfl, rfl⟩)
      go_roundw
      case rel => exact ⟨Or.inr rfl, (heap_alloc_old _ _ zA).trans HA.out, (heap_alloc_old _ _ zC).trans HC.out, HB.out.alloc HB.out.size _⟩
      case measure => simp [intOf]
    · go_wp2_with (go_at_call 22; refine (CC.out _).mono ?_; rintro e w' ⟨rfl, rfl⟩)
      go_ret2
      exact ⟨rfl, HB.out.alloc HB.out.size _⟩
set_option maxRecDepth 100000 in
set_option maxHeartbeats 2000000 in
theorem line_c (ax ay cx cy : Int) (w : World) (h : plcE ax ay = 0) (h2 : plcE cx cy = 0) (h3 : 65536 ≤ farI ⟨ax, ay⟩ ⟨cx, cy⟩) :
    Calls Try.prog 5 #[ptV ax ay, ptV cx cy] w fun e w' => e = .returned (.tuple #[.slice none 0 0, .int .i64 4]) ∧ Below w.heap.size w w' := by
  have CA := Lib.hid (fun w => checkPlace_any ax ay w)
  have CC := Lib.hid (fun w => checkPlace_any cx cy w)
  obtain ⟨x1, x2, x3, x4⟩ := plcE_ok h
  obtain ⟨y1, y2, y3, y4⟩ := plcE_ok h2
  have FA := Lib.hid (fun w => far_any ax ay cx cy w (by omega) (by omega) (by omega) (by omega) (by omega) (by omega) (by omega) (by omega))
  rw [h] at CA
  rw [h2] at CC
  clear h h2 x1 x2 x3 x4 y1 y2 y3 y4
  generalize farI ⟨ax, ay⟩ ⟨cx, cy⟩ = m at *
  have i0 : ∀ w, (Instr.index 54 (.agg #[.int .i64 ax, .int .i64 ay, .int .i64 cx, .int .i64 cy]) (.int .i64 0)).run Try.prog w = .ok (.agg #[.int .i64 ax, .int .i64 ay]) w := fun _ => by kernel_rfl
  have i1 : ∀ w, (Instr.index 54 (.agg #[.int .i64 ax, .int .i64 ay, .int .i64 cx, .int .i64 cy]) (.int .i64 1)).run Try.prog w = .ok (.agg #[.int .i64 cx, .int .i64 cy]) w := fun _ => by kernel_rfl
  go_enter Try.func5, Try.ntmps5
  go_wp2
  go_loopw [12] (fun s12 wr => (s12 = .int .i64 0 ∨ s12 = .int .i64 1 ∨ s12 = .int .i64 2) ∧ wr.heap[w.heap.size]? = some (ptObj ax ay) ∧ wr.heap[w.heap.size + 1]? = some (ptObj cx cy) ∧ Below w.heap.size w wr) (fun s12 _ => 3 - (intOf s12).toNat)
  case atStart => exact ⟨Or.inl rfl, by (first | (rw [heap_alloc_get, if_pos rfl]; done) | ((simp only [heap_alloc_get, heap_size_alloc, if_true]) <;> ((repeat' split) <;> first | rfl | omega))), by (first | (rw [heap_alloc_get, if_pos rfl]; done) | ((simp only [heap_alloc_get, heap_size_alloc, if_true]) <;> ((repeat' split) <;> first | rfl | omega))), (by repeat (first | exact Below.refl _ _ | refine Below.alloc ?_ (by first | omega | (simp; done) | (simp; omega)) _ | refine Below.setCell ?_ (by first | omega | (simp; done) | (simp; omega)) _ | refine Below.drew ?_))⟩
  case round =>
    obtain ⟨hs, ha, hc, hb⟩ := hrel
    have HA := Lib.hid ha
    have HC := Lib.hid hc
    have HB := Lib.hid hb
    obtain ⟨cA, fA, zA⟩ := blkC ha
    obtain ⟨cC, fC, zC⟩ := blkC hc
    clear ha hc hb
    rcases hs with rfl | rfl | rfl
    · go_wp2_with (go_at_call 22; refine (CA.out _).mono ?_; rintro e w' ⟨rfl, rfl⟩)
      go_roundw
      case rel => exact ⟨Or.inr (Or.inl rfl), (heap_alloc_old _ _ zA).trans HA.out, (heap_alloc_old _ _ zC).trans HC.out, HB.out.alloc HB.out.size _⟩
      case measure => simp [intOf]
    · go_wp2_with (go_at_call 22; refine (CC.out _).mono ?_; rintro e w' ⟨rfl, rfl⟩)
      go_roundw
      case rel => exact ⟨Or.inr (Or.inr rfl), (heap_alloc_old _ _ zA).trans HA.out, (heap_alloc_old _ _ zC).trans HC.out, HB.out.alloc HB.out.size _⟩
      case measure => simp [intOf]
    · go_wp2_with (go_at_call 23; refine (FA.out _).mono ?_; rintro e w1 ⟨rfl, hb1⟩; have HB1 := Lib.hid (HB.out.trans (hb1.mono HB.out.size)); clear hb1)
      go_ret2
      exact ⟨rfl, HB1.out⟩
/-- A line of places is there. -/
def LinePost (w : World) (n : Nat) (T : Nat → Pnt) (e : Ending) (w' : World) : Prop :=
  ∃ g cap, e = .returned (.tuple #[.slice (some ⟨g, 0, none⟩) n cap, .int .i64 0]) ∧ w.heap.size ≤ g ∧ PtRow w' g n T ∧ Below w.heap.size w w'
set_option maxRecDepth 100000 in
set_option maxHeartbeats 2000000 in
theorem line_ok (ax ay cx cy : Int) (w : World) (n : Nat) (h : plcE ax ay = 0) (h2 : plcE cx cy = 0) (h3 : farI ⟨ax, ay⟩ ⟨cx, cy⟩ = n) (hn : n ≤ 65535) :
    Calls Try.prog 5 #[ptV ax ay, ptV cx cy] w (LinePost w (n + 1) (lnP ⟨ax, ay⟩ ⟨cx, cy⟩)) := by
  have CA := Lib.hid (fun w => checkPlace_any ax ay w)
  have CC := Lib.hid (fun w => checkPlace_any cx cy w)
  obtain ⟨x1, x2, x3, x4⟩ := plcE_ok h
  obtain ⟨y1, y2, y3, y4⟩ := plcE_ok h2
  have FA := Lib.hid (fun w => far_any ax ay cx cy w (by omega) (by omega) (by omega) (by omega) (by omega) (by omega) (by omega) (by omega))
  have LI := Lib.hid (fun w => line_any ax ay cx cy n w (by omega) (by omega) (by omega) (by omega) (by omega) (by omega) (by omega) (by omega) h3 hn)
  obtain ⟨m, hm⟩ : ∃ m : Int, (n : Int) = m := ⟨_, rfl⟩
  have hm2 : m ≤ 65535 := by omega
  rw [h3, hm] at FA
  clear hn hm
  rw [h] at CA
  rw [h2] at CC
  clear h h2 h3 x1 x2 x3 x4 y1 y2 y3 y4
  generalize lnP ⟨ax, ay⟩ ⟨cx, cy⟩ = T at *
  have i0 : ∀ w, (Instr.index 54 (.agg #[.int .i64 ax, .int .i64 ay, .int .i64 cx, .int .i64 cy]) (.int .i64 0)).run Try.prog w = .ok (.agg #[.int .i64 ax, .int .i64 ay]) w := fun _ => by kernel_rfl
  have i1 : ∀ w, (Instr.index 54 (.agg #[.int .i64 ax, .int .i64 ay, .int .i64 cx, .int .i64 cy]) (.int .i64 1)).run Try.prog w = .ok (.agg #[.int .i64 cx, .int .i64 cy]) w := fun _ => by kernel_rfl
  go_enter Try.func5, Try.ntmps5
  go_wp2
  go_loopw [12] (fun s12 wr => (s12 = .int .i64 0 ∨ s12 = .int .i64 1 ∨ s12 = .int .i64 2) ∧ wr.heap[w.heap.size]? = some (ptObj ax ay) ∧ wr.heap[w.heap.size + 1]? = some (ptObj cx cy) ∧ Below w.heap.size w wr) (fun s12 _ => 3 - (intOf s12).toNat)
  case atStart => exact ⟨Or.inl rfl, by (first | (rw [heap_alloc_get, if_pos rfl]; done) | ((simp only [heap_alloc_get, heap_size_alloc, if_true]) <;> ((repeat' split) <;> first | rfl | omega))), by (first | (rw [heap_alloc_get, if_pos rfl]; done) | ((simp only [heap_alloc_get, heap_size_alloc, if_true]) <;> ((repeat' split) <;> first | rfl | omega))), (by repeat (first | exact Below.refl _ _ | refine Below.alloc ?_ (by first | omega | (simp; done) | (simp; omega)) _ | refine Below.setCell ?_ (by first | omega | (simp; done) | (simp; omega)) _ | refine Below.drew ?_))⟩
  case round =>
    obtain ⟨hs, ha, hc, hb⟩ := hrel
    have HA := Lib.hid ha
    have HC := Lib.hid hc
    have HB := Lib.hid hb
    obtain ⟨cA, fA, zA⟩ := blkC ha
    obtain ⟨cC, fC, zC⟩ := blkC hc
    clear ha hc hb
    rcases hs with rfl | rfl | rfl
    · go_wp2_with (go_at_call 22; refine (CA.out _).mono ?_; rintro e w' ⟨rfl, rfl⟩)
      go_roundw
      case rel => exact ⟨Or.inr (Or.inl rfl), (heap_alloc_old _ _ zA).trans HA.out, (heap_alloc_old _ _ zC).trans HC.out, HB.out.alloc HB.out.size _⟩
      case measure => simp [intOf]
    · go_wp2_with (go_at_call 22; refine (CC.out _).mono ?_; rintro e w' ⟨rfl, rfl⟩)
      go_roundw
      case rel => exact ⟨Or.inr (Or.inr rfl), (heap_alloc_old _ _ zA).trans HA.out, (heap_alloc_old _ _ zC).trans HC.out, HB.out.alloc HB.out.size _⟩
      case measure => simp [intOf]
    · go_wp2_with (first
        | (go_at_call 23; refine (FA.out _).mono ?_; rintro e w1 ⟨rfl, hb1⟩; have HB1 := Lib.hid (HB.out.trans (hb1.mono HB.out.size)); have HA1 := Lib.hid (blkStay HA.out hb1); have HC1 := Lib.hid (blkStay HC.out hb1); clear hb1 cA fA zA cC fC zC; obtain ⟨cA, fA, zA⟩ := blkC HA1.out; obtain ⟨cC, fC, zC⟩ := blkC HC1.out)
        | (go_at_call 24; refine (LI.out _).mono ?_; rintro e w2 ⟨g, cap, rfl, hg, hr, hb2⟩; have HB2 := Lib.hid (HB1.out.trans (hb2.mono HB1.out.size)); have HG := Lib.hid hg; have HR := Lib.hid hr; clear hb2 hg hr cA fA zA cC fC zC))
      go_ret2
      exact ⟨g, cap, rfl, by have := HG.out; have := HB1.out.size; omega, HR.out, HB2.out⟩
end Go.Proofs.Ytjjafjdjdjonfaa

/- Contracts: the second reference's Has, Cell, Place; bits of the second laws. -/
namespace Go.Proofs.Ytjjafjdjdjonfaa
open Go.RowKit Fl
set_option linter.unusedVariables false

theorem ret_two {a b a' b' : Int} (h : a = a') (h' : b = b') : Ending.returned (.tuple #[.int .i64 a, .int .i64 b]) = .returned (.tuple #[.int .i64 a', .int .i64 b']) := by rw [h, h']

set_option maxHeartbeats 1000000 in
theorem qHas_any (X Y W H x y : Int) (w : World) (hX1 : -16777216 ≤ X) (hX2 : X ≤ 16777216) (hY1 : -16777216 ≤ Y) (hY2 : Y ≤ 16777216) (hW1 : 0 ≤ W) (hW2 : W ≤ 512) (hH1 : 0 ≤ H) (hH2 : H ≤ 512) :
    Calls Try.prog 14 #[reg X Y W H, .int .i64 x, .int .i64 y] w fun e w' => e = .returned (.bool (hasB X Y W H x y)) ∧ Below w.heap.size w w' := by
  have HB := Lib.hid (show hasB X Y W H x y = (decide (X ≤ x ∧ x ≤ X + W - 1) && decide (Y ≤ y ∧ y ≤ Y + H - 1)) by
    unfold hasB; rw [Bool.eq_iff_iff]; simp [withinB_iff])
  go_enter Try.func14, Try.ntmps14
  go_wp2
  all_goals go_ret
  all_goals exact ⟨ret_bool (by rw [HB.out, Bool.eq_iff_iff]; simp; omega), (by repeat (first | exact Below.refl _ _ | refine Below.alloc ?_ (by first | omega | (simp; done) | (simp; omega)) _ | refine Below.setCell ?_ (by first | omega | (simp; done) | (simp; omega)) _ | refine Below.drew ?_))⟩

set_option maxHeartbeats 1000000 in
theorem qCell_any (X Y W H x y : Int) (w : World) (hX1 : -16777216 ≤ X) (hX2 : X ≤ 16777216) (hY1 : -16777216 ≤ Y) (hY2 : Y ≤ 16777216) (hW1 : 0 ≤ W) (hW2 : W ≤ 512)
    (h1 : -16777216 ≤ x) (h2 : x ≤ 16777216) (h3 : -16777216 ≤ y) (h4 : y ≤ 16777216) :
    Calls Try.prog 35 #[reg X Y W H, .int .i64 x, .int .i64 y] w fun e w' => e = .returned (.int .i64 ((y - Y) * W + (x - X))) ∧ Below w.heap.size w w' := by
  have q1 : (y - Y) * W ≤ 33554432 * W := Int.mul_le_mul_of_nonneg_right (by omega) hW1
  have q2 : (-33554432) * W ≤ (y - Y) * W := Int.mul_le_mul_of_nonneg_right (by omega) hW1
  have e2 : wrap64 ((y - Y) * W) = (y - Y) * W := IntWalk.wrap64_in _ ⟨by omega, by omega⟩
  have e3 : wrap64 ((y - Y) * W + x) = (y - Y) * W + x := IntWalk.wrap64_in _ ⟨by omega, by omega⟩
  have e4 : wrap64 ((y - Y) * W + x - X) = (y - Y) * W + (x - X) := by rw [IntWalk.wrap64_in _ ⟨by omega, by omega⟩]; omega
  clear q1 q2
  go_enter Try.func35, Try.ntmps35
  go_wp2
  go_ret
  exact ⟨ret_int e4, (by repeat (first | exact Below.refl _ _ | refine Below.alloc ?_ (by first | omega | (simp; done) | (simp; omega)) _ | refine Below.setCell ?_ (by first | omega | (simp; done) | (simp; omega)) _ | refine Below.drew ?_))⟩

theorem enters_bits1 : Enters 33 := by intro args W; simp [callFunc, Try.func33, Try.f33]

set_option maxHeartbeats 400000 in
theorem bits1_self (x : Nat) (w : World) :
    Calls Try.prog 33 #[.float .f32 x, .float .f32 x] w fun e w' => e = .returned (.bool true) ∧ w = w' := by
  have h1 := f32bits
  go_enter Try.func33, Try.ntmps33
  go_wp2
  go_ret
  exact ⟨rfl, rfl⟩

set_option maxHeartbeats 1000000 in
theorem equalFuncB_row (b b' cap cap' n : Nat) (v : Nat → Nat) (hl : n ≤ 9223372036854775807) (w : World) (hc : FlAt w b 0 n v) (hc' : FlAt w b' 0 n v) :
    Calls Try.prog 32 #[.slice (some ⟨b, 0, none⟩) n cap, .slice (some ⟨b', 0, none⟩) n cap', .func (.func 33) #[] #[]] w fun e w' => e = .returned (.bool true) ∧ w = w' := by
  have hcall := enters_bits1
  unfold Enters at hcall
  go_enter Try.func32, Try.ntmps32
  go_wp2
  go_loop [17] (fun i => ∃ k : Nat, k ≤ n ∧ i = .int .i64 k) (fun i => n - (intOf i).toNat)
  case atStart => exact ⟨0, Nat.zero_le _, rfl⟩
  case round =>
    obtain ⟨k, hk, rfl⟩ := hrel
    by_cases hlt : k < n
    · have hcell := hc k hlt
      have hcell' := hc' k hlt
      rw [Nat.zero_add] at hcell hcell'
      have IH := Lib.hid (fun w => bits1_self (v k) w)
      go_wp2_with fail
      refine (IH.out _).mono ?_
      rintro e w' ⟨rfl, rfl⟩
      go_wp2
      go_round
      case rel => exact ⟨k + 1, by omega, by go_num⟩
      case measure => simp [intOf]; omega
    · go_wp2
      go_ret
      exact ⟨rfl, rfl⟩

set_option maxHeartbeats 1000000 in
theorem bits_any (b b' cap cap' n : Nat) (v : Nat → Nat) (hl : n ≤ 9223372036854775807) (w : World) (hc : FlAt w b 0 n v) (hc' : FlAt w b' 0 n v) :
    Calls Try.prog 15 #[.slice (some ⟨b, 0, none⟩) n cap, .slice (some ⟨b', 0, none⟩) n cap'] w fun e w' => e = .returned (.bool true) ∧ w = w' := by
  have EF := Lib.hid (equalFuncB_row b b' cap cap' n v hl w hc hc')
  clear hc hc'
  go_enter Try.func15, Try.ntmps15
  go_wp2_with (go_at_call 32; refine EF.out.mono ?_; rintro e w' ⟨rfl, rfl⟩)
  go_ret
  exact ⟨rfl, rfl⟩
end Go.Proofs.Ytjjafjdjdjonfaa

/- Whether a single is finite, whether it is a height, as the references of chapters 4 to 10 ask it: by comparisons. -/
namespace Go.Proofs.Ytjjafjdjdjonfaa.Fl
open Ieee

/-- A finite single passes all three tests. -/
theorem num_fin {x : Nat} (h : finB x = true) : (single.order x x == some .eq) = true ∧ (single.order x 2139095039 == some .gt) = false ∧ (single.order x 4286578687 == some .lt) = false := by
  unfold finB at h
  cases hv : vS x with
  | none => rw [hv] at h; cases h
  | some a =>
    obtain ⟨h1, h2⟩ := vS_le hv
    refine ⟨by rw [eql_val hv hv]; simp, by rw [gtr_val hv vS_max]; simp; omega, by rw [lss_val hv vS_min]; simp; omega⟩
/-- Any other falls at one of them. -/
theorem num_inf {x : Nat} (h : finB x = false) : (single.order x x == some .eq) = false ∨ ((single.order x x == some .eq) = true ∧ (single.order x 2139095039 == some .gt) = true) ∨
    ((single.order x x == some .eq) = true ∧ (single.order x 2139095039 == some .gt) = false ∧ (single.order x 4286578687 == some .lt) = true) := by
  unfold finB at h
  cases hv : vS x with
  | some a => rw [hv] at h; cases h
  | none =>
    rcases vS_none hv with ⟨s, hs⟩ | hn
    · right
      have e := self_eq (x := x) (by rw [hs]; rfl)
      cases s with
      | false => exact .inl ⟨e, by unfold Format.order; rw [hs, readMax]; rfl⟩
      | true => exact .inr ⟨e, by unfold Format.order; rw [hs, readMax]; rfl, by unfold Format.order; rw [hs, readMin]; rfl⟩
    · exact .inl (self_ne hn)
/-- A height passes both tests. -/
theorem num_hgt {x : Nat} (h : hgtB x = true) : (single.order x 1233125376 == some .gt) = false ∧ (single.order x 3380609024 == some .lt) = false := by
  unfold hgtB at h
  cases hv : vS x with
  | none => rw [hv] at h; cases h
  | some a =>
    rw [hv] at h
    simp at h
    refine ⟨by rw [gtr_val hv vS_top]; simp; omega, by rw [lss_val hv vS_bot]; simp; omega⟩
/-- A finite single that is none falls at one. -/
theorem num_out {x : Nat} (f : finB x = true) (h : hgtB x = false) : (single.order x 1233125376 == some .gt) = true ∨ ((single.order x 1233125376 == some .gt) = false ∧ (single.order x 3380609024 == some .lt) = true) := by
  unfold finB at f
  unfold hgtB at h
  cases hv : vS x with
  | none => rw [hv] at f; cases f
  | some a =>
    rw [hv] at h
    simp at h
    rw [gtr_val hv vS_top, lss_val hv vS_bot]
    by_cases c : vTop < a
    · exact .inl (by simp [c])
    · exact .inr ⟨by simp [c], by simp; by_cases d : -vTop ≤ a; have := h d; omega; omega⟩
end Go.Proofs.Ytjjafjdjdjonfaa.Fl

/- Contract: the references' NumberError over a list of singles that is known cell by cell. -/
namespace Go.Proofs.Ytjjafjdjdjonfaa
open Go.RowKit Fl
set_option linter.unusedVariables false

set_option maxHeartbeats 2000000 in
theorem qNumberError_row (b off cap n : Nat) (v : Nat → Nat) (hl : n ≤ 9223372036854775807) (w : World) (hc : FlAt w b off n v) :
    Calls Try.prog 31 #[.slice (some ⟨b, off, none⟩) n cap] w fun e w' => e = .returned (.int .i64 (fldE n v)) ∧ w = w' := by
  go_enter Try.func31, Try.ntmps31
  go_wp2
  go_loop [9] (fun i => ∃ k : Nat, k ≤ n ∧ i = .int .i64 k ∧ allB k (fun i => finB (v i)) = true) (fun i => n - (intOf i).toNat)
  case atStart => exact ⟨0, Nat.zero_le _, rfl, rfl⟩
  case round =>
    obtain ⟨k, hk, rfl, hall⟩ := hrel
    have HA := Lib.hid hall
    clear hall
    by_cases hlt : k < n
    · have hcell := hc k hlt
      cases hf : finB (v k) with
      | true =>
        have HB := Lib.hid hf
        obtain ⟨t1, t2, t3⟩ := num_fin hf
        rw [← f32fmt] at t1 t2 t3
        have t1' : (FloatKind.f32.format.order (v k) (v k) != some .eq) = false := by rw [bne, t1]; rfl
        clear hf t1
        go_wp2
        go_round
        case rel => exact ⟨k + 1, by omega, by go_num, allB_iff.2 fun i hi => by rcases Nat.lt_or_ge i k with c | c; exact allB_iff.1 HA.out i c; rw [show i = k by omega]; exact HB.out⟩
        case measure => simp [intOf]; omega
      | false =>
        have HB := Lib.hid hf
        rcases num_inf hf with t1 | ⟨t1, t2⟩ | ⟨t1, t2, t3⟩
        · rw [← f32fmt] at t1
          have t1' : (FloatKind.f32.format.order (v k) (v k) != some .eq) = true := by rw [bne, t1]; rfl
          clear hf t1
          go_wp2
          go_ret
          exact ⟨ret_int (by unfold fldE; rw [allB_no hlt HB.out]; rfl), rfl⟩
        · rw [← f32fmt] at t1 t2
          have t1' : (FloatKind.f32.format.order (v k) (v k) != some .eq) = false := by rw [bne, t1]; rfl
          clear hf t1
          go_wp2
          go_ret
          exact ⟨ret_int (by unfold fldE; rw [allB_no hlt HB.out]; rfl), rfl⟩
        · rw [← f32fmt] at t1 t2 t3
          have t1' : (FloatKind.f32.format.order (v k) (v k) != some .eq) = false := by rw [bne, t1]; rfl
          clear hf t1
          go_wp2
          go_ret
          exact ⟨ret_int (by unfold fldE; rw [allB_no hlt HB.out]; rfl), rfl⟩
    · have hkn : k = n := by omega
      subst hkn
      go_wp2
      go_loop [27] (fun i => ∃ j : Nat, j ≤ k ∧ i = .int .i64 j ∧ allB j (fun i => hgtB (v i)) = true) (fun i => k - (intOf i).toNat)
      case atStart => exact ⟨0, Nat.zero_le _, rfl, rfl⟩
      case round =>
        obtain ⟨j, hj, rfl, hall2⟩ := hrel
        have HH := Lib.hid hall2
        clear hall2
        by_cases hlt2 : j < k
        · have hcell := hc j hlt2
          cases hb : hgtB (v j) with
          | true =>
            have HB := Lib.hid hb
            obtain ⟨t1, t2⟩ := num_hgt hb
            rw [← f32fmt] at t1 t2
            clear hb
            go_wp2
            go_round
            case rel => exact ⟨j + 1, by omega, by go_num, allB_iff.2 fun i hi => by rcases Nat.lt_or_ge i j with c | c; exact allB_iff.1 HH.out i c; rw [show i = j by omega]; exact HB.out⟩
            case measure => simp [intOf]; omega
          | false =>
            have HB := Lib.hid hb
            rcases num_out (allB_iff.1 HA.out j hlt2) hb with t1 | ⟨t1, t2⟩
            · rw [← f32fmt] at t1
              clear hb
              go_wp2
              go_ret
              exact ⟨ret_int (by unfold fldE hgtE; rw [HA.out, allB_no hlt2 HB.out]; rfl), rfl⟩
            · rw [← f32fmt] at t1 t2
              clear hb
              go_wp2
              go_ret
              exact ⟨ret_int (by unfold fldE hgtE; rw [HA.out, allB_no hlt2 HB.out]; rfl), rfl⟩
        · go_wp2
          go_ret
          have : j = k := by omega
          subst this
          exact ⟨ret_int (by unfold fldE hgtE; rw [HA.out, HH.out]; rfl), rfl⟩
end Go.Proofs.Ytjjafjdjdjonfaa

/- Contracts: the laws' within, when, first (of two, of three). -/
namespace Go.Proofs.Ytjjafjdjdjonfaa
open Go.RowKit
set_option linter.unusedVariables false

set_option maxHeartbeats 400000 in
theorem mWithin_any (n a b : Int) (w : World) :
    Calls Try.prog 9 #[.int .i64 n, .int .i64 a, .int .i64 b] w fun e w' => e = .returned (.bool (withinB n a b)) ∧ w = w' := by
  go_enter Try.func9, Try.ntmps9
  go_wp2
  all_goals go_ret
  all_goals exact ⟨ret_bool (by rw [Bool.eq_iff_iff, withinB_iff]; simp; omega), rfl⟩

def whenE (c : Bool) (k : Int) : Int := if c = true then k else 0
set_option maxHeartbeats 400000 in
theorem when_any (c : Bool) (k : Int) (w : World) :
    Calls Try.prog 8 #[.bool c, .int .i64 k] w fun e w' => e = .returned (.int .i64 (whenE c k)) ∧ w = w' := by
  unfold whenE
  cases c
  all_goals
    go_enter Try.func8, Try.ntmps8
    go_wp2
    go_ret
    exact ⟨rfl, rfl⟩

inductive FirstAt (a b : Int) : Value → Prop where
  | z : FirstAt a b (.int .i64 0)
  | a (h : a = 0) : FirstAt a b (.int .i64 1)
  | b (h : a = 0) (h' : b = 0) : FirstAt a b (.int .i64 2)
def firstE (a b : Int) : Int := if a = 0 then b else a
set_option maxHeartbeats 1000000 in
theorem first2_any (a b : Int) (p : Nat) (w : World) (h : w.heap[p]? = some (.cells #[.int .i64 a, .int .i64 b] 30)) :
    Calls Try.prog 7 #[.slice (some ⟨p, 0, none⟩) 2 2] w fun e w' => e = .returned (.int .i64 (firstE a b)) ∧ w = w' := by
  unfold firstE
  obtain ⟨c, f, z⟩ := blkC h
  clear h
  go_enter Try.func7, Try.ntmps7
  go_wp2
  go_loop [7] (fun i => FirstAt a b i) (fun i => 2 - (intOf i).toNat)
  case atStart => exact .z
  case round =>
    rcases hrel with _ | ha | ⟨ha, hb⟩
    · by_cases h0 : a = 0
      · subst h0
        go_wp2
        go_round
        case rel => exact .a rfl
        case measure => simp [intOf]
      · go_wp2
        go_ret
        exact ⟨by simp, rfl⟩
    · subst ha
      by_cases h0 : b = 0
      · subst h0
        go_wp2
        go_round
        case rel => exact .b rfl rfl
        case measure => simp [intOf]
      · go_wp2
        go_ret
        exact ⟨rfl, rfl⟩
    · subst ha hb
      go_wp2
      go_ret
      exact ⟨rfl, rfl⟩

theorem firstE_zero {a b : Int} (h : firstE a b = 0) : a = 0 ∧ b = 0 := by
  unfold firstE at h
  by_cases q : a = 0
  · rw [if_pos q] at h; exact ⟨q, h⟩
  · rw [if_neg q] at h; exact absurd h q
theorem whenE_zero {c : Bool} {k : Int} (hk : k ≠ 0) (h : whenE c k = 0) : c = false := by
  unfold whenE at h
  cases c with
  | false => rfl
  | true => rw [if_pos rfl] at h; exact absurd h hk

inductive First3At (a b c : Int) : Value → Prop where
  | z : First3At a b c (.int .i64 0)
  | a (h : a = 0) : First3At a b c (.int .i64 1)
  | b (h : a = 0) (h' : b = 0) : First3At a b c (.int .i64 2)
  | c (h : a = 0) (h' : b = 0) (h'' : c = 0) : First3At a b c (.int .i64 3)
set_option maxHeartbeats 1000000 in
theorem first3_any (a b c : Int) (p : Nat) (w : World) (h : w.heap[p]? = some (.cells #[.int .i64 a, .int .i64 b, .int .i64 c] 30)) :
    Calls Try.prog 7 #[.slice (some ⟨p, 0, none⟩) 3 3] w fun e w' => e = .returned (.int .i64 (firstE (firstE a b) c)) ∧ w = w' := by
  unfold firstE
  obtain ⟨cc, f, z⟩ := blkC h
  clear h
  go_enter Try.func7, Try.ntmps7
  go_wp2
  go_loop [7] (fun i => First3At a b c i) (fun i => 3 - (intOf i).toNat)
  case atStart => exact .z
  case round =>
    rcases hrel with _ | ha | ⟨ha, hb⟩ | ⟨ha, hb, hc⟩
    · by_cases h0 : a = 0
      · subst h0
        go_wp2
        go_round
        case rel => exact .a rfl
        case measure => simp [intOf]
      · go_wp2
        go_ret
        exact ⟨by first | (simp; done) | simp [h0], rfl⟩
    · subst ha
      by_cases h0 : b = 0
      · subst h0
        go_wp2
        go_round
        case rel => exact .b rfl rfl
        case measure => simp [intOf]
      · go_wp2
        go_ret
        exact ⟨by first | (simp; done) | simp [h0], rfl⟩
    · subst ha hb
      by_cases h0 : c = 0
      · subst h0
        go_wp2
        go_round
        case rel => exact .c rfl rfl rfl
        case measure => simp [intOf]
      · go_wp2
        go_ret
        exact ⟨by first | (simp; done) | simp [h0], rfl⟩
    · subst ha hb hc
      go_wp2
      go_ret
      exact ⟨rfl, rfl⟩
end Go.Proofs.Ytjjafjdjdjonfaa

/- Contracts: the reference's RegionError, Place, Mixed; the law's within, when, first (of two). -/
namespace Go.Proofs.Ytjjafjdjdjonfaa
open Go.RowKit Fl
set_option linter.unusedVariables false

set_option maxHeartbeats 400000 in
theorem qRegionError_any (x y ww hh : Int) (w : World) :
    Calls Try.prog 30 #[reg x y ww hh] w fun e w' => e = .returned (.int .i64 (checkR x y ww hh)) ∧ w' = w.alloc (regObj x y ww hh) := by
  go_enter Try.func30, Try.ntmps30
  go_wp2
  all_goals go_ret
  all_goals refine ⟨ret_int (Eq.symm ?_), rfl⟩
  all_goals first
    | exact checkR_range (by simp only [withinB_no]; omega)
    | exact checkR_large (by simp only [withinB_iff]; omega) (by simp only [withinB_iff]; omega) (by omega)
    | exact checkR_place (by simp only [withinB_iff]; omega) (by simp only [withinB_iff]; omega) (by omega) (by simp only [withinB_no]; omega)
    | exact checkR_ok (by simp only [withinB_iff]; omega) (by simp only [withinB_iff]; omega) (by omega) (by simp only [withinB_iff]; omega) (by simp only [withinB_iff]; omega)

end Go.Proofs.Ytjjafjdjdjonfaa

/- Contracts: Check of any field, and the references' FieldError: one answer. -/
namespace Go.Proofs.Ytjjafjdjdjonfaa
open Go.RowKit Fl
set_option linter.unusedVariables false

/-- The error of a field whose numbers have the error er. -/
def fldChk (X Y W H : Int) (n : Nat) (er : Int) : Int := if checkR X Y W H ≠ 0 then checkR X Y W H else if (n : Int) ≠ W * H then 2 else er

set_option maxHeartbeats 1000000 in
theorem checkA_any (X Y W H : Int) (a : Option Addr) (n cap : Nat) (er : Int) (w : World) (CH0 : ∀ W', Below w.heap.size w W' → Calls Try.prog 38 #[.slice a n cap] W' fun e w' => e = .returned (.int .i64 er) ∧ W' = w') :
    Calls Try.prog 25 #[fldV X Y W H (.slice a n cap)] w fun e w' => e = .returned (.int .i64 (fldChk X Y W H n er)) ∧ Below w.heap.size w w' := by
  have CH := Lib.hid CH0
  clear CH0
  have RC := Lib.hid (fun w => checkRegion_any X Y W H w)
  unfold fldChk
  by_cases h0 : checkR X Y W H = 0
  · obtain ⟨b1, b2, b3, b4, b5, _⟩ := checkR_zero h0
    rw [if_neg (by simp [h0])]
    rw [h0] at RC
    have en : wrap64 (W * H) = W * H := IntWalk.wrap64_in _ ⟨by have := (mul_side b1 b2 b3 b4).1; omega, by omega⟩
    by_cases hl : (n : Int) = W * H
    · rw [if_neg (by simp [hl])]
      have en : wrap64 (W * H) = (n : Int) := by rw [en, hl]
      clear h0 b1 b2 b3 b4 b5 hl
      go_enter Try.func25, Try.ntmps25
      go_wp2_with (first | (go_at_call 36; refine (RC.out _).mono ?_; rintro e w' ⟨rfl, rfl⟩) | (go_at_call 38; refine (CH.out _ (by repeat (first | exact Below.refl _ _ | refine Below.alloc ?_ (by first | omega | (simp; done) | (simp; omega)) _ | refine Below.setCell ?_ (by first | omega | (simp; done) | (simp; omega)) _ | refine Below.drew ?_))).mono ?_; rintro e w' ⟨rfl, rfl⟩))
      go_ret
      exact ⟨rfl, (by repeat (first | exact Below.refl _ _ | refine Below.alloc ?_ (by first | omega | (simp; done) | (simp; omega)) _ | refine Below.setCell ?_ (by first | omega | (simp; done) | (simp; omega)) _ | refine Below.drew ?_))⟩
    · rw [if_pos hl]
      have hl' : ((n : Int) != W * H) = true := by simpa using hl
      clear h0 b1 b2 b3 b4 b5 hl CH
      go_enter Try.func25, Try.ntmps25
      go_wp2_with (first | (go_at_call 36; refine (RC.out _).mono ?_; rintro e w' ⟨rfl, rfl⟩))
      go_ret
      exact ⟨rfl, (by repeat (first | exact Below.refl _ _ | refine Below.alloc ?_ (by first | omega | (simp; done) | (simp; omega)) _ | refine Below.setCell ?_ (by first | omega | (simp; done) | (simp; omega)) _ | refine Below.drew ?_))⟩
  · rw [if_pos h0]
    generalize checkR X Y W H = r at *
    have h1 : (r != 0) = true := by simpa using h0
    clear h0 CH
    go_enter Try.func25, Try.ntmps25
    go_wp2_with (first | (go_at_call 36; refine (RC.out _).mono ?_; rintro e w' ⟨rfl, rfl⟩))
    go_ret
    exact ⟨rfl, (by repeat (first | exact Below.refl _ _ | refine Below.alloc ?_ (by first | omega | (simp; done) | (simp; omega)) _ | refine Below.setCell ?_ (by first | omega | (simp; done) | (simp; omega)) _ | refine Below.drew ?_))⟩

set_option maxHeartbeats 1000000 in
theorem qFieldError_any (X Y W H : Int) (a : Option Addr) (n cap : Nat) (er : Int) (w : World) (CH0 : ∀ W', Below w.heap.size w W' → Calls Try.prog 31 #[.slice a n cap] W' fun e w' => e = .returned (.int .i64 er) ∧ W' = w') :
    Calls Try.prog 13 #[fldV X Y W H (.slice a n cap)] w fun e w' => e = .returned (.int .i64 (fldChk X Y W H n er)) ∧ Below w.heap.size w w' := by
  have CH := Lib.hid CH0
  clear CH0
  have RC := Lib.hid (fun w => qRegionError_any X Y W H w)
  unfold fldChk
  by_cases h0 : checkR X Y W H = 0
  · obtain ⟨b1, b2, b3, b4, b5, _⟩ := checkR_zero h0
    rw [if_neg (by simp [h0])]
    rw [h0] at RC
    have en : wrap64 (W * H) = W * H := IntWalk.wrap64_in _ ⟨by have := (mul_side b1 b2 b3 b4).1; omega, by omega⟩
    by_cases hl : (n : Int) = W * H
    · rw [if_neg (by simp [hl])]
      have en : wrap64 (W * H) = (n : Int) := by rw [en, hl]
      clear h0 b1 b2 b3 b4 b5 hl
      go_enter Try.func13, Try.ntmps13
      go_wp2_with (first | (go_at_call 30; refine (RC.out _).mono ?_; rintro e w' ⟨rfl, rfl⟩) | (go_at_call 31; refine (CH.out _ (by repeat (first | exact Below.refl _ _ | refine Below.alloc ?_ (by first | omega | (simp; done) | (simp; omega)) _ | refine Below.setCell ?_ (by first | omega | (simp; done) | (simp; omega)) _ | refine Below.drew ?_))).mono ?_; rintro e w' ⟨rfl, rfl⟩))
      go_ret
      exact ⟨rfl, (by repeat (first | exact Below.refl _ _ | refine Below.alloc ?_ (by first | omega | (simp; done) | (simp; omega)) _ | refine Below.setCell ?_ (by first | omega | (simp; done) | (simp; omega)) _ | refine Below.drew ?_))⟩
    · rw [if_pos hl]
      have hl' : ((n : Int) != W * H) = true := by simpa using hl
      clear h0 b1 b2 b3 b4 b5 hl CH
      go_enter Try.func13, Try.ntmps13
      go_wp2_with (first | (go_at_call 30; refine (RC.out _).mono ?_; rintro e w' ⟨rfl, rfl⟩))
      go_ret
      exact ⟨rfl, (by repeat (first | exact Below.refl _ _ | refine Below.alloc ?_ (by first | omega | (simp; done) | (simp; omega)) _ | refine Below.setCell ?_ (by first | omega | (simp; done) | (simp; omega)) _ | refine Below.drew ?_))⟩
  · rw [if_pos h0]
    generalize checkR X Y W H = r at *
    have h1 : (r != 0) = true := by simpa using h0
    clear h0 CH
    go_enter Try.func13, Try.ntmps13
    go_wp2_with (first | (go_at_call 30; refine (RC.out _).mono ?_; rintro e w' ⟨rfl, rfl⟩))
    go_ret
    exact ⟨rfl, (by repeat (first | exact Below.refl _ _ | refine Below.alloc ?_ (by first | omega | (simp; done) | (simp; omega)) _ | refine Below.setCell ?_ (by first | omega | (simp; done) | (simp; omega)) _ | refine Below.drew ?_))⟩

end Go.Proofs.Ytjjafjdjdjonfaa

/- Contracts: valueAt, checkInside, of places; Profile. -/
namespace Go.Proofs.Ytjjafjdjdjonfaa
open Go.RowKit Fl
set_option linter.unusedVariables false

set_option maxHeartbeats 2000000 in
theorem valueAt_any (X Y : Int) (W H n b off cap : Nat) (v : Nat → Nat) (x y : Int) (j : Nat) (w : World) (hr : FlAt w b off n v) (hn : n ≤ 65536)
    (hX1 : -16777216 ≤ X) (hX2 : X ≤ 16777216) (hY1 : -16777216 ≤ Y) (hY2 : Y ≤ 16777216) (hW1 : 1 ≤ W) (hW2 : W ≤ 512) (hH2 : H ≤ 512) (hnn : n = H * W)
    (h1 : X ≤ x) (h2 : x < X + W) (h3 : Y ≤ y) (h4 : y < Y + H) (hj : (j : Int) = (y - Y) * W + (x - X)) :
    Calls Try.prog 27 #[fldV X Y W H (.slice (some ⟨b, off, none⟩) n cap), ptV x y] w fun e w' => e = .returned (.float .f32 (v j)) ∧ Below w.heap.size w w' := by
  have hi : j < n := num_lt hW1 h1 h2 h4 hj hnn
  have hcell := hr j hi
  have zb : b < w.heap.size := World.block_lt_of_cell? w _ hcell
  have IX := Lib.hid (fun w => index_any X Y W H j x y w hX1 hX2 hY1 hY2 hW1 hW2 hH2 h1 h2 h3 h4 hj (by omega))
  have HC := Lib.hid hcell
  have GF := Lib.hid (show ((w.alloc (fldO X Y W H (.slice (some ⟨b, off, none⟩) n cap))).alloc (ptObj x y)).heap[w.heap.size]? = some (fldO X Y W H (.slice (some ⟨b, off, none⟩) n cap)) from by (first | (rw [heap_alloc_get, if_pos rfl]; done) | ((simp only [heap_alloc_get, heap_size_alloc, if_true]) <;> ((repeat' split) <;> first | rfl | omega))))
  have GP := Lib.hid (show ((w.alloc (fldO X Y W H (.slice (some ⟨b, off, none⟩) n cap))).alloc (ptObj x y)).heap[w.heap.size + 1]? = some (ptObj x y) from by (first | (rw [heap_alloc_get, if_pos rfl]; done) | ((simp only [heap_alloc_get, heap_size_alloc, if_true]) <;> ((repeat' split) <;> first | rfl | omega))))
  have hi2 : (j : Int) < (n : Int) := by omega
  have hi3 : (0 : Int) ≤ (j : Int) := by omega
  clear hr hcell h1 h2 h3 h4 hX1 hX2 hY1 hY2 hW1 hW2 hH2 hnn hi hn hj
  go_enter Try.func27, Try.ntmps27
  go_wp2
  go_region_held3 (fun w' => (∀ o, w'.cell? ⟨w.heap.size, o, none⟩ = #[.int .i64 X, .int .i64 Y, .int .i64 W, .int .i64 H, .slice (some ⟨b, off, none⟩) n cap][o]?) ∧ (∀ o, w'.cell? ⟨w.heap.size + 1, o, none⟩ = #[.int .i64 x, .int .i64 y][o]?) ∧ w'.cell? ⟨b, off + j, none⟩ = some (.float .f32 (v j)) ∧ Below w.heap.size w w') (first | exact ⟨(blkC (blkStay GF.out (by repeat (first | exact Below.refl _ _ | refine Below.alloc ?_ (by first | omega | (simp; done) | (simp; omega)) _ | refine Below.setCell ?_ (by first | omega | (simp; done) | (simp; omega)) _ | refine Below.drew ?_)))).1, (blkC (blkStay GP.out (by repeat (first | exact Below.refl _ _ | refine Below.alloc ?_ (by first | omega | (simp; done) | (simp; omega)) _ | refine Below.setCell ?_ (by first | omega | (simp; done) | (simp; omega)) _ | refine Below.drew ?_)))).1, (Below.cell (p := ⟨b, off + j, none⟩) (w := w) (B := w.heap.size) (by repeat (first | exact Below.refl _ _ | refine Below.alloc ?_ (by first | omega | (simp; done) | (simp; omega)) _ | refine Below.setCell ?_ (by first | omega | (simp; done) | (simp; omega)) _ | refine Below.drew ?_)) zb).trans HC.out, (by repeat (first | exact Below.refl _ _ | refine Below.alloc ?_ (by first | omega | (simp; done) | (simp; omega)) _ | refine Below.setCell ?_ (by first | omega | (simp; done) | (simp; omega)) _ | refine Below.drew ?_))⟩) (first | (go_at_call 47; (with_reducible refine Calls.mono (IX.out _) ?_); rintro e w' ⟨rfl, rfl⟩))
  rename_i hHeld
  go_wp2
  go_ret
  exact ⟨rfl, hHeld.2.2.2⟩

/-- What checkInside answers of two places. -/
def insE (X Y W H ax ay cx cy : Int) : Int := if hasB X Y W H ax ay = false then 5 else if hasB X Y W H cx cy = false then 5 else 0
set_option maxRecDepth 100000 in
set_option maxHeartbeats 2000000 in
theorem checkInside_two (X Y W H ax ay cx cy : Int) (p : Nat) (w : World) (hp : w.heap[p]? = some (.cells #[.int .i64 ax, .int .i64 ay, .int .i64 cx, .int .i64 cy] 28))
    (hX1 : -16777216 ≤ X) (hX2 : X ≤ 16777216) (hY1 : -16777216 ≤ Y) (hY2 : Y ≤ 16777216) (hW1 : 0 ≤ W) (hW2 : W ≤ 512) (hH1 : 0 ≤ H) (hH2 : H ≤ 512) :
    Calls Try.prog 26 #[reg X Y W H, .slice (some ⟨p, 0, none⟩) 2 2] w fun e w' => e = .returned (.int .i64 (insE X Y W H ax ay cx cy)) ∧ Below w.heap.size w w' := by
  have HA := Lib.hid (fun w => has_any X Y W H ax ay w hX1 hX2 hY1 hY2 hW1 hW2 hH1 hH2)
  have HC := Lib.hid (fun w => has_any X Y W H cx cy w hX1 hX2 hY1 hY2 hW1 hW2 hH1 hH2)
  have HP := Lib.hid hp
  have HE := Lib.hid (show insE X Y W H ax ay cx cy = if hasB X Y W H ax ay = false then 5 else if hasB X Y W H cx cy = false then 5 else 0 from rfl)
  generalize insE X Y W H ax ay cx cy = er at *
  clear hp hX1 hX2 hY1 hY2 hW1 hW2 hH1 hH2
  obtain ⟨a, ha⟩ : ∃ a, hasB X Y W H ax ay = a := ⟨_, rfl⟩
  obtain ⟨c, hc⟩ : ∃ c, hasB X Y W H cx cy = c := ⟨_, rfl⟩
  rw [ha] at HA HE
  rw [hc] at HC HE
  clear ha hc
  cases a with
  | false =>
    have he := HE.out
    simp only [if_true] at he
    subst he
    clear HE HC
    go_enter Try.func26, Try.ntmps26
    go_wp2
    go_loopw [9] (fun s9 wr => s9 = .int .i64 0 ∧ wr.heap[w.heap.size]? = some (regObj X Y W H) ∧ Below w.heap.size w wr) (fun _ _ => 0)
    case atStart => exact ⟨rfl, by (first | (rw [heap_alloc_get, if_pos rfl]; done) | ((simp only [heap_alloc_get, heap_size_alloc, if_true]) <;> ((repeat' split) <;> first | rfl | omega))), (by repeat (first | exact Below.refl _ _ | refine Below.alloc ?_ (by first | omega | (simp; done) | (simp; omega)) _ | refine Below.setCell ?_ (by first | omega | (simp; done) | (simp; omega)) _ | refine Below.drew ?_))⟩
    case round =>
      obtain ⟨rfl, hr, hb⟩ := hrel
      have HR := Lib.hid hr
      have HB := Lib.hid hb
      obtain ⟨cR, fR, zR⟩ := blkC hr
      obtain ⟨cP, fP, zP⟩ := blkC (blkStay HP.out hb)
      clear hr hb
      go_wp2_with (go_at_call 46; refine (HA.out _).mono ?_; rintro e w1 ⟨rfl, rfl⟩)
      go_ret
      exact ⟨rfl, HB.out.trans (Below.mono (show Below wr.heap.size wr _ from (by repeat (first | exact Below.refl _ _ | refine Below.alloc ?_ (by first | omega | (simp; done) | (simp; omega)) _ | refine Below.setCell ?_ (by first | omega | (simp; done) | (simp; omega)) _ | refine Below.drew ?_))) HB.out.size)⟩
  | true =>
    have he := HE.out
    rw [if_neg (by simp)] at he
    cases c with
    | false =>
      simp only [if_true] at he
      subst he
      clear HE
      go_enter Try.func26, Try.ntmps26
      go_wp2
      go_loopw [9] (fun s9 wr => (s9 = .int .i64 0 ∨ s9 = .int .i64 1) ∧ wr.heap[w.heap.size]? = some (regObj X Y W H) ∧ Below w.heap.size w wr) (fun s9 _ => 2 - (intOf s9).toNat)
      case atStart => exact ⟨.inl rfl, by (first | (rw [heap_alloc_get, if_pos rfl]; done) | ((simp only [heap_alloc_get, heap_size_alloc, if_true]) <;> ((repeat' split) <;> first | rfl | omega))), (by repeat (first | exact Below.refl _ _ | refine Below.alloc ?_ (by first | omega | (simp; done) | (simp; omega)) _ | refine Below.setCell ?_ (by first | omega | (simp; done) | (simp; omega)) _ | refine Below.drew ?_))⟩
      case round =>
        obtain ⟨hs, hr, hb⟩ := hrel
        have HR := Lib.hid hr
        have HB := Lib.hid hb
        obtain ⟨cR, fR, zR⟩ := blkC hr
        obtain ⟨cP, fP, zP⟩ := blkC (blkStay HP.out hb)
        clear hr hb
        rcases hs with rfl | rfl
        · go_wp2_with (go_at_call 46; refine (HA.out _).mono ?_; rintro e w1 ⟨rfl, rfl⟩)
          go_roundw
          case rel => exact ⟨.inr rfl, (heap_alloc_old _ _ (by simp; omega)).trans ((heap_alloc_old _ _ zR).trans HR.out), HB.out.trans (Below.mono (show Below wr.heap.size wr _ from (by repeat (first | exact Below.refl _ _ | refine Below.alloc ?_ (by first | omega | (simp; done) | (simp; omega)) _ | refine Below.setCell ?_ (by first | omega | (simp; done) | (simp; omega)) _ | refine Below.drew ?_))) HB.out.size)⟩
          case measure => simp [intOf]
        · go_wp2_with (go_at_call 46; refine (HC.out _).mono ?_; rintro e w1 ⟨rfl, rfl⟩)
          go_ret
          exact ⟨rfl, HB.out.trans (Below.mono (show Below wr.heap.size wr _ from (by repeat (first | exact Below.refl _ _ | refine Below.alloc ?_ (by first | omega | (simp; done) | (simp; omega)) _ | refine Below.setCell ?_ (by first | omega | (simp; done) | (simp; omega)) _ | refine Below.drew ?_))) HB.out.size)⟩
    | true =>
      rw [if_neg (by simp)] at he
      subst he
      clear HE
      go_enter Try.func26, Try.ntmps26
      go_wp2
      go_loopw [9] (fun s9 wr => (s9 = .int .i64 0 ∨ s9 = .int .i64 1 ∨ s9 = .int .i64 2) ∧ wr.heap[w.heap.size]? = some (regObj X Y W H) ∧ Below w.heap.size w wr) (fun s9 _ => 3 - (intOf s9).toNat)
      case atStart => exact ⟨.inl rfl, by (first | (rw [heap_alloc_get, if_pos rfl]; done) | ((simp only [heap_alloc_get, heap_size_alloc, if_true]) <;> ((repeat' split) <;> first | rfl | omega))), (by repeat (first | exact Below.refl _ _ | refine Below.alloc ?_ (by first | omega | (simp; done) | (simp; omega)) _ | refine Below.setCell ?_ (by first | omega | (simp; done) | (simp; omega)) _ | refine Below.drew ?_))⟩
      case round =>
        obtain ⟨hs, hr, hb⟩ := hrel
        have HR := Lib.hid hr
        have HB := Lib.hid hb
        obtain ⟨cR, fR, zR⟩ := blkC hr
        obtain ⟨cP, fP, zP⟩ := blkC (blkStay HP.out hb)
        clear hr hb
        rcases hs with rfl | rfl | rfl
        · go_wp2_with (go_at_call 46; refine (HA.out _).mono ?_; rintro e w1 ⟨rfl, rfl⟩)
          go_roundw
          case rel => exact ⟨.inr (.inl rfl), (heap_alloc_old _ _ (by simp; omega)).trans ((heap_alloc_old _ _ zR).trans HR.out), HB.out.trans (Below.mono (show Below wr.heap.size wr _ from (by repeat (first | exact Below.refl _ _ | refine Below.alloc ?_ (by first | omega | (simp; done) | (simp; omega)) _ | refine Below.setCell ?_ (by first | omega | (simp; done) | (simp; omega)) _ | refine Below.drew ?_))) HB.out.size)⟩
          case measure => simp [intOf]
        · go_wp2_with (go_at_call 46; refine (HC.out _).mono ?_; rintro e w1 ⟨rfl, rfl⟩)
          go_roundw
          case rel => exact ⟨.inr (.inr rfl), (heap_alloc_old _ _ (by simp; omega)).trans ((heap_alloc_old _ _ zR).trans HR.out), HB.out.trans (Below.mono (show Below wr.heap.size wr _ from (by repeat (first | exact Below.refl _ _ | refine Below.alloc ?_ (by first | omega | (simp; done) | (simp; omega)) _ | refine Below.setCell ?_ (by first | omega | (simp; done) | (simp; omega)) _ | refine Below.drew ?_))) HB.out.size)⟩
          case measure => simp [intOf]
        · go_wp2
          go_ret
          exact ⟨rfl, HB.out⟩
end Go.Proofs.Ytjjafjdjdjonfaa

/- The error of a slice of singles, as both sides ask it. -/
namespace Go.Proofs.Ytjjafjdjdjonfaa
open Go.RowKit Fl
set_option linter.unusedVariables false

set_option maxHeartbeats 400000 in
theorem qNumberError_nil (a : Option Addr) (cap : Nat) (w : World) :
    Calls Try.prog 31 #[.slice a 0 cap] w fun e w' => e = .returned (.int .i64 0) ∧ w = w' := by
  go_enter Try.func31, Try.ntmps31
  go_wp2
  go_loop [9] (fun i => i = .int .i64 0) (fun _ => 0)
  case atStart => rfl
  case round =>
    subst hrel
    go_wp2
    go_loop [27] (fun i => i = .int .i64 0) (fun _ => 0)
    case atStart => rfl
    case round =>
      subst hrel
      go_wp2
      go_ret
      exact ⟨rfl, rfl⟩

/-- The error of a slice of singles, as both sides ask it, in whatever world behind. -/
def SlE (w : World) (a : Option Addr) (n cap : Nat) (er : Int) : Prop :=
  (∀ W', Below w.heap.size w W' → Calls Try.prog 38 #[.slice a n cap] W' fun e w' => e = .returned (.int .i64 er) ∧ W' = w') ∧
  (∀ W', Below w.heap.size w W' → Calls Try.prog 31 #[.slice a n cap] W' fun e w' => e = .returned (.int .i64 er) ∧ W' = w')

theorem SlE.stay {w w' : World} {a : Option Addr} {n cap : Nat} {er : Int} (h : SlE w a n cap er) (hb : Below w.heap.size w w') : SlE w' a n cap er :=
  ⟨fun W' hB => h.1 W' (hb.trans (hB.mono hb.size)), fun W' hB => h.2 W' (hb.trans (hB.mono hb.size))⟩

theorem slE_nil (w : World) (a : Option Addr) (cap : Nat) : SlE w a 0 cap 0 := ⟨fun W' _ => CheckHeights_nil a cap W', fun W' _ => qNumberError_nil a cap W'⟩

theorem slE_row {w : World} {b off n cap : Nat} {v : Nat → Nat} (h1 : 0 < n) (hl : n ≤ 9223372036854775807) (hc : FlAt w b off n v) : SlE w (some ⟨b, off, none⟩) n cap (fldE n v) := by
  have z : b < w.heap.size := World.block_lt_of_cell? w _ (hc 0 h1)
  exact ⟨fun W' hB => CheckHeights_row b off cap n v hl W' (flAt_congr hc (hB.block _ z)), fun W' hB => qNumberError_row b off cap n v hl W' (flAt_congr hc (hB.block _ z))⟩
end Go.Proofs.Ytjjafjdjdjonfaa

/- Contracts: Profile; Values. -/
namespace Go.Proofs.Ytjjafjdjdjonfaa
open Go.RowKit Fl
set_option linter.unusedVariables false

theorem insE_cases (X Y W H ax ay cx cy : Int) : insE X Y W H ax ay cx cy = 0 ∨ insE X Y W H ax ay cx cy = 5 := by unfold insE; (repeat' split) <;> simp
/-- What Profile answers. -/
def profE (X Y W H : Int) (n : Nat) (er ax ay cx cy : Int) : Int := if fldChk X Y W H n er ≠ 0 then fldChk X Y W H n er else insE X Y W H ax ay cx cy

set_option maxHeartbeats 2000000 in
theorem profile_no (X Y W H : Int) (a : Option Addr) (n cap : Nat) (er ax ay cx cy : Int) (w : World) (hE : SlE w a n cap er) (hz : profE X Y W H n er ax ay cx cy ≠ 0) :
    Calls Try.prog 6 #[fldV X Y W H (.slice a n cap), ptV ax ay, ptV cx cy] w fun e w' => e = .returned (.tuple #[.slice none 0 0, .int .i64 (profE X Y W H n er ax ay cx cy)]) ∧ Below w.heap.size w w' := by
  have CK := Lib.hid (fun W' (hB : Below w.heap.size w W') => checkA_any X Y W H a n cap er W' (hE.stay hB).1)
  by_cases h1 : fldChk X Y W H n er = 0
  · have e1 : profE X Y W H n er ax ay cx cy = insE X Y W H ax ay cx cy := by unfold profE; rw [if_neg (by simpa using h1)]
    rw [e1] at hz ⊢
    have h0 : checkR X Y W H = 0 := by
      unfold fldChk at h1
      by_cases q : checkR X Y W H = 0
      · exact q
      · rw [if_pos q] at h1; exact absurd h1 q
    obtain ⟨b1, b2, b3, b4, _, b6, b7, b8, b9⟩ := checkR_zero h0
    have CI := Lib.hid (fun p w hp => checkInside_two X Y W H ax ay cx cy p w hp (by omega) (by omega) (by omega) (by omega) (by omega) (by omega) (by omega) (by omega))
    have e2 : insE X Y W H ax ay cx cy = 5 := by have := insE_cases X Y W H ax ay cx cy; omega
    rw [e2] at CI ⊢
    rw [h1] at CK
    clear hE hz h1 e1 e2 h0 b1 b2 b3 b4 b6 b7 b8 b9
    go_enter Try.func6, Try.ntmps6
    go_wp2_with (first
      | (go_at_call 25; refine (CK.out _ (by repeat (first | exact Below.refl _ _ | refine Below.alloc ?_ (by first | omega | (simp; done) | (simp; omega)) _ | refine Below.setCell ?_ (by first | omega | (simp; done) | (simp; omega)) _ | refine Below.drew ?_))).mono ?_; rintro e w1 ⟨rfl, hb1⟩; have HF1 := Lib.hid (blkStay (b := w.heap.size) (o := fldO X Y W H (.slice a n cap)) (by (first | (rw [heap_alloc_get, if_pos rfl]; done) | ((simp only [heap_alloc_get, heap_size_alloc, if_true]) <;> ((repeat' split) <;> first | rfl | omega)))) hb1); have HA1 := Lib.hid (blkStay (b := w.heap.size + 1) (o := ptObj ax ay) (by (first | (rw [heap_alloc_get, if_pos rfl]; done) | ((simp only [heap_alloc_get, heap_size_alloc, if_true]) <;> ((repeat' split) <;> first | rfl | omega)))) hb1); have HC1 := Lib.hid (blkStay (b := w.heap.size + 1 + 1) (o := ptObj cx cy) (by (first | (rw [heap_alloc_get, if_pos rfl]; done) | ((simp only [heap_alloc_get, heap_size_alloc, if_true]) <;> ((repeat' split) <;> first | rfl | omega)))) hb1); have B1 := Lib.hid (Below.trans (show Below w.heap.size w (((w.alloc (fldO X Y W H (.slice a n cap))).alloc (ptObj ax ay)).alloc (ptObj cx cy)) from (by repeat (first | exact Below.refl _ _ | refine Below.alloc ?_ (by first | omega | (simp; done) | (simp; omega)) _ | refine Below.setCell ?_ (by first | omega | (simp; done) | (simp; omega)) _ | refine Below.drew ?_))) (hb1.mono (by simp; omega))); clear hb1; obtain ⟨cF, fF, zF⟩ := blkC HF1.out; obtain ⟨cA, fA, zA⟩ := blkC HA1.out; obtain ⟨cC, fC, zC⟩ := blkC HC1.out)
      | (go_at_call 26; refine (CI.out _ _ (heap_alloc_new _ _)).mono ?_; rintro e w2 ⟨rfl, hb2⟩; have B2 := Lib.hid (B1.out.trans (Below.mono (Below.trans (show Below w1.heap.size w1 _ from (by repeat (first | exact Below.refl _ _ | refine Below.alloc ?_ (by first | omega | (simp; done) | (simp; omega)) _ | refine Below.setCell ?_ (by first | omega | (simp; done) | (simp; omega)) _ | refine Below.drew ?_))) (hb2.mono (by simp))) B1.out.size)); clear hb2))
    go_ret2
    exact ⟨rfl, B2.out⟩
  · have e1 : profE X Y W H n er ax ay cx cy = fldChk X Y W H n er := by unfold profE; rw [if_pos h1]
    rw [e1]
    have hne : (fldChk X Y W H n er != 0) = true := by simpa using h1
    clear hE hz h1 e1
    generalize fldChk X Y W H n er = ce at *
    go_enter Try.func6, Try.ntmps6
    go_wp2_with (go_at_call 25; refine (CK.out _ (by repeat (first | exact Below.refl _ _ | refine Below.alloc ?_ (by first | omega | (simp; done) | (simp; omega)) _ | refine Below.setCell ?_ (by first | omega | (simp; done) | (simp; omega)) _ | refine Below.drew ?_))).mono ?_; rintro e w1 ⟨rfl, hb1⟩; have B1 := Lib.hid (Below.trans (show Below w.heap.size w (((w.alloc (fldO X Y W H (.slice a n cap))).alloc (ptObj ax ay)).alloc (ptObj cx cy)) from (by repeat (first | exact Below.refl _ _ | refine Below.alloc ?_ (by first | omega | (simp; done) | (simp; omega)) _ | refine Below.setCell ?_ (by first | omega | (simp; done) | (simp; omega)) _ | refine Below.drew ?_))) (hb1.mono (by simp; omega))); clear hb1)
    go_ret2
    exact ⟨rfl, B1.out⟩
/-- The value at a place. -/
def atP (X Y : Int) (W : Nat) (v : Nat → Nat) (p : Pnt) : Nat := v ((p.y - Y) * W + (p.x - X)).toNat
/-- Whether a place is in a region. -/
def InR (X Y W H : Int) (p : Pnt) : Prop := X ≤ p.x ∧ p.x < X + W ∧ Y ≤ p.y ∧ p.y < Y + H
theorem inR_num {X Y : Int} {W H n : Nat} {p : Pnt} (hW : 1 ≤ W) (h : InR X Y W H p) (hn : n = H * W) : ((((p.y - Y) * W + (p.x - X)).toNat : Nat) : Int) = (p.y - Y) * W + (p.x - X) ∧ ((p.y - Y) * W + (p.x - X)).toNat < n := by
  obtain ⟨h1, h2, h3, h4⟩ := h
  have q : 0 ≤ (p.y - Y) * W := Int.mul_nonneg (by omega) (by omega)
  have e : ((((p.y - Y) * W + (p.x - X)).toNat : Nat) : Int) = (p.y - Y) * W + (p.x - X) := Int.toNat_of_nonneg (by omega)
  exact ⟨e, num_lt hW h1 h2 h4 e hn⟩
theorem valueAtP_any (X Y : Int) (W H n b off cap : Nat) (v : Nat → Nat) (x y : Int) (w : World) (hr : FlAt w b off n v) (h0 : checkR X Y W H = 0) (hnn : n = W * H) (hp : InR X Y W H ⟨x, y⟩) :
    Calls Try.prog 27 #[fldV X Y W H (.slice (some ⟨b, off, none⟩) n cap), ptV x y] w fun e w' => e = .returned (.float .f32 (atP X Y W v ⟨x, y⟩)) ∧ Below w.heap.size w w' := by
  obtain ⟨b1, b2, b3, b4, b5, b6, b7, b8, b9⟩ := checkR_zero h0
  have hn2 : n ≤ 65536 := by
    have : ((W : Int) * (H : Int)) = (n : Int) := by rw [hnn]; simp
    omega
  have hn' : n = H * W := by rw [hnn, Nat.mul_comm]
  obtain ⟨e, _⟩ := inR_num (X := X) (Y := Y) (p := ⟨x, y⟩) (by omega) hp hn'
  exact valueAt_any X Y W H n b off cap v x y _ w hr hn2 (by omega) (by omega) (by omega) (by omega) (by omega) (by omega) (by omega) hn' hp.1 hp.2.1 hp.2.2.1 hp.2.2.2 e

/-- Profile's singles are there. -/
def ProfPost (w : World) (n : Nat) (f : Nat → Nat) (e : Ending) (w' : World) : Prop :=
  ∃ g cap, e = .returned (.tuple #[.slice (some ⟨g, 0, none⟩) n cap, .int .i64 0]) ∧ w.heap.size ≤ g ∧ FlAt w' g 0 n f ∧ Below w.heap.size w w'

set_option maxRecDepth 100000 in
set_option maxHeartbeats 4000000 in
theorem profile_ok (X Y : Int) (W H n b off cap : Nat) (v : Nat → Nat) (ax ay cx cy : Int) (m : Nat) (w : World) (hr : FlAt w b off n v) (hE : SlE w (some ⟨b, off, none⟩) n cap 0) (h0 : checkR X Y W H = 0) (hnn : n = W * H)
    (ha : InR X Y W H ⟨ax, ay⟩) (hc : InR X Y W H ⟨cx, cy⟩) (hi : insE X Y W H ax ay cx cy = 0) (hf : farI ⟨ax, ay⟩ ⟨cx, cy⟩ = m) (M : Nat) (hM : m + 1 = M) :
    Calls Try.prog 6 #[fldV X Y W H (.slice (some ⟨b, off, none⟩) n cap), ptV ax ay, ptV cx cy] w (ProfPost w M (fun i => atP X Y W v (lnP ⟨ax, ay⟩ ⟨cx, cy⟩ i))) := by
  obtain ⟨b1, b2, b3, b4, b5, b6, b7, b8, b9⟩ := checkR_zero h0
  have en : ((W : Int) * (H : Int)) = (n : Int) := by rw [hnn]; simp
  have hn1 : 1 ≤ n := by rw [hnn]; exact Nat.mul_pos (by omega) (by omega)
  have zb : b < w.heap.size := World.block_lt_of_cell? w _ (hr 0 hn1)
  obtain ⟨a1, a2, a3, a4⟩ := ha
  obtain ⟨c1, c2, c3, c4⟩ := hc
  simp only at a1 a2 a3 a4 c1 c2 c3 c4
  have hm : m ≤ 511 := by
    have h : farI ⟨ax, ay⟩ ⟨cx, cy⟩ = cx - ax ∨ farI ⟨ax, ay⟩ ⟨cx, cy⟩ = ax - cx ∨ farI ⟨ax, ay⟩ ⟨cx, cy⟩ = cy - ay ∨ farI ⟨ax, ay⟩ ⟨cx, cy⟩ = ay - cy := by
      unfold farI
      obtain ⟨_, _, u⟩ := maxI_le (cx - ax) (ax - cx)
      obtain ⟨_, _, u2⟩ := maxI_le (maxI (cx - ax) (ax - cx)) (cy - ay)
      obtain ⟨_, _, u3⟩ := maxI_le (maxI (maxI (cx - ax) (ax - cx)) (cy - ay)) (ay - cy)
      simp only
      omega
    omega
  have LN := Lib.hid (fun i (hi : i < m + 1) => show InR X Y W H (lnP ⟨ax, ay⟩ ⟨cx, cy⟩ i) from lnP_in (by rw [hf]; omega) ⟨a1, a2, a3, a4⟩ ⟨c1, c2, c3, c4⟩)
  have CK := Lib.hid (fun W' (hB : Below w.heap.size w W') => checkA_any X Y W H (some ⟨b, off, none⟩) n cap 0 W' (hE.stay hB).1)
  rw [show fldChk X Y W H n 0 = 0 from by unfold fldChk; rw [if_neg (by rw [h0]; simp), if_neg (by rw [en]; simp)]] at CK
  have CI := Lib.hid (fun p w hp => checkInside_two X Y W H ax ay cx cy p w hp (by omega) (by omega) (by omega) (by omega) (by omega) (by omega) (by omega) (by omega))
  rw [hi] at CI
  have LI := Lib.hid (fun w => line_any ax ay cx cy m w (by omega) (by omega) (by omega) (by omega) (by omega) (by omega) (by omega) (by omega) hf (by omega))
  have VA := Lib.hid (fun x y W' (hp : InR X Y W H ⟨x, y⟩) (hB : Below w.heap.size w W') => valueAtP_any X Y W H n b off cap v x y W' (flAt_congr hr (hB.block b zb)) h0 hnn hp)
  have MK := make_f32 (m + 1) (by omega)
  rw [hM] at LN LI MK
  have HM := Lib.hid (show M ≤ 512 by omega)
  clear hM
  have hsf := fun (w : World) (a : Addr) (m : Mode) (k : FloatKind) (b : Nat) => run_store_float (P := Try.prog) (w := w) (a := a) (m := m) k b
  clear hE h0 b1 b2 b3 b4 b5 b6 b7 b8 b9 en hn1 a1 a2 a3 a4 c1 c2 c3 c4 hi hf hnn hr hm
  generalize lnP ⟨ax, ay⟩ ⟨cx, cy⟩ = T at *
  go_enter Try.func6, Try.ntmps6
  go_wp2_with (first
    | (go_at_call 25; refine (CK.out _ (by repeat (first | exact Below.refl _ _ | refine Below.alloc ?_ (by first | omega | (simp; done) | (simp; omega)) _ | refine Below.setCell ?_ (by first | omega | (simp; done) | (simp; omega)) _ | refine Below.drew ?_))).mono ?_; rintro e w1 ⟨rfl, hb1⟩; have HF1 := Lib.hid (blkStay (b := w.heap.size) (o := fldO X Y W H (.slice (some ⟨b, off, none⟩) n cap)) (by (first | (rw [heap_alloc_get, if_pos rfl]; done) | ((simp only [heap_alloc_get, heap_size_alloc, if_true]) <;> ((repeat' split) <;> first | rfl | omega)))) hb1); have HA1 := Lib.hid (blkStay (b := w.heap.size + 1) (o := ptObj ax ay) (by (first | (rw [heap_alloc_get, if_pos rfl]; done) | ((simp only [heap_alloc_get, heap_size_alloc, if_true]) <;> ((repeat' split) <;> first | rfl | omega)))) hb1); have HC1 := Lib.hid (blkStay (b := w.heap.size + 1 + 1) (o := ptObj cx cy) (by (first | (rw [heap_alloc_get, if_pos rfl]; done) | ((simp only [heap_alloc_get, heap_size_alloc, if_true]) <;> ((repeat' split) <;> first | rfl | omega)))) hb1); have B1 := Lib.hid (Below.trans (show Below w.heap.size w (((w.alloc (fldO X Y W H (.slice (some ⟨b, off, none⟩) n cap))).alloc (ptObj ax ay)).alloc (ptObj cx cy)) from (by repeat (first | exact Below.refl _ _ | refine Below.alloc ?_ (by first | omega | (simp; done) | (simp; omega)) _ | refine Below.setCell ?_ (by first | omega | (simp; done) | (simp; omega)) _ | refine Below.drew ?_))) (hb1.mono (by simp; omega))); clear hb1; obtain ⟨cF, fF, zF⟩ := blkC HF1.out; obtain ⟨cA, fA, zA⟩ := blkC HA1.out; obtain ⟨cC, fC, zC⟩ := blkC HC1.out)
    | (go_at_call 26; refine (CI.out _ _ (heap_alloc_new _ _)).mono ?_; rintro e w2 ⟨rfl, hb2⟩; have hb2' := Below.trans (show Below w1.heap.size w1 _ from (by repeat (first | exact Below.refl _ _ | refine Below.alloc ?_ (by first | omega | (simp; done) | (simp; omega)) _ | refine Below.setCell ?_ (by first | omega | (simp; done) | (simp; omega)) _ | refine Below.drew ?_))) (hb2.mono (by simp)); have HF2 := Lib.hid (blkStay HF1.out hb2'); have HA2 := Lib.hid (blkStay HA1.out hb2'); have HC2 := Lib.hid (blkStay HC1.out hb2'); have B2 := Lib.hid (B1.out.trans (Below.mono hb2' B1.out.size)); clear hb2 hb2' cF fF zF cA fA zA cC fC zC; obtain ⟨cF, fF, zF⟩ := blkC HF2.out; obtain ⟨cA, fA, zA⟩ := blkC HA2.out; obtain ⟨cC, fC, zC⟩ := blkC HC2.out)
    | (go_at_call 24; refine (LI.out _).mono ?_; rintro e w3 ⟨g, gc, rfl, hg, hrow, hb3⟩; have HF3 := Lib.hid (blkStay HF2.out hb3); have B3 := Lib.hid (B2.out.trans (hb3.mono B2.out.size)); have HG := Lib.hid hg; have HR := Lib.hid hrow; clear hb3 hg hrow cF fF zF cA fA zA cC fC zC; obtain ⟨cF, fF, zF⟩ := blkC HF3.out))
  have HS := Lib.hid (show RowPart (w3.alloc (.cells (madeCells #[Value.float .f32 0] M) 50)) w3.heap.size M 0 (fun i => atP X Y W v (T i)) from ⟨madeCells #[Value.float .f32 0] M, heap_alloc_new _ _, by rw [size_madeCells]; exact Nat.le_refl _, fun j hj => by omega⟩)
  have BW := Lib.hid (show Below w3.heap.size w3 (w3.alloc (.cells (madeCells #[Value.float .f32 0] M) 50)) from (by repeat (first | exact Below.refl _ _ | refine Below.alloc ?_ (by first | omega | (simp; done) | (simp; omega)) _ | refine Below.setCell ?_ (by first | omega | (simp; done) | (simp; omega)) _ | refine Below.drew ?_)))
  clear cF fF zF MK
  generalize w3.alloc (.cells (madeCells #[Value.float .f32 0] M) 50) = w4 at *
  have ZF := Lib.hid ((blkC HF3.out).2.2)
  go_loopw [36] (fun s36 wr => ∃ k : Nat, k ≤ M ∧ s36 = .int .i64 k ∧ RowPart wr w3.heap.size M k (fun i => atP X Y W v (T i)) ∧ Below w3.heap.size w3 wr) (fun s36 _ => M - (intOf s36).toNat)
  case atStart => exact ⟨0, Nat.zero_le _, rfl, HS.out, BW.out⟩
  case round =>
    obtain ⟨k, hk, rfl, hrow, hb⟩ := hrel
    have HRw := Lib.hid hrow
    have HB := Lib.hid hb
    have HF := Lib.hid (blkStay HF3.out hb)
    have HPr := Lib.hid (HR.out.stay hb)
    clear hrow hb
    by_cases hlt : k < M
    · obtain ⟨p0, p1, zP⟩ := pt_at HPr.out hlt
      obtain ⟨cF, fF, zF⟩ := blkC HF.out
      have PK := Lib.hid (LN.out k hlt)
      have AK := Lib.hid (show atP X Y W v (T k) = atP X Y W v ⟨(T k).x, (T k).y⟩ from rfl)
      have VAK := Lib.hid (fun W' (hB : Below w.heap.size w W') => VA.out (T k).x (T k).y W' PK.out hB)
      have BWr := Lib.hid (B3.out.trans (HB.out.mono B3.out.size))
      have HLT := Lib.hid hlt
      generalize (T k).x = tx at *
      generalize (T k).y = ty at *
      go_wp2_with fail
      refine (VAK.out _ (BWr.out.trans (Below.mono (show Below wr.heap.size wr _ from (by repeat (first | exact Below.refl _ _ | refine Below.alloc ?_ (by first | omega | (simp; done) | (simp; omega)) _ | refine Below.setCell ?_ (by first | omega | (simp; done) | (simp; omega)) _ | refine Below.drew ?_))) BWr.out.size))).mono ?_
      rintro e w5 ⟨rfl, hb5⟩
      have HB5 := Lib.hid (Below.trans (show Below wr.heap.size wr (wr.alloc (ptObj tx ty)) from (by repeat (first | exact Below.refl _ _ | refine Below.alloc ?_ (by first | omega | (simp; done) | (simp; omega)) _ | refine Below.setCell ?_ (by first | omega | (simp; done) | (simp; omega)) _ | refine Below.drew ?_))) (hb5.mono (by simp)))
      have R5 := Lib.hid (HRw.out.congr (HB5.out.block _ HRw.out.lt))
      have z5 := R5.out.lt
      have f5 := R5.out.free k
      obtain ⟨x0, hx0⟩ := R5.out.cell hlt
      rw [← AK.out]
      have hM2 : (M : Int) ≤ 512 := by have := HM.out; omega
      clear hb5 cF fF zF p0 p1 zP
      go_wp2
      go_roundw
      case rel => exact ⟨k + 1, HLT.out, by go_num, R5.out.put hlt, (HB.out.trans (HB5.out.mono HB.out.size)).setCell (p := ⟨w3.heap.size, k, none⟩) (Nat.le_refl _) _⟩
      case measure => have := HLT.out; simp [intOf]; omega
    · have hkn : k = M := by omega
      subst hkn
      have HFL := Lib.hid HRw.out.flAt
      have BWr := Lib.hid (B3.out.trans (HB.out.mono B3.out.size))
      go_wp2
      go_ret2
      exact ⟨w3.heap.size, k, rfl, B3.out.size, HFL.out, BWr.out⟩
end Go.Proofs.Ytjjafjdjdjonfaa

/- Contract: Values of the reference. -/
namespace Go.Proofs.Ytjjafjdjdjonfaa
open Go.RowKit Fl
set_option linter.unusedVariables false

/-- What holds of the world when k singles have been appended to a list of one's own from the block base on. -/
structure FrAt (w0 : World) (base : Nat) (f : Nat → Nat) (k : Nat) (ov : Value) (wr : World) : Prop where
  own : wr.ownsRow base 50 1 ov k (rowL f k)
  bel : Below base w0 wr
  size : base ≤ wr.heap.size
theorem FrAt.push {w0 wr w5 w6 : World} {base k g' cap' : Nat} {f : Nat → Nat} {ov : Value} {o : Obj} (h : FrAt w0 base f k ov wr) (h5 : Below wr.heap.size wr w5)
    (hgrow : (w5.alloc o).grownBy w6 ov.ownBlock) (hown : w6.ownsRow base 50 1 (.slice (some ⟨g', 0, none⟩) (k + 1) cap') (k + 1) (rowL f k ++ [.float .f32 (f k)])) :
    FrAt w0 base f (k + 1) (.slice (some ⟨g', 0, none⟩) (k + 1) cap') w6 := by
  have z5 : base ≤ w5.heap.size := Nat.le_trans h.size h5.size
  have own5 := ownsRow_below h.own h5
  have B5 : Below base w0 w5 := h.bel.trans (h5.mono h.size)
  have e4 : ∀ j, j < base → w6.heap[j]? = w5.heap[j]? := fun j hj => (hgrow.block j (by show j < (w5.alloc o).heap.size; rw [heap_size_alloc]; omega) (ownsRow_far own5 hj)).trans (heap_alloc_old _ _ (by omega))
  have B4 : Below base w0 (w5.alloc o) := B5.alloc z5 o
  have z6 := hgrow.size
  rw [heap_size_alloc] at z6
  exact ⟨by rw [rowL_succ]; exact hown, ⟨hgrow.os.trans B4.os, hgrow.tape.trans B4.tape, hgrow.output.trans B4.output, Nat.le_trans B4.size hgrow.size, fun j hj => (e4 j hj).trans (B5.block j hj)⟩, by omega⟩

/-- A list of singles is there. -/
def FlsPost (w : World) (n : Nat) (f : Nat → Nat) (e : Ending) (w' : World) : Prop :=
  ∃ g cap, e = .returned (.slice (some ⟨g, 0, none⟩) n cap) ∧ w.heap.size ≤ g ∧ FlAt w' g 0 n f ∧ Below w.heap.size w w'

set_option maxRecDepth 100000 in
set_option maxHeartbeats 4000000 in
theorem values_any (X Y : Int) (W H n b off cap : Nat) (v : Nat → Nat) (g M gc : Nat) (T : Nat → Pnt) (w : World) (hr : FlAt w b off n v) (h0 : checkR X Y W H = 0) (hnn : n = W * H)
    (hT : PtRow w g M T) (hI : ∀ i, i < M → InR X Y W H (T i)) (hM1 : 1 ≤ M) (hM : M ≤ 65536) :
    Calls Try.prog 16 #[fldV X Y W H (.slice (some ⟨b, off, none⟩) n cap), .slice (some ⟨g, 0, none⟩) M gc] w (FlsPost w M (fun i => atP X Y W v (T i))) := by
  obtain ⟨b1, b2, b3, b4, b5, b6, b7, b8, b9⟩ := checkR_zero h0
  have en : ((W : Int) * (H : Int)) = (n : Int) := by rw [hnn]; simp
  have hn1 : 1 ≤ n := by rw [hnn]; exact Nat.mul_pos (by omega) (by omega)
  have zb : b < w.heap.size := World.block_lt_of_cell? w _ (hr 0 hn1)
  have CE := Lib.hid (fun x y w (hp : InR X Y W H ⟨x, y⟩) => qCell_any X Y W H x y w (by omega) (by omega) (by omega) (by omega) (by omega) (by omega) (by have := hp.1; simp only at this; omega) (by have := hp.2.1; simp only at this; omega) (by have := hp.2.2.1; simp only at this; omega) (by have := hp.2.2.2; simp only at this; omega))
  have NU := Lib.hid (fun p (hp : InR X Y W H p) => inR_num (X := X) (Y := Y) (W := W) (H := H) (n := n) (p := p) (by omega) hp (by rw [hnn, Nat.mul_comm]))
  have HT := Lib.hid hT
  have HI := Lib.hid hI
  have HR := Lib.hid hr
  have HM := Lib.hid hM
  have HM1 := Lib.hid hM1
  have hinfo : (Try.prog.info? 50).map (fun i => (i.zero, i.size, i.bytes)) = some (some (.float .f32 0), 1, 4) := by kernel_rfl
  obtain ⟨ti, hi, hz0, hz1, hz2⟩ := info_parts hinfo
  have HTI := Lib.hid hi
  have hn2 : (n : Int) ≤ 65536 := by omega
  have HN2 := Lib.hid hn2
  clear hr h0 hnn hT hI hM hM1 hinfo hi b1 b2 b3 b4 b5 b6 b7 b8 b9 en hn1 hn2
  go_enter Try.func16, Try.ntmps16
  go_wp2
  obtain ⟨w1, hw1⟩ : ∃ w1, w1 = w.alloc (fldO X Y W H (.slice (some ⟨b, off, none⟩) n cap)) := ⟨_, rfl⟩
  have HF := Lib.hid (show w1.heap[w.heap.size]? = some (fldO X Y W H (.slice (some ⟨b, off, none⟩) n cap)) from by rw [hw1]; (first | (rw [heap_alloc_get, if_pos rfl]; done) | ((simp only [heap_alloc_get, heap_size_alloc, if_true]) <;> ((repeat' split) <;> first | rfl | omega))))
  have B1 := Lib.hid (show Below w.heap.size w w1 from by rw [hw1]; exact (by repeat (first | exact Below.refl _ _ | refine Below.alloc ?_ (by first | omega | (simp; done) | (simp; omega)) _ | refine Below.setCell ?_ (by first | omega | (simp; done) | (simp; omega)) _ | refine Below.drew ?_)))
  try rw [← hw1]
  clear hw1
  have HS := Lib.hid (show FrAt w1 w1.heap.size (fun i => atP X Y W v (T i)) 0 (.slice none 0 0) w1 from ⟨⟨by simp [rowL], .inl ⟨rfl, rfl⟩⟩, Below.refl _ _, Nat.le_refl _⟩)
  go_loopw [5, 10] (fun l s10 wr => ∃ (k : Nat) (ov : Value), k ≤ M ∧ s10 = .int .i64 k ∧ ov = l ∧ FrAt w1 w1.heap.size (fun i => atP X Y W v (T i)) k ov wr) (fun _ s10 _ => M - (intOf s10).toNat)
  case atStart => exact ⟨0, _, Nat.zero_le _, rfl, rfl, HS.out⟩
  case round =>
    obtain ⟨k, ov, hk, rfl, rfl, hm⟩ := hrel
    have HMr := Lib.hid hm
    have HFr := Lib.hid (blkStay HF.out hm.bel)
    have BWr := Lib.hid (B1.out.trans (hm.bel.mono B1.out.size))
    clear hm
    by_cases hlt : k < M
    · obtain ⟨p0, p1, zP⟩ := pt_at (HT.out.stay BWr.out) hlt
      have PK := HI.out k hlt
      obtain ⟨e1, e2⟩ := NU.out _ PK
      have AK := Lib.hid (show atP X Y W v (T k) = v (((T k).y - Y) * W + ((T k).x - X)).toNat from rfl)
      have CEK := Lib.hid (fun w => CE.out (T k).x (T k).y w PK)
      obtain ⟨j, hj⟩ : ∃ j, (((T k).y - Y) * (W : Int) + ((T k).x - X)).toNat = j := ⟨_, rfl⟩
      rw [hj] at e1 e2 AK
      rw [← e1] at CEK
      have hcell := (flAt_congr HR.out (BWr.out.block b zb)) j e2
      have HC := Lib.hid hcell
      have zbr : b < wr.heap.size := World.block_lt_of_cell? wr _ hcell
      have hj2 : (j : Int) < (n : Int) := by omega
      have HLT := Lib.hid hlt
      have HK := Lib.hid (show k + 1 ≤ 65536 by have := HM.out; omega)
      clear e1 e2 hj PK hcell
      generalize (T k).x = tx at *
      generalize (T k).y = ty at *
      have hi := HTI.out
      have hN := HN2.out
      go_upto_region 5 with fail
      have HP5 := Lib.hid (show (wr.alloc (ptObj tx ty)).heap[wr.heap.size]? = some (ptObj tx ty) from heap_alloc_new _ _)
      have BP5 := Lib.hid (show Below wr.heap.size wr (wr.alloc (ptObj tx ty)) from (by repeat (first | exact Below.refl _ _ | refine Below.alloc ?_ (by first | omega | (simp; done) | (simp; omega)) _ | refine Below.setCell ?_ (by first | omega | (simp; done) | (simp; omega)) _ | refine Below.drew ?_)))
      have HF5 := Lib.hid (blkStay HFr.out BP5.out)
      have HC5 := Lib.hid ((Below.cell (p := ⟨b, off + j, none⟩) BP5.out zbr).trans HC.out)
      clear p0 p1 zP
      generalize wr.alloc (ptObj tx ty) = w5 at *
      obtain ⟨cF, fF, zF⟩ := blkC HF5.out
      obtain ⟨cP, fP, zP⟩ := blkC HP5.out
      have cV := HC5.out
      go_region_law (first
        | (go_simp; (with_reducible refine Calls.mono (CEK.out _) ?_); rintro e w7 ⟨rfl, hb7⟩; have hb7' : Below w5.heap.size w5 w7 := ⟨hb7.os, hb7.tape, hb7.output, hb7.size, hb7.block⟩; have B7 := Lib.hid hb7'; have OW7 := Lib.hid (ownsRow_below HMr.out.own (BP5.out.trans (hb7'.mono BP5.out.size))); clear cF fF zF cP fP zP cV; obtain ⟨cF, fF, zF⟩ := blkC (blkStay HF5.out hb7'); have cV := (Below.cell (p := ⟨b, off + j, none⟩) hb7' (World.block_lt_of_cell? w5 _ HC5.out)).trans HC5.out; clear hb7 hb7')
        | (refine step_append_lies _ (by rfl) _ _ _ (by rfl) w1.heap.size 50 ti _ 1 4 Try.underlying24 hi hz0 hz1 hz2 rfl (by omega) ov k (rowL (fun i => atP X Y W v (T i)) k) (by rfl) (OW7.out.alloc _) ⟨w7.heap.size, 0, none⟩ 1 1 [.float .f32 (v j)] (by rfl) (by rfl) (World.news_of_block (cs := #[.float .f32 (v j)]) (t := 50) (fr := (0, 0)) (heap_alloc_new w7 _)) (by simp [Value.oneCell']) (by omega) (by have := HK.out; unfold maxLen; omega) (by have := HK.out; omega) (by have := HMr.out.size; have := BP5.out.size; have := B7.out.size; simp; omega) (w7.heap.size + 1) (by simp) ?_; intro g' cap' w8 hown8 hgrow hat hlt8))
      all_goals
        have HN8 := Lib.hid (FrAt.push (o := .cells #[.float .f32 (v j)] 50) HMr.out (BP5.out.trans (B7.out.mono BP5.out.size)) ⟨hgrow.os, hgrow.tape, hgrow.output, hgrow.size, hgrow.block⟩ (by rw [AK.out]; exact hown8))
        clear hown8 hgrow hat hlt8
        have hk2 : (k : Int) ≤ 65536 := by have := HK.out; omega
        go_wp2
        go_roundw
        case rel => exact ⟨k + 1, _, HLT.out, by go_num, rfl, HN8.out⟩
        case measure => have := HLT.out; simp [intOf]; omega
    · have hkn : k = M := by omega
      subst hkn
      obtain ⟨g', gcap, rfl, _, _⟩ := HMr.out.own.form (show 0 < k from HM1.out)
      obtain ⟨q1, q2, q3⟩ := ownsRow_flAt HMr.out.own (show 0 < k from HM1.out)
      have Q1 := Lib.hid q1
      have Q3 := Lib.hid (show w.heap.size ≤ g' by have := B1.out.size; omega)
      clear q1 q2 q3
      go_wp2
      go_ret
      exact ⟨g', gcap, rfl, Q3.out, Q1.out, BWr.out⟩
end Go.Proofs.Ytjjafjdjdjonfaa

/- Contracts: squareAt, mean, Down. -/
namespace Go.Proofs.Ytjjafjdjdjonfaa
open Go.RowKit Fl
set_option linter.unusedVariables false

abbrev sqV (a b c d : Nat) : Value := .agg #[.float .f32 a, .float .f32 b, .float .f32 c, .float .f32 d]
/-- The mean of four singles, as the words on the way. -/
structure MeanAt (a b c d s1 s2 s3 m : Nat) : Prop where
  e1 : floatBits .add .f32 a b = some s1
  e2 : floatBits .add .f32 c d = some s2
  e3 : floatBits .add .f32 s1 s2 = some s3
  e4 : floatBits .mul .f32 s3 1048576000 = some m
/-- The mean as a word. -/
def meanW (a b c d : Nat) : Nat :=
  (floatBits .mul .f32 ((floatBits .add .f32 ((floatBits .add .f32 a b).getD 0) ((floatBits .add .f32 c d).getD 0)).getD 0) 1048576000).getD 0
theorem MeanAt.w {a b c d s1 s2 s3 m : Nat} (h : MeanAt a b c d s1 s2 s3 m) : meanW a b c d = m := by
  unfold meanW
  rw [h.e1, h.e2, Option.getD_some, Option.getD_some, h.e3, Option.getD_some, h.e4, Option.getD_some]

set_option maxHeartbeats 1000000 in
theorem mean_any (a b c d s1 s2 s3 m : Nat) (h : MeanAt a b c d s1 s2 s3 m) (w : World) :
    Calls Try.prog 51 #[sqV a b c d] w fun e w' => e = .returned (.float .f32 m) ∧ Below w.heap.size w w' := by
  have x1 := fun (ww : World) => run_float_arith (P := Try.prog) ww .add 50 .f32 a b s1 h.e1
  have x2 := fun (ww : World) => run_float_arith (P := Try.prog) ww .add 50 .f32 c d s2 h.e2
  have x3 := fun (ww : World) => run_float_arith (P := Try.prog) ww .add 50 .f32 s1 s2 s3 h.e3
  have x4 := fun (ww : World) => run_float_arith (P := Try.prog) ww .mul 50 .f32 s3 1048576000 m h.e4
  clear h
  go_enter Try.func51, Try.ntmps51
  go_wp2
  go_ret
  exact ⟨rfl, (by repeat (first | exact Below.refl _ _ | refine Below.alloc ?_ (by first | omega | (simp; done) | (simp; omega)) _ | refine Below.setCell ?_ (by first | omega | (simp; done) | (simp; omega)) _ | refine Below.drew ?_))⟩

theorem store_sq0 {w : World} {p o x : Nat} {cs : Array Value} {t : TypeId} {m : Mode} (h : w.heap[p]? = some (.cells cs t (0, 0))) (ho : o < cs.size) :
    (store ⟨p, o, none⟩ (.float .f32 x) m).run Try.prog w = .ok () (w.setCell ⟨p, o, none⟩ (.float .f32 x)) := by
  obtain ⟨c, f, z⟩ := blkC h
  have c0 := c o
  have f0 := f o
  rw [run_store_float]
  have : cs[o]? = some cs[o] := Array.getElem?_eq_getElem ho
  rw [this] at c0
  simp [stored, c0, f0]
theorem store_sq {w : World} {p o x : Nat} {cs : Array Value} {t : TypeId} {m : Mode} (h : w.heap[p]? = some (.cells cs t (0, 0))) (ho : o < cs.size) :
    (store ⟨p, o, none⟩ (.float .f32 x) m).run Try.prog w.drew = .ok () (w.setCell ⟨p, o, none⟩ (.float .f32 x)).drew := store_sq0 (w := w.drew) h ho
theorem store4_sq {w : World} {p : Nat} {z0 z1 z2 z3 : Value} {t : TypeId} (h : w.heap[p]? = some (.cells #[z0, z1, z2, z3] t (0, 0))) (a b c d : Nat) :
    (store ⟨p, 0, none⟩ (.float .f32 a) .plain).run Try.prog w.drew = .ok () (w.setCell ⟨p, 0, none⟩ (.float .f32 a)).drew ∧
    (store ⟨p, 1, none⟩ (.float .f32 b) .plain).run Try.prog (w.setCell ⟨p, 0, none⟩ (.float .f32 a)).drew = .ok () ((w.setCell ⟨p, 0, none⟩ (.float .f32 a)).setCell ⟨p, 1, none⟩ (.float .f32 b)).drew ∧
    (store ⟨p, 2, none⟩ (.float .f32 c) .plain).run Try.prog ((w.setCell ⟨p, 0, none⟩ (.float .f32 a)).setCell ⟨p, 1, none⟩ (.float .f32 b)).drew = .ok () (((w.setCell ⟨p, 0, none⟩ (.float .f32 a)).setCell ⟨p, 1, none⟩ (.float .f32 b)).setCell ⟨p, 2, none⟩ (.float .f32 c)).drew ∧
    (store ⟨p, 3, none⟩ (.float .f32 d) .plain).run Try.prog (((w.setCell ⟨p, 0, none⟩ (.float .f32 a)).setCell ⟨p, 1, none⟩ (.float .f32 b)).setCell ⟨p, 2, none⟩ (.float .f32 c)).drew = .ok () ((((w.setCell ⟨p, 0, none⟩ (.float .f32 a)).setCell ⟨p, 1, none⟩ (.float .f32 b)).setCell ⟨p, 2, none⟩ (.float .f32 c)).setCell ⟨p, 3, none⟩ (.float .f32 d)).drew := by
  have h1 := heap_setCell_same w p 0 _ _ (.float .f32 a) h
  have h2 := heap_setCell_same _ p 1 _ _ (.float .f32 b) h1
  have h3 := heap_setCell_same _ p 2 _ _ (.float .f32 c) h2
  exact ⟨store_sq h (by simp), store_sq h1 (by simp), store_sq h2 (by simp), store_sq h3 (by simp)⟩
abbrev sqO : Obj := .cells #[.float .f32 0, .float .f32 0, .float .f32 0, .float .f32 0] 79
set_option maxRecDepth 100000 in
set_option maxHeartbeats 4000000 in
theorem squareAt_any (X Y : Int) (W H n b off cap : Nat) (v : Nat → Nat) (i : Nat) (w : World) (hr : FlAt w b off n v) (hn : n ≤ 65536) (hW : W ≤ 512) (hi : i + W + 1 < n) :
    Calls Try.prog 50 #[fldV X Y W H (.slice (some ⟨b, off, none⟩) n cap), .int .i64 i] w fun e w' => e = .returned (sqV (v i) (v (i + 1)) (v (i + W)) (v (i + W + 1))) ∧ Below w.heap.size w w' := by
  have k0 := hr i (by omega)
  have k1 := hr (i + 1) (by omega)
  have k2 := hr (i + W) (by omega)
  have k3 := hr (i + W + 1) (by omega)
  have zb : b < w.heap.size := World.block_lt_of_cell? w _ k0
  obtain ⟨i1, e1⟩ : ∃ k, k = i + 1 := ⟨_, rfl⟩
  obtain ⟨i2, e2⟩ : ∃ k, k = i + W := ⟨_, rfl⟩
  obtain ⟨i3, e3⟩ : ∃ k, k = i + W + 1 := ⟨_, rfl⟩
  rw [← e3, ← e1, ← e2]
  rw [← e1] at k1
  rw [← e2] at k2
  rw [← e3] at k3
  have f1 : (i : Int) + 1 = (i1 : Int) := by omega
  have f2 : (i : Int) + (W : Int) = (i2 : Int) := by omega
  have f3 : (i2 : Int) + 1 = (i3 : Int) := by omega
  have u1 : IntKind.i64.wrap ((i : Int) + 1) = (i1 : Int) := by rw [f1]; exact IntWalk.i64_in _ (by omega)
  have u2 : IntKind.i64.wrap ((i : Int) + (W : Int)) = (i2 : Int) := by rw [f2]; exact IntWalk.i64_in _ (by omega)
  have u3 : IntKind.i64.wrap ((i2 : Int) + 1) = (i3 : Int) := by rw [f3]; exact IntWalk.i64_in _ (by omega)
  have g0 : (i : Int) < (n : Int) := by omega
  have g1 : (i1 : Int) < (n : Int) := by omega
  have g2 : (i2 : Int) < (n : Int) := by omega
  have g3 : (i3 : Int) < (n : Int) := by omega
  have p0 : (0 : Int) ≤ (i : Int) := by omega
  have p1 : (0 : Int) ≤ (i1 : Int) := by omega
  have p2 : (0 : Int) ≤ (i2 : Int) := by omega
  have p3 : (0 : Int) ≤ (i3 : Int) := by omega
  have hsf := fun (w : World) (a : Addr) (m : Mode) (k : FloatKind) (b : Nat) => run_store_float (P := Try.prog) (w := w) (a := a) (m := m) k b
  clear hr hn hW hi e1 e2 e3 f1 f2 f3
  go_enter Try.func50, Try.ntmps50
  go_wp2
  have HF := Lib.hid (show ((w.alloc (fldO X Y W H (.slice (some ⟨b, off, none⟩) n cap))).alloc sqO).heap[w.heap.size]? = some (fldO X Y W H (.slice (some ⟨b, off, none⟩) n cap)) from by (first | (rw [heap_alloc_get, if_pos rfl]; done) | ((simp only [heap_alloc_get, heap_size_alloc, if_true]) <;> ((repeat' split) <;> first | rfl | omega))))
  have HR := Lib.hid (show ((w.alloc (fldO X Y W H (.slice (some ⟨b, off, none⟩) n cap))).alloc sqO).heap[w.heap.size + 1]? = some sqO from by (first | (rw [heap_alloc_get, if_pos rfl]; done) | ((simp only [heap_alloc_get, heap_size_alloc, if_true]) <;> ((repeat' split) <;> first | rfl | omega))))
  have HB := Lib.hid (show Below w.heap.size w ((w.alloc (fldO X Y W H (.slice (some ⟨b, off, none⟩) n cap))).alloc sqO) from (by repeat (first | exact Below.refl _ _ | refine Below.alloc ?_ (by first | omega | (simp; done) | (simp; omega)) _ | refine Below.setCell ?_ (by first | omega | (simp; done) | (simp; omega)) _ | refine Below.drew ?_)))
  generalize (w.alloc (fldO X Y W H (.slice (some ⟨b, off, none⟩) n cap))).alloc sqO = w2 at *
  obtain ⟨cF, fF, zF⟩ := blkC HF.out
  have j0 := (Below.cell (p := ⟨b, off + i, none⟩) HB.out zb).trans k0
  have j1 := (Below.cell (p := ⟨b, off + i1, none⟩) HB.out zb).trans k1
  have j2 := (Below.cell (p := ⟨b, off + i2, none⟩) HB.out zb).trans k2
  have j3 := (Below.cell (p := ⟨b, off + i3, none⟩) HB.out zb).trans k3
  obtain ⟨s0, s1, s2, s3⟩ := store4_sq HR.out (v i) (v i1) (v i2) (v i3)
  have h1 := heap_setCell_same w2 (w.heap.size + 1) 0 _ _ (.float .f32 (v i)) HR.out
  have h2 := heap_setCell_same _ (w.heap.size + 1) 1 _ _ (.float .f32 (v i1)) h1
  have h3 := heap_setCell_same _ (w.heap.size + 1) 2 _ _ (.float .f32 (v i2)) h2
  have h4 := heap_setCell_same _ (w.heap.size + 1) 3 _ _ (.float .f32 (v i3)) h3
  have h5 : ((((w2.setCell ⟨w.heap.size + 1, 0, none⟩ (.float .f32 (v i))).setCell ⟨w.heap.size + 1, 1, none⟩ (.float .f32 (v i1))).setCell ⟨w.heap.size + 1, 2, none⟩ (.float .f32 (v i2))).setCell ⟨w.heap.size + 1, 3, none⟩ (.float .f32 (v i3))).drew.heap[w.heap.size + 1]? = _ := h4
  have HRES := (blkC h5).1
  have HBEL := Lib.hid ((((HB.out.setCell (p := ⟨w.heap.size + 1, 0, none⟩) (show w.heap.size ≤ w.heap.size + 1 by omega) (.float .f32 (v i))).setCell (p := ⟨w.heap.size + 1, 1, none⟩) (show w.heap.size ≤ w.heap.size + 1 by omega) (.float .f32 (v i1))).setCell (p := ⟨w.heap.size + 1, 2, none⟩) (show w.heap.size ≤ w.heap.size + 1 by omega) (.float .f32 (v i2))).setCell (p := ⟨w.heap.size + 1, 3, none⟩) (show w.heap.size ≤ w.heap.size + 1 by omega) (.float .f32 (v i3))).drew
  clear h1 h2 h3 h4 h5 k0 k1 k2 k3 hsf
  go_still_tail 31, (by kernel_rfl)
  change wpList _ _ _ _ _ w2.drew
  go_wp2
  refine bodyPost_ret (v := sqV (v i) (v i1) (v i2) (v i3)) (by simp [results, Try.results50, go_sem, HRES]) rfl ?_
  exact ⟨rfl, HBEL.out⟩
end Go.Proofs.Ytjjafjdjdjonfaa

/- Whether one of four integers is odd, as the program asks it. -/
namespace Go.Proofs.Ytjjafjdjdjonfaa
open Go.RowKit

theorem par_toNat (a : Int) : ((BitVec.ofInt 64 a).toNat : Int) % 2 = a % 2 := by
  rw [BitVec.toNat_ofInt]
  omega
theorem par_wrap (n : Int) : (IntKind.i64.wrap n) % 2 = n % 2 := by
  rw [IntKind.wrap_i64]; omega
theorem bits_or_par (a b : Int) : (bits .or .i64 a b) % 2 = 0 ↔ (a % 2 = 0 ∧ b % 2 = 0) := by
  have h : bits .or .i64 a b = IntKind.i64.wrap ((BitVec.ofInt 64 a ||| BitVec.ofInt 64 b).toNat : Int) := rfl
  rw [h, par_wrap, BitVec.toNat_or]
  have p := par_toNat a
  have q := par_toNat b
  have r := @Nat.or_mod_two_eq_one (BitVec.ofInt 64 a).toNat (BitVec.ofInt 64 b).toNat
  omega
theorem bits_and_one (a : Int) : bits .and .i64 a 1 = a % 2 := by
  have h : bits .and .i64 a 1 = IntKind.i64.wrap ((BitVec.ofInt 64 a &&& BitVec.ofInt 64 1).toNat : Int) := rfl
  rw [h, BitVec.toNat_and]
  have p := par_toNat a
  have e : (BitVec.ofInt 64 1).toNat = 1 := by decide
  rw [e, Nat.and_one_is_mod, IntKind.wrap_i64]
  omega
/-- Whether one of four integers is odd. -/
theorem odd4 (a b c d : Int) : bits .and .i64 (bits .or .i64 (bits .or .i64 (bits .or .i64 a b) c) d) 1 = 0 ↔ (a % 2 = 0 ∧ b % 2 = 0 ∧ c % 2 = 0 ∧ d % 2 = 0) := by
  rw [bits_and_one, bits_or_par, bits_or_par, bits_or_par]
  omega
end Go.Proofs.Ytjjafjdjdjonfaa
