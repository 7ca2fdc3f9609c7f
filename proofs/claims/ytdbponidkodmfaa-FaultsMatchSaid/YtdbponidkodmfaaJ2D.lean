/- Lemmas and contracts for the proof that the last text of this claim holds. -/
import Derived.Test.YtdbponidkodmfaaJ2C

/- What a fault throws a cell by: words and bounds. -/
namespace Go.Proofs.Ytdbponidkodmfaa
open Go.RowKit Fl
set_option linter.unusedVariables false

/-- A quotient of a value below 0 and of one above 0 lies below 0, where it is not too small. -/
theorem quo_neg {x y q A B : Nat} {c : Int} (h : floatBits .quo .f32 x y = some q) (hx : vS x = some (-(A : Int))) (hy : vS y = some (B : Int)) (a0 : 0 < A) (b0 : 0 < B) (hba : B ≤ A * 2 ^ 40) (hab : A ≤ B * 2 ^ 60) (hc : vS q = some c) : c < 0 := by
  obtain ⟨s, m, i, e1, ha⟩ := vS_some hx
  obtain ⟨t, n, j, e2, hb⟩ := vS_some hy
  have g1 := read_single e1
  have g2 := read_single e2
  have l1 := g1.low
  have l2 := g2.low
  have q1 := g1.high
  have q2 := g2.high
  have s1 := g1.small
  have s2 := g2.small
  rw [vOf_mag] at ha hb
  have hs : s = true := by
    cases s with
    | true => rfl
    | false => rw [if_neg (by simp)] at ha; have : (0 : Int) ≤ ((m * 2 ^ (i + 1074).toNat : Nat) : Int) := Int.natCast_nonneg _; omega
  have ht : t = false := by
    cases t with
    | false => rfl
    | true => rw [if_pos rfl] at hb; have : (0 : Int) ≤ ((n * 2 ^ (j + 1074).toNat : Nat) : Int) := Int.natCast_nonneg _; omega
  subst hs ht
  have ha' : m * 2 ^ (i + 1074).toNat = A := by
    have : (((m * 2 ^ (i + 1074).toNat : Nat)) : Int) = (A : Int) := by rw [if_pos rfl] at ha; omega
    exact Int.ofNat.inj this
  have hb' : n * 2 ^ (j + 1074).toNat = B := by
    have : (((n * 2 ^ (j + 1074).toNat : Nat)) : Int) = (B : Int) := by simpa using hb
    exact Int.ofNat.inj this
  have hm : 0 < m := by
    rcases Nat.eq_zero_or_pos m with z | z
    · subst z; simp at ha'; omega
    · exact z
  have hn : 0 < n := by
    rcases Nat.eq_zero_or_pos n with z | z
    · subst z; simp at hb'; omega
    · exact z
  obtain ⟨T, hT⟩ : ∃ T : Nat, T = 1074 := ⟨_, rfl⟩
  have h' : ((Ieee.single.read x).quotient (Ieee.single.fractionBits + 2) (Ieee.single.read y)).map Ieee.single.write = some q := h
  rw [e1, e2] at h'
  have ln24 : n.log2 < 24 := log_lt (by rw [show (2 : Nat) ^ 24 = 16777216 by decide]; exact s2) (by omega)
  obtain ⟨l, k, hQ, wS⟩ := quot_word Ieee.single 925 leastS (s := true) (t := false) (m := m) (n := n) (i := i) (j := j) hm hn (by omega) (by omega) (by rw [fbS]; omega) hT
  rw [wS] at h'
  rw [ha', hb'] at hQ
  have hq := Option.some.inj h'
  subst hq
  obtain ⟨k1, k2⟩ := hQ.bounds b0
  have hlow := hQ.hi
  rw [fbS] at k1 k2 hlow
  have hl : 1000 < l := by
    have c : A * 2 ^ T < A * 2 ^ (40 + (l + 23 + 1)) := by
      calc A * 2 ^ T < B * 2 ^ (l + 23 + 1) := hlow
        _ ≤ A * 2 ^ 40 * 2 ^ (l + 23 + 1) := Nat.mul_le_mul_right _ hba
        _ = A * 2 ^ (40 + (l + 23 + 1)) := by rw [Nat.mul_assoc, ← Nat.pow_add]
    have := Nat.lt_of_mul_lt_mul_left c
    have := (Nat.pow_lt_pow_iff_right (by omega : 1 < 2)).1 this
    omega
  have hk : 8388608 ≤ k := by
    rcases k2 with e | e
    · omega
    · exact e
  have hlo := hQ.lo
  rw [fbS] at hlo
  have hlo' : B * 2 ^ (l + 23) ≤ A * 2 ^ T := by
    rcases hlo with e | e
    · omega
    · exact e
  have hl2 : l + 23 ≤ T + 60 := by
    have c : B * 2 ^ (l + 23) ≤ B * 2 ^ (60 + T) := by
      calc B * 2 ^ (l + 23) ≤ A * 2 ^ T := hlo'
        _ ≤ B * 2 ^ 60 * 2 ^ T := Nat.mul_le_mul_right _ hab
        _ = B * 2 ^ (60 + T) := by rw [Nat.mul_assoc, ← Nat.pow_add]
    have := Nat.le_of_mul_le_mul_left c b0
    have := (Nat.pow_le_pow_iff_right (by omega : 1 < 2)).1 this
    omega
  have hV : k * 2 ^ l < 2 ^ (T + 70) := by
    calc k * 2 ^ l ≤ 2 ^ 24 * 2 ^ l := Nat.mul_le_mul_right _ k1
      _ = 2 ^ (24 + l) := by rw [← Nat.pow_add]
      _ < 2 ^ (T + 70) := Nat.pow_lt_pow_right (by omega) (by omega)
  have hv := vS_word (sg := true) (V := k * 2 ^ l) (B := T + 70) hV (by omega)
  have hr : rd Ieee.single 925 (k * 2 ^ l) = k * 2 ^ l := by
    rcases Nat.lt_or_ge k 16777216 with c | c
    · exact rd_exact Ieee.single 925 k l (by rw [fbS]; exact c) (by omega)
    · have : k = 8388608 * 2 := by omega
      subst this
      rw [Nat.mul_assoc, ← Nat.pow_succ']
      exact rd_exact Ieee.single 925 8388608 (l + 1) (by rw [fbS]; decide) (by omega)
  rw [hr] at hv
  have hx' : (true ^^ false) = true := rfl
  rw [hx'] at hc
  rw [hv] at hc
  have := Option.some.inj hc
  rw [if_pos rfl] at this
  have p := Nat.mul_pos (show 0 < k by omega) (Nat.two_pow_pos l)
  omega

/-- A great integer as a single. -/
theorem conv_big {n : Int} (h : n.natAbs ≤ 4398046511104) : ∃ v, vS (floatOfInt .f32 n) = some v ∧ Bd 42 (floatOfInt .f32 n) ∧ (0 ≤ n → 0 ≤ v) ∧ (n < 0 → v ≤ -(one : Int)) := by
  obtain ⟨J, hJ⟩ : ∃ J : Nat, J = 1074 := ⟨_, rfl⟩
  have e : 2 ^ (42 + J) = 4398046511104 * one := by rw [one_pow hJ, Nat.pow_add]
  have op := one_pos
  have hn : (n * (one : Int)).natAbs ≤ 2 ^ (42 + J) := by
    rw [Int.natAbs_mul, Int.natAbs_natCast, e]
    exact Nat.mul_le_mul_right _ h
  have v := vS_int (B := 43 + J) (n := n) (by rw [show 43 + J = 42 + J + 1 by omega, Nat.pow_succ]; have := Nat.two_pow_pos (42 + J); omega) (by omega)
  have top : rdS ((2 ^ (42 + J) : Nat) : Int) = ((2 ^ (42 + J) : Nat) : Int) := rdS_exact 1 (42 + J) (by decide) (by omega) (by simp)
  have hi := rdS_mono (show n * (one : Int) ≤ ((2 ^ (42 + J) : Nat) : Int) by omega)
  have lo := rdS_mono (show -((2 ^ (42 + J) : Nat) : Int) ≤ n * (one : Int) by omega)
  rw [top] at hi
  rw [rdS_neg, top] at lo
  refine ⟨_, v, bd_val' v (j := 42 + J) (by omega) (by omega), fun h => rdS_nonneg (Int.mul_nonneg h (by omega)), fun h => ?_⟩
  have := rdS_mono (show n * (one : Int) ≤ -(one : Int) by
    have := Int.mul_le_mul_of_nonneg_right (show n ≤ -1 by omega) (show (0 : Int) ≤ (one : Int) by omega)
    omega)
  rwa [rdS_neg, rdS_self vS_one] at this

/-- A length that divides: at least 1, and not too great. -/
def LenIn (M : Nat) : Prop := ∃ c, vS M = some c ∧ (one : Int) ≤ c ∧ c ≤ 4096 * (one : Int)
theorem len_in {A B : Int} (l1 : A.natAbs ≤ 1000) (l2 : B.natAbs ≤ 1000) (p : 1 ≤ sq3 A B 0) : LenIn (lenW A B 0) := by
  obtain ⟨⟨X, Z, cc, RT⟩, c, hc, c1⟩ := dir_len l1 l2 (by decide : (0 : Int).natAbs ≤ 1000) p
  have s1 := sq_small l1
  have s2 := sq_small l2
  have hs : sq3 A B 0 ≤ 16777216 := by unfold sq3; omega
  refine ⟨c, hc, c1, ?_⟩
  have hv := RT.val
  unfold lenW at hc
  rw [hc] at hv
  rw [Option.some.inj hv]
  have := RT.hi 4096 (by decide) (Int.mul_le_mul_of_nonneg_right (by simpa using hs) (by have := one_pos; omega))
  simpa using this

/-- What a fault of the width Wd and the throw T throws, at the place k over the length M. -/
def dstW (k : Int) (M : Nat) : Nat := quoW (floatOfInt .f32 k) M
def midW (d : Nat) (Wd : Int) (T : Nat) : Nat := mulW T (easeW (quoW (addW d (floatOfInt .f32 Wd)) (floatOfInt .f32 (Wd * 2))))
def thrW (k : Int) (M : Nat) (Wd : Int) (T : Nat) : Nat :=
  if (FloatKind.f32.format.order (dstW k M) (floatOfInt .f32 Wd) == some .gt || FloatKind.f32.format.order (dstW k M) (floatOfInt .f32 Wd) == some .eq) = true then T
  else if (FloatKind.f32.format.order (dstW k M) (negW (floatOfInt .f32 Wd)) == some .lt || FloatKind.f32.format.order (dstW k M) (negW (floatOfInt .f32 Wd)) == some .eq) = true then 0
  else midW (dstW k M) Wd T

structure MidAt (d u : Nat) (Wd : Int) (T s z q p q' r' e r : Nat) : Prop where
  s1 : floatBits .add .f32 d u = some s
  s2 : Same2 .add 43 d u
  x1 : floatBits .mul .f32 u 1073741824 = some z
  x2 : Same2 .mul 26 u 1073741824
  xw : floatOfInt .f32 (Wd * 2) = z
  q1 : floatBits .quo .f32 s z = some q
  q2 : Same2 .quo 0 s z
  ea : EaseAt q p q' r' e
  wi : wiE q 0 1065353216 = 0
  r1 : floatBits .mul .f32 T e = some r
  r2 : Same2 .mul 20 T e
  bd : Bd 20 r
  lt : r < 4294967296
  w : midW d Wd T = r

structure ThrAt (k : Int) (M : Nat) (Wd : Int) (T d u : Nat) (c1 c2 : Bool) : Prop where
  d1 : floatBits .quo .f32 (floatOfInt .f32 k) M = some d
  d2 : Same2 .quo 42 (floatOfInt .f32 k) M
  dw : dstW k M = d
  uw : floatOfInt .f32 Wd = u
  g1 : (FloatKind.f32.format.order d u == some .gt || FloatKind.f32.format.order d u == some .eq) = c1
  g2 : (FloatKind.f32.format.order d (negW u) == some .lt || FloatKind.f32.format.order d (negW u) == some .eq) = c2
  z : Wd = 0 → k < 0 → c1 = false ∧ c2 = true
  mid : c1 = false → c2 = false → ∃ s z q p q' r' e r, MidAt d u Wd T s z q p q' r' e r

theorem thr_parts {k : Int} {M : Nat} {Wd : Int} {T : Nat} (hk : k.natAbs ≤ 4398046511104) (hM : LenIn M) (w0 : 0 ≤ Wd) (w1 : Wd ≤ 4096) (hT : hgtB T = true) : ∃ d u c1 c2, ThrAt k M Wd T d u c1 c2 := by
  have op := one_pos
  obtain ⟨v, hv, bv, vp, vn⟩ := conv_big hk
  obtain ⟨c, hc, cl, ch⟩ := hM
  have d2 : Same2 .quo 42 (floatOfInt .f32 k) M := div_by (by omega) bv hc cl
  obtain ⟨d, d1, bd⟩ := same_ex d2
  obtain ⟨vd, hd, hdb⟩ := val_bd bd
  obtain ⟨vu, bu⟩ := int_val (n := Wd) (by omega)
  obtain ⟨u, hu⟩ : ∃ u, floatOfInt .f32 Wd = u := ⟨_, rfl⟩
  have lu : u < 4294967296 := by rw [← hu]; exact floatOfInt_lt _
  rw [hu] at vu bu
  have vnu := neg_val lu vu
  refine ⟨d, u, _, _, d1, d2, by unfold dstW quoW; rw [d1]; rfl, hu, rfl, rfl, ?_, ?_⟩
  · intro zw kn
    subst zw
    have hneg : vd < 0 := by
      have v1 := vn kn
      obtain ⟨A, hA⟩ : ∃ A : Nat, v = -(A : Int) := ⟨(-v).toNat, by omega⟩
      obtain ⟨B, hB⟩ : ∃ B : Nat, c = (B : Int) := ⟨c.toNat, by omega⟩
      have hAb : A ≤ 2 ^ (1074 + 42) := by
        obtain ⟨a, ha, l⟩ := val_bd bv
        rw [hv] at ha
        have := Option.some.inj ha
        rw [← this, hA] at l
        omega
      obtain ⟨J, hJ⟩ : ∃ J : Nat, J = 1074 := ⟨_, rfl⟩
      have hAb' : A ≤ one * 2 ^ 42 := by rw [one_pow hJ, ← Nat.pow_add]; rw [← hJ] at hAb; exact hAb
      clear hAb hJ hdb
      subst hA hB
      have hA1 : one ≤ A := by omega
      have hB1 : one ≤ B := by omega
      have hB2 : B ≤ 4096 * one := by omega
      exact quo_neg d1 hv hc (Nat.lt_of_lt_of_le op hA1) (Nat.lt_of_lt_of_le op hB1) (Nat.le_trans hB2 (by rw [Nat.mul_comm]; exact Nat.mul_le_mul hA1 (by decide))) (Nat.le_trans hAb' (Nat.mul_le_mul hB1 (Nat.pow_le_pow_right (by decide) (by decide)))) hd
    rw [Int.zero_mul] at vu vnu
    constructor
    · rw [f32f, geq_val hd vu]; simpa using hneg
    · rw [f32f, leq_val hd vnu]; simp; omega
  · intro e1 e2
    rw [f32f, geq_val hd vu] at e1
    rw [f32f, leq_val hd vnu] at e2
    have f1 : vd < Wd * (one : Int) := by simpa using e1
    have f2 : -(Wd * (one : Int)) < vd := by simpa using e2
    have wp : 1 ≤ Wd := by
      rcases Int.lt_or_le Wd 1 with z | z
      · have : Wd = 0 := by omega
        subst this; rw [Int.zero_mul] at f1 f2; omega
      · exact z
    have s2 : Same2 .add (42 + 1) d u := add_same (k := 42) (by omega) bd (bd_up bu (by omega))
    obtain ⟨s, s1, _⟩ := same_ex s2
    obtain ⟨B, hB⟩ : ∃ B : Nat, B = 1150 := ⟨_, rfl⟩
    obtain ⟨vz, _⟩ := int_val (n := Wd * 2) (by omega)
    obtain ⟨O, hO⟩ : ∃ O : Int, (one : Int) = O := ⟨_, rfl⟩
    have Op : 0 < O := by omega
    have wz : Wd * 2 * (one : Int) = 2 * (Wd * (one : Int)) := by rw [Int.mul_right_comm, Int.mul_comm]
    have wu : Wd * (one : Int) ≤ 4096 * (one : Int) := Int.mul_le_mul_of_nonneg_right w1 (by omega)
    have wl : (one : Int) ≤ Wd * (one : Int) := by
      have := Int.mul_le_mul_of_nonneg_right wp (show (0 : Int) ≤ (one : Int) by omega)
      omega
    have vs : vS s = some (rdS (vd + Wd * (one : Int))) := vS_add (B := B) s1 hd vu (small_of (n := 13) (by omega) (by rw [show ((2 ^ 13 : Nat) : Int) = 8192 by decide]; omega) (by omega)) (by omega)
    have s0 : 0 ≤ rdS (vd + Wd * (one : Int)) := rdS_nonneg (by omega)
    have sT : rdS (vd + Wd * (one : Int)) ≤ 2 * (Wd * (one : Int)) := by
      have := rdS_mono (show vd + Wd * (one : Int) ≤ 2 * (Wd * (one : Int)) by omega)
      rwa [rdS_dbl vu] at this
    have x2 : Same2 .mul (24 + 2) u 1073741824 := mul_same (by omega) bu bd_two
    obtain ⟨z, x1, _⟩ := same_ex x2
    have vz' : vS z = some (2 * (Wd * (one : Int))) := by
      have v := vS_mul (B := B) x1 vu vS_two (show Wd * (one : Int) * (2 * (one : Int)) = 2 * (Wd * (one : Int)) * (one : Int) by rw [← Int.mul_assoc, Int.mul_comm _ 2]) (small_of (n := 13) (by omega) (by rw [show ((2 ^ 13 : Nat) : Int) = 8192 by decide]; omega) (by omega)) (by omega)
      rwa [rdS_dbl vu] at v
    have xw : floatOfInt .f32 (Wd * 2) = z := word_inj (floatOfInt_lt _) (mul_lt x1) (by rw [vz, wz]) vz' (by omega)
    have q2 : Same2 .quo 0 s z := div_val vs vz' (by omega) (by omega) (by omega)
    obtain ⟨q, q1, bq⟩ := same_ex q2
    obtain ⟨a, ha, hab⟩ := val_bd bq
    have a0 := quo_sign q1 vs vz' ha s0 (by omega)
    obtain ⟨J, hJ⟩ : ∃ J : Nat, J = 1074 := ⟨_, rfl⟩
    have a1 : a ≤ (one : Int) := by
      rw [one_pow hJ]; rw [Nat.add_zero, ← hJ] at hab; omega
    obtain ⟨p, q', r', e, E⟩ := ease_parts (bd_unit ha (by omega) a1)
    obtain ⟨dd, hdd, dd0, dd1⟩ := ease_in ha a0 a1
    rw [E.w] at hdd
    obtain ⟨r, r1, r2, br, lr⟩ := hgt_share hT hdd dd0 dd1
    refine ⟨s, z, q, p, q', r', e, r, s1, s2, x1, x2, xw, q1, q2, E, wi_unit ha a0 a1, r1, r2, br, lr, ?_⟩
    unfold midW
    rw [hu, xw]
    have es : addW d u = s := by unfold addW; rw [s1]; rfl
    have eq : quoW s z = q := by unfold quoW; rw [q1]; rfl
    rw [es, eq, E.w]; unfold mulW; rw [r1]; rfl

theorem thr_bd {k : Int} {M : Nat} {Wd : Int} {T : Nat} (hk : k.natAbs ≤ 4398046511104) (hM : LenIn M) (w0 : 0 ≤ Wd) (w1 : Wd ≤ 4096) (hT : hgtB T = true) : Bd 20 (thrW k M Wd T) := by
  obtain ⟨d, u, c1, c2, H⟩ := thr_parts hk hM w0 w1 hT
  unfold thrW
  rw [H.dw, H.uw, H.g1, H.g2]
  cases c1 with
  | true => rw [if_pos rfl]; exact hgt_bd hT
  | false =>
    rw [if_neg (by simp)]
    cases c2 with
    | true => rw [if_pos rfl]; exact bd_val vS_zero (Nat.zero_le _)
    | false =>
      rw [if_neg (by simp)]
      obtain ⟨s, z, q, p, q', r', e, r, m⟩ := H.mid rfl rfl
      rw [m.w]; exact m.bd
end Go.Proofs.Ytdbponidkodmfaa

/- The weight of a brush, as a word; what its steps come to; it lies from 0 to 1. -/
namespace Go.Proofs.Ytdbponidkodmfaa
open Go.RowKit Fl
set_option linter.unusedVariables false

/-- The square of the distance of two places. -/
def sqD (x y X Y : Int) : Int := (x - X) * (x - X) + (y - Y) * (y - Y)
def coneW (n R : Int) : Nat := subW 1065353216 (quoW (rootW (floatOfInt .f32 n)) (floatOfInt .f32 R))
def bellT (n F : Int) : Nat := subW 1065353216 (quoW (floatOfInt .f32 n) (floatOfInt .f32 F))
/-- The weight, by the square of the distance. -/
def weiW (k n R : Int) : Nat := if R * R ≤ n then 0 else if k = 2 then coneW n R else if k = 3 then mulW (bellT n (R * R)) (bellT n (R * R)) else 1065353216

theorem one_minus {q : Nat} {c : Int} (hb : Bd 0 q) (hc : vS q = some c) (c0 : 0 ≤ c) : ∃ r, floatBits .sub .f32 1065353216 q = some r ∧ Same2 .sub 1 1065353216 q ∧ ∃ d, vS r = some d ∧ 0 ≤ d ∧ d ≤ (one : Int) := by
  obtain ⟨a, ha, hab⟩ := val_bd hb
  rw [hc] at ha
  have ha' := Option.some.inj ha
  subst ha'
  obtain ⟨J, hJ⟩ : ∃ J : Nat, J = 1074 := ⟨_, rfl⟩
  have c1 : c ≤ (one : Int) := by
    rw [one_pow hJ]; rw [Nat.add_zero, ← hJ] at hab; omega
  have s : Same2 .sub 1 1065353216 q := sub_same (k := 0) (by omega) (bd_one 0) hb
  obtain ⟨r, e, _⟩ := same_ex s
  obtain ⟨B, hB⟩ : ∃ B : Nat, B = 1100 := ⟨_, rfl⟩
  have lt : one < 2 ^ B := one_lt (by omega)
  have v : vS r = some (rdS ((one : Int) - c)) := vS_sub (B := B) e vS_one hc (by omega) (by omega)
  refine ⟨r, e, s, _, v, rdS_nonneg (by omega), ?_⟩
  have := rdS_mono (show (one : Int) - c ≤ (one : Int) by omega)
  rwa [rdS_self vS_one] at this

structure ConeAt (n R : Int) (X Z : Nat) (c : Int) (q r : Nat) : Prop where
  rt : RootAt (floatOfInt .f32 n) (n * (one : Int)) X Z c
  q1 : floatBits .quo .f32 (rootW (floatOfInt .f32 n)) (floatOfInt .f32 R) = some q
  q2 : Same2 .quo 0 (rootW (floatOfInt .f32 n)) (floatOfInt .f32 R)
  r1 : floatBits .sub .f32 1065353216 q = some r
  r2 : Same2 .sub 1 1065353216 q
  w : coneW n R = r
  v : ∃ d, vS r = some d ∧ 0 ≤ d ∧ d ≤ (one : Int)

theorem cone_parts {n R : Int} (n0 : 0 ≤ n) (r1 : 1 ≤ R) (r2 : R ≤ 256) (h : n < R * R) : ∃ X Z c q r, ConeAt n R X Z c q r := by
  have hR : R * R ≤ 65536 := by
    have := Int.mul_le_mul r2 r2 (by omega) (by omega); omega
  obtain ⟨vn, bn⟩ := int_val (n := n) (by omega)
  obtain ⟨vr, _⟩ := int_val (n := R) (by omega)
  have hp : (0 : Int) < (one : Int) := Int.natCast_pos.2 one_pos
  obtain ⟨X, Z, c, RT⟩ := root_parts vn (Int.mul_nonneg n0 (by omega)) bn (by omega)
  obtain ⟨g, hg⟩ : ∃ g : Nat, R = g := ⟨R.toNat, by omega⟩
  have cR : c ≤ R * (one : Int) := by
    rw [hg]
    refine RT.hi g (by omega) ?_
    rw [Int.natCast_mul, ← hg]
    exact Int.mul_le_mul_of_nonneg_right (by omega) (by omega)
  have c0 := RT.nn
  have Rp : 0 < R * (one : Int) := Int.mul_pos (by omega) hp
  have q2 : Same2 .quo 0 (rootW (floatOfInt .f32 n)) (floatOfInt .f32 R) := div_val RT.val vr (by omega) (by omega) (by rw [Nat.pow_zero, Nat.mul_one]; omega)
  obtain ⟨q, q1, bq⟩ := same_ex q2
  obtain ⟨cq, hcq, _⟩ := val_bd bq
  obtain ⟨r, e1, e2, v⟩ := one_minus bq hcq (quo_sign q1 RT.val vr hcq c0 Rp)
  exact ⟨X, Z, c, q, r, RT, q1, q2, e1, e2, by unfold coneW quoW subW; rw [q1]; show (floatBits .sub .f32 1065353216 q).getD 0 = r; rw [e1]; rfl, v⟩

structure BellAt (n F : Int) (q t r : Nat) : Prop where
  q1 : floatBits .quo .f32 (floatOfInt .f32 n) (floatOfInt .f32 F) = some q
  q2 : Same2 .quo 0 (floatOfInt .f32 n) (floatOfInt .f32 F)
  t1 : floatBits .sub .f32 1065353216 q = some t
  t2 : Same2 .sub 1 1065353216 q
  r1 : floatBits .mul .f32 t t = some r
  r2 : Same2 .mul 0 t t
  w : mulW (bellT n F) (bellT n F) = r
  v : ∃ d, vS r = some d ∧ 0 ≤ d ∧ d ≤ (one : Int)

theorem unit_square {t : Nat} {a : Int} (h : vS t = some a) (a0 : 0 ≤ a) (a1 : a ≤ (one : Int)) : ∃ r, floatBits .mul .f32 t t = some r ∧ Same2 .mul 0 t t ∧ ∃ d, vS r = some d ∧ 0 ≤ d ∧ d ≤ (one : Int) := by
  have bt := bd_unit h (by omega) a1
  have s : Same2 .mul 0 t t := mul_same (a := 0) (b := 0) (by omega) bt bt
  obtain ⟨r, e, _⟩ := same_ex s
  obtain ⟨P, hP⟩ := mul_unit h h
  have hone : (0 : Int) < (one : Int) := Int.natCast_pos.2 one_pos
  have P0 : 0 ≤ P := by
    have := Int.mul_nonneg a0 a0
    rw [hP] at this
    exact Int.le_of_mul_le_mul_right (by rw [Int.zero_mul]; exact this) hone
  have P1 : P ≤ (one : Int) := by
    have := Int.mul_le_mul a1 a1 a0 (Int.le_of_lt hone)
    rw [hP] at this
    exact Int.le_of_mul_le_mul_right this hone
  obtain ⟨B, hB⟩ : ∃ B : Nat, B = 1100 := ⟨_, rfl⟩
  have lt : one < 2 ^ B := one_lt (by omega)
  have v := vS_mul (B := B) e h h hP (by omega) (by omega)
  refine ⟨r, e, s, _, v, rdS_nonneg P0, ?_⟩
  have := rdS_mono P1
  rwa [rdS_self vS_one] at this

theorem bell_parts {n F : Int} (n0 : 0 ≤ n) (f2 : F ≤ 65536) (h : n < F) : ∃ q t r, BellAt n F q t r := by
  obtain ⟨vn, bn⟩ := int_val (n := n) (by omega)
  obtain ⟨vf, _⟩ := int_val (n := F) (by omega)
  have hp : (0 : Int) < (one : Int) := Int.natCast_pos.2 one_pos
  have Fp : 0 < F * (one : Int) := Int.mul_pos (by omega) hp
  have N0 : 0 ≤ n * (one : Int) := Int.mul_nonneg n0 (by omega)
  have NF : n * (one : Int) ≤ F * (one : Int) := Int.mul_le_mul_of_nonneg_right (by omega) (by omega)
  have q2 : Same2 .quo 0 (floatOfInt .f32 n) (floatOfInt .f32 F) := div_val vn vf (by omega) (by omega) (by rw [Nat.pow_zero, Nat.mul_one]; omega)
  obtain ⟨q, q1, bq⟩ := same_ex q2
  obtain ⟨cq, hcq, _⟩ := val_bd bq
  obtain ⟨t, t1, t2, d, vd, d0, d1⟩ := one_minus bq hcq (quo_sign q1 vn vf hcq N0 Fp)
  obtain ⟨r, r1, r2, v⟩ := unit_square vd d0 d1
  have et : bellT n F = t := by unfold bellT quoW subW; rw [q1]; show (floatBits .sub .f32 1065353216 q).getD 0 = t; rw [t1]; rfl
  exact ⟨q, t, r, q1, q2, t1, t2, r1, r2, by rw [et]; unfold mulW; rw [r1]; rfl, v⟩

/-- A weight lies from 0 to 1. -/
theorem wei_in {k n R : Int} (n0 : 0 ≤ n) (r1 : 1 ≤ R) (r2 : R ≤ 256) : ∃ d, vS (weiW k n R) = some d ∧ 0 ≤ d ∧ d ≤ (one : Int) := by
  have hp := one_pos
  have hR : R * R ≤ 65536 := by
    have := Int.mul_le_mul r2 r2 (by omega) (by omega); omega
  unfold weiW
  split
  · exact ⟨0, vS_zero, by omega, by omega⟩
  · rename_i h
    split
    · obtain ⟨X, Z, c, q, r, C⟩ := cone_parts n0 r1 r2 (by omega)
      rw [C.w]; exact C.v
    · split
      · obtain ⟨q, t, r, C⟩ := bell_parts n0 hR (by omega)
        rw [C.w]; exact C.v
      · exact ⟨_, vS_one, by omega, by omega⟩
end Go.Proofs.Ytdbponidkodmfaa

/- Contracts of the regions' functions, continued: the reference's Grow; Common, Inside. -/
namespace Go.Proofs.Ytdbponidkodmfaa
open Go.RowKit

set_option maxHeartbeats 1000000 in
theorem landed_any (w : World) : Calls Try.prog 9 #[] w fun e w' => e = .returned (.bool true) ∧ Below w.heap.size w w' := by
  go_enter Try.func9, Try.ntmps9
  go_wp2
  go_ret
  exact ⟨rfl, (by repeat (first | exact Below.refl _ _ | refine Below.alloc ?_ (by first | omega | (simp; done) | (simp; omega)) _ | refine Below.setCell ?_ (by first | omega | (simp; done) | (simp; omega)) _ | refine Below.drew ?_))⟩

def insideB (x y w h x' y' w' h' : Int) : Bool := decide (x' ≤ x) && decide (y' ≤ y) && decide (x + w ≤ x' + w') && decide (y + h ≤ y' + h')
theorem insideB_iff {x y w h x' y' w' h' : Int} : insideB x y w h x' y' w' h' = true ↔ x' ≤ x ∧ y' ≤ y ∧ x + w ≤ x' + w' ∧ y + h ≤ y' + h' := by simp [insideB]; omega

set_option maxHeartbeats 1000000 in
theorem inside_any (x y ww hh x' y' ww' hh' : Int) (w : World) (a1 : -1073741824 ≤ x) (a2 : x ≤ 1073741824) (a3 : -1073741824 ≤ y) (a4 : y ≤ 1073741824) (a5 : 1 ≤ ww) (a6 : ww ≤ 1073741824) (a7 : 1 ≤ hh) (a8 : hh ≤ 1073741824)
    (b1 : -1073741824 ≤ x') (b2 : x' ≤ 1073741824) (b3 : -1073741824 ≤ y') (b4 : y' ≤ 1073741824) (b5 : 1 ≤ ww') (b6 : ww' ≤ 1073741824) (b7 : 1 ≤ hh') (b8 : hh' ≤ 1073741824) :
    Calls Try.prog 111 #[reg x y ww hh, reg x' y' ww' hh'] w fun e w' => e = .returned (.bool (insideB x y ww hh x' y' ww' hh')) ∧ Below w.heap.size w w' := by
  go_enter Try.func111, Try.ntmps111
  go_wp2
  all_goals go_ret
  all_goals refine ⟨ret_bool ?_, (by repeat (first | exact Below.refl _ _ | refine Below.alloc ?_ (by first | omega | (simp; done) | (simp; omega)) _ | refine Below.setCell ?_ (by first | omega | (simp; done) | (simp; omega)) _ | refine Below.drew ?_))⟩
  all_goals simp [insideB, *]
  all_goals omega

end Go.Proofs.Ytdbponidkodmfaa

/- Contracts: slices.Contains of the three kinds, CheckPlace, CheckBrush of both sides, the boxes. -/
namespace Go.Proofs.Ytdbponidkodmfaa
open Go.RowKit Fl
set_option linter.unusedVariables false

abbrev kindsObj : Obj := .cells #[.int .i64 1, .int .i64 2, .int .i64 3] 3

/-- The error of a place. -/
def plcE (x y : Int) : Int := if withinB x (-4194304) 4194304 = true ∧ withinB y (-4194304) 4194304 = true then 0 else 5

set_option maxHeartbeats 400000 in
theorem isPlace_any (x : Int) (w : World) :
    Calls Try.prog 133 #[.int .i64 x] w fun e w' => e = .returned (.bool (withinB x (-4194304) 4194304)) ∧ w = w' := by
  go_enter Try.func133, Try.ntmps133
  go_wp2_with (go_at_call 63; refine (within_any _ _ _ _).mono ?_; rintro e w' ⟨rfl, rfl⟩)
  go_ret
  exact ⟨rfl, rfl⟩

set_option maxHeartbeats 400000 in
theorem checkPlace_any (x y : Int) (w : World) :
    Calls Try.prog 61 #[.int .i64 x, .int .i64 y] w fun e w' => e = .returned (.int .i64 (plcE x y)) ∧ w = w' := by
  have PX := Lib.hid (fun w => isPlace_any x w)
  have PY := Lib.hid (fun w => isPlace_any y w)
  unfold plcE
  generalize withinB x (-4194304) 4194304 = c at *
  generalize withinB y (-4194304) 4194304 = d at *
  cases c <;> cases d
  all_goals go_enter Try.func61, Try.ntmps61
  all_goals go_wp2_with (first | (go_at_call 133; (with_reducible refine (PX.out _).mono ?_); rintro e w' ⟨rfl, rfl⟩) | (go_at_call 133; (with_reducible refine (PY.out _).mono ?_); rintro e w' ⟨rfl, rfl⟩))
  all_goals go_ret
  all_goals exact ⟨rfl, rfl⟩

/-- A brush as a value; its cells. -/
abbrev bru (k X Y R : Int) (h : Nat) : Value := .agg #[.int .i64 k, .int .i64 X, .int .i64 Y, .int .i64 R, .float .f32 h]
/-- The error of a brush. -/
def bruE (k X Y R : Int) (h : Nat) : Int := if withinB k 1 3 = false then 1 else if plcE X Y ≠ 0 then plcE X Y else if withinB R 1 256 = false then 3 else fldE 1 (fun _ => h)

theorem plcE_cases (x y : Int) : plcE x y = 0 ∨ plcE x y = 5 := by unfold plcE; split <;> simp

end Go.Proofs.Ytdbponidkodmfaa

/- Contracts: weight of the program; square and Weight of the reference. -/
namespace Go.Proofs.Ytdbponidkodmfaa
open Go.RowKit Fl
set_option linter.unusedVariables false

theorem side_sq {d : Int} (a : -8388608 ≤ d) (b : d ≤ 8388608) : 0 ≤ d * d ∧ d * d ≤ 70368744177664 := by
  have := Int.natAbs_mul d d
  have h : d * d = ((d.natAbs * d.natAbs : Nat) : Int) := by rw [Int.natCast_mul]; exact (Int.natAbs_mul_self' d).symm
  have l : d.natAbs * d.natAbs ≤ 8388608 * 8388608 := Nat.mul_le_mul (by omega) (by omega)
  omega
theorem rad_sq {R : Int} (r1 : 1 ≤ R) (r2 : R ≤ 256) : 1 ≤ R * R ∧ R * R ≤ 65536 := by
  have a := Int.mul_le_mul r2 r2 (by omega) (by omega)
  have b := Int.mul_le_mul r1 r1 (by omega) (by omega)
  omega

theorem drewBox (w : World) (o : Obj) (k : Nat) {w' : World} (h : w' = (w.alloc o).drewN k) : Below w.heap.size w w' := by
  rw [h]
  exact ((Below.refl _ _).alloc (Nat.le_refl _) _).trans ((below_drewN _ _).mono (by simp))
theorem drewBox2 (w : World) (o : Obj) (j k : Nat) {w' : World} (h : w' = ((w.alloc o).drewN j).drewN k) : Below w.heap.size w w' := by
  rw [h, World.drewN_drewN]; exact drewBox w o _ rfl

end Go.Proofs.Ytdbponidkodmfaa

/- Contracts: a fault's check, of both sides. -/
namespace Go.Proofs.Ytdbponidkodmfaa
open Go.RowKit Fl
set_option linter.unusedVariables false

/-- A fault as a value; its cells. -/
abbrev fau (A B C D : Int) (h : Nat) : Value := .agg #[.int .i64 A, .int .i64 B, .int .i64 C, .int .i64 D, .float .f32 h]
abbrev fauObj (A B C D : Int) (h : Nat) : Obj := .cells #[.int .i64 A, .int .i64 B, .int .i64 C, .int .i64 D, .float .f32 h] 45
/-- The error of a fault. -/
def fauE (A B C D : Int) (h : Nat) : Int := if withinB C (-1099511627776) 1099511627776 = false ∨ withinB D 0 4096 = false then 3 else if dirE A B 0 ≠ 0 then dirE A B 0 else fldE 1 (fun _ => h)

structure FauOk (A B C D : Int) (h : Nat) : Prop where
  a1 : A.natAbs ≤ 1000
  b1 : B.natAbs ≤ 1000
  sq : 1 ≤ sq3 A B 0
  c1 : -1099511627776 ≤ C
  c2 : C ≤ 1099511627776
  p1 : 0 ≤ D
  p2 : D ≤ 4096
  hh : hgtB h = true

theorem fau_ok {A B C D : Int} {h : Nat} (e : fauE A B C D h = 0) : FauOk A B C D h := by
  unfold fauE at e
  split at e
  · cases e
  · rename_i c
    split at e
    · rename_i d; exact absurd e d
    · rename_i d
      have d' : dirE A B 0 = 0 := by omega
      obtain ⟨l1, l2, _, sq⟩ := dir_ok d'
      have cC : withinB C (-1099511627776) 1099511627776 = true := by
        cases q : withinB C (-1099511627776) 1099511627776 with
        | true => rfl
        | false => exact absurd (.inl q) c
      have cD : withinB D 0 4096 = true := by
        cases q : withinB D 0 4096 with
        | true => rfl
        | false => exact absurd (.inr q) c
      obtain ⟨c1, c2⟩ := withinB_iff.1 cC
      obtain ⟨p1, p2⟩ := withinB_iff.1 cD
      exact ⟨l1, l2, sq, c1, c2, p1, p2, allB_iff.1 (fldE_zero.1 e) 0 (by omega)⟩

set_option maxHeartbeats 1000000 in
set_option maxRecDepth 100000 in
theorem checkFault_any (A B C D : Int) (h : Nat) (w : World) :
    Calls Try.prog 23 #[fau A B C D h] w fun e w' => e = .returned (.int .i64 (fauE A B C D h)) ∧ Below w.heap.size w w' := by
  have CD := Lib.hid (fun bb w (hb : w.heap[bb]? = some (dir2Obj A B)) => checkDir2_any A B bb w hb)
  have WC := Lib.hid (fun w => within_any C (-1099511627776) 1099511627776 w)
  have WD := Lib.hid (fun w => within_any D 0 4096 w)
  have CH := Lib.hid (fun bb w (hb : w.heap[bb]? = some (flObj h)) => CheckHeights_row bb 0 1 1 (fun _ => h) (by omega) w (flAt_one_of hb))
  unfold fauE
  obtain ⟨de, hde⟩ : ∃ de, dirE A B 0 = de := ⟨_, rfl⟩
  rw [hde] at CD ⊢
  clear hde
  generalize withinB C (-1099511627776) 1099511627776 = c1 at *
  generalize withinB D 0 4096 = c2 at *
  generalize fldE 1 (fun _ => h) = er at *
  by_cases d : de = 0
  · subst d
    cases c1 <;> cases c2
    all_goals go_enter Try.func23, Try.ntmps23
    all_goals go_wp2_with (first | (go_at_call 63; (with_reducible refine (WC.out _).mono ?_); rintro e w' ⟨rfl, rfl⟩) | (go_at_call 63; (with_reducible refine (WD.out _).mono ?_); rintro e w' ⟨rfl, rfl⟩) | (go_at_call 64; refine (CD.out _ _ (by (first | (rw [heap_alloc_get, if_pos rfl]; done) | ((simp only [heap_alloc_get, heap_size_alloc, if_true]) <;> ((repeat' split) <;> first | rfl | omega))))).mono ?_; rintro e w' ⟨rfl, rfl⟩) | (go_at_call 65; refine (CH.out _ _ (by (first | (rw [heap_alloc_get, if_pos rfl]; done) | ((simp only [heap_alloc_get, heap_size_alloc, if_true]) <;> ((repeat' split) <;> first | rfl | omega))))).mono ?_; rintro e w' ⟨rfl, rfl⟩))
    all_goals go_ret
    all_goals exact ⟨ret_int (by simp), (by repeat (first | exact Below.refl _ _ | refine Below.alloc ?_ (by first | omega | (simp; done) | (simp; omega)) _ | refine Below.setCell ?_ (by first | omega | (simp; done) | (simp; omega)) _ | refine Below.drew ?_))⟩
  · have dn : (de == 0) = false := by simpa using d
    have dm : (de != 0) = true := by simpa using d
    cases c1 <;> cases c2
    all_goals go_enter Try.func23, Try.ntmps23
    all_goals go_wp2_with (first | (go_at_call 63; (with_reducible refine (WC.out _).mono ?_); rintro e w' ⟨rfl, rfl⟩) | (go_at_call 63; (with_reducible refine (WD.out _).mono ?_); rintro e w' ⟨rfl, rfl⟩) | (go_at_call 64; refine (CD.out _ _ (by (first | (rw [heap_alloc_get, if_pos rfl]; done) | ((simp only [heap_alloc_get, heap_size_alloc, if_true]) <;> ((repeat' split) <;> first | rfl | omega))))).mono ?_; rintro e w' ⟨rfl, rfl⟩))
    all_goals go_ret
    all_goals exact ⟨ret_int (by simp [d]), (by repeat (first | exact Below.refl _ _ | refine Below.alloc ?_ (by first | omega | (simp; done) | (simp; omega)) _ | refine Below.setCell ?_ (by first | omega | (simp; done) | (simp; omega)) _ | refine Below.drew ?_))⟩

set_option maxHeartbeats 400000 in
theorem rfaultIn_any (x m : Int) (m0 : 0 ≤ m) (m1 : m ≤ 1099511627776) (w : World) :
    Calls Try.prog 71 #[.int .i64 x, .int .i64 m] w fun e w' => e = .returned (.bool (withinB x (-m) m)) ∧ w = w' := by
  go_enter Try.func71, Try.ntmps71
  go_wp2
  all_goals go_ret
  all_goals refine ⟨ret_bool (Eq.symm ?_), rfl⟩
  all_goals first
    | (rw [withinB_iff]; omega)
    | (rw [withinB_no]; omega)
    | (rw [Bool.eq_iff_iff, withinB_iff, decide_eq_true_eq]; omega)

theorem fau_e {A B C D : Int} {h : Nat} {er : Int} (her : fldE 1 (fun _ => h) = er) : fauE A B C D h =
    if withinB A (-1000) 1000 = false ∨ withinB B (-1000) 1000 = false ∨ withinB C (-1099511627776) 1099511627776 = false ∨ D < 0 ∨ 4096 < D then 3 else if A = 0 ∧ B = 0 then 12 else er := by
  unfold fauE dirE
  rw [her]
  have z : withinB (0 : Int) (-1000) 1000 = true := rfl
  have dd : withinB D 0 4096 = false ↔ D < 0 ∨ 4096 < D := by rw [withinB_no]
  by_cases p : D < 0 ∨ 4096 < D
  · rw [dd.2 p]; simp [p]
  · have p' : withinB D 0 4096 = true := by
      cases q : withinB D 0 4096 with
      | true => rfl
      | false => exact absurd (dd.1 q) p
    rw [p']
    cases a : withinB A (-1000) 1000 <;> cases b : withinB B (-1000) 1000 <;> cases c : withinB C (-1099511627776) 1099511627776 <;> simp [z, p]
    split <;> simp_all

set_option maxHeartbeats 2000000 in
set_option maxRecDepth 100000 in
theorem refCheckFault_any (A B C D : Int) (h : Nat) (hh : h < 4294967296) (w : World) :
    Calls Try.prog 24 #[fau A B C D h] w fun e w' => e = .returned (.int .i64 (fauE A B C D h)) ∧ Below w.heap.size w w' := by
  have HT := Lib.hid (fun bb w (hb : w.heap[bb]? = some (flObj h)) => refHeight_of h hh bb w hb)
  have IA := Lib.hid (fun w => rfaultIn_any A 1000 (by omega) (by omega) w)
  have IB := Lib.hid (fun w => rfaultIn_any B 1000 (by omega) (by omega) w)
  have IC := Lib.hid (fun w => rfaultIn_any C 1099511627776 (by omega) (by omega) w)
  obtain ⟨er, her⟩ : ∃ er, fldE 1 (fun _ => h) = er := ⟨_, rfl⟩
  rw [her] at HT
  rw [fau_e her]
  clear her hh
  generalize withinB A (-1000) 1000 = ca at *
  generalize withinB B (-1000) 1000 = cb at *
  generalize withinB C (-1099511627776) 1099511627776 = cc at *
  cases ca <;> cases cb <;> cases cc
  all_goals go_enter Try.func24, Try.ntmps24
  all_goals go_wp2_with (first | (go_at_call 71; (with_reducible refine (IA.out _).mono ?_); rintro e w' ⟨rfl, rfl⟩) | (go_at_call 71; (with_reducible refine (IB.out _).mono ?_); rintro e w' ⟨rfl, rfl⟩) | (go_at_call 71; (with_reducible refine (IC.out _).mono ?_); rintro e w' ⟨rfl, rfl⟩) | (go_at_call 42; refine (HT.out _ _ (by (first | (rw [heap_alloc_get, if_pos rfl]; done) | ((simp only [heap_alloc_get, heap_size_alloc, if_true]) <;> ((repeat' split) <;> first | rfl | omega))))).mono ?_; rintro e w' ⟨rfl, rfl⟩))
  all_goals go_ret
  all_goals refine ⟨ret_int (Eq.symm ?_), (by repeat (first | exact Below.refl _ _ | refine Below.alloc ?_ (by first | omega | (simp; done) | (simp; omega)) _ | refine Below.setCell ?_ (by first | omega | (simp; done) | (simp; omega)) _ | refine Below.drew ?_))⟩
  all_goals (repeat' split)
  all_goals first | rfl | omega | (simp_all; done) | (simp_all; omega)
end Go.Proofs.Ytdbponidkodmfaa

/- Contracts: a fold's check, and what it lifts, of both sides. -/
namespace Go.Proofs.Ytdbponidkodmfaa
open Go.RowKit Fl
set_option linter.unusedVariables false

/-- A fold as a value; its cells. -/
abbrev fol (A B P : Int) (h : Nat) : Value := .agg #[.int .i64 A, .int .i64 B, .int .i64 P, .float .f32 h]
abbrev folObj (A B P : Int) (h : Nat) : Obj := .cells #[.int .i64 A, .int .i64 B, .int .i64 P, .float .f32 h] 36
/-- The error of a fold. -/
def folE (A B P : Int) (h : Nat) : Int := if withinB P 2 16777216 = false then 3 else if dirE A B 0 ≠ 0 then dirE A B 0 else fldE 1 (fun _ => h)

structure FolOk (A B P : Int) (h : Nat) : Prop where
  a1 : A.natAbs ≤ 1000
  b1 : B.natAbs ≤ 1000
  p1 : 2 ≤ P
  p2 : P ≤ 16777216
  hh : hgtB h = true

theorem fol_ok {A B P : Int} {h : Nat} (e : folE A B P h = 0) : FolOk A B P h := by
  unfold folE at e
  split at e
  · cases e
  · rename_i c
    split at e
    · rename_i d; exact absurd e d
    · rename_i d
      have d' : dirE A B 0 = 0 := by omega
      obtain ⟨l1, l2, _, _⟩ := dir_ok d'
      have c' : withinB P 2 16777216 = true := by simpa using c
      obtain ⟨p1, p2⟩ := withinB_iff.1 c'
      exact ⟨l1, l2, p1, p2, allB_iff.1 (fldE_zero.1 e) 0 (by omega)⟩

set_option maxHeartbeats 1000000 in
set_option maxRecDepth 100000 in
theorem checkFold_any (A B P : Int) (h : Nat) (w : World) :
    Calls Try.prog 17 #[fol A B P h] w fun e w' => e = .returned (.int .i64 (folE A B P h)) ∧ Below w.heap.size w w' := by
  have CD := Lib.hid (fun bb w (hb : w.heap[bb]? = some (dir2Obj A B)) => checkDir2_any A B bb w hb)
  have WR := Lib.hid (fun w => within_any P 2 16777216 w)
  have CH := Lib.hid (fun bb w (hb : w.heap[bb]? = some (flObj h)) => CheckHeights_row bb 0 1 1 (fun _ => h) (by omega) w (flAt_one_of hb))
  unfold folE
  obtain ⟨de, hde⟩ : ∃ de, dirE A B 0 = de := ⟨_, rfl⟩
  rw [hde] at CD ⊢
  clear hde
  generalize withinB P 2 16777216 = c2 at *
  generalize fldE 1 (fun _ => h) = er at *
  cases c2 with
  | false =>
    rw [if_pos rfl]
    go_enter Try.func17, Try.ntmps17
    go_wp2_with (first | (go_at_call 63; refine (WR.out _).mono ?_; rintro e w' ⟨rfl, rfl⟩))
    go_ret
    exact ⟨rfl, (by repeat (first | exact Below.refl _ _ | refine Below.alloc ?_ (by first | omega | (simp; done) | (simp; omega)) _ | refine Below.setCell ?_ (by first | omega | (simp; done) | (simp; omega)) _ | refine Below.drew ?_))⟩
  | true =>
    rw [if_neg (by simp)]
    by_cases d : de = 0
    · subst d
      rw [if_neg (by simp)]
      go_enter Try.func17, Try.ntmps17
      go_wp2_with (first | (go_at_call 63; refine (WR.out _).mono ?_; rintro e w' ⟨rfl, rfl⟩) | (go_at_call 64; refine (CD.out _ _ (by (first | (rw [heap_alloc_get, if_pos rfl]; done) | ((simp only [heap_alloc_get, heap_size_alloc, if_true]) <;> ((repeat' split) <;> first | rfl | omega))))).mono ?_; rintro e w' ⟨rfl, rfl⟩) | (go_at_call 65; refine (CH.out _ _ (by (first | (rw [heap_alloc_get, if_pos rfl]; done) | ((simp only [heap_alloc_get, heap_size_alloc, if_true]) <;> ((repeat' split) <;> first | rfl | omega))))).mono ?_; rintro e w' ⟨rfl, rfl⟩))
      go_ret
      exact ⟨rfl, (by repeat (first | exact Below.refl _ _ | refine Below.alloc ?_ (by first | omega | (simp; done) | (simp; omega)) _ | refine Below.setCell ?_ (by first | omega | (simp; done) | (simp; omega)) _ | refine Below.drew ?_))⟩
    · rw [if_pos d]
      have dn : (de == 0) = false := by simpa using d
      go_enter Try.func17, Try.ntmps17
      go_wp2_with (first | (go_at_call 63; refine (WR.out _).mono ?_; rintro e w' ⟨rfl, rfl⟩) | (go_at_call 64; refine (CD.out _ _ (by (first | (rw [heap_alloc_get, if_pos rfl]; done) | ((simp only [heap_alloc_get, heap_size_alloc, if_true]) <;> ((repeat' split) <;> first | rfl | omega))))).mono ?_; rintro e w' ⟨rfl, rfl⟩))
      go_ret
      exact ⟨rfl, (by repeat (first | exact Below.refl _ _ | refine Below.alloc ?_ (by first | omega | (simp; done) | (simp; omega)) _ | refine Below.setCell ?_ (by first | omega | (simp; done) | (simp; omega)) _ | refine Below.drew ?_))⟩

set_option maxHeartbeats 400000 in
theorem rfoldIn_any (x : Int) (w : World) :
    Calls Try.prog 66 #[.int .i64 x] w fun e w' => e = .returned (.bool (withinB x (-1000) 1000)) ∧ w = w' := by
  go_enter Try.func66, Try.ntmps66
  go_wp2
  all_goals go_ret
  all_goals refine ⟨ret_bool (Eq.symm ?_), rfl⟩
  all_goals first
    | (rw [withinB_iff]; omega)
    | (rw [withinB_no]; omega)
    | (rw [Bool.eq_iff_iff, withinB_iff, decide_eq_true_eq]; omega)

theorem fol_e {A B P : Int} {h : Nat} {er : Int} (her : fldE 1 (fun _ => h) = er) : folE A B P h =
    if P < 2 ∨ 16777216 < P then 3 else if withinB A (-1000) 1000 = false ∨ withinB B (-1000) 1000 = false then 3 else if A = 0 ∧ B = 0 then 12 else er := by
  unfold folE dirE
  rw [her]
  have z : withinB (0 : Int) (-1000) 1000 = true := rfl
  by_cases p : P < 2 ∨ 16777216 < P
  · rw [if_pos p, if_pos (by rw [withinB_no]; omega)]
  · rw [if_neg p, if_neg (by rw [Bool.not_eq_false, withinB_iff]; omega)]
    cases a : withinB A (-1000) 1000 <;> cases b : withinB B (-1000) 1000 <;> simp [z]
    split <;> simp_all

set_option maxHeartbeats 1000000 in
set_option maxRecDepth 100000 in
theorem refCheckFold_any (A B P : Int) (h : Nat) (hh : h < 4294967296) (w : World) :
    Calls Try.prog 18 #[fol A B P h] w fun e w' => e = .returned (.int .i64 (folE A B P h)) ∧ Below w.heap.size w w' := by
  have HT := Lib.hid (fun bb w (hb : w.heap[bb]? = some (flObj h)) => refHeight_of h hh bb w hb)
  have IA := Lib.hid (fun w => rfoldIn_any A w)
  have IB := Lib.hid (fun w => rfoldIn_any B w)
  obtain ⟨er, her⟩ : ∃ er, fldE 1 (fun _ => h) = er := ⟨_, rfl⟩
  rw [her] at HT
  rw [fol_e her]
  clear her hh
  generalize withinB A (-1000) 1000 = ca at *
  generalize withinB B (-1000) 1000 = cb at *
  cases ca <;> cases cb
  all_goals go_enter Try.func18, Try.ntmps18
  all_goals go_wp2_with (first | (go_at_call 66; (with_reducible refine (IA.out _).mono ?_); rintro e w' ⟨rfl, rfl⟩) | (go_at_call 66; (with_reducible refine (IB.out _).mono ?_); rintro e w' ⟨rfl, rfl⟩) | (go_at_call 42; refine (HT.out _ _ (by (first | (rw [heap_alloc_get, if_pos rfl]; done) | ((simp only [heap_alloc_get, heap_size_alloc, if_true]) <;> ((repeat' split) <;> first | rfl | omega))))).mono ?_; rintro e w' ⟨rfl, rfl⟩))
  all_goals go_ret
  all_goals refine ⟨ret_int (Eq.symm ?_), (by repeat (first | exact Below.refl _ _ | refine Below.alloc ?_ (by first | omega | (simp; done) | (simp; omega)) _ | refine Below.setCell ?_ (by first | omega | (simp; done) | (simp; omega)) _ | refine Below.drew ?_))⟩
  all_goals (repeat' split)
  all_goals first | rfl | omega | (simp_all; done) | (simp_all; omega)
end Go.Proofs.Ytdbponidkodmfaa

/- Contracts: what a fold lifts, of both sides. -/
namespace Go.Proofs.Ytdbponidkodmfaa
open Go.RowKit Fl
set_option linter.unusedVariables false

/-- The product of a part of a direction and a coordinate. -/
theorem part_bd {A x : Int} (a : A.natAbs ≤ 1000) (x1 : -8388608 ≤ x) (x2 : x ≤ 8388608) : -8388608000 ≤ A * x ∧ A * x ≤ 8388608000 := by
  have h : (A * x).natAbs ≤ 1000 * 8388608 := by
    rw [Int.natAbs_mul]; exact Nat.mul_le_mul a (by omega)
  omega

/-- How far a place lies behind the beginning of its fold. -/
def folK (A B P x y : Int) : Int := (A * x + B * y) % P
theorem folK_in {A B P x y : Int} (p : 2 ≤ P) : 0 ≤ folK A B P x y ∧ folK A B P x y < P := ⟨Int.emod_nonneg _ (by omega), Int.emod_lt_of_pos _ (by omega)⟩

set_option maxHeartbeats 1000000 in
set_option maxRecDepth 100000 in
theorem lift_any (A B P : Int) (h : Nat) (x y : Int) (w : World) (K : FolOk A B P h) (x1 : -8388608 ≤ x) (x2 : x ≤ 8388608) (y1 : -8388608 ≤ y) (y2 : y ≤ 8388608) :
    Calls Try.prog 55 #[fol A B P h, .int .i64 x, .int .i64 y] w fun e w' => e = .returned (.float .f32 (lifW (folK A B P x y) P h)) ∧ Below w.heap.size w w' := by
  obtain ⟨k0, k1⟩ := folK_in (A := A) (B := B) (P := P) (x := x) (y := y) K.p1
  obtain ⟨q, X2, t0, c, t1, p, q', r', e, r, L⟩ := lif_parts k0 k1 K.p2 K.hh
  have u1 := part_bd K.a1 x1 x2
  have u2 := part_bd K.b1 y1 y2
  obtain ⟨a, ha⟩ : ∃ a, A * x = a := ⟨_, rfl⟩
  obtain ⟨b, hb⟩ : ∃ b, B * y = b := ⟨_, rfl⟩
  have w1 : wrap64 (A * x) = a := by rw [← ha]; exact IntWalk.wrap64_in _ ⟨by omega, by omega⟩
  have w2 : wrap64 (B * y) = b := by rw [← hb]; exact IntWalk.wrap64_in _ ⟨by omega, by omega⟩
  rw [ha] at u1
  rw [hb] at u2
  obtain ⟨n, hn⟩ : ∃ n, a + b = n := ⟨_, rfl⟩
  have w3 : wrap64 (a + b) = n := by rw [← hn]; exact IntWalk.wrap64_in _ ⟨by omega, by omega⟩
  have hk : folK A B P x y = n % P := by unfold folK; rw [ha, hb, hn]
  have DV := Lib.hid (fun w => divide_any n P w (by have := K.p1; omega) K.p2 (by omega) (by omega))
  rw [L.w]
  rw [hk] at L
  rw [L.qw] at DV
  have e1 := fun (W : World) => run_float_arith (P := Try.prog) W .mul 34 .f32 q 1073741824 t0 L.m1
  have e2 := fun (W : World) => run_float_arith (P := Try.prog) W .mul 34 .f32 h e r L.r1
  have SE := Lib.hid (fun w => sease_any t1 p q' r' e L.ea L.wi w)
  rw [L.ea.w] at SE
  have cg := L.cg
  have s1 := L.s1
  have s0 := L.s0
  clear L ha hb hn hk K k0 k1 x1 x2 y1 y2 u1 u2
  cases c with
  | true =>
    have e3 := fun (W : World) => run_float_arith (P := Try.prog) W .sub 34 .f32 1073741824 t0 t1 (s1 rfl)
    clear s1 s0
    go_enter Try.func55, Try.ntmps55
    go_wp2_with (first | (go_at_call 126; refine (DV.out _).mono ?_; rintro e' w4 ⟨rfl, hb4⟩; have hc4 := blkStay (b := w.heap.size) (o := folObj A B P h) (by (first | (rw [heap_alloc_get, if_pos rfl]; done) | ((simp only [heap_alloc_get, heap_size_alloc, if_true]) <;> ((repeat' split) <;> first | rfl | omega)))) hb4; have hB4 : Below w.heap.size w w4 := Below.trans (by repeat (first | exact Below.refl _ _ | refine Below.alloc ?_ (by first | omega | (simp; done) | (simp; omega)) _ | refine Below.setCell ?_ (by first | omega | (simp; done) | (simp; omega)) _ | refine Below.drew ?_)) (Below.mono hb4 (by simp)); clear hb4; obtain ⟨cB, fB, zB⟩ := blkC hc4; clear hc4))
    go_quiet (first | (go_at_call 127; exact Calls.quiet_of_same (Calls.mono (SE.out _) fun _ _ h => ⟨h.1, h.2.symm⟩)))
    go_wp2
    go_ret
    exact ⟨rfl, hB4.trans ((below_drewN _ _).mono hB4.size)⟩
  | false =>
    have s0' := s0 rfl
    subst s0'
    clear s1 s0
    go_enter Try.func55, Try.ntmps55
    go_wp2_with (first | (go_at_call 126; refine (DV.out _).mono ?_; rintro e' w4 ⟨rfl, hb4⟩; have hc4 := blkStay (b := w.heap.size) (o := folObj A B P h) (by (first | (rw [heap_alloc_get, if_pos rfl]; done) | ((simp only [heap_alloc_get, heap_size_alloc, if_true]) <;> ((repeat' split) <;> first | rfl | omega)))) hb4; have hB4 : Below w.heap.size w w4 := Below.trans (by repeat (first | exact Below.refl _ _ | refine Below.alloc ?_ (by first | omega | (simp; done) | (simp; omega)) _ | refine Below.setCell ?_ (by first | omega | (simp; done) | (simp; omega)) _ | refine Below.drew ?_)) (Below.mono hb4 (by simp)); clear hb4; obtain ⟨cB, fB, zB⟩ := blkC hc4; clear hc4))
    go_quiet (first | (go_at_call 127; exact Calls.quiet_of_same (Calls.mono (SE.out _) fun _ _ h => ⟨h.1, h.2.symm⟩)))
    go_wp2
    go_ret
    exact ⟨rfl, hB4.trans ((below_drewN _ _).mono hB4.size)⟩

set_option maxHeartbeats 1000000 in
set_option maxRecDepth 100000 in
theorem rlift_any (A B P : Int) (h : Nat) (x y : Int) (w : World) (K : FolOk A B P h) (x1 : -8388608 ≤ x) (x2 : x ≤ 8388608) (y1 : -8388608 ≤ y) (y2 : y ≤ 8388608) :
    Calls Try.prog 60 #[fol A B P h, .int .i64 x, .int .i64 y] w fun e w' => e = .returned (.float .f32 (lifW (folK A B P x y) P h)) ∧ Below w.heap.size w w' := by
  obtain ⟨k0, k1⟩ := folK_in (A := A) (B := B) (P := P) (x := x) (y := y) K.p1
  obtain ⟨q, X2, t0, c, t1, p, q', r', e, r, L⟩ := lif_parts k0 k1 K.p2 K.hh
  have u1 := part_bd K.a1 x1 x2
  have u2 := part_bd K.b1 y1 y2
  obtain ⟨a, ha⟩ : ∃ a, A * x = a := ⟨_, rfl⟩
  obtain ⟨b, hb⟩ : ∃ b, B * y = b := ⟨_, rfl⟩
  have w1 : wrap64 (A * x) = a := by rw [← ha]; exact IntWalk.wrap64_in _ ⟨by omega, by omega⟩
  have w2 : wrap64 (B * y) = b := by rw [← hb]; exact IntWalk.wrap64_in _ ⟨by omega, by omega⟩
  rw [ha] at u1
  rw [hb] at u2
  obtain ⟨n, hn⟩ : ∃ n, a + b = n := ⟨_, rfl⟩
  have w3 : wrap64 (a + b) = n := by rw [← hn]; exact IntWalk.wrap64_in _ ⟨by omega, by omega⟩
  have QU := Lib.hid (fun w => quotient2_any n 1 P w (by have := K.p1; omega) K.p2 (by omega) (by omega))
  rw [Int.mul_one] at QU
  have hk : folK A B P x y = n % P := by unfold folK; rw [ha, hb, hn]
  rw [L.w]
  rw [hk] at L
  obtain ⟨k, hk2⟩ : ∃ k, n % P = k := ⟨_, rfl⟩
  rw [hk2] at L QU
  have M1 := Lib.hid (fun w => refMul_any 26 _ _ X2 L.x2' L.x1 w)
  have DV := Lib.hid (fun w => refDiv_any 1 _ _ t0 L.d2 L.d1 w)
  have M2 := Lib.hid (fun w => refMul_any 20 _ _ r L.r2 L.r1 w)
  have SE := Lib.hid (fun w => refEase_any t1 p q' r' e L.ea w)
  rw [L.ea.w] at SE
  have cg := L.cg
  have s1 := L.s1
  have s2 := L.s2
  have s0 := L.s0
  clear L ha hb hn hk hk2 K k0 k1 x1 x2 y1 y2 u1 u2
  cases c with
  | true =>
    have S1 := Lib.hid (fun w => refSub_any 3 _ _ t1 (s2 rfl) (s1 rfl) w)
    clear s1 s2 s0
    go_enter Try.func60, Try.ntmps60
    go_wp2_with (first | (go_at_call 129; refine (QU.out _).mono ?_; rintro e' w' ⟨rfl, rfl⟩))
    go_quiet (first | (go_at_call 131; exact Calls.quiet_of_same (Calls.mono (refConv_any _ _) fun _ _ h => ⟨h.1, h.2.symm⟩)) | (go_at_call 86; exact Calls.quiet_of_same (Calls.mono (M1.out _) fun _ _ h => ⟨h.1, h.2.symm⟩)) | (go_at_call 130; exact Calls.quiet_of_same (Calls.mono (DV.out _) fun _ _ h => ⟨h.1, h.2.symm⟩)))
    go_wp2_with (first | (go_at_call 90; refine (S1.out _).mono ?_; rintro e' w' ⟨rfl, rfl⟩))
    go_quiet (first | (go_at_call 132; exact (SE.out _).mono fun _ _ h => ⟨h.1, _, h.2.symm⟩) | (go_at_call 86; exact (M2.out _).mono fun _ _ h => ⟨h.1, _, h.2.symm⟩))
    go_wp2
    go_ret
    exact ⟨rfl, drewBox2 _ _ _ _ rfl⟩
  | false =>
    have s0' := s0 rfl
    subst s0'
    clear s1 s2 s0
    go_enter Try.func60, Try.ntmps60
    go_wp2_with (first | (go_at_call 129; refine (QU.out _).mono ?_; rintro e' w' ⟨rfl, rfl⟩))
    go_quiet (first | (go_at_call 131; exact Calls.quiet_of_same (Calls.mono (refConv_any _ _) fun _ _ h => ⟨h.1, h.2.symm⟩)) | (go_at_call 86; exact Calls.quiet_of_same (Calls.mono (M1.out _) fun _ _ h => ⟨h.1, h.2.symm⟩)) | (go_at_call 130; exact Calls.quiet_of_same (Calls.mono (DV.out _) fun _ _ h => ⟨h.1, h.2.symm⟩)))
    go_wp2
    go_quiet (first | (go_at_call 132; exact (SE.out _).mono fun _ _ h => ⟨h.1, _, h.2.symm⟩) | (go_at_call 86; exact (M2.out _).mono fun _ _ h => ⟨h.1, _, h.2.symm⟩))
    go_wp2
    go_ret
    exact ⟨rfl, drewBox2 _ _ _ _ rfl⟩
end Go.Proofs.Ytdbponidkodmfaa

/- Contracts: remade, whatever function of a value and its place it is given. -/
namespace Go.Proofs.Ytdbponidkodmfaa
open Go.RowKit Fl
set_option linter.unusedVariables false

theorem enters_remade1 : Enters 157 := by intro args W; simp [callFunc, Try.func157, Try.f157]

/-- A function of a value and its place, as a closure: over the cells of a field with the values v it answers f. -/
def Clos3 (g : Nat) (caps : Array Value) (X Y W H : Int) (v f : Nat → Nat) (w : World) : Prop :=
  ∀ (x y : Int) (i : Nat) (W' : World), X ≤ x → x < X + W → Y ≤ y → y < Y + H → (i : Int) = (y - Y) * W + (x - X) → Below w.heap.size w W' →
    Calls Try.prog g (#[.float .f32 (v i), .int .i64 x, .int .i64 y] ++ caps) W' fun e W'' => e = .returned (.float .f32 (f i)) ∧ Below W'.heap.size W' W''
theorem Clos3.stay {g : Nat} {caps : Array Value} {X Y W H : Int} {v f : Nat → Nat} {w w' : World} (h : Clos3 g caps X Y W H v f w) (hb : Below w.heap.size w w') : Clos3 g caps X Y W H v f w' :=
  fun x y i W' h1 h2 h3 h4 h5 hb' => h x y i W' h1 h2 h3 h4 h5 (hb.trans (hb'.mono hb.size))

/-- Such a function value in a box. -/
abbrev fn3Obj (g : Nat) (caps : Array Value) : Obj := .cells #[.func (.func g) #[] caps] 133

set_option maxHeartbeats 4000000 in
set_option maxRecDepth 100000 in
theorem remade1_any (X Y : Int) (W H n b cap : Nat) (v f : Nat → Nat) (g : Nat) (caps : Array Value) (p q : Nat) (w : World) (hcall : Enters g) (hcl : Clos3 g caps X Y W H v f w)
    (hp : w.heap[p]? = some (fldO X Y W H (.slice (some ⟨b, 0, none⟩) n cap))) (hq : w.heap[q]? = some (fn3Obj g caps)) (hc : FlAt w b 0 n v) (hn : n ≤ 65536)
    (hX1 : -16777216 ≤ X) (hX2 : X ≤ 16777216) (hY1 : -16777216 ≤ Y) (hY2 : Y ≤ 16777216) (hW1 : 1 ≤ W) (hW2 : W ≤ 512) (hH2 : H ≤ 512) (hnn : n = H * W) :
    Clos2 157 #[.pointer (some ⟨q, 0, none⟩), .pointer (some ⟨p, 0, none⟩)] X Y W H f w := by
  intro x y i w2 h1 h2 h3 h4 h5 hb
  have hi : i < n := num_lt hW1 h1 h2 h4 h5 hnn
  have CC := Lib.hid (fun W' (hB : Below w2.heap.size w2 W') => hcl x y i W' h1 h2 h3 h4 h5 (hb.trans (hB.mono hb.size)))
  have IX := Lib.hid (fun w => index_any X Y W H i x y w hX1 hX2 hY1 hY2 hW1 hW2 hH2 h1 h2 h3 h4 h5 (by omega))
  have P := blkStay hp hb
  have Q := blkStay hq hb
  have hcell : w2.cell? ⟨b, i, none⟩ = some (.float .f32 (v i)) := by
    have := flAt_congr hc (hb.block b (World.block_lt_of_cell? w _ (hc i hi))) i hi
    rwa [Nat.zero_add] at this
  have zb : b < w2.heap.size := World.block_lt_of_cell? w2 _ hcell
  have HC := Lib.hid hcell
  have HP := Lib.hid P
  have HQ := Lib.hid Q
  obtain ⟨cP, fP, zP⟩ := blkC P
  obtain ⟨cQ, fQ, zQ⟩ := blkC Q
  unfold Enters at hcall
  have hi2 : (i : Int) < (n : Int) := by omega
  have hi3 : (0 : Int) ≤ (i : Int) := by omega
  clear hp hq P Q hb h1 h2 h3 h4 h5 hX1 hX2 hY1 hY2 hW1 hW2 hH2 hnn hcl hc hi hn
  go_enter Try.func157, Try.ntmps157
  go_wp2
  go_region_held3 (fun w' => (∀ o, w'.cell? ⟨p, o, none⟩ = #[.int .i64 X, .int .i64 Y, .int .i64 W, .int .i64 H, .slice (some ⟨b, 0, none⟩) n cap][o]?) ∧ (∀ o, w'.cell? ⟨q, o, none⟩ = #[.func (.func g) #[] caps][o]?) ∧ w'.cell? ⟨b, i, none⟩ = some (.float .f32 (v i)) ∧ Below w2.heap.size w2 w') (first | exact ⟨(blkC (blkStay HP.out hb9)).1, (blkC (blkStay HQ.out hb9)).1, (Below.cell (p := ⟨b, i, none⟩) (w := w2) (B := w2.heap.size) hb9 zb).trans HC.out, hb9⟩ | exact ⟨(blkC (blkStay HP.out (by repeat (first | exact Below.refl _ _ | refine Below.alloc ?_ (by first | omega | (simp; done) | (simp; omega)) _ | refine Below.setCell ?_ (by first | omega | (simp; done) | (simp; omega)) _ | refine Below.drew ?_)))).1, (blkC (blkStay HQ.out (by repeat (first | exact Below.refl _ _ | refine Below.alloc ?_ (by first | omega | (simp; done) | (simp; omega)) _ | refine Below.setCell ?_ (by first | omega | (simp; done) | (simp; omega)) _ | refine Below.drew ?_)))).1, (Below.cell (p := ⟨b, i, none⟩) (w := w2) (B := w2.heap.size) (by repeat (first | exact Below.refl _ _ | refine Below.alloc ?_ (by first | omega | (simp; done) | (simp; omega)) _ | refine Below.setCell ?_ (by first | omega | (simp; done) | (simp; omega)) _ | refine Below.drew ?_)) zb).trans HC.out, (by repeat (first | exact Below.refl _ _ | refine Below.alloc ?_ (by first | omega | (simp; done) | (simp; omega)) _ | refine Below.setCell ?_ (by first | omega | (simp; done) | (simp; omega)) _ | refine Below.drew ?_))⟩) (first | (go_at_call 114; (with_reducible refine Calls.mono (IX.out _) ?_); rintro e w' ⟨rfl, rfl⟩) | (go_simp; (with_reducible refine Calls.mono (CC.out _ ?_) ?_); exact (by repeat (first | exact Below.refl _ _ | refine Below.alloc ?_ (by first | omega | (simp; done) | (simp; omega)) _ | refine Below.setCell ?_ (by first | omega | (simp; done) | (simp; omega)) _ | refine Below.drew ?_)); rintro e w' ⟨rfl, hb8⟩; have hb9 : Below w2.heap.size w2 w' := Below.trans (by repeat (first | exact Below.refl _ _ | refine Below.alloc ?_ (by first | omega | (simp; done) | (simp; omega)) _ | refine Below.setCell ?_ (by first | omega | (simp; done) | (simp; omega)) _ | refine Below.drew ?_)) (Below.mono hb8 (by first | exact Nat.le_refl _ | (simp; done) | (simp; omega))); clear hb8))
  rename_i hHeld
  go_wp2
  go_ret
  exact ⟨rfl, hHeld.2.2.2⟩

set_option maxHeartbeats 2000000 in
theorem remade_any (X Y : Int) (W H n b cap : Nat) (v f : Nat → Nat) (g : Nat) (caps : Array Value) (w : World) (hcall : Enters g) (hcl : Clos3 g caps X Y W H v f w) (h0 : checkR X Y W H = 0) (hnn : n = H * W) (hc : FlAt w b 0 n v) :
    Calls Try.prog 124 #[fldV X Y W H (.slice (some ⟨b, 0, none⟩) n cap), .func (.func g) #[] caps] w (MadePost w X Y W H n f) := by
  obtain ⟨b1, b2, b3, b4, b5, b6, b7, b8, b9⟩ := checkR_zero h0
  have hn2 : n ≤ 65536 := by
    have : ((W : Int) * (H : Int)) = (n : Int) := by rw [hnn, Nat.mul_comm]; simp
    omega
  have n1 : 1 ≤ n := by rw [hnn]; exact Nat.mul_pos (by omega) (by omega)
  have hlt : b < w.heap.size := World.block_lt_of_cell? w _ (hc 0 n1)
  have hB : Below w.heap.size w (((w.alloc (fldO X Y W H (.slice (some ⟨b, 0, none⟩) n cap))).alloc (fn3Obj g caps)).alloc (fldO 0 0 0 0 (.slice none 0 0))) := (by repeat (first | exact Below.refl _ _ | refine Below.alloc ?_ (by first | omega | (simp; done) | (simp; omega)) _ | refine Below.setCell ?_ (by first | omega | (simp; done) | (simp; omega)) _ | refine Below.drew ?_))
  have MK := Lib.hid (make_ok X Y W H n 157 #[.pointer (some ⟨w.heap.size + 1, 0, none⟩), .pointer (some ⟨w.heap.size, 0, none⟩)] f (((w.alloc (fldO X Y W H (.slice (some ⟨b, 0, none⟩) n cap))).alloc (fn3Obj g caps)).alloc (fldO 0 0 0 0 (.slice none 0 0))) enters_remade1
    (remade1_any X Y W H n b cap v f g caps w.heap.size (w.heap.size + 1) _ hcall (hcl.stay hB) (by ((simp only [heap_alloc_get, heap_size_alloc, if_true]) <;> ((repeat' split) <;> first | rfl | omega))) (by ((simp only [heap_alloc_get, heap_size_alloc, if_true]) <;> ((repeat' split) <;> first | rfl | omega))) (flAt_congr hc (hB.block b hlt)) hn2 (by omega) (by omega) (by omega) (by omega) (by omega) (by omega) (by omega) hnn) h0 hnn)
  clear hcl hcall hc h0 b1 b2 b3 b4 b5 b6 b7 b8 b9 hnn hn2 n1 hlt hB
  go_enter Try.func124, Try.ntmps124
  go_wp2_with fail
  refine MK.out.mono ?_
  intro e w4 hmade
  rcases hmade with ⟨hall, b', cap', rfl, hb', hlt', hrow, hbel⟩ | ⟨hall, rfl, hbel⟩
  · have hS := Lib.hid (blkStay (b := w.heap.size + 1 + 1) (o := fldO 0 0 0 0 (.slice none 0 0)) (by ((simp only [heap_alloc_get, heap_size_alloc, if_true]) <;> ((repeat' split) <;> first | rfl | omega))) hbel)
    have hB : Below w.heap.size w w4 := Below.trans (by repeat (first | exact Below.refl _ _ | refine Below.alloc ?_ (by first | omega | (simp; done) | (simp; omega)) _ | refine Below.setCell ?_ (by first | omega | (simp; done) | (simp; omega)) _ | refine Below.drew ?_)) (Below.mono hbel (by simp; omega))
    obtain ⟨cS, fS, zS⟩ := blkC hS.out
    have HB := Lib.hid hb'
    clear hb'
    go_wp2
    refine bodyPost_ret (v := .tuple #[fldV X Y W H (.slice (some ⟨b', 0, none⟩) n cap'), .int .i64 0]) (by simp [results, Try.results124, go_sem, cS]) rfl ?_
    have hb' := HB.out
    simp only [heap_size_alloc] at hb'
    exact .inl ⟨hall, b', cap', rfl, by omega, by rw [set5_size]; exact hlt', flAt_congr hrow (set5_heap w4 _ _ _ _ _ _ _ (by omega)), set5_below hB _ _ _ _ _ _ (by omega)⟩
  · have hS := Lib.hid (blkStay (b := w.heap.size + 1 + 1) (o := fldO 0 0 0 0 (.slice none 0 0)) (by ((simp only [heap_alloc_get, heap_size_alloc, if_true]) <;> ((repeat' split) <;> first | rfl | omega))) hbel)
    have hB : Below w.heap.size w w4 := Below.trans (by repeat (first | exact Below.refl _ _ | refine Below.alloc ?_ (by first | omega | (simp; done) | (simp; omega)) _ | refine Below.setCell ?_ (by first | omega | (simp; done) | (simp; omega)) _ | refine Below.drew ?_)) (Below.mono hbel (by simp; omega))
    obtain ⟨cS, fS, zS⟩ := blkC hS.out
    go_wp2
    refine bodyPost_ret (v := .tuple #[fldV 0 0 0 0 (.slice none 0 0), .int .i64 3]) (by simp [results, Try.results124, go_sem, cS]) rfl ?_
    exact .inr ⟨hall, rfl, set5_below hB _ _ _ _ _ _ (by omega)⟩
end Go.Proofs.Ytdbponidkodmfaa

/- A list of folds; what its folds make of a cell, of both sides. -/
namespace Go.Proofs.Ytdbponidkodmfaa
open Go.RowKit Fl
set_option linter.unusedVariables false

/-- The cells of a list of folds. -/
def FolsAt (w : World) (b off n : Nat) (A B P : Nat → Int) (h : Nat → Nat) : Prop :=
  ∀ i, i < n → w.cell? ⟨b, off + i * 4, none⟩ = some (.int .i64 (A i)) ∧ w.cell? ⟨b, off + i * 4 + 1, none⟩ = some (.int .i64 (B i)) ∧ w.cell? ⟨b, off + i * 4 + 2, none⟩ = some (.int .i64 (P i)) ∧ w.cell? ⟨b, off + i * 4 + 3, none⟩ = some (.float .f32 (h i))
/-- A list of n folds: empty, or known cell by cell. -/
def FolL (w : World) (a : Option Addr) (n : Nat) (A B P : Nat → Int) (h : Nat → Nat) : Prop := n = 0 ∨ ∃ b off, a = some ⟨b, off, none⟩ ∧ FolsAt w b off n A B P h

theorem FolsAt.stay {w w' : World} {b off n : Nat} {A B P : Nat → Int} {h : Nat → Nat} (L : FolsAt w b off n A B P h) (hb : Below w.heap.size w w') : FolsAt w' b off n A B P h := fun i hi => by
  obtain ⟨l0, l1, l2, l3⟩ := L i hi
  have z : b < w.heap.size := World.block_lt_of_cell? w _ l0
  exact ⟨(Below.cell (p := ⟨b, off + i * 4, none⟩) hb z).trans l0, (Below.cell (p := ⟨b, off + i * 4 + 1, none⟩) hb z).trans l1, (Below.cell (p := ⟨b, off + i * 4 + 2, none⟩) hb z).trans l2, (Below.cell (p := ⟨b, off + i * 4 + 3, none⟩) hb z).trans l3⟩
theorem FolL.stay {w w' : World} {a : Option Addr} {n : Nat} {A B P : Nat → Int} {h : Nat → Nat} (L : FolL w a n A B P h) (hb : Below w.heap.size w w') : FolL w' a n A B P h :=
  L.imp id fun ⟨b, off, e, l⟩ => ⟨b, off, e, l.stay hb⟩

/-- v, and the first n of f added in order. -/
def accW (v : Nat) (f : Nat → Nat) : Nat → Nat
  | 0 => v
  | j + 1 => addW (accW v f j) (f j)

theorem acc_bd {v : Nat} {f : Nat → Nat} (hv : Bd 20 v) : ∀ n, n ≤ 100 → (∀ i, i < n → Bd 20 (f i)) → Bd (20 + n) (accW v f n)
  | 0, _, _ => hv
  | n + 1, hn, hf => by
    have ih := acc_bd hv n (by omega) (fun i hi => hf i (by omega))
    have s : Same2 .add (20 + n + 1) (accW v f n) (f n) := add_same (k := 20 + n) (by omega) ih (bd_up (hf n (by omega)) (by omega))
    obtain ⟨r, r1, b⟩ := same_ex s
    show Bd (20 + (n + 1)) (addW (accW v f n) (f n))
    unfold addW; rw [r1]; exact b

theorem acc_step {v : Nat} {f : Nat → Nat} {n j : Nat} (hv : Bd 20 v) (hn : n ≤ 100) (hj : j < n) (hf : ∀ i, i < n → Bd 20 (f i)) : ∃ r, floatBits .add .f32 (accW v f j) (f j) = some r ∧ Same2 .add (20 + j + 1) (accW v f j) (f j) ∧ accW v f (j + 1) = r ∧ r < 4294967296 := by
  have ih := acc_bd hv j (by omega) (fun i hi => hf i (by omega))
  have s : Same2 .add (20 + j + 1) (accW v f j) (f j) := add_same (k := 20 + j) (by omega) ih (bd_up (hf j hj) (by omega))
  obtain ⟨r, r1, b⟩ := same_ex s
  exact ⟨r, r1, s, by show addW (accW v f j) (f j) = r; unfold addW; rw [r1]; rfl, add_lt r1⟩
theorem acc_lt {v : Nat} {f : Nat → Nat} {n : Nat} (hv : Bd 20 v) (lv : v < 4294967296) (hn : n ≤ 100) (hf : ∀ i, i < n → Bd 20 (f i)) : accW v f n < 4294967296 := by
  cases n with
  | zero => exact lv
  | succ j =>
    obtain ⟨r, _, _, e, l⟩ := acc_step (j := j) hv hn (by omega) hf
    rw [e]; exact l

/-- What the folds of a list lift at a place. -/
def folF (A B P : Nat → Int) (h : Nat → Nat) (x y : Int) (i : Nat) : Nat := lifW (folK (A i) (B i) (P i) x y) (P i) (h i)
theorem folF_bd {A B P : Nat → Int} {h : Nat → Nat} {x y : Int} {n : Nat} (K : ∀ i, i < n → FolOk (A i) (B i) (P i) (h i)) : ∀ i, i < n → Bd 20 (folF A B P h x y i) := fun i hi => by
  obtain ⟨k0, k1⟩ := folK_in (A := A i) (B := B i) (P := P i) (x := x) (y := y) (K i hi).p1
  obtain ⟨q, X2, t0, c, t1, p, q', r', e, r, L⟩ := lif_parts k0 k1 (K i hi).p2 (K i hi).hh
  unfold folF; rw [L.w]; exact L.bd

abbrev folsV (a : Option Addr) (n cap : Nat) : Value := .slice a n cap
abbrev folsO (a : Option Addr) (n cap : Nat) : Obj := .cells #[.slice a n cap] 22
abbrev liftO : Obj := .cells #[.func (.func 55) #[] #[]] 78

theorem enters_bentFold1 : Enters 125 := by intro args W; simp [callFunc, Try.func125, Try.f125]

set_option maxHeartbeats 2000000 in
set_option maxRecDepth 100000 in
theorem bentFold1_any (a : Option Addr) (n cap : Nat) (A B P : Nat → Int) (h : Nat → Nat) (v : Nat) (x y : Int) (p q : Nat) (w : World) (hp : w.heap[p]? = some (folsO a n cap)) (hq : w.heap[q]? = some liftO) (L : FolL w a n A B P h) (hn : n ≤ 100)
    (K : ∀ i, i < n → FolOk (A i) (B i) (P i) (h i)) (hv : hgtB v = true) (x1 : -8388608 ≤ x) (x2 : x ≤ 8388608) (y1 : -8388608 ≤ y) (y2 : y ≤ 8388608) :
    Calls Try.prog 125 #[.float .f32 v, .int .i64 x, .int .i64 y, .pointer (some ⟨p, 0, none⟩), .pointer (some ⟨q, 0, none⟩)] w fun e w' => e = .returned (.float .f32 (accW v (folF A B P h x y) n)) ∧ Below w.heap.size w w' := by
  have hsf := fun (w : World) (a : Addr) (m : Mode) (k : FloatKind) (b : Nat) => run_store_float (P := Try.prog) (w := w) (a := a) (m := m) k b
  have LI := Lib.hid (fun i (hi : i < n) w => lift_any (A i) (B i) (P i) (h i) x y w (K i hi) x1 x2 y1 y2)
  have ST := Lib.hid (fun j (hj : j < n) => acc_step (hgt_bd hv) hn hj (folF_bd (x := x) (y := y) K))
  have HL := Lib.hid L
  have HQ := Lib.hid hq
  obtain ⟨cP, fP, zP⟩ := blkC hp
  have zQ := (blkC hq).2.2
  obtain ⟨F, hF⟩ : ∃ F, folF A B P h x y = F := ⟨_, rfl⟩
  have FF := Lib.hid (show ∀ i, lifW (folK (A i) (B i) (P i) x y) (P i) (h i) = F i from fun i => by rw [← hF]; rfl)
  rw [hF] at ST ⊢
  clear hp hq L K hv hF x1 x2 y1 y2
  go_enter Try.func125, Try.ntmps125
  go_wp2
  go_loopw [0, 13] (fun u i wr => ∃ j : Nat, j ≤ n ∧ u = .float .f32 (accW v F j) ∧ i = .int .i64 j ∧ Below w.heap.size w wr) (fun _ i _ => n - (intOf i).toNat)
  case atStart => exact ⟨0, by omega, rfl, rfl, Below.refl _ _⟩
  case round =>
    obtain ⟨j, hj, rfl, rfl, hb⟩ := hrel
    by_cases c : j < n
    · have HB := Lib.hid hb
      rcases HL.out.stay hb with z | ⟨b, off, rfl, l⟩
      · omega
      obtain ⟨l0, l1, l2, l3⟩ := l j c
      obtain ⟨r, r1, _, er, _⟩ := ST.out j c
      have e1 := fun (W : World) => run_float_arith (P := Try.prog) W .add 34 .f32 (accW v F j) (F j) r r1
      have L1 := Lib.hid (fun w => LI.out j c w)
      rw [FF.out j] at L1
      have ER := Lib.hid er
      obtain ⟨cQ, fQ, zQ2⟩ := blkC (blkStay HQ.out hb)
      generalize accW v F j = u at *
      clear l er hb r1
      go_wp2_with (first | (go_at_call 55; refine (L1.out _).mono ?_; rintro e' w4 ⟨rfl, hb4⟩; have hB4 : Below wr.heap.size wr w4 := Below.trans (by repeat (first | exact Below.refl _ _ | refine Below.alloc ?_ (by first | omega | (simp; done) | (simp; omega)) _ | refine Below.setCell ?_ (by first | omega | (simp; done) | (simp; omega)) _ | refine Below.drew ?_)) (Below.mono hb4 (by simp)); have HB4 := Lib.hid (HB.out.trans (hB4.mono HB.out.size)); clear hb4 hB4))
      go_roundw
      case rel => exact ⟨j + 1, by omega, by rw [ER.out], by go_num, HB4.out⟩
      case measure => simp [intOf]; omega
    · have : j = n := by omega
      subst this
      go_wp2
      go_ret
      exact ⟨rfl, hb⟩
end Go.Proofs.Ytdbponidkodmfaa

/- Contracts: square and Weight of the reference; Weight and Box of the program; the reference's box. -/
namespace Go.Proofs.Ytdbponidkodmfaa
open Go.RowKit Fl
set_option linter.unusedVariables false

abbrev pnt (x y : Int) : Value := .agg #[.int .i64 x, .int .i64 y]

end Go.Proofs.Ytdbponidkodmfaa

/- Contracts: Weight and Box of the program; the reference's box. -/
namespace Go.Proofs.Ytdbponidkodmfaa
open Go.RowKit Fl
set_option linter.unusedVariables false

theorem plc_ok {x y : Int} (h : plcE x y = 0) : -4194304 ≤ x ∧ x ≤ 4194304 ∧ -4194304 ≤ y ∧ y ≤ 4194304 := by
  unfold plcE at h
  split at h
  · rename_i c
    obtain ⟨a, b⟩ := c
    have := withinB_iff.1 a
    have := withinB_iff.1 b
    omega
  · cases h

structure BruOk (k X Y R : Int) (h : Nat) : Prop where
  k1 : 1 ≤ k
  k3 : k ≤ 3
  X1 : -4194304 ≤ X
  X2 : X ≤ 4194304
  Y1 : -4194304 ≤ Y
  Y2 : Y ≤ 4194304
  r1 : 1 ≤ R
  r2 : R ≤ 256
  hg : hgtB h = true
theorem bru_ok {k X Y R : Int} {h : Nat} (e : bruE k X Y R h = 0) : BruOk k X Y R h := by
  unfold bruE at e
  split at e
  · cases e
  · rename_i c1
    split at e
    · rename_i c2; exact absurd e c2
    · rename_i c2
      split at e
      · cases e
      · rename_i c3
        have k := withinB_iff.1 (by simpa using c1)
        have r := withinB_iff.1 (by simpa using c3)
        obtain ⟨p1, p2, p3, p4⟩ := plc_ok (x := X) (y := Y) (by simpa using c2)
        exact ⟨k.1, k.2, p1, p2, p3, p4, r.1, r.2, by have := allB_iff.1 (fldE_zero.1 e) 0 (by omega); exact this⟩

/-- What Weight answers. -/
def weiE (k X Y R : Int) (h : Nat) (x y : Int) : Int := if bruE k X Y R h = 0 then plcE x y else bruE k X Y R h
def weiV (k X Y R : Int) (h : Nat) (x y : Int) : Nat := if weiE k X Y R h x y = 0 then weiW k (sqD x y X Y) R else 0

/-- The box of a brush; of a wrong one nothing. -/
def boxR (k X Y R : Int) (h : Nat) : Value := if bruE k X Y R h = 0 then reg (X - R + 1) (Y - R + 1) (2 * R - 1) (2 * R - 1) else reg 0 0 0 0

end Go.Proofs.Ytdbponidkodmfaa

/- Stamp of both sides, of a right field. -/
namespace Go.Proofs.Ytdbponidkodmfaa
open Go.RowKit Fl
set_option linter.unusedVariables false

/-- Stamp of one value. -/
def staW (v h q : Nat) : Nat := addW v (mulW h q)
theorem sta_parts {v h q : Nat} {d : Int} (hv : hgtB v = true) (hh : hgtB h = true) (hq : vS q = some d) (d0 : 0 ≤ d) (d1 : d ≤ (one : Int)) :
    ∃ m r, floatBits .mul .f32 h q = some m ∧ Same2 .mul 20 h q ∧ floatBits .add .f32 v m = some r ∧ Same2 .add 21 v m ∧ staW v h q = r ∧ r < 4294967296 := by
  have s1 : Same2 .mul (20 + 0) h q := mul_same (by omega) (hgt_bd hh) (bd_unit hq (by omega) d1)
  obtain ⟨m, e1, b1⟩ := same_ex s1
  have s2 : Same2 .add 21 v m := add_same (k := 20) (by omega) (hgt_bd hv) b1
  obtain ⟨r, e2, _⟩ := same_ex s2
  exact ⟨m, r, e1, s1, e2, s2, by unfold staW mulW addW; rw [e1]; show (floatBits .add .f32 v m).getD 0 = r; rw [e2]; rfl, add_lt e2⟩

/-- What Stamp makes of the cell number i of a region that begins at (X', Y') and is W' wide. -/
def staF (v : Nat → Nat) (k X Y R : Int) (h : Nat) (X' Y' : Int) (W' : Nat) (i : Nat) : Nat := staW (v i) h (weiW k (sqD (X' + ((i % W' : Nat) : Int)) (Y' + ((i / W' : Nat) : Int)) X Y) R)

end Go.Proofs.Ytdbponidkodmfaa

/- Stamp of the reference, of a right field. -/
namespace Go.Proofs.Ytdbponidkodmfaa
open Go.RowKit Fl
set_option linter.unusedVariables false

theorem sta_wf {n : Nat} {v : Nat → Nat} {k X Y R : Int} {h : Nat} {X' Y' : Int} {W' : Nat} (hh : allB n (fun i => hgtB (v i)) = true) (K : BruOk k X Y R h) : wf32 n (staF v k X Y R h X' Y' W') := by
  intro i hi
  unfold staF
  have n0 : 0 ≤ sqD (X' + ((i % W' : Nat) : Int)) (Y' + ((i / W' : Nat) : Int)) X Y := by
    unfold sqD
    have sq : ∀ d : Int, 0 ≤ d * d := fun d => by rw [← Int.natAbs_mul_self' d]; exact Int.mul_nonneg (Int.natCast_nonneg _) (Int.natCast_nonneg _)
    have := sq (X' + ((i % W' : Nat) : Int) - X)
    have := sq (Y' + ((i / W' : Nat) : Int) - Y)
    omega
  obtain ⟨d, hd, d0, d1⟩ := wei_in (k := k) n0 K.r1 K.r2
  obtain ⟨m, r, _, _, _, _, e3, lt⟩ := sta_parts (allB_iff.1 hh i hi) K.hg hd d0 d1
  rw [e3]; exact lt

end Go.Proofs.Ytdbponidkodmfaa

/- What the reference's folds make of a cell; the first error of a list. -/
namespace Go.Proofs.Ytdbponidkodmfaa
open Go.RowKit Fl
set_option linter.unusedVariables false

theorem enters_rFolds1 : Enters 57 := by intro args W; simp [callFunc, Try.func57, Try.f57]

/-- er is the first error of n. -/
def LstE (n : Nat) (e : Nat → Int) (er : Int) : Prop := (er = 0 ∧ ∀ i, i < n → e i = 0) ∨ (er ≠ 0 ∧ ∃ j, j < n ∧ (∀ i, i < j → e i = 0) ∧ e j = er)
theorem lstE_ex (e : Nat → Int) : ∀ n, ∃ er, LstE n e er
  | 0 => ⟨0, .inl ⟨rfl, fun i hi => by omega⟩⟩
  | n + 1 => by
    obtain ⟨er, h⟩ := lstE_ex e n
    rcases h with ⟨rfl, h⟩ | ⟨h0, j, hj, hi, he⟩
    · by_cases c : e n = 0
      · exact ⟨0, .inl ⟨rfl, fun i hi => by
          rcases Nat.lt_or_ge i n with l | l
          · exact h i l
          · rw [show i = n by omega]; exact c⟩⟩
      · exact ⟨e n, .inr ⟨c, n, by omega, h, rfl⟩⟩
    · exact ⟨er, .inr ⟨h0, j, by omega, hi, he⟩⟩
theorem LstE.zero {n : Nat} {e : Nat → Int} {er : Int} (h : LstE n e er) (a : ∀ i, i < n → e i = 0) : er = 0 := by
  rcases h with ⟨rfl, _⟩ | ⟨h0, j, hj, _, he⟩
  · rfl
  · rw [← he]; exact a j hj
theorem LstE.at {n j : Nat} {e : Nat → Int} {er : Int} (h : LstE n e er) (a : ∀ i, i < j → e i = 0) (hj : j < n) (he : e j ≠ 0) : e j = er := by
  rcases h with ⟨rfl, h⟩ | ⟨h0, k, hk, hi, hek⟩
  · exact absurd (h j hj) he
  · rcases Nat.lt_trichotomy j k with c | c | c
    · exact absurd (hi j c) he
    · rw [c]; exact hek
    · rw [a k c] at hek; exact absurd hek.symm h0
theorem LstE.all {n : Nat} {e : Nat → Int} (h : LstE n e 0) : ∀ i, i < n → e i = 0 := by
  rcases h with ⟨_, h⟩ | ⟨h0, _⟩
  · exact h
  · exact absurd rfl h0

set_option maxHeartbeats 4000000 in
set_option maxRecDepth 100000 in
theorem rFolds1_any (X Y : Int) (W H m b cap : Nat) (v : Nat → Nat) (a : Option Addr) (n lcap : Nat) (A B P : Nat → Int) (h : Nat → Nat) (p q : Nat) (w : World) (hp : w.heap[p]? = some (fldO X Y W H (.slice (some ⟨b, 0, none⟩) m cap))) (hq : w.heap[q]? = some (folsO a n lcap)) (hc : FlAt w b 0 m v)
    (hh : allB m (fun i => hgtB (v i)) = true) (L : FolL w a n A B P h) (hn : n ≤ 100) (K : ∀ i, i < n → FolOk (A i) (B i) (P i) (h i)) (h0 : checkR X Y W H = 0) (hnn : m = H * W) :
    Clos2 57 #[.pointer (some ⟨p, 0, none⟩), .pointer (some ⟨q, 0, none⟩)] X Y W H (fun i => accW (v i) (folF A B P h (X + ((i % W : Nat) : Int)) (Y + ((i / W : Nat) : Int))) n) w := by
  intro x y i w2 h1 h2 h3 h4 h5 hb
  obtain ⟨b1, b2, b3, b4, b5, b6, b7, b8, b9⟩ := checkR_zero h0
  have hm : m ≤ 65536 := by
    have : ((W : Int) * (H : Int)) = (m : Int) := by rw [hnn, Nat.mul_comm]; simp
    omega
  have hi' : i < m := num_lt (by omega) h1 h2 h4 h5 hnn
  have hv := allB_iff.1 hh i hi'
  have hrow := flAt_congr hc (hb.block b (World.block_lt_of_cell? w _ (hc i hi')))
  have AT := Lib.hid (fun W' (hb : Below w2.heap.size w2 W') => refAt_any X Y W H m b cap i v x y W' (by omega) (by omega) (by omega) (by omega) (by omega) (by omega) (by omega) h1 h2 h3 h4 h5 hi' hm (flAt_congr hrow (hb.block _ (World.block_lt_of_cell? w2 _ (hrow i hi')))))
  obtain ⟨ex, ey⟩ := place_of (show 1 ≤ W by omega) h1 h2 h3 h5
  simp only [ex, ey]
  have LI := Lib.hid (fun i (hi : i < n) w => rlift_any (A i) (B i) (P i) (h i) x y w (K i hi) (by omega) (by omega) (by omega) (by omega))
  have ST := Lib.hid (fun j (hj : j < n) => acc_step (hgt_bd hv) hn hj (folF_bd (x := x) (y := y) K))
  have hsf := fun (w : World) (a : Addr) (m : Mode) (k : FloatKind) (b : Nat) => run_store_float (P := Try.prog) (w := w) (a := a) (m := m) k b
  have HL := Lib.hid (L.stay hb)
  have GF := Lib.hid (blkStay hp hb)
  have GQ := Lib.hid (blkStay hq hb)
  obtain ⟨cF, fF, zF⟩ := blkC GF.out
  have zQ := (blkC GQ.out).2.2
  obtain ⟨F, hF⟩ : ∃ F, folF A B P h x y = F := ⟨_, rfl⟩
  have FF := Lib.hid (show ∀ i, lifW (folK (A i) (B i) (P i) x y) (P i) (h i) = F i from fun i => by rw [← hF]; rfl)
  rw [hF] at ST ⊢
  generalize v i = vi at *
  clear hb h1 h2 h3 h4 h5 b1 b2 b3 b4 b5 b6 b7 b8 b9 hnn hh h0 hi' hm hrow hp hq hc K L hv ex ey hF
  go_enter Try.func57, Try.ntmps57
  go_wp2_with (first | (go_at_call 58; refine (AT.out _ (by repeat (first | exact Below.refl _ _ | refine Below.alloc ?_ (by first | omega | (simp; done) | (simp; omega)) _ | refine Below.setCell ?_ (by first | omega | (simp; done) | (simp; omega)) _ | refine Below.drew ?_))).mono ?_; rintro e w3 ⟨rfl, hw3⟩; have hb3 : Below w2.heap.size w2 w3 := (by rw [← hw3]; exact (by repeat (first | exact Below.refl _ _ | refine Below.alloc ?_ (by first | omega | (simp; done) | (simp; omega)) _ | refine Below.setCell ?_ (by first | omega | (simp; done) | (simp; omega)) _ | refine Below.drew ?_))); have HB3 := Lib.hid hb3; clear cF fF zF; clear hw3; obtain ⟨cQ, fQ, zQ3⟩ := blkC (blkStay GQ.out hb3); clear hb3))
  go_loopw [7, 16] (fun u i wr => ∃ j : Nat, j ≤ n ∧ u = .float .f32 (accW vi F j) ∧ i = .int .i64 j ∧ Below w2.heap.size w2 wr) (fun _ i _ => n - (intOf i).toNat)
  case atStart => exact ⟨0, by omega, rfl, rfl, HB3.out⟩
  case round =>
    obtain ⟨j, hj, rfl, rfl, hb⟩ := hrel
    by_cases c : j < n
    · have HB := Lib.hid hb
      rcases HL.out.stay hb with z | ⟨b, off, rfl, l⟩
      · omega
      obtain ⟨l0, l1, l2, l3⟩ := l j c
      obtain ⟨r, r1, rs, er, _⟩ := ST.out j c
      have AD := Lib.hid (fun w => refAdd_any _ (accW vi F j) (F j) r rs r1 w)
      have L1 := Lib.hid (fun w => LI.out j c w)
      rw [FF.out j] at L1
      have ER := Lib.hid er
      generalize accW vi F j = u at *
      clear l er hb r1 rs cQ fQ zQ3
      go_wp2_with (first | (go_at_call 60; refine (L1.out _).mono ?_; rintro e' w4 ⟨rfl, hb4⟩; have hB4 : Below wr.heap.size wr w4 := Below.trans (by repeat (first | exact Below.refl _ _ | refine Below.alloc ?_ (by first | omega | (simp; done) | (simp; omega)) _ | refine Below.setCell ?_ (by first | omega | (simp; done) | (simp; omega)) _ | refine Below.drew ?_)) (Below.mono hb4 (by simp)); have HB4 := Lib.hid (HB.out.trans (hB4.mono HB.out.size)); clear hb4 hB4) | (go_at_call 59; refine (AD.out _).mono ?_; rintro e' w' ⟨rfl, rfl⟩))
      go_roundw
      case rel => exact ⟨j + 1, by omega, by rw [ER.out], by go_num, HB4.out⟩
      case measure => simp [intOf]; omega
    · have : j = n := by omega
      subst this
      go_wp2
      go_ret
      exact ⟨rfl, hb⟩
end Go.Proofs.Ytdbponidkodmfaa

/- Contracts: what a fault throws, of both sides. -/
namespace Go.Proofs.Ytdbponidkodmfaa
open Go.RowKit Fl
set_option linter.unusedVariables false

/-- Where a place lies beside its fault. -/
def fauK (A B C x y : Int) : Int := A * x + B * y + C
theorem fauK_in {A B C x y : Int} (a : A.natAbs ≤ 1000) (b : B.natAbs ≤ 1000) (c1 : -1099511627776 ≤ C) (c2 : C ≤ 1099511627776) (x1 : -8388608 ≤ x) (x2 : x ≤ 8388608) (y1 : -8388608 ≤ y) (y2 : y ≤ 8388608) : (fauK A B C x y).natAbs ≤ 4398046511104 := by
  have := part_bd a x1 x2
  have := part_bd b y1 y2
  unfold fauK; omega

set_option maxHeartbeats 4000000 in
set_option maxRecDepth 100000 in
theorem throw_any (A B C D : Int) (h : Nat) (x y : Int) (w : World) (K : FauOk A B C D h) (x1 : -8388608 ≤ x) (x2 : x ≤ 8388608) (y1 : -8388608 ≤ y) (y2 : y ≤ 8388608) :
    Calls Try.prog 68 #[fau A B C D h, .int .i64 x, .int .i64 y] w fun e w' => e = .returned (.float .f32 (thrW (fauK A B C x y) (lenW A B 0) D h)) ∧ Below w.heap.size w w' := by
  obtain ⟨d, u, c1, c2, H⟩ := thr_parts (T := h) (fauK_in K.a1 K.b1 K.c1 K.c2 x1 x2 y1 y2) (len_in K.a1 K.b1 K.sq) K.p1 K.p2 K.hh
  have u1 := part_bd K.a1 x1 x2
  have u2 := part_bd K.b1 y1 y2
  have k1 := K.c1
  have k2 := K.c2
  have LE := Lib.hid (fun bb w (hb : w.heap[bb]? = some (dir2Obj A B)) => length2_any A B bb w hb K.a1 K.b1 K.sq)
  obtain ⟨a, ha⟩ : ∃ a, A * x = a := ⟨_, rfl⟩
  obtain ⟨b, hb⟩ : ∃ b, B * y = b := ⟨_, rfl⟩
  have w1 : wrap64 (A * x) = a := by rw [← ha]; exact IntWalk.wrap64_in _ ⟨by omega, by omega⟩
  have w2 : wrap64 (B * y) = b := by rw [← hb]; exact IntWalk.wrap64_in _ ⟨by omega, by omega⟩
  have w1' : IntKind.i64.wrap (A * x) = a := by rw [← ha]; exact IntWalk.i64_in _ (by omega)
  have w2' : IntKind.i64.wrap (B * y) = b := by rw [← hb]; exact IntWalk.i64_in _ (by omega)
  rw [ha] at u1
  rw [hb] at u2
  obtain ⟨n, hn⟩ : ∃ n, a + b = n := ⟨_, rfl⟩
  have w3 : wrap64 (a + b) = n := by rw [← hn]; exact IntWalk.wrap64_in _ ⟨by omega, by omega⟩
  have w3' : IntKind.i64.wrap (a + b) = n := by rw [← hn]; exact IntWalk.i64_in _ (by omega)
  obtain ⟨k, hk⟩ : ∃ k, n + C = k := ⟨_, rfl⟩
  have w4 : wrap64 (n + C) = k := by rw [← hk]; exact IntWalk.wrap64_in _ ⟨by omega, by omega⟩
  have w4' : IntKind.i64.wrap (n + C) = k := by rw [← hk]; exact IntWalk.i64_in _ (by omega)
  have ek : fauK A B C x y = k := by unfold fauK; rw [ha, hb, hn, hk]
  have D1 := K.p1
  have D2 := K.p2
  have w5 : wrap64 (D * 2) = D * 2 := IntWalk.wrap64_in _ ⟨by omega, by omega⟩
  have w5' : IntKind.i64.wrap (D * 2) = D * 2 := IntWalk.i64_in _ (by omega)
  rw [ek] at H ⊢
  have e1 := fun (W : World) => run_float_arith (P := Try.prog) W .quo 34 .f32 _ _ d H.d1
  have ng := run_neg_f32
  have g1 := H.g1
  have g2 := H.g2
  have uw := H.uw
  have mid := H.mid
  unfold thrW
  rw [H.dw, uw, g1, g2]
  generalize lenW A B 0 = M at *
  have GB := Lib.hid (show (w.alloc (fauObj A B C D h)).heap[w.heap.size]? = some (fauObj A B C D h) from heap_alloc_new _ _)
  have zB : w.heap.size < (w.alloc (fauObj A B C D h)).heap.size := by simp
  have B0 : Below w.heap.size w (w.alloc (fauObj A B C D h)) := (Below.refl _ _).alloc (Nat.le_refl _) _
  clear H ha hb hn hk ek K x1 x2 y1 y2 u1 u2 k1 k2
  have goal : ∀ (v : Nat), (c1 = true → v = h) → (c1 = false → c2 = true → v = 0) → (c1 = false → c2 = false → v = midW d D h) → Calls Try.prog 68 #[fau A B C D h, .int .i64 x, .int .i64 y] w fun e w' => e = .returned (.float .f32 v) ∧ Below w.heap.size w w' := by
    intro v v1 v2 v3
    cases c1 with
    | true =>
      have := v1 rfl
      subst this
      clear v1 v2 v3 mid
      go_enter Try.func68, Try.ntmps68
      go_wp2
      go_region_held3 (fun w' => (∀ o, w'.cell? ⟨w.heap.size, o, none⟩ = #[.int .i64 A, .int .i64 B, .int .i64 C, .int .i64 D, .float .f32 v][o]?) ∧ Below (w.alloc (fauObj A B C D v)).heap.size (w.alloc (fauObj A B C D v)) w') (first | exact ⟨(blkC (blkStay GB.out hb9)).1, hb9⟩ | exact ⟨(blkC (blkStay GB.out (by repeat (first | exact Below.refl _ _ | refine Below.alloc ?_ (by first | omega | (simp; done) | (simp; omega)) _ | refine Below.setCell ?_ (by first | omega | (simp; done) | (simp; omega)) _ | refine Below.drew ?_)))).1, (by repeat (first | exact Below.refl _ _ | refine Below.alloc ?_ (by first | omega | (simp; done) | (simp; omega)) _ | refine Below.setCell ?_ (by first | omega | (simp; done) | (simp; omega)) _ | refine Below.drew ?_))⟩) (first | (go_at_call 137; (with_reducible refine Calls.mono (LE.out _ _ ?_) ?_); (exact blkDrew (by (first | (rw [heap_alloc_get, if_pos rfl]; done) | ((simp only [heap_alloc_get, heap_size_alloc, if_true]) <;> ((repeat' split) <;> first | rfl | omega))))); rintro e w' ⟨rfl, rfl⟩))
      rename_i wh hHeld
      go_wp2
      go_ret
      exact ⟨rfl, B0.trans (hHeld.2.mono B0.size)⟩
    | false =>
      cases c2 with
      | true =>
        have := v2 rfl rfl
        subst this
        clear v1 v2 v3 mid
        go_enter Try.func68, Try.ntmps68
        go_wp2
        go_region_held3 (fun w' => (∀ o, w'.cell? ⟨w.heap.size, o, none⟩ = #[.int .i64 A, .int .i64 B, .int .i64 C, .int .i64 D, .float .f32 h][o]?) ∧ Below (w.alloc (fauObj A B C D h)).heap.size (w.alloc (fauObj A B C D h)) w') (first | exact ⟨(blkC (blkStay GB.out hb9)).1, hb9⟩ | exact ⟨(blkC (blkStay GB.out (by repeat (first | exact Below.refl _ _ | refine Below.alloc ?_ (by first | omega | (simp; done) | (simp; omega)) _ | refine Below.setCell ?_ (by first | omega | (simp; done) | (simp; omega)) _ | refine Below.drew ?_)))).1, (by repeat (first | exact Below.refl _ _ | refine Below.alloc ?_ (by first | omega | (simp; done) | (simp; omega)) _ | refine Below.setCell ?_ (by first | omega | (simp; done) | (simp; omega)) _ | refine Below.drew ?_))⟩) (first | (go_at_call 137; (with_reducible refine Calls.mono (LE.out _ _ ?_) ?_); (exact blkDrew (by (first | (rw [heap_alloc_get, if_pos rfl]; done) | ((simp only [heap_alloc_get, heap_size_alloc, if_true]) <;> ((repeat' split) <;> first | rfl | omega))))); rintro e w' ⟨rfl, rfl⟩))
        rename_i wh hHeld
        go_wp2
        go_ret
        exact ⟨rfl, B0.trans (hHeld.2.mono B0.size)⟩
      | false =>
        obtain ⟨s, z, q, p, q', r', e, r, m⟩ := mid rfl rfl
        have := v3 rfl rfl
        rw [m.w] at this
        subst this
        have e2 := fun (W : World) => run_float_arith (P := Try.prog) W .add 34 .f32 d u s m.s1
        have e3 := fun (W : World) => run_float_arith (P := Try.prog) W .quo 34 .f32 s z q m.q1
        have e4 := fun (W : World) => run_float_arith (P := Try.prog) W .mul 34 .f32 h e v m.r1
        have SE := Lib.hid (fun w => sease_any q p q' r' e m.ea m.wi w)
        rw [m.ea.w] at SE
        have xw := m.xw
        clear v1 v2 v3 mid m
        go_enter Try.func68, Try.ntmps68
        go_wp2
        go_region_held3 (fun w' => (∀ o, w'.cell? ⟨w.heap.size, o, none⟩ = #[.int .i64 A, .int .i64 B, .int .i64 C, .int .i64 D, .float .f32 h][o]?) ∧ Below (w.alloc (fauObj A B C D h)).heap.size (w.alloc (fauObj A B C D h)) w') (first | exact ⟨(blkC (blkStay GB.out hb9)).1, hb9⟩ | exact ⟨(blkC (blkStay GB.out (by repeat (first | exact Below.refl _ _ | refine Below.alloc ?_ (by first | omega | (simp; done) | (simp; omega)) _ | refine Below.setCell ?_ (by first | omega | (simp; done) | (simp; omega)) _ | refine Below.drew ?_)))).1, (by repeat (first | exact Below.refl _ _ | refine Below.alloc ?_ (by first | omega | (simp; done) | (simp; omega)) _ | refine Below.setCell ?_ (by first | omega | (simp; done) | (simp; omega)) _ | refine Below.drew ?_))⟩) (first | (go_at_call 137; (with_reducible refine Calls.mono (LE.out _ _ ?_) ?_); (exact blkDrew (by (first | (rw [heap_alloc_get, if_pos rfl]; done) | ((simp only [heap_alloc_get, heap_size_alloc, if_true]) <;> ((repeat' split) <;> first | rfl | omega))))); rintro e w' ⟨rfl, rfl⟩))
        rename_i wh hHeld
        obtain ⟨cB, hB2⟩ := hHeld
        go_wp2
        go_quiet (first | (go_at_call 127; exact (SE.out _).mono fun _ _ h => ⟨h.1, _, h.2.symm⟩))
        go_wp2
        go_ret
        exact ⟨rfl, (B0.trans (hB2.mono B0.size)).trans ((below_drewN _ _).mono (B0.trans (hB2.mono B0.size)).size)⟩
  refine goal _ (fun z => by rw [if_pos z]) (fun z z' => by rw [if_neg (by rw [z]; simp), if_pos z']) (fun z z' => by rw [if_neg (by rw [z]; simp), if_neg (by rw [z']; simp)])

set_option maxHeartbeats 4000000 in
set_option maxRecDepth 100000 in
theorem rthrow_any (A B C D : Int) (h : Nat) (x y : Int) (w : World) (K : FauOk A B C D h) (x1 : -8388608 ≤ x) (x2 : x ≤ 8388608) (y1 : -8388608 ≤ y) (y2 : y ≤ 8388608) :
    Calls Try.prog 70 #[fau A B C D h, .int .i64 x, .int .i64 y] w fun e w' => e = .returned (.float .f32 (thrW (fauK A B C x y) (lenW A B 0) D h)) ∧ Below w.heap.size w w' := by
  obtain ⟨d, u, c1, c2, H⟩ := thr_parts (T := h) (fauK_in K.a1 K.b1 K.c1 K.c2 x1 x2 y1 y2) (len_in K.a1 K.b1 K.sq) K.p1 K.p2 K.hh
  obtain ⟨⟨X, Z, cc, RT⟩, _⟩ := dir_len K.a1 K.b1 (by decide : (0 : Int).natAbs ≤ 1000) K.sq
  have u1 := part_bd K.a1 x1 x2
  have u2 := part_bd K.b1 y1 y2
  have k1 := K.c1
  have k2 := K.c2
  have s1 := sq_small K.a1
  have s2 := sq_small K.b1
  obtain ⟨a2, ha2⟩ : ∃ a, A * A = a := ⟨_, rfl⟩
  obtain ⟨b2, hb2⟩ : ∃ b, B * B = b := ⟨_, rfl⟩
  have esq : sq3 A B 0 = a2 + b2 := by unfold sq3; rw [ha2, hb2]; simp
  rw [ha2] at s1
  rw [hb2] at s2
  have q1 : wrap64 (A * A) = a2 := by rw [ha2]; exact IntWalk.wrap64_in _ ⟨by omega, by omega⟩
  have q2 : wrap64 (B * B) = b2 := by rw [hb2]; exact IntWalk.wrap64_in _ ⟨by omega, by omega⟩
  have q3 : wrap64 (a2 + b2) = a2 + b2 := IntWalk.wrap64_in _ ⟨by omega, by omega⟩
  have q1' : IntKind.i64.wrap (A * A) = a2 := by rw [ha2]; exact IntWalk.i64_in _ (by omega)
  have q2' : IntKind.i64.wrap (B * B) = b2 := by rw [hb2]; exact IntWalk.i64_in _ (by omega)
  have q3' : IntKind.i64.wrap (a2 + b2) = a2 + b2 := IntWalk.i64_in _ (by omega)
  obtain ⟨a, ha⟩ : ∃ a, A * x = a := ⟨_, rfl⟩
  obtain ⟨b, hb⟩ : ∃ b, B * y = b := ⟨_, rfl⟩
  have w1 : wrap64 (A * x) = a := by rw [← ha]; exact IntWalk.wrap64_in _ ⟨by omega, by omega⟩
  have w2 : wrap64 (B * y) = b := by rw [← hb]; exact IntWalk.wrap64_in _ ⟨by omega, by omega⟩
  rw [ha] at u1
  rw [hb] at u2
  obtain ⟨n, hn⟩ : ∃ n, a + b = n := ⟨_, rfl⟩
  have w3 : wrap64 (a + b) = n := by rw [← hn]; exact IntWalk.wrap64_in _ ⟨by omega, by omega⟩
  obtain ⟨k, hk⟩ : ∃ k, n + C = k := ⟨_, rfl⟩
  have w4 : wrap64 (n + C) = k := by rw [← hk]; exact IntWalk.wrap64_in _ ⟨by omega, by omega⟩
  have ek : fauK A B C x y = k := by unfold fauK; rw [ha, hb, hn, hk]
  rw [ek] at H ⊢
  have RO := Lib.hid (fun w => refRoot_any RT w)
  have DV := Lib.hid (fun w => refDiv_any 42 _ _ d H.d2 H.d1 w)
  rw [esq] at RO
  have eM : lenW A B 0 = rootW (floatOfInt .f32 (a2 + b2)) := by unfold lenW; rw [esq]
  rw [eM] at DV
  have ng := run_neg_f32
  have g1 := H.g1
  have g2 := H.g2
  have uw := H.uw
  have mid := H.mid
  have hz := H.z
  unfold thrW
  rw [H.dw, uw, g1, g2]
  generalize rootW (floatOfInt .f32 (a2 + b2)) = M at *
  clear H RT ha hb hn hk ek K x1 x2 y1 y2 u1 u2 k1 k2 esq eM s1 s2 ha2 hb2
  have CU := Lib.hid (show ∀ w, Calls Try.prog 131 #[.int .i64 D] w fun e w' => e = .returned (.float .f32 u) ∧ w = w' from fun w => by rw [← uw]; exact refConv_any D w)
  have CK := Lib.hid (fun w => refConv_any k w)
  have CS := Lib.hid (fun w => refConv_any (a2 + b2) w)
  have goal : ∀ (v : Nat), (c1 = true → v = h) → (c1 = false → c2 = true → v = 0) → (c1 = false → c2 = false → v = midW d D h) → Calls Try.prog 70 #[fau A B C D h, .int .i64 x, .int .i64 y] w fun e w' => e = .returned (.float .f32 v) ∧ Below w.heap.size w w' := by
    intro v v1 v2 v3
    have hD : (D = 0 ∧ k < 0) ∨ (D = 0 ∧ ¬ k < 0) ∨ D ≠ 0 := by omega
    rcases hD with ⟨z1, z2⟩ | ⟨z1, z2⟩ | zD
    · obtain ⟨e1, e2⟩ := hz z1 z2
      have := v2 e1 e2
      subst this z1
      have kn : decide (k < 0) = true := by simpa using z2
      clear v1 v2 v3 mid hz g1 g2 z2
      go_enter Try.func70, Try.ntmps70
      go_wp2
      go_quiet (first | (go_at_call 131; (with_reducible refine (CU.out _).mono ?_); exact fun _ _ h => ⟨h.1, _, h.2.symm⟩) | (go_at_call 131; (with_reducible refine (CK.out _).mono ?_); exact fun _ _ h => ⟨h.1, _, h.2.symm⟩) | (go_at_call 131; (with_reducible refine (CS.out _).mono ?_); exact fun _ _ h => ⟨h.1, _, h.2.symm⟩) | (go_at_call 85; exact (RO.out _).mono fun _ _ h => ⟨h.1, _, h.2.symm⟩) | (go_at_call 130; exact (DV.out _).mono fun _ _ h => ⟨h.1, _, h.2.symm⟩))
      go_wp2
      go_ret
      exact ⟨rfl, drewBox _ _ _ rfl⟩
    · subst z1
      have kn : decide (k < 0) = false := by simpa using z2
      clear z2 hz
      cases c1 with
      | true =>
        have := v1 rfl
        subst this
        clear v1 v2 v3 mid
        go_enter Try.func70, Try.ntmps70
        go_wp2
        go_quiet (first | (go_at_call 131; (with_reducible refine (CU.out _).mono ?_); exact fun _ _ h => ⟨h.1, _, h.2.symm⟩) | (go_at_call 131; (with_reducible refine (CK.out _).mono ?_); exact fun _ _ h => ⟨h.1, _, h.2.symm⟩) | (go_at_call 131; (with_reducible refine (CS.out _).mono ?_); exact fun _ _ h => ⟨h.1, _, h.2.symm⟩) | (go_at_call 85; exact (RO.out _).mono fun _ _ h => ⟨h.1, _, h.2.symm⟩) | (go_at_call 130; exact (DV.out _).mono fun _ _ h => ⟨h.1, _, h.2.symm⟩))
        go_wp2
        go_ret
        exact ⟨rfl, drewBox _ _ _ rfl⟩
      | false =>
        cases c2 with
        | true =>
          have := v2 rfl rfl
          subst this
          clear v1 v2 v3 mid
          go_enter Try.func70, Try.ntmps70
          go_wp2
          go_quiet (first | (go_at_call 131; (with_reducible refine (CU.out _).mono ?_); exact fun _ _ h => ⟨h.1, _, h.2.symm⟩) | (go_at_call 131; (with_reducible refine (CK.out _).mono ?_); exact fun _ _ h => ⟨h.1, _, h.2.symm⟩) | (go_at_call 131; (with_reducible refine (CS.out _).mono ?_); exact fun _ _ h => ⟨h.1, _, h.2.symm⟩) | (go_at_call 85; exact (RO.out _).mono fun _ _ h => ⟨h.1, _, h.2.symm⟩) | (go_at_call 130; exact (DV.out _).mono fun _ _ h => ⟨h.1, _, h.2.symm⟩))
          go_wp2
          go_ret
          exact ⟨rfl, drewBox _ _ _ rfl⟩
        | false =>
          obtain ⟨s, z, q, p, q', r', e, r, m⟩ := mid rfl rfl
          have := v3 rfl rfl
          rw [m.w] at this
          subst this
          have AD := Lib.hid (fun w => refAdd_any 43 _ _ s m.s2 m.s1 w)
          have M1 := Lib.hid (fun w => refMul_any 26 _ _ z m.x2 m.x1 w)
          have DW := Lib.hid (fun w => refDiv_any 0 _ _ q m.q2 m.q1 w)
          have SE := Lib.hid (fun w => refEase_any q p q' r' e m.ea w)
          have M2 := Lib.hid (fun w => refMul_any 20 _ _ v m.r2 m.r1 w)
          rw [m.ea.w] at SE
          clear v1 v2 v3 mid m
          go_enter Try.func70, Try.ntmps70
          go_wp2
          go_quiet (first | (go_at_call 131; (with_reducible refine (CU.out _).mono ?_); exact fun _ _ h => ⟨h.1, _, h.2.symm⟩) | (go_at_call 131; (with_reducible refine (CK.out _).mono ?_); exact fun _ _ h => ⟨h.1, _, h.2.symm⟩) | (go_at_call 131; (with_reducible refine (CS.out _).mono ?_); exact fun _ _ h => ⟨h.1, _, h.2.symm⟩) | (go_at_call 85; exact (RO.out _).mono fun _ _ h => ⟨h.1, _, h.2.symm⟩) | (go_at_call 130; exact (DV.out _).mono fun _ _ h => ⟨h.1, _, h.2.symm⟩))
          go_wp2
          go_quiet (first | (go_at_call 59; exact (AD.out _).mono fun _ _ h => ⟨h.1, _, h.2.symm⟩) | (go_at_call 86; (with_reducible refine (M1.out _).mono ?_); exact fun _ _ h => ⟨h.1, _, h.2.symm⟩) | (go_at_call 86; (with_reducible refine (M2.out _).mono ?_); exact fun _ _ h => ⟨h.1, _, h.2.symm⟩) | (go_at_call 130; exact (DW.out _).mono fun _ _ h => ⟨h.1, _, h.2.symm⟩) | (go_at_call 132; exact (SE.out _).mono fun _ _ h => ⟨h.1, _, h.2.symm⟩))
          go_wp2
          go_ret
          exact ⟨rfl, drewBox2 _ _ _ _ rfl⟩
    · have dn : (D == 0) = false := by simpa using zD
      clear hz
      cases c1 with
      | true =>
        have := v1 rfl
        subst this
        clear v1 v2 v3 mid
        go_enter Try.func70, Try.ntmps70
        go_wp2
        go_quiet (first | (go_at_call 131; (with_reducible refine (CU.out _).mono ?_); exact fun _ _ h => ⟨h.1, _, h.2.symm⟩) | (go_at_call 131; (with_reducible refine (CK.out _).mono ?_); exact fun _ _ h => ⟨h.1, _, h.2.symm⟩) | (go_at_call 131; (with_reducible refine (CS.out _).mono ?_); exact fun _ _ h => ⟨h.1, _, h.2.symm⟩) | (go_at_call 85; exact (RO.out _).mono fun _ _ h => ⟨h.1, _, h.2.symm⟩) | (go_at_call 130; exact (DV.out _).mono fun _ _ h => ⟨h.1, _, h.2.symm⟩))
        go_wp2
        go_ret
        exact ⟨rfl, drewBox _ _ _ rfl⟩
      | false =>
        cases c2 with
        | true =>
          have := v2 rfl rfl
          subst this
          clear v1 v2 v3 mid
          go_enter Try.func70, Try.ntmps70
          go_wp2
          go_quiet (first | (go_at_call 131; (with_reducible refine (CU.out _).mono ?_); exact fun _ _ h => ⟨h.1, _, h.2.symm⟩) | (go_at_call 131; (with_reducible refine (CK.out _).mono ?_); exact fun _ _ h => ⟨h.1, _, h.2.symm⟩) | (go_at_call 131; (with_reducible refine (CS.out _).mono ?_); exact fun _ _ h => ⟨h.1, _, h.2.symm⟩) | (go_at_call 85; exact (RO.out _).mono fun _ _ h => ⟨h.1, _, h.2.symm⟩) | (go_at_call 130; exact (DV.out _).mono fun _ _ h => ⟨h.1, _, h.2.symm⟩))
          go_wp2
          go_ret
          exact ⟨rfl, drewBox _ _ _ rfl⟩
        | false =>
          obtain ⟨s, z, q, p, q', r', e, r, m⟩ := mid rfl rfl
          have := v3 rfl rfl
          rw [m.w] at this
          subst this
          have AD := Lib.hid (fun w => refAdd_any 43 _ _ s m.s2 m.s1 w)
          have M1 := Lib.hid (fun w => refMul_any 26 _ _ z m.x2 m.x1 w)
          have DW := Lib.hid (fun w => refDiv_any 0 _ _ q m.q2 m.q1 w)
          have SE := Lib.hid (fun w => refEase_any q p q' r' e m.ea w)
          have M2 := Lib.hid (fun w => refMul_any 20 _ _ v m.r2 m.r1 w)
          rw [m.ea.w] at SE
          clear v1 v2 v3 mid m
          go_enter Try.func70, Try.ntmps70
          go_wp2
          go_quiet (first | (go_at_call 131; (with_reducible refine (CU.out _).mono ?_); exact fun _ _ h => ⟨h.1, _, h.2.symm⟩) | (go_at_call 131; (with_reducible refine (CK.out _).mono ?_); exact fun _ _ h => ⟨h.1, _, h.2.symm⟩) | (go_at_call 131; (with_reducible refine (CS.out _).mono ?_); exact fun _ _ h => ⟨h.1, _, h.2.symm⟩) | (go_at_call 85; exact (RO.out _).mono fun _ _ h => ⟨h.1, _, h.2.symm⟩) | (go_at_call 130; exact (DV.out _).mono fun _ _ h => ⟨h.1, _, h.2.symm⟩))
          go_wp2
          go_quiet (first | (go_at_call 59; exact (AD.out _).mono fun _ _ h => ⟨h.1, _, h.2.symm⟩) | (go_at_call 86; (with_reducible refine (M1.out _).mono ?_); exact fun _ _ h => ⟨h.1, _, h.2.symm⟩) | (go_at_call 86; (with_reducible refine (M2.out _).mono ?_); exact fun _ _ h => ⟨h.1, _, h.2.symm⟩) | (go_at_call 130; exact (DW.out _).mono fun _ _ h => ⟨h.1, _, h.2.symm⟩) | (go_at_call 132; exact (SE.out _).mono fun _ _ h => ⟨h.1, _, h.2.symm⟩))
          go_wp2
          go_ret
          exact ⟨rfl, drewBox2 _ _ _ _ rfl⟩
  refine goal _ (fun z => by rw [if_pos z]) (fun z z' => by rw [if_neg (by rw [z]; simp), if_pos z']) (fun z z' => by rw [if_neg (by rw [z]; simp), if_neg (by rw [z']; simp)])
end Go.Proofs.Ytdbponidkodmfaa

/- A list of faults; what its faults make of a cell, of both sides. -/
namespace Go.Proofs.Ytdbponidkodmfaa
open Go.RowKit Fl
set_option linter.unusedVariables false

/-- The cells of a list of faults. -/
def FausAt (w : World) (b off n : Nat) (A B C D : Nat → Int) (h : Nat → Nat) : Prop :=
  ∀ i, i < n → w.cell? ⟨b, off + i * 5, none⟩ = some (.int .i64 (A i)) ∧ w.cell? ⟨b, off + i * 5 + 1, none⟩ = some (.int .i64 (B i)) ∧ w.cell? ⟨b, off + i * 5 + 2, none⟩ = some (.int .i64 (C i)) ∧ w.cell? ⟨b, off + i * 5 + 3, none⟩ = some (.int .i64 (D i)) ∧ w.cell? ⟨b, off + i * 5 + 4, none⟩ = some (.float .f32 (h i))
/-- A list of n faults: empty, or known cell by cell. -/
def FauL (w : World) (a : Option Addr) (n : Nat) (A B C D : Nat → Int) (h : Nat → Nat) : Prop := n = 0 ∨ ∃ b off, a = some ⟨b, off, none⟩ ∧ FausAt w b off n A B C D h

theorem FausAt.stay {w w' : World} {b off n : Nat} {A B C D : Nat → Int} {h : Nat → Nat} (L : FausAt w b off n A B C D h) (hb : Below w.heap.size w w') : FausAt w' b off n A B C D h := fun i hi => by
  obtain ⟨l0, l1, l2, l3, l4⟩ := L i hi
  have z : b < w.heap.size := World.block_lt_of_cell? w _ l0
  exact ⟨(Below.cell (p := ⟨b, off + i * 5, none⟩) hb z).trans l0, (Below.cell (p := ⟨b, off + i * 5 + 1, none⟩) hb z).trans l1, (Below.cell (p := ⟨b, off + i * 5 + 2, none⟩) hb z).trans l2, (Below.cell (p := ⟨b, off + i * 5 + 3, none⟩) hb z).trans l3, (Below.cell (p := ⟨b, off + i * 5 + 4, none⟩) hb z).trans l4⟩
theorem FauL.stay {w w' : World} {a : Option Addr} {n : Nat} {A B C D : Nat → Int} {h : Nat → Nat} (L : FauL w a n A B C D h) (hb : Below w.heap.size w w') : FauL w' a n A B C D h :=
  L.imp id fun ⟨b, off, e, l⟩ => ⟨b, off, e, l.stay hb⟩

/-- What the faults of a list throw at a place. -/
def fauF (A B C D : Nat → Int) (h : Nat → Nat) (x y : Int) (i : Nat) : Nat := thrW (fauK (A i) (B i) (C i) x y) (lenW (A i) (B i) 0) (D i) (h i)
theorem fauF_bd {A B C D : Nat → Int} {h : Nat → Nat} {x y : Int} {n : Nat} (K : ∀ i, i < n → FauOk (A i) (B i) (C i) (D i) (h i)) (x1 : -8388608 ≤ x) (x2 : x ≤ 8388608) (y1 : -8388608 ≤ y) (y2 : y ≤ 8388608) : ∀ i, i < n → Bd 20 (fauF A B C D h x y i) := fun i hi =>
  thr_bd (fauK_in (K i hi).a1 (K i hi).b1 (K i hi).c1 (K i hi).c2 x1 x2 y1 y2) (len_in (K i hi).a1 (K i hi).b1 (K i hi).sq) (K i hi).p1 (K i hi).p2 (K i hi).hh

abbrev fausV (a : Option Addr) (n cap : Nat) : Value := .slice a n cap
abbrev fausO (a : Option Addr) (n cap : Nat) : Obj := .cells #[.slice a n cap] 42
abbrev throwO : Obj := .cells #[.func (.func 68) #[] #[]] 89

theorem enters_bentFault1 : Enters 136 := by intro args W; simp [callFunc, Try.func136, Try.f136]

set_option maxHeartbeats 2000000 in
set_option maxRecDepth 100000 in
theorem bentFault1_any (a : Option Addr) (n cap : Nat) (A B C D : Nat → Int) (h : Nat → Nat) (v : Nat) (x y : Int) (p q : Nat) (w : World) (hp : w.heap[p]? = some (fausO a n cap)) (hq : w.heap[q]? = some throwO) (L : FauL w a n A B C D h) (hn : n ≤ 100)
    (K : ∀ i, i < n → FauOk (A i) (B i) (C i) (D i) (h i)) (hv : hgtB v = true) (x1 : -8388608 ≤ x) (x2 : x ≤ 8388608) (y1 : -8388608 ≤ y) (y2 : y ≤ 8388608) :
    Calls Try.prog 136 #[.float .f32 v, .int .i64 x, .int .i64 y, .pointer (some ⟨p, 0, none⟩), .pointer (some ⟨q, 0, none⟩)] w fun e w' => e = .returned (.float .f32 (accW v (fauF A B C D h x y) n)) ∧ Below w.heap.size w w' := by
  have hsf := fun (w : World) (a : Addr) (m : Mode) (k : FloatKind) (b : Nat) => run_store_float (P := Try.prog) (w := w) (a := a) (m := m) k b
  have LI := Lib.hid (fun i (hi : i < n) w => throw_any (A i) (B i) (C i) (D i) (h i) x y w (K i hi) x1 x2 y1 y2)
  have ST := Lib.hid (fun j (hj : j < n) => acc_step (hgt_bd hv) hn hj (fauF_bd (x := x) (y := y) K x1 x2 y1 y2))
  have HL := Lib.hid L
  have HQ := Lib.hid hq
  obtain ⟨cP, fP, zP⟩ := blkC hp
  have zQ := (blkC hq).2.2
  obtain ⟨F, hF⟩ : ∃ F, fauF A B C D h x y = F := ⟨_, rfl⟩
  have FF := Lib.hid (show ∀ i, thrW (fauK (A i) (B i) (C i) x y) (lenW (A i) (B i) 0) (D i) (h i) = F i from fun i => by rw [← hF]; rfl)
  rw [hF] at ST ⊢
  clear hp hq L K hv hF x1 x2 y1 y2
  go_enter Try.func136, Try.ntmps136
  go_wp2
  go_loopw [0, 13] (fun u i wr => ∃ j : Nat, j ≤ n ∧ u = .float .f32 (accW v F j) ∧ i = .int .i64 j ∧ Below w.heap.size w wr) (fun _ i _ => n - (intOf i).toNat)
  case atStart => exact ⟨0, by omega, rfl, rfl, Below.refl _ _⟩
  case round =>
    obtain ⟨j, hj, rfl, rfl, hb⟩ := hrel
    by_cases c : j < n
    · have HB := Lib.hid hb
      rcases HL.out.stay hb with z | ⟨b, off, rfl, l⟩
      · omega
      obtain ⟨l0, l1, l2, l3, l4⟩ := l j c
      obtain ⟨r, r1, _, er, _⟩ := ST.out j c
      have e1 := fun (W : World) => run_float_arith (P := Try.prog) W .add 34 .f32 (accW v F j) (F j) r r1
      have L1 := Lib.hid (fun w => LI.out j c w)
      rw [FF.out j] at L1
      have ER := Lib.hid er
      obtain ⟨cQ, fQ, zQ2⟩ := blkC (blkStay HQ.out hb)
      generalize accW v F j = u at *
      clear l er hb r1
      go_wp2_with (first | (go_at_call 68; refine (L1.out _).mono ?_; rintro e' w4 ⟨rfl, hb4⟩; have hB4 : Below wr.heap.size wr w4 := Below.trans (by repeat (first | exact Below.refl _ _ | refine Below.alloc ?_ (by first | omega | (simp; done) | (simp; omega)) _ | refine Below.setCell ?_ (by first | omega | (simp; done) | (simp; omega)) _ | refine Below.drew ?_)) (Below.mono hb4 (by simp)); have HB4 := Lib.hid (HB.out.trans (hB4.mono HB.out.size)); clear hb4 hB4))
      go_roundw
      case rel => exact ⟨j + 1, by omega, by rw [ER.out], by go_num, HB4.out⟩
      case measure => simp [intOf]; omega
    · have : j = n := by omega
      subst this
      go_wp2
      go_ret
      exact ⟨rfl, hb⟩
end Go.Proofs.Ytdbponidkodmfaa

/- What the reference's faults make of a cell. -/
namespace Go.Proofs.Ytdbponidkodmfaa
open Go.RowKit Fl
set_option linter.unusedVariables false

theorem enters_rFaults1 : Enters 69 := by intro args W; simp [callFunc, Try.func69, Try.f69]

set_option maxHeartbeats 4000000 in
set_option maxRecDepth 100000 in
theorem rFaults1_any (X Y : Int) (W H m b cap : Nat) (v : Nat → Nat) (a : Option Addr) (n lcap : Nat) (A B C D : Nat → Int) (h : Nat → Nat) (p q : Nat) (w : World) (hp : w.heap[p]? = some (fldO X Y W H (.slice (some ⟨b, 0, none⟩) m cap))) (hq : w.heap[q]? = some (fausO a n lcap)) (hc : FlAt w b 0 m v)
    (hh : allB m (fun i => hgtB (v i)) = true) (L : FauL w a n A B C D h) (hn : n ≤ 100) (K : ∀ i, i < n → FauOk (A i) (B i) (C i) (D i) (h i)) (h0 : checkR X Y W H = 0) (hnn : m = H * W) :
    Clos2 69 #[.pointer (some ⟨p, 0, none⟩), .pointer (some ⟨q, 0, none⟩)] X Y W H (fun i => accW (v i) (fauF A B C D h (X + ((i % W : Nat) : Int)) (Y + ((i / W : Nat) : Int))) n) w := by
  intro x y i w2 h1 h2 h3 h4 h5 hb
  obtain ⟨b1, b2, b3, b4, b5, b6, b7, b8, b9⟩ := checkR_zero h0
  have hm : m ≤ 65536 := by
    have : ((W : Int) * (H : Int)) = (m : Int) := by rw [hnn, Nat.mul_comm]; simp
    omega
  have hi' : i < m := num_lt (by omega) h1 h2 h4 h5 hnn
  have hv := allB_iff.1 hh i hi'
  have hrow := flAt_congr hc (hb.block b (World.block_lt_of_cell? w _ (hc i hi')))
  have AT := Lib.hid (fun W' (hb : Below w2.heap.size w2 W') => refAt_any X Y W H m b cap i v x y W' (by omega) (by omega) (by omega) (by omega) (by omega) (by omega) (by omega) h1 h2 h3 h4 h5 hi' hm (flAt_congr hrow (hb.block _ (World.block_lt_of_cell? w2 _ (hrow i hi')))))
  obtain ⟨ex, ey⟩ := place_of (show 1 ≤ W by omega) h1 h2 h3 h5
  simp only [ex, ey]
  have LI := Lib.hid (fun i (hi : i < n) w => rthrow_any (A i) (B i) (C i) (D i) (h i) x y w (K i hi) (by omega) (by omega) (by omega) (by omega))
  have ST := Lib.hid (fun j (hj : j < n) => acc_step (hgt_bd hv) hn hj (fauF_bd (x := x) (y := y) K (by omega) (by omega) (by omega) (by omega)))
  have hsf := fun (w : World) (a : Addr) (m : Mode) (k : FloatKind) (b : Nat) => run_store_float (P := Try.prog) (w := w) (a := a) (m := m) k b
  have HL := Lib.hid (L.stay hb)
  have GF := Lib.hid (blkStay hp hb)
  have GQ := Lib.hid (blkStay hq hb)
  obtain ⟨cF, fF, zF⟩ := blkC GF.out
  have zQ := (blkC GQ.out).2.2
  obtain ⟨F, hF⟩ : ∃ F, fauF A B C D h x y = F := ⟨_, rfl⟩
  have FF := Lib.hid (show ∀ i, thrW (fauK (A i) (B i) (C i) x y) (lenW (A i) (B i) 0) (D i) (h i) = F i from fun i => by rw [← hF]; rfl)
  rw [hF] at ST ⊢
  generalize v i = vi at *
  clear hb h1 h2 h3 h4 h5 b1 b2 b3 b4 b5 b6 b7 b8 b9 hnn hh h0 hi' hm hrow hp hq hc K L hv ex ey hF
  go_enter Try.func69, Try.ntmps69
  go_wp2_with (first | (go_at_call 58; refine (AT.out _ (by repeat (first | exact Below.refl _ _ | refine Below.alloc ?_ (by first | omega | (simp; done) | (simp; omega)) _ | refine Below.setCell ?_ (by first | omega | (simp; done) | (simp; omega)) _ | refine Below.drew ?_))).mono ?_; rintro e w3 ⟨rfl, hw3⟩; have hb3 : Below w2.heap.size w2 w3 := (by rw [← hw3]; exact (by repeat (first | exact Below.refl _ _ | refine Below.alloc ?_ (by first | omega | (simp; done) | (simp; omega)) _ | refine Below.setCell ?_ (by first | omega | (simp; done) | (simp; omega)) _ | refine Below.drew ?_))); have HB3 := Lib.hid hb3; clear cF fF zF; clear hw3; obtain ⟨cQ, fQ, zQ3⟩ := blkC (blkStay GQ.out hb3); clear hb3))
  go_loopw [7, 16] (fun u i wr => ∃ j : Nat, j ≤ n ∧ u = .float .f32 (accW vi F j) ∧ i = .int .i64 j ∧ Below w2.heap.size w2 wr) (fun _ i _ => n - (intOf i).toNat)
  case atStart => exact ⟨0, by omega, rfl, rfl, HB3.out⟩
  case round =>
    obtain ⟨j, hj, rfl, rfl, hb⟩ := hrel
    by_cases c : j < n
    · have HB := Lib.hid hb
      rcases HL.out.stay hb with z | ⟨b, off, rfl, l⟩
      · omega
      obtain ⟨l0, l1, l2, l3, l4⟩ := l j c
      obtain ⟨r, r1, rs, er, _⟩ := ST.out j c
      have AD := Lib.hid (fun w => refAdd_any _ (accW vi F j) (F j) r rs r1 w)
      have L1 := Lib.hid (fun w => LI.out j c w)
      rw [FF.out j] at L1
      have ER := Lib.hid er
      generalize accW vi F j = u at *
      clear l er hb r1 rs cQ fQ zQ3
      go_wp2_with (first | (go_at_call 70; refine (L1.out _).mono ?_; rintro e' w4 ⟨rfl, hb4⟩; have hB4 : Below wr.heap.size wr w4 := Below.trans (by repeat (first | exact Below.refl _ _ | refine Below.alloc ?_ (by first | omega | (simp; done) | (simp; omega)) _ | refine Below.setCell ?_ (by first | omega | (simp; done) | (simp; omega)) _ | refine Below.drew ?_)) (Below.mono hb4 (by simp)); have HB4 := Lib.hid (HB.out.trans (hB4.mono HB.out.size)); clear hb4 hB4) | (go_at_call 59; refine (AD.out _).mono ?_; rintro e' w' ⟨rfl, rfl⟩))
      go_roundw
      case rel => exact ⟨j + 1, by omega, by rw [ER.out], by go_num, HB4.out⟩
      case measure => simp [intOf]; omega
    · have : j = n := by omega
      subst this
      go_wp2
      go_ret
      exact ⟨rfl, hb⟩
end Go.Proofs.Ytdbponidkodmfaa

/- Folds of the program, of a right field. -/
namespace Go.Proofs.Ytdbponidkodmfaa
open Go.RowKit Fl
set_option linter.unusedVariables false

/-- What the folds of a list make of a field. -/
def bndF (v : Nat → Nat) (A B P : Nat → Int) (h : Nat → Nat) (n : Nat) (X Y : Int) (W : Nat) (i : Nat) : Nat := accW (v i) (folF A B P h (X + ((i % W : Nat) : Int)) (Y + ((i / W : Nat) : Int))) n
/-- The error of a list of n, er being the first one of its folds. -/
def bndE (n : Nat) (er : Int) : Int := if 100 < n then 4 else er

set_option maxHeartbeats 4000000 in
set_option maxRecDepth 100000 in
theorem bentFold_any (X Y : Int) (W H m b cap : Nat) (v : Nat → Nat) (a : Option Addr) (n lcap : Nat) (A B P : Nat → Int) (h : Nat → Nat) (er : Int) (w : World) (h0 : checkR X Y W H = 0) (hm : m = W * H) (hc : FlAt w b 0 m v) (hh : allB m (fun i => hgtB (v i)) = true)
    (L : FolL w a n A B P h) (hl : n ≤ 9223372036854775807) (E : LstE n (fun i => folE (A i) (B i) (P i) (h i)) er) :
    Calls Try.prog 54 #[fldV X Y W H (.slice (some ⟨b, 0, none⟩) m cap), .slice a n lcap, .func (.func 17) #[] #[], .func (.func 55) #[] #[]] w (ScPost w X Y W H m (bndF v A B P h n X Y W) (bndE n er)) := by
  obtain ⟨b1, b2, b3, b4, b5, b6, b7, b8, b9⟩ := checkR_zero h0
  have hnn : m = H * W := by rw [hm]; exact Nat.mul_comm _ _
  have h1 : 1 ≤ m := by rw [hm]; exact Nat.mul_pos (by omega) (by omega)
  have hlt : b < w.heap.size := World.block_lt_of_cell? w _ (hc 0 h1)
  have CK := Lib.hid (fun W' (hb : Below w.heap.size w W') => check_ok X Y W H m b cap v W' h0 hm (flAt_congr hc (hb.block _ hlt)) hh)
  have hsf := fun (w : World) (a : Addr) (m : Mode) (k : FloatKind) (b : Nat) => run_store_float (P := Try.prog) (w := w) (a := a) (m := m) k b
  unfold bndE
  by_cases cn : 100 < n
  · rw [if_pos cn]
    have cn' : decide ((100 : Int) < (n : Int)) = true := by simp; omega
    clear hc hh h0 hm hnn h1 b1 b2 b3 b4 b5 b6 b7 b8 b9 E L cn
    go_enter Try.func54, Try.ntmps54
    go_wp2_with (first | (go_at_call 101; refine (CK.out _ (by repeat (first | exact Below.refl _ _ | refine Below.alloc ?_ (by first | omega | (simp; done) | (simp; omega)) _ | refine Below.setCell ?_ (by first | omega | (simp; done) | (simp; omega)) _ | refine Below.drew ?_))).mono ?_; rintro e w2 ⟨rfl, hb2⟩; have HL2 := Lib.hid (blkStay (b := w.heap.size + 1) (o := folsO a n lcap) (by (first | (rw [heap_alloc_get, if_pos rfl]; done) | ((simp only [heap_alloc_get, heap_size_alloc, if_true]) <;> ((repeat' split) <;> first | rfl | omega)))) hb2); have HS2 := Lib.hid (blkStay (b := w.heap.size + 1 + 1 + 1) (o := fldO 0 0 0 0 (.slice none 0 0)) (by (first | (rw [heap_alloc_get, if_pos rfl]; done) | ((simp only [heap_alloc_get, heap_size_alloc, if_true]) <;> ((repeat' split) <;> first | rfl | omega)))) hb2); have hB2 : Below w.heap.size w w2 := Below.trans (by repeat (first | exact Below.refl _ _ | refine Below.alloc ?_ (by first | omega | (simp; done) | (simp; omega)) _ | refine Below.setCell ?_ (by first | omega | (simp; done) | (simp; omega)) _ | refine Below.drew ?_)) (Below.mono hb2 (by first | omega | (simp; done) | (simp; omega))); obtain ⟨cL, fL, zL⟩ := blkC HL2.out; obtain ⟨cS, fS, zS⟩ := blkC HS2.out; clear hb2))
    refine bodyPost_ret (v := .tuple #[fldV 0 0 0 0 (.slice none 0 0), .int .i64 4]) (by simp [results, Try.results54, go_sem, cS]) rfl ?_
    exact .inl ⟨by decide, rfl, set5_below hB2 _ _ _ _ _ _ (by omega)⟩
  · rw [if_neg cn]
    have cn' : decide ((100 : Int) < (n : Int)) = false := by simp; omega
    have hn : n ≤ 100 := by omega
    have HC := Lib.hid hc
    have HL := Lib.hid L
    have EE := Lib.hid E
    have CF := Lib.hid (fun i w => checkFold_any (A i) (B i) (P i) (h i) w)
    have RM := Lib.hid (fun (hz : ∀ i, i < n → folE (A i) (B i) (P i) (h i) = 0) W' p (k1 : W'.heap[p + 1]? = some (folsO a n lcap)) (k2 : W'.heap[p + 1 + 1]? = some liftO) (hc' : FlAt W' b 0 m v) (L' : FolL W' a n A B P h) =>
      remade_any X Y W H m b cap v (bndF v A B P h n X Y W) 125 #[.pointer (some ⟨p + 1, 0, none⟩), .pointer (some ⟨p + 1 + 1, 0, none⟩)] W' enters_bentFold1
        (fun x y i W'' h1 h2 h3 h4 h5 hb => (bentFold1_any a n lcap A B P h (v i) x y (p + 1) (p + 1 + 1) W'' (blkStay k1 hb) (blkStay k2 hb) (L'.stay hb) hn (fun i hi => fol_ok (hz i hi)) (allB_iff.1 hh i (num_lt (by omega) h1 h2 h4 h5 hnn)) (by omega) (by omega) (by omega) (by omega)).mono fun e W3 h => ⟨by
          obtain ⟨ex, ey⟩ := place_of (show 1 ≤ W by omega) h1 h2 h3 h5
          unfold bndF; rw [ex, ey]; exact h.1, h.2⟩) h0 hnn hc')
    clear hc hh h0 hm hnn h1 b1 b2 b3 b4 b5 b6 b7 b8 b9 E L cn hl
    go_enter Try.func54, Try.ntmps54
    go_wp2_with (first | (go_at_call 101; refine (CK.out _ (by repeat (first | exact Below.refl _ _ | refine Below.alloc ?_ (by first | omega | (simp; done) | (simp; omega)) _ | refine Below.setCell ?_ (by first | omega | (simp; done) | (simp; omega)) _ | refine Below.drew ?_))).mono ?_; rintro e w2 ⟨rfl, hb2⟩; have HF2 := Lib.hid (blkStay (b := w.heap.size) (o := fldO X Y W H (.slice (some ⟨b, 0, none⟩) m cap)) (by (first | (rw [heap_alloc_get, if_pos rfl]; done) | ((simp only [heap_alloc_get, heap_size_alloc, if_true]) <;> ((repeat' split) <;> first | rfl | omega)))) hb2); have HL2 := Lib.hid (blkStay (b := w.heap.size + 1) (o := folsO a n lcap) (by (first | (rw [heap_alloc_get, if_pos rfl]; done) | ((simp only [heap_alloc_get, heap_size_alloc, if_true]) <;> ((repeat' split) <;> first | rfl | omega)))) hb2); have HT2 := Lib.hid (blkStay (b := w.heap.size + 1 + 1) (o := liftO) (by (first | (rw [heap_alloc_get, if_pos rfl]; done) | ((simp only [heap_alloc_get, heap_size_alloc, if_true]) <;> ((repeat' split) <;> first | rfl | omega)))) hb2); have HS2 := Lib.hid (blkStay (b := w.heap.size + 1 + 1 + 1) (o := fldO 0 0 0 0 (.slice none 0 0)) (by (first | (rw [heap_alloc_get, if_pos rfl]; done) | ((simp only [heap_alloc_get, heap_size_alloc, if_true]) <;> ((repeat' split) <;> first | rfl | omega)))) hb2); have hB2 : Below w.heap.size w w2 := Below.trans (by repeat (first | exact Below.refl _ _ | refine Below.alloc ?_ (by first | omega | (simp; done) | (simp; omega)) _ | refine Below.setCell ?_ (by first | omega | (simp; done) | (simp; omega)) _ | refine Below.drew ?_)) (Below.mono hb2 (by first | omega | (simp; done) | (simp; omega))); obtain ⟨cL, fL, zL⟩ := blkC HL2.out; clear hb2))
    have HB2 := Lib.hid hB2
    have zS2 := (blkC HS2.out).2.2
    clear hB2
    go_loopw [26] (fun i wr => ∃ j : Nat, j ≤ n ∧ i = .int .i64 j ∧ (∀ i, i < j → folE (A i) (B i) (P i) (h i) = 0) ∧ Below w2.heap.size w2 wr) (fun i _ => n - (intOf i).toNat)
    case atStart => exact ⟨0, by omega, rfl, fun i hi => by omega, Below.refl _ _⟩
    case round =>
      obtain ⟨j, hj, rfl, hz, hb⟩ := hrel
      have HZ := Lib.hid hz
      have HB := Lib.hid hb
      clear cL fL zL hz
      by_cases c : j < n
      · rcases HL.out.stay (HB2.out.trans (hb.mono HB2.out.size)) with z | ⟨b', off, rfl, l⟩
        · omega
        obtain ⟨l0, l1, l2, l3⟩ := l j c
        have C1 := Lib.hid (fun w => CF.out j w)
        obtain ⟨ej, hej⟩ : ∃ ej, folE (A j) (B j) (P j) (h j) = ej := ⟨_, rfl⟩
        rw [hej] at C1
        have HE := Lib.hid hej
        clear l hb hej
        by_cases c0 : ej = 0
        · subst c0
          go_wp2_with (first | (go_at_call 17; refine (C1.out _).mono ?_; rintro e' w4 ⟨rfl, hb4⟩; have hB4 : Below wr.heap.size wr w4 := Below.trans (by repeat (first | exact Below.refl _ _ | refine Below.alloc ?_ (by first | omega | (simp; done) | (simp; omega)) _ | refine Below.setCell ?_ (by first | omega | (simp; done) | (simp; omega)) _ | refine Below.drew ?_)) (Below.mono hb4 (by simp)); have HB4 := Lib.hid (HB.out.trans (hB4.mono HB.out.size)); clear hb4 hB4))
          go_roundw
          case rel => exact ⟨j + 1, by omega, by go_num, (fun i hi => by
            rcases Nat.lt_or_ge i j with q | q
            · exact HZ.out i q
            · rw [show i = j by omega]; exact HE.out), HB4.out⟩
          case measure => simp [intOf]; omega
        · have cz : (ej != 0) = true := by simp [c0]
          have C0 := Lib.hid c0
          clear c0
          go_wp2_with (first | (go_at_call 17; refine (C1.out _).mono ?_; rintro e' w4 ⟨rfl, hb4⟩; have hB4 : Below wr.heap.size wr w4 := Below.trans (by repeat (first | exact Below.refl _ _ | refine Below.alloc ?_ (by first | omega | (simp; done) | (simp; omega)) _ | refine Below.setCell ?_ (by first | omega | (simp; done) | (simp; omega)) _ | refine Below.drew ?_)) (Below.mono hb4 (by simp)); have HB4 := Lib.hid (HB.out.trans (hB4.mono HB.out.size)); clear hb4 hB4; obtain ⟨cS, fS, zS⟩ := blkC (blkStay HS2.out HB4.out)))
          refine bodyPost_ret (v := .tuple #[fldV 0 0 0 0 (.slice none 0 0), .int .i64 ej]) (by simp [results, Try.results54, go_sem, cS]) rfl ?_
          have e := EE.out.at HZ.out c (by show folE (A j) (B j) (P j) (h j) ≠ 0; rw [HE.out]; exact C0.out)
          have e' : ej = er := by rw [← HE.out]; exact e
          have z2 := HB2.out.size
          exact .inl ⟨by rw [← e']; exact C0.out, by rw [e'], set5_below (HB2.out.trans (HB4.out.mono z2)) _ _ _ _ _ _ (by omega)⟩
      · have : j = n := by omega
        subst this
        have e0 := EE.out.zero HZ.out
        subst e0
        obtain ⟨cF, fF, zF⟩ := blkC (blkStay HF2.out hb)
        have hb2 := HB2.out.trans (hb.mono HB2.out.size)
        have RX := Lib.hid (RM.out HZ.out wr w.heap.size (blkStay HL2.out hb) (blkStay HT2.out hb) (flAt_congr HC.out (hb2.block _ hlt)) (HL.out.stay hb2))
        have HS := Lib.hid (blkStay HS2.out hb)
        have HX := Lib.hid hb2
        clear hb hb2
        go_wp2_with fail
        clear cF fF zF
        refine RX.out.mono ?_
        intro e w4 hmade
        rcases hmade with ⟨hall, b', cap', rfl, hb', hlt', hrow, hbel⟩ | ⟨hall, rfl, hbel⟩
        · obtain ⟨cS, fS, zS4⟩ := blkC (blkStay HS.out hbel)
          have zS3 := (blkC HS.out).2.2
          have HB' := Lib.hid hb'
          clear hb'
          go_wp2
          refine bodyPost_ret (v := .tuple #[fldV X Y W H (.slice (some ⟨b', 0, none⟩) m cap'), .int .i64 0]) (by simp [results, Try.results54, go_sem, cS]) rfl ?_
          have z3 := HX.out.size
          have hb' := HB'.out
          exact .inr ⟨rfl, .inl ⟨hall, b', cap', rfl, by omega, by rw [set5_size]; exact hlt', flAt_congr hrow (set5_heap w4 _ _ _ _ _ _ _ (by omega)), set5_below (HX.out.trans (hbel.mono z3)) _ _ _ _ _ _ (by omega)⟩⟩
        · obtain ⟨cS, fS, zS4⟩ := blkC (blkStay HS.out hbel)
          go_wp2
          refine bodyPost_ret (v := .tuple #[fldV 0 0 0 0 (.slice none 0 0), .int .i64 3]) (by simp [results, Try.results54, go_sem, cS]) rfl ?_
          have z3 := HX.out.size
          exact .inr ⟨rfl, .inr ⟨hall, rfl, set5_below (HX.out.trans (hbel.mono z3)) _ _ _ _ _ _ (by omega)⟩⟩

set_option maxHeartbeats 1000000 in
theorem folds_any (X Y : Int) (W H m b cap : Nat) (v : Nat → Nat) (a : Option Addr) (n lcap : Nat) (A B P : Nat → Int) (h : Nat → Nat) (er : Int) (w : World) (h0 : checkR X Y W H = 0) (hm : m = W * H) (hc : FlAt w b 0 m v) (hh : allB m (fun i => hgtB (v i)) = true)
    (L : FolL w a n A B P h) (hl : n ≤ 9223372036854775807) (E : LstE n (fun i => folE (A i) (B i) (P i) (h i)) er) :
    Calls Try.prog 11 #[fldV X Y W H (.slice (some ⟨b, 0, none⟩) m cap), .slice a n lcap] w (ScPost w X Y W H m (bndF v A B P h n X Y W) (bndE n er)) := by
  have h1 : 1 ≤ m := by
    obtain ⟨b1, b2, b3, b4, b5, b6, b7, b8, b9⟩ := checkR_zero h0
    rw [hm]; exact Nat.mul_pos (by omega) (by omega)
  have hlt : b < w.heap.size := World.block_lt_of_cell? w _ (hc 0 h1)
  have BT := Lib.hid (fun W' (hb : Below w.heap.size w W') => bentFold_any X Y W H m b cap v a n lcap A B P h er W' h0 hm (flAt_congr hc (hb.block _ hlt)) hh (L.stay hb) hl E)
  generalize bndF v A B P h n X Y W = F at *
  generalize bndE n er = er' at *
  clear h0 hm hc hh L hl E h1 hlt
  go_enter Try.func11, Try.ntmps11
  go_wp2_with fail
  refine (BT.out _ (by repeat (first | exact Below.refl _ _ | refine Below.alloc ?_ (by first | omega | (simp; done) | (simp; omega)) _ | refine Below.setCell ?_ (by first | omega | (simp; done) | (simp; omega)) _ | refine Below.drew ?_))).mono ?_
  intro e w4 hp
  rcases hp with ⟨ne, rfl, hbel⟩ | ⟨rfl, ⟨hall, b', cap', rfl, hb', hlt', hrow, hbel⟩ | ⟨hall, rfl, hbel⟩⟩
  · have hS := Lib.hid (blkStay (b := w.heap.size + 1) (o := fldO 0 0 0 0 (.slice none 0 0)) (by (first | (rw [heap_alloc_get, if_pos rfl]; done) | ((simp only [heap_alloc_get, heap_size_alloc, if_true]) <;> ((repeat' split) <;> first | rfl | omega)))) hbel)
    have hB : Below w.heap.size w w4 := Below.trans (by repeat (first | exact Below.refl _ _ | refine Below.alloc ?_ (by first | omega | (simp; done) | (simp; omega)) _ | refine Below.setCell ?_ (by first | omega | (simp; done) | (simp; omega)) _ | refine Below.drew ?_)) (Below.mono hbel (by simp; omega))
    obtain ⟨cS, fS, zS⟩ := blkC hS.out
    go_wp2
    refine bodyPost_ret (v := .tuple #[fldV 0 0 0 0 (.slice none 0 0), .int .i64 er']) (by simp [results, Try.results11, go_sem, cS]) rfl ?_
    exact .inl ⟨ne, rfl, set5_below hB _ _ _ _ _ _ (by omega)⟩
  · have hS := Lib.hid (blkStay (b := w.heap.size + 1) (o := fldO 0 0 0 0 (.slice none 0 0)) (by (first | (rw [heap_alloc_get, if_pos rfl]; done) | ((simp only [heap_alloc_get, heap_size_alloc, if_true]) <;> ((repeat' split) <;> first | rfl | omega)))) hbel)
    have hB : Below w.heap.size w w4 := Below.trans (by repeat (first | exact Below.refl _ _ | refine Below.alloc ?_ (by first | omega | (simp; done) | (simp; omega)) _ | refine Below.setCell ?_ (by first | omega | (simp; done) | (simp; omega)) _ | refine Below.drew ?_)) (Below.mono hbel (by simp; omega))
    obtain ⟨cS, fS, zS⟩ := blkC hS.out
    have HB := Lib.hid hb'
    clear hb'
    go_wp2
    refine bodyPost_ret (v := .tuple #[fldV X Y W H (.slice (some ⟨b', 0, none⟩) m cap'), .int .i64 0]) (by simp [results, Try.results11, go_sem, cS]) rfl ?_
    have hb' := HB.out
    simp only [heap_size_alloc] at hb'
    exact .inr ⟨rfl, .inl ⟨hall, b', cap', rfl, by omega, by rw [set5_size]; exact hlt', flAt_congr hrow (set5_heap w4 _ _ _ _ _ _ _ (by omega)), set5_below hB _ _ _ _ _ _ (by omega)⟩⟩
  · have hS := Lib.hid (blkStay (b := w.heap.size + 1) (o := fldO 0 0 0 0 (.slice none 0 0)) (by (first | (rw [heap_alloc_get, if_pos rfl]; done) | ((simp only [heap_alloc_get, heap_size_alloc, if_true]) <;> ((repeat' split) <;> first | rfl | omega)))) hbel)
    have hB : Below w.heap.size w w4 := Below.trans (by repeat (first | exact Below.refl _ _ | refine Below.alloc ?_ (by first | omega | (simp; done) | (simp; omega)) _ | refine Below.setCell ?_ (by first | omega | (simp; done) | (simp; omega)) _ | refine Below.drew ?_)) (Below.mono hbel (by simp; omega))
    obtain ⟨cS, fS, zS⟩ := blkC hS.out
    go_wp2
    refine bodyPost_ret (v := .tuple #[fldV 0 0 0 0 (.slice none 0 0), .int .i64 3]) (by simp [results, Try.results11, go_sem, cS]) rfl ?_
    exact .inr ⟨rfl, .inr ⟨hall, rfl, set5_below hB _ _ _ _ _ _ (by omega)⟩⟩
end Go.Proofs.Ytdbponidkodmfaa

/- Faults of the program, of a right field. -/
namespace Go.Proofs.Ytdbponidkodmfaa
open Go.RowKit Fl
set_option linter.unusedVariables false

/-- What the faults of a list make of a field. -/
def bnuF (v : Nat → Nat) (A B C D : Nat → Int) (h : Nat → Nat) (n : Nat) (X Y : Int) (W : Nat) (i : Nat) : Nat := accW (v i) (fauF A B C D h (X + ((i % W : Nat) : Int)) (Y + ((i / W : Nat) : Int))) n
set_option maxHeartbeats 4000000 in
set_option maxRecDepth 100000 in
theorem bentFault_any (X Y : Int) (W H m b cap : Nat) (v : Nat → Nat) (a : Option Addr) (n lcap : Nat) (A B C D : Nat → Int) (h : Nat → Nat) (er : Int) (w : World) (h0 : checkR X Y W H = 0) (hm : m = W * H) (hc : FlAt w b 0 m v) (hh : allB m (fun i => hgtB (v i)) = true)
    (L : FauL w a n A B C D h) (hl : n ≤ 9223372036854775807) (E : LstE n (fun i => fauE (A i) (B i) (C i) (D i) (h i)) er) :
    Calls Try.prog 67 #[fldV X Y W H (.slice (some ⟨b, 0, none⟩) m cap), .slice a n lcap, .func (.func 23) #[] #[], .func (.func 68) #[] #[]] w (ScPost w X Y W H m (bnuF v A B C D h n X Y W) (bndE n er)) := by
  obtain ⟨b1, b2, b3, b4, b5, b6, b7, b8, b9⟩ := checkR_zero h0
  have hnn : m = H * W := by rw [hm]; exact Nat.mul_comm _ _
  have h1 : 1 ≤ m := by rw [hm]; exact Nat.mul_pos (by omega) (by omega)
  have hlt : b < w.heap.size := World.block_lt_of_cell? w _ (hc 0 h1)
  have CK := Lib.hid (fun W' (hb : Below w.heap.size w W') => check_ok X Y W H m b cap v W' h0 hm (flAt_congr hc (hb.block _ hlt)) hh)
  have hsf := fun (w : World) (a : Addr) (m : Mode) (k : FloatKind) (b : Nat) => run_store_float (P := Try.prog) (w := w) (a := a) (m := m) k b
  unfold bndE
  by_cases cn : 100 < n
  · rw [if_pos cn]
    have cn' : decide ((100 : Int) < (n : Int)) = true := by simp; omega
    clear hc hh h0 hm hnn h1 b1 b2 b3 b4 b5 b6 b7 b8 b9 E L cn
    go_enter Try.func67, Try.ntmps67
    go_wp2_with (first | (go_at_call 101; refine (CK.out _ (by repeat (first | exact Below.refl _ _ | refine Below.alloc ?_ (by first | omega | (simp; done) | (simp; omega)) _ | refine Below.setCell ?_ (by first | omega | (simp; done) | (simp; omega)) _ | refine Below.drew ?_))).mono ?_; rintro e w2 ⟨rfl, hb2⟩; have HL2 := Lib.hid (blkStay (b := w.heap.size + 1) (o := fausO a n lcap) (by (first | (rw [heap_alloc_get, if_pos rfl]; done) | ((simp only [heap_alloc_get, heap_size_alloc, if_true]) <;> ((repeat' split) <;> first | rfl | omega)))) hb2); have HS2 := Lib.hid (blkStay (b := w.heap.size + 1 + 1 + 1) (o := fldO 0 0 0 0 (.slice none 0 0)) (by (first | (rw [heap_alloc_get, if_pos rfl]; done) | ((simp only [heap_alloc_get, heap_size_alloc, if_true]) <;> ((repeat' split) <;> first | rfl | omega)))) hb2); have hB2 : Below w.heap.size w w2 := Below.trans (by repeat (first | exact Below.refl _ _ | refine Below.alloc ?_ (by first | omega | (simp; done) | (simp; omega)) _ | refine Below.setCell ?_ (by first | omega | (simp; done) | (simp; omega)) _ | refine Below.drew ?_)) (Below.mono hb2 (by first | omega | (simp; done) | (simp; omega))); obtain ⟨cL, fL, zL⟩ := blkC HL2.out; obtain ⟨cS, fS, zS⟩ := blkC HS2.out; clear hb2))
    refine bodyPost_ret (v := .tuple #[fldV 0 0 0 0 (.slice none 0 0), .int .i64 4]) (by simp [results, Try.results67, go_sem, cS]) rfl ?_
    exact .inl ⟨by decide, rfl, set5_below hB2 _ _ _ _ _ _ (by omega)⟩
  · rw [if_neg cn]
    have cn' : decide ((100 : Int) < (n : Int)) = false := by simp; omega
    have hn : n ≤ 100 := by omega
    have HC := Lib.hid hc
    have HL := Lib.hid L
    have EE := Lib.hid E
    have CF := Lib.hid (fun i w => checkFault_any (A i) (B i) (C i) (D i) (h i) w)
    have RM := Lib.hid (fun (hz : ∀ i, i < n → fauE (A i) (B i) (C i) (D i) (h i) = 0) W' p (k1 : W'.heap[p + 1]? = some (fausO a n lcap)) (k2 : W'.heap[p + 1 + 1]? = some throwO) (hc' : FlAt W' b 0 m v) (L' : FauL W' a n A B C D h) =>
      remade_any X Y W H m b cap v (bnuF v A B C D h n X Y W) 136 #[.pointer (some ⟨p + 1, 0, none⟩), .pointer (some ⟨p + 1 + 1, 0, none⟩)] W' enters_bentFault1
        (fun x y i W'' h1 h2 h3 h4 h5 hb => (bentFault1_any a n lcap A B C D h (v i) x y (p + 1) (p + 1 + 1) W'' (blkStay k1 hb) (blkStay k2 hb) (L'.stay hb) hn (fun i hi => fau_ok (hz i hi)) (allB_iff.1 hh i (num_lt (by omega) h1 h2 h4 h5 hnn)) (by omega) (by omega) (by omega) (by omega)).mono fun e W3 h => ⟨by
          obtain ⟨ex, ey⟩ := place_of (show 1 ≤ W by omega) h1 h2 h3 h5
          unfold bnuF; rw [ex, ey]; exact h.1, h.2⟩) h0 hnn hc')
    clear hc hh h0 hm hnn h1 b1 b2 b3 b4 b5 b6 b7 b8 b9 E L cn hl
    go_enter Try.func67, Try.ntmps67
    go_wp2_with (first | (go_at_call 101; refine (CK.out _ (by repeat (first | exact Below.refl _ _ | refine Below.alloc ?_ (by first | omega | (simp; done) | (simp; omega)) _ | refine Below.setCell ?_ (by first | omega | (simp; done) | (simp; omega)) _ | refine Below.drew ?_))).mono ?_; rintro e w2 ⟨rfl, hb2⟩; have HF2 := Lib.hid (blkStay (b := w.heap.size) (o := fldO X Y W H (.slice (some ⟨b, 0, none⟩) m cap)) (by (first | (rw [heap_alloc_get, if_pos rfl]; done) | ((simp only [heap_alloc_get, heap_size_alloc, if_true]) <;> ((repeat' split) <;> first | rfl | omega)))) hb2); have HL2 := Lib.hid (blkStay (b := w.heap.size + 1) (o := fausO a n lcap) (by (first | (rw [heap_alloc_get, if_pos rfl]; done) | ((simp only [heap_alloc_get, heap_size_alloc, if_true]) <;> ((repeat' split) <;> first | rfl | omega)))) hb2); have HT2 := Lib.hid (blkStay (b := w.heap.size + 1 + 1) (o := throwO) (by (first | (rw [heap_alloc_get, if_pos rfl]; done) | ((simp only [heap_alloc_get, heap_size_alloc, if_true]) <;> ((repeat' split) <;> first | rfl | omega)))) hb2); have HS2 := Lib.hid (blkStay (b := w.heap.size + 1 + 1 + 1) (o := fldO 0 0 0 0 (.slice none 0 0)) (by (first | (rw [heap_alloc_get, if_pos rfl]; done) | ((simp only [heap_alloc_get, heap_size_alloc, if_true]) <;> ((repeat' split) <;> first | rfl | omega)))) hb2); have hB2 : Below w.heap.size w w2 := Below.trans (by repeat (first | exact Below.refl _ _ | refine Below.alloc ?_ (by first | omega | (simp; done) | (simp; omega)) _ | refine Below.setCell ?_ (by first | omega | (simp; done) | (simp; omega)) _ | refine Below.drew ?_)) (Below.mono hb2 (by first | omega | (simp; done) | (simp; omega))); obtain ⟨cL, fL, zL⟩ := blkC HL2.out; clear hb2))
    have HB2 := Lib.hid hB2
    have zS2 := (blkC HS2.out).2.2
    clear hB2
    go_loopw [26] (fun i wr => ∃ j : Nat, j ≤ n ∧ i = .int .i64 j ∧ (∀ i, i < j → fauE (A i) (B i) (C i) (D i) (h i) = 0) ∧ Below w2.heap.size w2 wr) (fun i _ => n - (intOf i).toNat)
    case atStart => exact ⟨0, by omega, rfl, fun i hi => by omega, Below.refl _ _⟩
    case round =>
      obtain ⟨j, hj, rfl, hz, hb⟩ := hrel
      have HZ := Lib.hid hz
      have HB := Lib.hid hb
      clear cL fL zL hz
      by_cases c : j < n
      · rcases HL.out.stay (HB2.out.trans (hb.mono HB2.out.size)) with z | ⟨b', off, rfl, l⟩
        · omega
        obtain ⟨l0, l1, l2, l3, l4⟩ := l j c
        have C1 := Lib.hid (fun w => CF.out j w)
        obtain ⟨ej, hej⟩ : ∃ ej, fauE (A j) (B j) (C j) (D j) (h j) = ej := ⟨_, rfl⟩
        rw [hej] at C1
        have HE := Lib.hid hej
        clear l hb hej
        by_cases c0 : ej = 0
        · subst c0
          go_wp2_with (first | (go_at_call 23; refine (C1.out _).mono ?_; rintro e' w4 ⟨rfl, hb4⟩; have hB4 : Below wr.heap.size wr w4 := Below.trans (by repeat (first | exact Below.refl _ _ | refine Below.alloc ?_ (by first | omega | (simp; done) | (simp; omega)) _ | refine Below.setCell ?_ (by first | omega | (simp; done) | (simp; omega)) _ | refine Below.drew ?_)) (Below.mono hb4 (by simp)); have HB4 := Lib.hid (HB.out.trans (hB4.mono HB.out.size)); clear hb4 hB4))
          go_roundw
          case rel => exact ⟨j + 1, by omega, by go_num, (fun i hi => by
            rcases Nat.lt_or_ge i j with q | q
            · exact HZ.out i q
            · rw [show i = j by omega]; exact HE.out), HB4.out⟩
          case measure => simp [intOf]; omega
        · have cz : (ej != 0) = true := by simp [c0]
          have C0 := Lib.hid c0
          clear c0
          go_wp2_with (first | (go_at_call 23; refine (C1.out _).mono ?_; rintro e' w4 ⟨rfl, hb4⟩; have hB4 : Below wr.heap.size wr w4 := Below.trans (by repeat (first | exact Below.refl _ _ | refine Below.alloc ?_ (by first | omega | (simp; done) | (simp; omega)) _ | refine Below.setCell ?_ (by first | omega | (simp; done) | (simp; omega)) _ | refine Below.drew ?_)) (Below.mono hb4 (by simp)); have HB4 := Lib.hid (HB.out.trans (hB4.mono HB.out.size)); clear hb4 hB4; obtain ⟨cS, fS, zS⟩ := blkC (blkStay HS2.out HB4.out)))
          refine bodyPost_ret (v := .tuple #[fldV 0 0 0 0 (.slice none 0 0), .int .i64 ej]) (by simp [results, Try.results67, go_sem, cS]) rfl ?_
          have e := EE.out.at HZ.out c (by show fauE (A j) (B j) (C j) (D j) (h j) ≠ 0; rw [HE.out]; exact C0.out)
          have e' : ej = er := by rw [← HE.out]; exact e
          have z2 := HB2.out.size
          exact .inl ⟨by rw [← e']; exact C0.out, by rw [e'], set5_below (HB2.out.trans (HB4.out.mono z2)) _ _ _ _ _ _ (by omega)⟩
      · have : j = n := by omega
        subst this
        have e0 := EE.out.zero HZ.out
        subst e0
        obtain ⟨cF, fF, zF⟩ := blkC (blkStay HF2.out hb)
        have hb2 := HB2.out.trans (hb.mono HB2.out.size)
        have RX := Lib.hid (RM.out HZ.out wr w.heap.size (blkStay HL2.out hb) (blkStay HT2.out hb) (flAt_congr HC.out (hb2.block _ hlt)) (HL.out.stay hb2))
        have HS := Lib.hid (blkStay HS2.out hb)
        have HX := Lib.hid hb2
        clear hb hb2
        go_wp2_with fail
        clear cF fF zF
        refine RX.out.mono ?_
        intro e w4 hmade
        rcases hmade with ⟨hall, b', cap', rfl, hb', hlt', hrow, hbel⟩ | ⟨hall, rfl, hbel⟩
        · obtain ⟨cS, fS, zS4⟩ := blkC (blkStay HS.out hbel)
          have zS3 := (blkC HS.out).2.2
          have HB' := Lib.hid hb'
          clear hb'
          go_wp2
          refine bodyPost_ret (v := .tuple #[fldV X Y W H (.slice (some ⟨b', 0, none⟩) m cap'), .int .i64 0]) (by simp [results, Try.results67, go_sem, cS]) rfl ?_
          have z3 := HX.out.size
          have hb' := HB'.out
          exact .inr ⟨rfl, .inl ⟨hall, b', cap', rfl, by omega, by rw [set5_size]; exact hlt', flAt_congr hrow (set5_heap w4 _ _ _ _ _ _ _ (by omega)), set5_below (HX.out.trans (hbel.mono z3)) _ _ _ _ _ _ (by omega)⟩⟩
        · obtain ⟨cS, fS, zS4⟩ := blkC (blkStay HS.out hbel)
          go_wp2
          refine bodyPost_ret (v := .tuple #[fldV 0 0 0 0 (.slice none 0 0), .int .i64 3]) (by simp [results, Try.results67, go_sem, cS]) rfl ?_
          have z3 := HX.out.size
          exact .inr ⟨rfl, .inr ⟨hall, rfl, set5_below (HX.out.trans (hbel.mono z3)) _ _ _ _ _ _ (by omega)⟩⟩

set_option maxHeartbeats 1000000 in
theorem faults_any (X Y : Int) (W H m b cap : Nat) (v : Nat → Nat) (a : Option Addr) (n lcap : Nat) (A B C D : Nat → Int) (h : Nat → Nat) (er : Int) (w : World) (h0 : checkR X Y W H = 0) (hm : m = W * H) (hc : FlAt w b 0 m v) (hh : allB m (fun i => hgtB (v i)) = true)
    (L : FauL w a n A B C D h) (hl : n ≤ 9223372036854775807) (E : LstE n (fun i => fauE (A i) (B i) (C i) (D i) (h i)) er) :
    Calls Try.prog 19 #[fldV X Y W H (.slice (some ⟨b, 0, none⟩) m cap), .slice a n lcap] w (ScPost w X Y W H m (bnuF v A B C D h n X Y W) (bndE n er)) := by
  have h1 : 1 ≤ m := by
    obtain ⟨b1, b2, b3, b4, b5, b6, b7, b8, b9⟩ := checkR_zero h0
    rw [hm]; exact Nat.mul_pos (by omega) (by omega)
  have hlt : b < w.heap.size := World.block_lt_of_cell? w _ (hc 0 h1)
  have BT := Lib.hid (fun W' (hb : Below w.heap.size w W') => bentFault_any X Y W H m b cap v a n lcap A B C D h er W' h0 hm (flAt_congr hc (hb.block _ hlt)) hh (L.stay hb) hl E)
  generalize bnuF v A B C D h n X Y W = F at *
  generalize bndE n er = er' at *
  clear h0 hm hc hh L hl E h1 hlt
  go_enter Try.func19, Try.ntmps19
  go_wp2_with fail
  refine (BT.out _ (by repeat (first | exact Below.refl _ _ | refine Below.alloc ?_ (by first | omega | (simp; done) | (simp; omega)) _ | refine Below.setCell ?_ (by first | omega | (simp; done) | (simp; omega)) _ | refine Below.drew ?_))).mono ?_
  intro e w4 hp
  rcases hp with ⟨ne, rfl, hbel⟩ | ⟨rfl, ⟨hall, b', cap', rfl, hb', hlt', hrow, hbel⟩ | ⟨hall, rfl, hbel⟩⟩
  · have hS := Lib.hid (blkStay (b := w.heap.size + 1) (o := fldO 0 0 0 0 (.slice none 0 0)) (by (first | (rw [heap_alloc_get, if_pos rfl]; done) | ((simp only [heap_alloc_get, heap_size_alloc, if_true]) <;> ((repeat' split) <;> first | rfl | omega)))) hbel)
    have hB : Below w.heap.size w w4 := Below.trans (by repeat (first | exact Below.refl _ _ | refine Below.alloc ?_ (by first | omega | (simp; done) | (simp; omega)) _ | refine Below.setCell ?_ (by first | omega | (simp; done) | (simp; omega)) _ | refine Below.drew ?_)) (Below.mono hbel (by simp; omega))
    obtain ⟨cS, fS, zS⟩ := blkC hS.out
    go_wp2
    refine bodyPost_ret (v := .tuple #[fldV 0 0 0 0 (.slice none 0 0), .int .i64 er']) (by simp [results, Try.results19, go_sem, cS]) rfl ?_
    exact .inl ⟨ne, rfl, set5_below hB _ _ _ _ _ _ (by omega)⟩
  · have hS := Lib.hid (blkStay (b := w.heap.size + 1) (o := fldO 0 0 0 0 (.slice none 0 0)) (by (first | (rw [heap_alloc_get, if_pos rfl]; done) | ((simp only [heap_alloc_get, heap_size_alloc, if_true]) <;> ((repeat' split) <;> first | rfl | omega)))) hbel)
    have hB : Below w.heap.size w w4 := Below.trans (by repeat (first | exact Below.refl _ _ | refine Below.alloc ?_ (by first | omega | (simp; done) | (simp; omega)) _ | refine Below.setCell ?_ (by first | omega | (simp; done) | (simp; omega)) _ | refine Below.drew ?_)) (Below.mono hbel (by simp; omega))
    obtain ⟨cS, fS, zS⟩ := blkC hS.out
    have HB := Lib.hid hb'
    clear hb'
    go_wp2
    refine bodyPost_ret (v := .tuple #[fldV X Y W H (.slice (some ⟨b', 0, none⟩) m cap'), .int .i64 0]) (by simp [results, Try.results19, go_sem, cS]) rfl ?_
    have hb' := HB.out
    simp only [heap_size_alloc] at hb'
    exact .inr ⟨rfl, .inl ⟨hall, b', cap', rfl, by omega, by rw [set5_size]; exact hlt', flAt_congr hrow (set5_heap w4 _ _ _ _ _ _ _ (by omega)), set5_below hB _ _ _ _ _ _ (by omega)⟩⟩
  · have hS := Lib.hid (blkStay (b := w.heap.size + 1) (o := fldO 0 0 0 0 (.slice none 0 0)) (by (first | (rw [heap_alloc_get, if_pos rfl]; done) | ((simp only [heap_alloc_get, heap_size_alloc, if_true]) <;> ((repeat' split) <;> first | rfl | omega)))) hbel)
    have hB : Below w.heap.size w w4 := Below.trans (by repeat (first | exact Below.refl _ _ | refine Below.alloc ?_ (by first | omega | (simp; done) | (simp; omega)) _ | refine Below.setCell ?_ (by first | omega | (simp; done) | (simp; omega)) _ | refine Below.drew ?_)) (Below.mono hbel (by simp; omega))
    obtain ⟨cS, fS, zS⟩ := blkC hS.out
    go_wp2
    refine bodyPost_ret (v := .tuple #[fldV 0 0 0 0 (.slice none 0 0), .int .i64 3]) (by simp [results, Try.results19, go_sem, cS]) rfl ?_
    exact .inr ⟨rfl, .inr ⟨hall, rfl, set5_below hB _ _ _ _ _ _ (by omega)⟩⟩
end Go.Proofs.Ytdbponidkodmfaa
